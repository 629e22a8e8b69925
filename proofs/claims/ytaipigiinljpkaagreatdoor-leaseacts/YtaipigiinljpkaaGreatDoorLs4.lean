/- Clients: Name, Renew, Confirm, keep. -/
import Derived.Test.YtaipigiinljpkaaGreatDoorLs3
namespace Go.Proofs.YtaipigiinljpkaaGreatDoor
open Go Go.RowKit Go.Deep Go.Maps

theorem fieldA (W : World) (a b c : Value) : (Instr.field 61 (.agg #[a, b, c]) 0).run Tryz.prog W = .ok a W := by
  unfold Instr.field
  simp [run_underlying Tryz.underlying61, part, asAgg, isAgg, run_underlying Tryz.underlying3, go_sem]
set_option maxRecDepth 100000 in
set_option maxHeartbeats 2000000 in
theorem name_any (w : World) (t mb last : Nat) (l : List Cli) (id : Int) (E : Value) (h : LsAt w t mb last l) (hE : w.cell? ⟨1, 0, none⟩ = some E) :
    Calls Tryz.prog 16 #[.pointer (some ⟨t, 0, none⟩), .int .i64 id] w fun e w' => ((∃ c ∈ l, 0 < id ∧ (c.a : Int) = id ∧ e = .returned (.tuple #[.string (bs c.s), .nilIface])) ∨ ((∀ c ∈ l, ¬ (0 < id ∧ (c.a : Int) = id)) ∧ e = .returned (.tuple #[.string ⟨#[]⟩, E]))) ∧ Only [] w w' := by
  have hf := find_any w t mb last l id h
  have HK : Hid (∀ W, Only [] w W → W.cell? ⟨t, 1, none⟩ = some (.map (some mb)) ∧ W.cell? ⟨1, 0, none⟩ = some E ∧ ∀ c ∈ l, (Instr.lookup 56 (.map (some mb)) (.string (bs c.s)) false).run Tryz.prog W = .ok (.agg #[.int .i64 (c.a : Nat), .int .i64 (c.b : Nat), .int .i64 (c.g : Nat)]) W) := fun W ho => ⟨(h.only ho).c1, (ho.cell (lt_of_cell hE) (by simp)).trans hE, fun c hc => (h.only ho).look_at hc⟩
  have HI : Hid (CInv last l) := h.inv
  clear h hE
  go_enter Tryz.func16, Tryz.ntmps16
  go_wp2_with fail
  refine hf.mono ?_
  rintro e w2 ⟨⟨c, hc, hh, rfl⟩ | ⟨hno, rfl⟩, ho2⟩
  · obtain ⟨k1, k2, k3⟩ := HK.out w2 ho2
    have hlook := k3 c hc
    have hfa := fieldA w2 (.int .i64 (c.a : Nat)) (.int .i64 (c.b : Nat)) (.int .i64 (c.g : Nat))
    have HO : Hid (Only [] w w2) := ho2
    have HC : Hid (c ∈ l ∧ hasB c id = true) := ⟨hc, hh⟩
    clear hc hh ho2 k3 hf
    by_cases ha : (c.a : Int) = id
    · subst ha
      go_wp2
      go_ret2
      exact ⟨Or.inl ⟨c, HC.out.1, (hasB_iff.1 HC.out.2).1, rfl, rfl⟩, HO.out⟩
    · have hb : ((c.a : Int) == id) = false := by simpa using ha
      go_wp2
      go_region
      all_goals go_wp2
      all_goals go_ret2
      all_goals refine ⟨Or.inr ⟨fun d hd hx => ?_, rfl⟩, HO.out.drew⟩
      all_goals
        have := HI.out.holder hd HC.out.1 (hasB_iff.2 ⟨hx.1, Or.inl hx.2⟩) HC.out.2
        subst this
        exact ha hx.2
  · obtain ⟨k1, k2, k3⟩ := HK.out w2 ho2
    have HO : Hid (Only [] w w2) := ho2
    have HC : Hid (∀ c ∈ l, hasB c id = false) := hno
    clear hno ho2 k3 hf
    go_wp2
    go_region
    all_goals go_wp2
    all_goals go_ret2
    all_goals refine ⟨Or.inr ⟨fun d hd hx => ?_, rfl⟩, HO.out.drew⟩
    all_goals
      have := HC.out d hd
      rw [hasB_iff.2 ⟨hx.1, Or.inl hx.2⟩] at this
      cases this
set_option maxRecDepth 100000 in
set_option maxHeartbeats 2000000 in
theorem renew_any (w : World) (t mb last : Nat) (l : List Cli) (id : Int) (P : Addr) (h : LsAt w t mb last l) (hE : w.cell? ⟨1, 0, none⟩ = some (.iface 155 (.pointer (some P)))) :
    Calls Tryz.prog 11 #[.pointer (some ⟨t, 0, none⟩), .int .i64 id] w fun e w' => (∃ c ∈ l, 0 < id ∧ (c.a : Int) = id ∧ e = .returned .nilIface ∧ LsAt w' t mb last (putC l (renC c)) ∧ Only [mb] w w') ∨ ((∀ c ∈ l, ¬ (0 < id ∧ (c.a : Int) = id)) ∧ e = .returned (.iface 155 (.pointer (some P))) ∧ Only [] w w') := by
  have hf := name_any w t mb last l id (.iface 155 (.pointer (some P))) h hE
  have HK : Hid (∀ W, Only [] w W → W.cell? ⟨t, 1, none⟩ = some (.map (some mb)) ∧ ∀ c ∈ l, (Instr.lookup 56 (.map (some mb)) (.string (bs c.s)) false).run Tryz.prog W = .ok (.agg #[.int .i64 (c.a : Nat), .int .i64 (c.b : Nat), .int .i64 (c.g : Nat)]) W) := fun W ho => ⟨(h.only ho).c1, fun c hc => (h.only ho).look_at hc⟩
  have H : Hid (LsAt w t mb last l) := h
  clear h hE
  go_enter Tryz.func11, Tryz.ntmps11
  go_wp2_with fail
  refine hf.mono ?_
  rintro e w2 ⟨⟨c, hc, hp, ha, rfl⟩ | ⟨hno, rfl⟩, ho2⟩
  · obtain ⟨k1, k3⟩ := HK.out w2 ho2
    have hlook := k3 c hc
    have hO3 : Only [] w (w2.alloc (.cells #[.int .i64 (c.a : Nat), .int .i64 (c.b : Nat), .int .i64 0] 61)).drew := (ho2.alloc _).drew
    obtain ⟨w3, hst, hown, ho3⟩ := (H.out.only hO3).put (bs c.s) (by rw [bs_size]; exact H.out.sh c hc) (renC c) (by rw [bs_data]; rfl)
    have HE : Hid (LsAt w3 t mb last (putC l (renC c)) ∧ Only [mb] w w3) := ⟨⟨(ho3.block t (Nat.lt_of_lt_of_le H.out.lt hO3.size) (by simpa using H.out.ne.symm)).trans ((H.out.only hO3).tab), hown, H.out.inv.ren hc, fun d hd => by
      rcases mem_putC.1 hd with e | ⟨hd, _⟩
      · rw [e]; exact H.out.sh c hc
      · exact H.out.sh d hd⟩, (hO3.mono (fun _ hk => by cases hk)).trans ho3 (fun _ hk => Or.inl hk)⟩
    have HC : Hid (c ∈ l ∧ 0 < id ∧ (c.a : Int) = id) := ⟨hc, hp, ha⟩
    have htl : t < w2.heap.size := lt_of_cell k1
    have hst' : (Instr.mapUpdate 56 (.map (some mb)) (.string (bs c.s)) (.agg #[.int .i64 (c.a : Nat), .int .i64 (c.b : Nat), .int .i64 0])).run Tryz.prog (w2.alloc (.cells #[.int .i64 (c.a : Nat), .int .i64 (c.b : Nat), .int .i64 0] 61)).drew = .ok () w3 := hst
    clear hst
    clear hc hp ha ho2 k3 hf hO3 ho3 hown
    go_wp2
    go_region
    all_goals go_wp2
    all_goals go_ret
    all_goals exact Or.inl ⟨c, HC.out.1, HC.out.2.1, HC.out.2.2, rfl, HE.out.1, HE.out.2⟩
  · have HO : Hid (Only [] w w2) := ho2
    have HC : Hid (∀ c ∈ l, ¬ (0 < id ∧ (c.a : Int) = id)) := hno
    clear hno ho2 hf
    go_wp2
    go_ret
    exact Or.inr ⟨HC.out, rfl, HO.out⟩
end Go.Proofs.YtaipigiinljpkaaGreatDoor
