/- Clients: Confirm, keep. -/
import Derived.Test.YtaipigiinljpkaaGreatDoorLs4
namespace Go.Proofs.YtaipigiinljpkaaGreatDoor
open Go Go.RowKit Go.Deep Go.Maps

/-- What is written by a name. -/
theorem LsAt.written {w W w3 : World} {t mb last : Nat} {l : List Cli} {c : Cli} (h : LsAt w t mb last l) (ho : Only [] w W) (h3 : w3.ownsMap Tryz.prog 9 cliElem mb (putC l c).length (cliD (putC l c))) (o3 : Only [mb] W w3) (hi : CInv last (putC l c)) (hs : c.s.length ≤ 1000) : LsAt w3 t mb last (putC l c) ∧ Only [mb] w w3 :=
  ⟨⟨(o3.block t (Nat.lt_of_lt_of_le h.lt ho.size) (by simpa using h.ne.symm)).trans ((h.only ho).tab), h3, hi, fun d hd => by
      rcases mem_putC.1 hd with e | ⟨hd, _⟩
      · rw [e]; exact hs
      · exact h.sh d hd⟩, (ho.mono (fun _ hk => by cases hk)).trans o3 (fun _ hk => Or.inl hk)⟩
/-- What Confirm does. -/
def ConfR (w w' : World) (t mb last : Nat) (l : List Cli) (id key : Int) (P4 P2 : Addr) (e : Ending) : Prop :=
      ((∀ c ∈ l, hasB c id = false) ∧ e = .returned (.tuple #[.int .i64 0, .iface 155 (.pointer (some P4))]) ∧ Only [] w w') ∨
      (∃ c ∈ l, hasB c id = true ∧ key ≠ id ∧ e = .returned (.tuple #[.int .i64 0, .iface 155 (.pointer (some P2))]) ∧ Only [] w w') ∨
      (∃ c ∈ l, hasB c id = true ∧ key = id ∧ e = .returned (.tuple #[.int .i64 (goneC c id : Nat), .nilIface]) ∧ LsAt w' t mb last (putC l (confC c id)) ∧ Only [mb] w w')
set_option maxRecDepth 100000 in
set_option maxHeartbeats 2000000 in
theorem conf_any (w : World) (t mb last : Nat) (l : List Cli) (id key : Int) (P4 P2 : Addr) (h : LsAt w t mb last l) (h4 : w.cell? ⟨1, 0, none⟩ = some (.iface 155 (.pointer (some P4)))) (h2 : w.cell? ⟨2, 0, none⟩ = some (.iface 155 (.pointer (some P2)))) :
    Calls Tryz.prog 9 #[.pointer (some ⟨t, 0, none⟩), .int .i64 id, .int .i64 key] w fun e w' => ConfR w w' t mb last l id key P4 P2 e := by
  have hf := find_any w t mb last l id h
  have HK : Hid (∀ W, Only [] w W → W.cell? ⟨t, 1, none⟩ = some (.map (some mb)) ∧ W.cell? ⟨1, 0, none⟩ = some (.iface 155 (.pointer (some P4))) ∧ W.cell? ⟨2, 0, none⟩ = some (.iface 155 (.pointer (some P2))) ∧ ∀ c ∈ l, (Instr.lookup 56 (.map (some mb)) (.string (bs c.s)) false).run Tryz.prog W = .ok (.agg #[.int .i64 (c.a : Nat), .int .i64 (c.b : Nat), .int .i64 (c.g : Nat)]) W) := fun W ho => ⟨(h.only ho).c1, (ho.cell (lt_of_cell h4) (by simp)).trans h4, (ho.cell (lt_of_cell h2) (by simp)).trans h2, fun c hc => (h.only ho).look_at hc⟩
  have H : Hid (LsAt w t mb last l) := h
  clear h h4 h2
  go_enter Tryz.func9, Tryz.ntmps9
  go_wp2_with fail
  refine hf.mono ?_
  rintro e w2 ⟨⟨c, hc, hh, rfl⟩ | ⟨hno, rfl⟩, ho2⟩
  · obtain ⟨k1, k2, k3, k4⟩ := HK.out w2 ho2
    have hlook := k4 c hc
    have HO : Hid (Only [] w w2) := ho2
    have HC : Hid (c ∈ l ∧ hasB c id = true) := ⟨hc, hh⟩
    by_cases hk : key = id
    · subst hk
      by_cases hb : (c.b : Int) = key
      · subst hb
        have hO3 : Only [] w (w2.alloc (.cells #[.int .i64 (c.b : Nat), .int .i64 0, .int .i64 0] 61)).drew := (ho2.alloc _).drew
        have e1 : confC c (c.b : Int) = ⟨c.s, c.b, 0, 0⟩ := by unfold confC; rw [if_pos rfl]
        have e2 : goneC c (c.b : Int) = c.a := by unfold goneC; rw [if_pos rfl]
        obtain ⟨w3, hst, hown, ho3⟩ := (H.out.only hO3).put (bs c.s) (by rw [bs_size]; exact H.out.sh c hc) (confC c (c.b : Int)) (by rw [bs_data, confC_s])
        have HE : Hid (LsAt w3 t mb last (putC l (confC c (c.b : Int))) ∧ Only [mb] w w3) := H.out.written hO3 hown ho3 (H.out.inv.conf hc hh) (by rw [confC_s]; exact H.out.sh c hc)
        have HG : Hid (goneC c (c.b : Int) = c.a) := e2
        rw [e1] at hst
        have hst' : (Instr.mapUpdate 56 (.map (some mb)) (.string (bs c.s)) (.agg #[.int .i64 (c.b : Nat), .int .i64 0, .int .i64 0])).run Tryz.prog (w2.alloc (.cells #[.int .i64 (c.b : Nat), .int .i64 0, .int .i64 0] 61)).drew = .ok () w3 := hst
        have htl : t < w2.heap.size := lt_of_cell k1
        clear hst hc hh ho2 k2 k3 k4 hf hO3 ho3 hown e1 e2
        go_wp2_with (go_at_call 21; go_must (refine (keyOf_any _ _).mono ?_); rintro e w4 ⟨rfl, rfl⟩)
        go_region
        all_goals go_wp2
        all_goals go_ret2
        all_goals exact Or.inr (Or.inr ⟨c, HC.out.1, HC.out.2, rfl, by rw [HG.out]; rfl, HE.out.1, HE.out.2⟩)
      · have hO3 : Only [] w (w2.alloc (.cells #[.int .i64 (c.a : Nat), .int .i64 (c.b : Nat), .int .i64 0] 61)).drew := (ho2.alloc _).drew
        have e1 : confC c key = ⟨c.s, c.a, c.b, 0⟩ := by unfold confC; rw [if_neg hb]
        have e2 : goneC c key = 0 := by unfold goneC; rw [if_neg hb]
        obtain ⟨w3, hst, hown, ho3⟩ := (H.out.only hO3).put (bs c.s) (by rw [bs_size]; exact H.out.sh c hc) (confC c key) (by rw [bs_data, confC_s])
        have HE : Hid (LsAt w3 t mb last (putC l (confC c key)) ∧ Only [mb] w w3) := H.out.written hO3 hown ho3 (H.out.inv.conf hc hh) (by rw [confC_s]; exact H.out.sh c hc)
        have HG : Hid (goneC c key = 0) := e2
        rw [e1] at hst
        have hst' : (Instr.mapUpdate 56 (.map (some mb)) (.string (bs c.s)) (.agg #[.int .i64 (c.a : Nat), .int .i64 (c.b : Nat), .int .i64 0])).run Tryz.prog (w2.alloc (.cells #[.int .i64 (c.a : Nat), .int .i64 (c.b : Nat), .int .i64 0] 61)).drew = .ok () w3 := hst
        have htl : t < w2.heap.size := lt_of_cell k1
        have hbb : ((c.b : Int) == key) = false := by simpa using hb
        clear hst hc hh ho2 k2 k3 k4 hf hO3 ho3 hown e1 e2
        go_wp2_with (go_at_call 21; go_must (refine (keyOf_any _ _).mono ?_); rintro e w4 ⟨rfl, rfl⟩)
        go_region
        all_goals go_wp2
        all_goals go_ret2
        all_goals exact Or.inr (Or.inr ⟨c, HC.out.1, HC.out.2, rfl, by rw [HG.out]; rfl, HE.out.1, HE.out.2⟩)
    · have hkk : (key == id) = false := by simpa using hk
      clear hc hh ho2 k4 hf hlook
      go_wp2_with (go_at_call 21; go_must (refine (keyOf_any _ _).mono ?_); rintro e w4 ⟨rfl, rfl⟩)
      go_region
      all_goals go_wp2
      all_goals go_ret2
      all_goals exact Or.inr (Or.inl ⟨c, HC.out.1, HC.out.2, hk, rfl, HO.out.drew⟩)
  · obtain ⟨k1, k2, k3, k4⟩ := HK.out w2 ho2
    have HO : Hid (Only [] w w2) := ho2
    have HC : Hid (∀ c ∈ l, hasB c id = false) := hno
    clear hno ho2 k3 k4 hf
    go_wp2
    go_region
    all_goals go_wp2
    all_goals go_ret2
    all_goals exact Or.inl ⟨HC.out, rfl, HO.out.drew⟩
set_option maxRecDepth 100000 in
set_option maxHeartbeats 2000000 in
theorem keep_any (w : World) (t mb last : Nat) (l : List Cli) (c : Cli) (h : LsAt w t mb last l) (hs : c.s.length ≤ 1000) (hi : CInv last (keepC l c)) :
    Calls Tryz.prog 31 #[.pointer (some ⟨t, 0, none⟩), .string (bs c.s), .agg #[.int .i64 (c.a : Nat), .int .i64 (c.b : Nat), .int .i64 (c.g : Nat)]] w fun e w' => e = .returned (.tuple #[]) ∧ LsAt w' t mb last (keepC l c) ∧ Only [mb] w w' := by
  have k1 := h.c1
  have htl := h.lt
  have hO1 : Only [] w (w.alloc (.cells #[.int .i64 (c.a : Nat), .int .i64 (c.b : Nat), .int .i64 (c.g : Nat)] 61)) := (Only.refl [] w).alloc _
  cases hz : noneC c with
  | true =>
    have hk : keepC l c = dropC l c.s := by unfold keepC; rw [hz]; rfl
    rw [hk] at hi ⊢
    obtain ⟨w3, hst, hown, ho3⟩ := (h.only hO1).del (bs c.s) (by rw [bs_size]; exact hs) 0
    rw [bs_data] at hown
    have HE : Hid (LsAt w3 t mb last (dropC l c.s) ∧ Only [mb] w w3) := ⟨⟨(ho3.block t (Nat.lt_of_lt_of_le h.lt hO1.size) (by simpa using h.ne.symm)).trans ((h.only hO1).tab), hown, hi, fun d hd => h.sh d (mem_dropC.1 hd).1⟩, (hO1.mono (fun _ hk => by cases hk)).trans ho3 (fun _ hk => Or.inl hk)⟩
    obtain ⟨s, a, b, g⟩ := c
    simp only [noneC, Bool.and_eq_true, decide_eq_true_eq] at hz
    obtain ⟨⟨rfl, rfl⟩, rfl⟩ := hz
    have hst' : (Builtin.delete_ #[56, 9] 0 #[.map (some mb), .string (bs s)]).run Tryz.prog (w.alloc (.cells #[.int .i64 0, .int .i64 0, .int .i64 0] 61)) = .ok (.tuple #[]) w3 := hst
    clear hst h hO1 ho3 hown hi hs hk
    show Calls Tryz.prog 31 #[.pointer (some ⟨t, 0, none⟩), .string (bs s), .agg #[.int .i64 0, .int .i64 0, .int .i64 0]] w _
    go_enter Tryz.func31, Tryz.ntmps31
    go_wp2
    refine bodyPost_ret (results_none rfl _ _ _) rfl ?_
    exact ⟨rfl, HE.out.1, HE.out.2⟩
  | false =>
    have hk : keepC l c = putC l c := by unfold keepC; rw [hz]; rfl
    rw [hk] at hi ⊢
    obtain ⟨w3, hst, hown, ho3⟩ := (h.only hO1.drew).put (bs c.s) (by rw [bs_size]; exact hs) c (by rw [bs_data])
    have HE : Hid (LsAt w3 t mb last (putC l c) ∧ Only [mb] w w3) := h.written hO1.drew hown ho3 hi hs
    have hz' : ¬ ((c.a = 0 ∧ c.b = 0) ∧ c.g = 0) := fun e => by
      unfold noneC at hz
      rw [decide_eq_true e.1.1, decide_eq_true e.1.2, decide_eq_true e.2] at hz
      cases hz
    clear h hO1 ho3 hown hi hs hk hz
    by_cases ha : c.a = 0
    · by_cases hb : c.b = 0
      · have hg : ((c.g : Int) == 0) = false := by simpa using (fun e : c.g = 0 => hz' ⟨⟨ha, hb⟩, e⟩)
        have hst' : (Instr.mapUpdate 56 (.map (some mb)) (.string (bs c.s)) (.agg #[.int .i64 0, .int .i64 0, .int .i64 (c.g : Nat)])).run Tryz.prog (w.alloc (.cells #[.int .i64 0, .int .i64 0, .int .i64 (c.g : Nat)] 61)).drew = .ok () w3 := by rw [ha, hb] at hst; exact hst
        clear hst
        go_enter Tryz.func31, Tryz.ntmps31
        go_wp2
        go_region
        all_goals go_wp2
        all_goals go_end0
        all_goals exact ⟨rfl, HE.out.1, HE.out.2⟩
      · have hg : ((c.b : Int) == 0) = false := by simpa using hb
        have hst' : (Instr.mapUpdate 56 (.map (some mb)) (.string (bs c.s)) (.agg #[.int .i64 0, .int .i64 (c.b : Nat), .int .i64 (c.g : Nat)])).run Tryz.prog (w.alloc (.cells #[.int .i64 0, .int .i64 (c.b : Nat), .int .i64 (c.g : Nat)] 61)).drew = .ok () w3 := by rw [ha] at hst; exact hst
        clear hst
        go_enter Tryz.func31, Tryz.ntmps31
        go_wp2
        go_region
        all_goals go_wp2
        all_goals go_end0
        all_goals exact ⟨rfl, HE.out.1, HE.out.2⟩
    · have hg : ((c.a : Int) == 0) = false := by simpa using ha
      go_enter Tryz.func31, Tryz.ntmps31
      go_wp2
      go_region
      all_goals go_wp2
      all_goals go_end0
      all_goals exact ⟨rfl, HE.out.1, HE.out.2⟩
end Go.Proofs.YtaipigiinljpkaaGreatDoor
