/- Clients: New, Register. -/
import Derived.Test.YtaipigiinljpkaaGreatDoorLs5
import Derived.Test.YtaipigiinljpkaaGreatDoorS2
namespace Go.Proofs.YtaipigiinljpkaaGreatDoor
open Go Go.RowKit Go.Deep Go.Maps

theorem CInv.mono {last last' : Nat} {l : List Cli} (h : CInv last l) (hl : last ≤ last') : CInv last' l :=
  ⟨h.nod, h.some, fun c hc => by have := h.le c hc; omega, h.ab, h.age, h.one, h.len⟩
theorem keyOf_same (w : World) (id : Int) : Calls Tryz.prog 21 #[.int .i64 id] w fun e w' => e = .returned (.int .i64 id) ∧ w' = w := (keyOf_any w id).mono fun _ _ h => ⟨h.1, h.2.symm⟩
theorem LsAt.bumped {w : World} {t mb last : Nat} {l : List Cli} (h : LsAt w t mb last l) : LsAt (w.setCell ⟨t, 0, none⟩ (.int .i64 ((last : Int) + 1))) t mb (last + 1) l :=
  ⟨heap_setCell_same w t 0 _ _ _ h.tab, h.own.setCell h.ne _, h.inv.mono (Nat.le_succ _), h.sh⟩
set_option maxHeartbeats 1000000 in
theorem new_any (w : World) : Calls Tryz.prog 5 #[] w fun e w' => ∃ t mb, e = .returned (.pointer (some ⟨t, 0, none⟩)) ∧ LsAt w' t mb 0 [] ∧ w.heap.size ≤ t ∧ w.heap.size ≤ mb ∧ Only [] w w' := by
  have hm1 := run_makeMap (P := Tryz.prog) 56 w
  go_enter Tryz.func5, Tryz.ntmps5
  go_wp2
  go_ret
  have ho : Only [] w ((w.alloc (.map #[] 0)).alloc (.cells #[.int .i64 0, .map (some w.heap.size)] 58)) := ((Only.refl [] w).alloc _).alloc _
  refine ⟨w.heap.size + 1, w.heap.size, rfl, ⟨?_, ?_, CInv.nil, fun c hc => by cases hc⟩, by omega, by omega, ho⟩
  · have hh := heap_alloc_last (w.alloc (.map #[] 0)) (.cells #[.int .i64 0, .map (some w.heap.size)] 58)
    rw [World.size_alloc] at hh
    exact hh
  · exact (World.ownsMap_made (H := Unit) w Tryz.prog 9 cliElem).alloc _
/-- What Register does. -/
def RegR (w w' : World) (t mb last : Nat) (l : List Cli) (s : ByteArray) (P3 P8 : Addr) (e : Ending) : Prop :=
  (¬ OkN s ∧ e = .returned (.tuple #[.int .i64 0, .int .i64 0, .iface 155 (.pointer (some P3))]) ∧ Only [] w w') ∨
  (OkN s ∧ findC l s.data.toList = none ∧ 12 ≤ l.length ∧ e = .returned (.tuple #[.int .i64 0, .int .i64 0, .iface 155 (.pointer (some P8))]) ∧ Only [] w w') ∨
  (OkN s ∧ (findC l s.data.toList ≠ none ∨ l.length < 12) ∧ e = .returned (.tuple #[.int .i64 ((last + 1 : Nat) : Int), .int .i64 ((last + 1 : Nat) : Int), .nilIface]) ∧ LsAt w' t mb (last + 1) (putC l (regC last l s.data.toList)) ∧ Only [t, mb] w w')
set_option maxRecDepth 100000 in
set_option maxHeartbeats 4000000 in
theorem reg_any (w : World) (t mb last : Nat) (l : List Cli) (s : ByteArray) (n : Int) (A : Nat → Addr) (hE : Errs w A) (h : LsAt w t mb last l) (hl : last ≤ 1000000) :
    Calls Tryz.prog 6 #[.pointer (some ⟨t, 0, none⟩), .string s, .int .i64 n] w fun e w' => RegR w w' t mb last l s (A 3) (A 8) e := by
  have hck := check_any s A w hE
  have HK : Hid (∀ W, Only [] w W → W.cell? ⟨0, 0, none⟩ = some (.iface 155 (.pointer (some (A 8)))) ∧ LsAt W t mb last l) := fun W ho => ⟨(ho.cell (lt_of_cell (hE.cell 8 (by decide))) (by simp)).trans (hE.cell 8 (by decide)), h.only ho⟩
  have htl := h.lt
  clear hE h
  go_enter Tryz.func6, Tryz.ntmps6
  go_wp2_with fail
  refine hck.mono ?_
  rintro e w2 ⟨⟨hok, rfl⟩ | ⟨hok, rfl⟩, hb2⟩
  · have ho2 : Only [] w w2 := Only.of_below hb2 []
    obtain ⟨k8, h2⟩ := HK.out w2 ho2
    have hs : s.size ≤ 1000 := by have := hok.2.1; omega
    have hlook := h2.look_ok s hs
    have c0 := h2.c0
    have c1 := h2.c1
    have f0 := h2.f0
    have hne := h2.ne
    have htl2 := h2.lt
    have HI : Hid (CInv last l) := h2.inv
    have h0l := lt_of_cell k8
    cases hf : findC l s.data.toList with
    | none =>
      rw [hf] at hlook
      simp only [Option.isSome_none] at hlook
      have HF : Hid (findC l s.data.toList = none) := hf
      have hlen := (h2.only ((Only.refl [] w2).alloc (.cells #[.int .i64 0, .int .i64 0, .int .i64 0] 61))).count 3
      by_cases hfull : 12 ≤ l.length
      · have HO : Hid (Only [] w w2) := ho2
        have HOK : Hid (OkN s) := hok
        clear hok hb2 hck h2 ho2 hf
        go_wp2
        go_region
        all_goals go_wp2
        all_goals go_ret3
        all_goals exact Or.inr (Or.inl ⟨HOK.out, HF.out, hfull, rfl, (HO.out.alloc _).drew⟩)
      · have HR : Hid (findC l s.data.toList ≠ none ∨ l.length < 12) := Or.inr (by omega)
        have hB : LsAt (((w2.setCell ⟨t, 0, none⟩ (.int .i64 ((last : Int) + 1))).alloc (.cells #[.int .i64 0, .int .i64 ((last : Int) + 1), .int .i64 0] 61)).drew) t mb (last + 1) l := h2.bumped.only (((Only.refl [] _).alloc _).drew)
        obtain ⟨w3, hst, hown, ho3⟩ := hB.put s hs (regC last l s.data.toList) (regC_s _ _ _)
        have hreg : regC last l s.data.toList = ⟨s.data.toList, 0, last + 1, 0⟩ := by unfold regC; rw [hf]
        have hst' : (Instr.mapUpdate 56 (.map (some mb)) (.string s) (.agg #[.int .i64 0, .int .i64 ((last : Int) + 1), .int .i64 0])).run Tryz.prog (((w2.setCell ⟨t, 0, none⟩ (.int .i64 ((last : Int) + 1))).alloc (.cells #[.int .i64 0, .int .i64 ((last : Int) + 1), .int .i64 0] 61)).drew) = .ok () w3 := by rw [hreg] at hst; exact hst
        have hoB : Only [t] w (((w2.setCell ⟨t, 0, none⟩ (.int .i64 ((last : Int) + 1))).alloc (.cells #[.int .i64 0, .int .i64 ((last : Int) + 1), .int .i64 0] 61)).drew) := (((ho2.mono (fun _ hk => by cases hk)).setCell (Or.inl (by simp)) _).alloc _).drew
        obtain ⟨hL3, hO3⟩ := hB.written (Only.refl [] _) hown ho3 (HI.out.reg HR.out) (by rw [regC_s]; exact hs)
        have HE : Hid (LsAt w3 t mb (last + 1) (putC l (regC last l s.data.toList)) ∧ Only [t, mb] w w3) := ⟨hL3, (hoB.mono (L' := [t, mb]) (fun k hk => Or.inl (by simp at hk; simp [hk]))).trans hO3 (fun k hk => Or.inl (by simp at hk; simp [hk]))⟩
        have c3 : w3.cell? ⟨t, 0, none⟩ = some (.int .i64 ((last : Int) + 1)) := hL3.c0
        have HOK : Hid (OkN s) := hok
        clear hst hown ho3 hB hoB hL3 hO3 hreg hck h2 ho2 hb2 hok HK
        go_wp2
        go_region
        all_goals go_wp2
        all_goals go_quiet (first | (go_at_call 21; refine Calls.quiet_of_same (keyOf_same _ _)))
        all_goals go_wp2
        all_goals go_ret3
        all_goals exact Or.inr (Or.inr ⟨HOK.out, HR.out, rfl, HE.out.1.only ((Only.refl [] _).drewsN _), HE.out.2.drewsN _⟩)
    | some c =>
      rw [hf] at hlook
      simp only [Option.isSome_some, cvV] at hlook
      have HR : Hid (findC l s.data.toList ≠ none ∨ l.length < 12) := Or.inl (by rw [hf]; simp)
      have hB : LsAt (((w2.setCell ⟨t, 0, none⟩ (.int .i64 ((last : Int) + 1))).alloc (.cells #[.int .i64 (c.a : Nat), .int .i64 ((last : Int) + 1), .int .i64 (c.g : Nat)] 61)).drew) t mb (last + 1) l := h2.bumped.only (((Only.refl [] _).alloc _).drew)
      obtain ⟨w3, hst, hown, ho3⟩ := hB.put s hs (regC last l s.data.toList) (regC_s _ _ _)
      have hreg : regC last l s.data.toList = ⟨s.data.toList, c.a, last + 1, c.g⟩ := by unfold regC; rw [hf]
      have hst' : (Instr.mapUpdate 56 (.map (some mb)) (.string s) (.agg #[.int .i64 (c.a : Nat), .int .i64 ((last : Int) + 1), .int .i64 (c.g : Nat)])).run Tryz.prog (((w2.setCell ⟨t, 0, none⟩ (.int .i64 ((last : Int) + 1))).alloc (.cells #[.int .i64 (c.a : Nat), .int .i64 ((last : Int) + 1), .int .i64 (c.g : Nat)] 61)).drew) = .ok () w3 := by rw [hreg] at hst; exact hst
      have hoB : Only [t] w (((w2.setCell ⟨t, 0, none⟩ (.int .i64 ((last : Int) + 1))).alloc (.cells #[.int .i64 (c.a : Nat), .int .i64 ((last : Int) + 1), .int .i64 (c.g : Nat)] 61)).drew) := (((ho2.mono (fun _ hk => by cases hk)).setCell (Or.inl (by simp)) _).alloc _).drew
      obtain ⟨hL3, hO3⟩ := hB.written (Only.refl [] _) hown ho3 (HI.out.reg HR.out) (by rw [regC_s]; exact hs)
      have HE : Hid (LsAt w3 t mb (last + 1) (putC l (regC last l s.data.toList)) ∧ Only [t, mb] w w3) := ⟨hL3, (hoB.mono (L' := [t, mb]) (fun k hk => Or.inl (by simp at hk; simp [hk]))).trans hO3 (fun k hk => Or.inl (by simp at hk; simp [hk]))⟩
      have c3 : w3.cell? ⟨t, 0, none⟩ = some (.int .i64 ((last : Int) + 1)) := hL3.c0
      have HOK : Hid (OkN s) := hok
      clear hst hown ho3 hB hoB hL3 hO3 hreg hck h2 ho2 hb2 hok HK
      go_wp2
      go_region
      all_goals go_wp2
      all_goals go_quiet (first | (go_at_call 21; refine Calls.quiet_of_same (keyOf_same _ _)))
      all_goals go_wp2
      all_goals go_ret3
      all_goals exact Or.inr (Or.inr ⟨HOK.out, HR.out, rfl, HE.out.1.only ((Only.refl [] _).drewsN _), HE.out.2.drewsN _⟩)
  · have HO : Hid (Only [] w w2) := Only.of_below hb2 []
    have HN : Hid (¬ OkN s) := hok
    clear hok hb2 hck
    go_wp2
    go_ret3
    exact Or.inl ⟨HN.out, rfl, HO.out⟩
end Go.Proofs.YtaipigiinljpkaaGreatDoor
