/- A net: the document's Send. -/
import Derived.Test.YtkfelijpajdcoaaDoorNe14
namespace Go.Proofs.YtkfelijpajdcoaaDoor
open Go Go.RowKit Go.Deep

def DSendR (w w' : World) (base t : Nat) (v : Value) (l : List Msg) (x : Msg) (e : Ending) : Prop := ∃ c l', e = .returned (.int .i64 ((c : Nat) : Int)) ∧ SendOut l x c l' ∧ ∃ v', DNet w' base t v' l' ∧ Only (t :: v.ownBlock.toList) w w'
set_option maxHeartbeats 4000000 in
theorem dsend_any (w : World) (base t : Nat) (v : Value) (l : List Msg) (x : Msg) (h : DNet w base t v l) (hl : l.length ≤ 100) (hbs : base ≤ w.heap.size) : Calls Tryd.prog 8 #[.pointer (some ⟨t, 0, none⟩), .agg #[.string x.F, .string x.T, .string x.X]] w fun e w' => DSendR w w' base t v l x e := by
  obtain ⟨i0, hi0, hz0, hz1, hz2⟩ := rmInfo'
  have o1 : Only [] w (w.alloc (.cells #[.string x.F, .string x.T, .string x.X] 33)) := (Only.refl [] w).alloc _
  have b1 : MBox 33 (w.alloc (.cells #[.string x.F, .string x.T, .string x.X] 33)) w.heap.size x := heap_alloc_last w _
  have hN := h.only o1 (by simp) (fun _ _ => by simp)
  obtain ⟨ad, cap, hv⟩ := dat_none h
  obtain ⟨n, hn⟩ : ∃ n, l.length = n := ⟨_, rfl⟩
  rw [hn] at hv hl
  have HLN : Hid (l.length = n) := hn
  have HV : Hid (v = .slice ad n cap) := hv
  obtain ⟨w1, hw1⟩ : ∃ w1, w.alloc (.cells #[.string x.F, .string x.T, .string x.X] 33) = w1 := ⟨_, rfl⟩
  have HW1 : Hid (w.alloc (.cells #[.string x.F, .string x.T, .string x.X] 33) = w1) := hw1
  rw [hw1] at o1 b1 hN
  obtain ⟨mb, hmb⟩ : ∃ mb, w.heap.size = mb := ⟨_, rfl⟩
  have HMS : Hid (w.heap.size = mb) := hmb
  rw [hmb] at b1
  have c0 := hN.c0
  rw [hv] at c0
  have htl := lt_of_cell c0
  obtain ⟨k0, k1, k2⟩ := MBox.cells b1
  have hml := lt_of_cell k0
  have HO1 : Hid (Only [] w w1) := o1
  have HDN : Hid (DNet w1 base t v l) := hN
  have HBT : Hid (base ≤ w.heap.size) := hbs
  have HER : Hid (∀ c : Nat, SendOut l x c l → DSendR w w1 base t v l x (.returned (.int .i64 ((c : Nat) : Int)))) := fun c hs => ⟨c, l, rfl, hs, v, HDN.out, HO1.out.mono (fun _ hk => by cases hk)⟩
  have hF := nameError_any x.F w1
  have hT := nameError_any x.T w1
  clear o1 hN hv hn hw1 hmb b1 h hbs
  go_enter Tryd.func8, Tryd.ntmps8
  go_upto_region 1 with fail
  rw [HW1.out, HMS.out]
  by_cases okF : OkN x.F
  · have hF' : Calls Tryd.prog 20 #[.string x.F] w1 fun e w' => e = .returned (.int .i64 0) ∧ w1 = w' := hF.mono fun e w' hh => ⟨by rcases hh.1 with a | a; exact a.2; exact absurd okF a.1, hh.2⟩
    by_cases okT : OkN x.T
    · have hT' : Calls Tryd.prog 20 #[.string x.T] w1 fun e w' => e = .returned (.int .i64 0) ∧ w1 = w' := hT.mono fun e w' hh => ⟨by rcases hh.1 with a | a; exact a.2; exact absurd okT a.1, hh.2⟩
      have HOK : Hid (OkN x.F ∧ OkN x.T) := ⟨okF, okT⟩
      clear hF hT okF okT
      by_cases hx : 4000 < x.X.size
      · have d0 : decide ((4000 : Int) < (x.X.size : Int)) = true := decide_eq_true (by omega)
        go_wp2_with (go_at_call 20; first | (refine hF'.mono ?_; rintro e w3 ⟨rfl, rfl⟩; clear hF') | (refine hT'.mono ?_; rintro e w3 ⟨rfl, rfl⟩; clear hT'))
        go_ret
        exact HER.out 2 (Or.inr (Or.inl ⟨HOK.out, hx, rfl, rfl⟩))
      · have d0 : decide ((4000 : Int) < (x.X.size : Int)) = false := decide_eq_false (by omega)
        by_cases hf : 100 ≤ n
        · have d1 : decide ((100 : Int) ≤ (n : Int)) = true := decide_eq_true (by omega)
          go_wp2_with (go_at_call 20; first | (refine hF'.mono ?_; rintro e w3 ⟨rfl, rfl⟩; clear hF') | (refine hT'.mono ?_; rintro e w3 ⟨rfl, rfl⟩; clear hT'))
          go_ret
          exact HER.out 9 (Or.inr (Or.inr (Or.inl ⟨HOK.out, by omega, by have := HLN.out; omega, rfl, rfl⟩)))
        · have d1 : decide ((100 : Int) ≤ (n : Int)) = false := decide_eq_false (by omega)
          have HNW : Hid (∀ (r1 : Nat) (q1 : Value), (msC x)[r1]? = some q1 → (w1.alloc (.cells #[.string x.F, .string x.T, .string x.X] 33)).drew.cell? ((⟨w1.heap.size, 0, none⟩ : Addr).add r1) = some q1) := World.news_of_block (w := (w1.alloc (.cells #[.string x.F, .string x.T, .string x.X] 33)).drew) (heap_alloc_last w1 (.cells #[.string x.F, .string x.T, .string x.X] 33))
          have oa : Only [] w1 (w1.alloc (.cells #[.string x.F, .string x.T, .string x.X] 33)).drew := ((Only.refl [] w1).alloc _).drew
          have HRA : Hid ((w1.alloc (.cells #[.string x.F, .string x.T, .string x.X] 33)).drew.ownsRow base 33 3 (.slice ad n cap) n (rowOf msC l)) := by
            have := (HDN.out.only oa (by simp) (fun _ _ => by simp)).own
            unfold RowM at this
            rw [HLN.out, HV.out] at this
            exact this
          have HB2 : Hid (base ≤ (w1.alloc (.cells #[.string x.F, .string x.T, .string x.X] 33)).drew.heap.size) := Nat.le_trans HBT.out (Nat.le_trans HO1.out.size oa.size)
          have HSA : Hid ((w1.alloc (.cells #[.string x.F, .string x.T, .string x.X] 33)).drew.heap.size = w1.heap.size + 1) := by show (w1.alloc _).heap.size = _; simp
          have HEND : Hid (∀ w6 g6 c6, (w1.alloc (.cells #[.string x.F, .string x.T, .string x.X] 33)).drew.grownBy w6 (Value.slice ad n cap).ownBlock → w6.ownsRow base 33 3 (.slice (some ⟨g6, 0, none⟩) (n + 1) c6) (n + 1) (rowOf msC l ++ msC x) → ((Value.slice ad n cap).ownBlock = some g6 ∨ g6 = w1.heap.size + 1) → w6.cell? ⟨t, 0, none⟩ = some (.slice ad n cap) ∧ w6.frozen? ⟨t, 0, none⟩ = false ∧ t < w6.heap.size ∧ DSendR w (w6.setCell ⟨t, 0, none⟩ (.slice (some ⟨g6, 0, none⟩) (n + 1) c6)) base t v l x (.returned (.int .i64 0))) := fun w6 g6 c6 hgr hrow hat => by
            have hq : Only (Value.slice ad n cap).ownBlock.toList w1 w6 := (oa.mono (fun _ hk => by cases hk)).grown hgr (fun k hk => Or.inl (by rw [hk]; simp))
            have hvt : ∀ k ∈ (Value.slice ad n cap).ownBlock.toList, k ≠ t := fun k hk => HDN.out.ne k (by rw [HV.out]; simpa using hk)
            have hb6 : w6.heap[t]? = some (.cells #[.slice ad n cap] 31 (0, 0)) := by
              have := HDN.out.blk
              rw [HV.out] at this
              exact (hq.block t (Array.getElem?_eq_some_iff.1 this).1 (fun hm => hvt t hm rfl)).trans this
            have hos : Only [t] w6 (w6.setCell ⟨t, 0, none⟩ (.slice (some ⟨g6, 0, none⟩) (n + 1) c6)) := (Only.refl [t] w6).setCell (Or.inl (by simp)) _
            have hgt : g6 ≠ t := by
              rcases hat with e | e
              · exact hvt g6 (by rw [e]; simp)
              · have : t < w1.heap.size := (Array.getElem?_eq_some_iff.1 HDN.out.blk).1
                omega
            refine ⟨cell_of_row _ _ 0 _ _ _ hb6, frozen_of_row _ _ _ _ _ hb6, (Array.getElem?_eq_some_iff.1 hb6).1, 0, l ++ [x], rfl, Or.inr (Or.inr (Or.inr ⟨HOK.out, by omega, by have := HLN.out; omega, rfl, rfl⟩)), _, ⟨heap_setCell_same w6 t 0 _ _ _ hb6, ?_, fun k hk => by cases hk; exact hgt⟩, ?_⟩
            · refine RowM.only ?_ hos (fun k hk => by cases hk; simpa using hgt)
              unfold RowM
              rw [List.length_append, List.length_singleton, HLN.out, rowOf_append]
              simpa [rowOf] using hrow
            · rw [HV.out]
              exact ((HO1.out.mono (L' := t :: (Value.slice ad n cap).ownBlock.toList) (fun _ hk => by cases hk)).trans hq (fun k hk => Or.inl (List.mem_cons_of_mem _ hk))).trans hos (fun k hk => Or.inl (by simp at hk; simp [hk]))
          clear oa
          go_upto_region 7 with (go_at_call 20; first | (refine hF'.mono ?_; rintro e w3 ⟨rfl, rfl⟩; clear hF') | (refine hT'.mono ?_; rintro e w3 ⟨rfl, rfl⟩; clear hT'))
          have mixed : Tryd.prog.follows Departure.mixedOrders = true := by kernel_rfl
          go_region_law_o
            ((refine step_append_lies _ (by rfl) (.tmp 29) (.tmp 31) 29 (by rfl) base 33 i0 _ 3 48 rmUnd hi0 hz0 hz1 hz2 (by rfl) (by decide) (.slice ad n cap) n (rowOf msC l) (by rfl) HRA.out ⟨w1.heap.size, 0, none⟩ 1 1 (msC x) (by rfl) (by rfl) HNW.out (msC_one _) (by decide) (by unfold maxLen; omega) (by omega) HB2.out (w1.heap.size + 1) HSA.out ?_; intro g6 c6 w6 hown6 hgr6 hat6 hlt6; obtain ⟨e0, e1, e2, hR⟩ := HEND.out w6 g6 c6 hgr6 hown6 hat6; have HR : Hid (DSendR w (w6.setCell ⟨t, 0, none⟩ (.slice (some ⟨g6, 0, none⟩) (n + 1) c6)) base t v l x (.returned (.int .i64 0))) := hR; clear hown6 hgr6 hat6 hlt6 hR))
          all_goals go_wp2
          all_goals go_ret
          all_goals exact HR.out
    · have hT' : Calls Tryd.prog 20 #[.string x.T] w1 fun e w' => e = .returned (.int .i64 4) ∧ w1 = w' := hT.mono fun e w' hh => ⟨by rcases hh.1 with a | a; exact absurd a.1 okT; exact a.2, hh.2⟩
      clear hF hT
      go_wp2_with (go_at_call 20; first | (refine hF'.mono ?_; rintro e w3 ⟨rfl, rfl⟩; clear hF') | (refine hT'.mono ?_; rintro e w3 ⟨rfl, rfl⟩; clear hT'))
      go_ret
      exact HER.out 4 (Or.inl ⟨fun h => okT h.2, rfl, rfl⟩)
  · have hF' : Calls Tryd.prog 20 #[.string x.F] w1 fun e w' => e = .returned (.int .i64 4) ∧ w1 = w' := hF.mono fun e w' hh => ⟨by rcases hh.1 with a | a; exact absurd a.1 okF; exact a.2, hh.2⟩
    clear hF hT
    go_wp2_with (go_at_call 20; refine hF'.mono ?_; rintro e w3 ⟨rfl, rfl⟩; clear hF')
    go_ret
    exact HER.out 4 (Or.inl ⟨fun h => okF h.1, rfl, rfl⟩)
end Go.Proofs.YtkfelijpajdcoaaDoor
