/- A net: the program's Send. -/
import Derived.Test.YtkfelijpajdcoaaDoorNe11
namespace Go.Proofs.YtkfelijpajdcoaaDoor
open Go Go.RowKit Go.Deep

/-- What a Send answers, and what is on its way then. -/
def SendOut (l : List Msg) (x : Msg) (c : Nat) (l' : List Msg) : Prop :=
  (¬ (OkN x.F ∧ OkN x.T) ∧ c = 4 ∧ l' = l) ∨ ((OkN x.F ∧ OkN x.T) ∧ 4000 < x.X.size ∧ c = 2 ∧ l' = l) ∨ ((OkN x.F ∧ OkN x.T) ∧ x.X.size ≤ 4000 ∧ 100 ≤ l.length ∧ c = 9 ∧ l' = l) ∨ ((OkN x.F ∧ OkN x.T) ∧ x.X.size ≤ 4000 ∧ l.length < 100 ∧ c = 0 ∧ l' = l ++ [x])
theorem SendOut.one {l l1 l2 : List Msg} {x : Msg} {c1 c2 : Nat} (h : SendOut l x c1 l1) (k : SendOut l x c2 l2) : c1 = c2 ∧ l1 = l2 := by
  rcases h with ⟨a, rfl, rfl⟩ | ⟨a, b, rfl, rfl⟩ | ⟨a, b, d, rfl, rfl⟩ | ⟨a, b, d, rfl, rfl⟩ <;> rcases k with ⟨a', rfl, rfl⟩ | ⟨a', b', rfl, rfl⟩ | ⟨a', b', d', rfl, rfl⟩ | ⟨a', b', d', rfl, rfl⟩ <;> first | exact ⟨rfl, rfl⟩ | exact absurd a a' | exact absurd a' a | omega
def SendR (A : Nat → Addr) (w w' : World) (base t : Nat) (v : Value) (l : List Msg) (x : Msg) (e : Ending) : Prop := ∃ c l', e = .returned (errN A c) ∧ SendOut l x c l' ∧ ∃ v', PNet w' base t v' l' ∧ Only (t :: v.ownBlock.toList) w w'
set_option maxHeartbeats 4000000 in
theorem send_any (A : Nat → Addr) (w : World) (base t : Nat) (v : Value) (l : List Msg) (x : Msg) (hE : Errs w A) (h : PNet w base t v l) (hl : l.length ≤ 100) (hbs : base ≤ w.heap.size) : Calls Tryd.prog 6 #[.pointer (some ⟨t, 0, none⟩), .agg #[.string x.F, .string x.T, .string x.X]] w fun e w' => SendR A w w' base t v l x e := by
  obtain ⟨i0, hi0, hz0, hz1, hz2⟩ := msInfo'
  have o1 : Only [] w ((w.alloc (.cells #[.string x.F, .string x.T, .string x.X] 40)).alloc (.cells #[.string x.F, .string x.T] 9)) := ((Only.refl [] w).alloc _).alloc _
  have h1 := heap_alloc_last w (.cells #[.string x.F, .string x.T, .string x.X] 40)
  have h2 := heap_alloc_last (w.alloc (.cells #[.string x.F, .string x.T, .string x.X] 40)) (.cells #[.string x.F, .string x.T] 9)
  rw [World.size_alloc] at h2
  have h1' : MBox 40 ((w.alloc (.cells #[.string x.F, .string x.T, .string x.X] 40)).alloc (.cells #[.string x.F, .string x.T] 9)) w.heap.size x := MBox.kept (x := x) h1 ((Only.refl [] _).alloc _) (by simp)
  have HN : Hid (∀ W, Only [] w W → PNet W base t v l) := fun W ho => h.only ho (by simp) (fun _ _ => by simp)
  have HE : Hid (∀ W, Only [] w W → Errs W A) := fun W ho => hE.below (ho.to_below (Nat.le_refl _) (fun k hk => by cases hk)) (Nat.le_refl _)
  have HER : Hid (∀ W c, Only [] w W → SendOut l x c l → SendR A w W base t v l x (.returned (errN A c))) := fun W c ho hs => ⟨c, l, rfl, hs, v, HN.out W ho, ho.mono (fun _ hk => by cases hk)⟩
  obtain ⟨w1, hw1⟩ : ∃ w1, (w.alloc (.cells #[.string x.F, .string x.T, .string x.X] 40)).alloc (.cells #[.string x.F, .string x.T] 9) = w1 := ⟨_, rfl⟩
  have HO1 : Hid (Only [] w w1) := by rw [hw1] at o1; exact o1
  have HMB : Hid (∀ W, Only [] w1 W → MBox 40 W w.heap.size x ∧ W.cell? ⟨w.heap.size + 1, 0, none⟩ = some (.string x.F) ∧ W.cell? ⟨w.heap.size + 1, 1, none⟩ = some (.string x.T)) := fun W ho => by
    rw [hw1] at h1' h2
    have h2' := (ho.block (w.heap.size + 1) (Array.getElem?_eq_some_iff.1 h2).1 (by simp)).trans h2
    exact ⟨MBox.kept h1' ho (by simp), cell_of_row _ _ 0 _ _ _ h2', cell_of_row _ _ 1 _ _ _ h2'⟩
  have HW1 : Hid ((w.alloc (.cells #[.string x.F, .string x.T, .string x.X] 40)).alloc (.cells #[.string x.F, .string x.T] 9) = w1) := hw1
  have HBS : Hid (base ≤ w.heap.size) := hbs
  have HNE : Hid (t < w.heap.size ∧ ∀ k, v.ownBlock = some k → k ≠ t) := ⟨(Array.getElem?_eq_some_iff.1 h.blk).1, h.ne⟩
  clear o1 h1 h2 h1' h hE hw1 hbs
  go_enter Tryd.func6, Tryd.ntmps6
  go_wp2
  rw [HW1.out]
  obtain ⟨mb, hmb⟩ : ∃ mb, w.heap.size = mb := ⟨_, rfl⟩
  have HSZ : Hid (w.heap.size = mb) := hmb
  rw [hmb] at HMB ⊢
  clear hmb
  go_loopw [14] (fun i wr => ∃ j : Nat, i = .int .i64 j ∧ j ≤ 2 ∧ Only [] w1 wr ∧ (1 ≤ j → OkN x.F) ∧ (2 ≤ j → OkN x.T)) (fun i _ => 2 - (intOf i).toNat)
  case atStart => exact ⟨0, rfl, by decide, Only.refl _ _, fun h => absurd h (by decide), fun h => absurd h (by decide)⟩
  case round =>
    obtain ⟨j, rfl, hj, ho, hF, hT⟩ := hrel
    have HO : Hid (Only [] w1 wr) := ho
    have HK : Hid ((1 ≤ j → OkN x.F) ∧ (2 ≤ j → OkN x.T)) := ⟨hF, hT⟩
    have HOW : Hid (Only [] w wr) := only_nil HO1.out ho
    obtain ⟨hm, s0, s1⟩ := HMB.out wr ho
    have hsl := lt_of_cell s0
    clear ho hF hT hm
    have hch := fun s => check_any s A wr (HE.out wr HOW.out)
    rcases (show j = 0 ∨ j = 1 ∨ j = 2 by omega) with rfl | rfl | rfl
    · go_wp2_with (go_at_call 19; refine (hch _).mono ?_; rintro e w3 ⟨(⟨hok, rfl⟩ | ⟨hno, rfl⟩), hb⟩)
      · go_roundw
        case rel => exact ⟨1, rfl, by decide, only_nil HO.out (Only.of_below hb []), fun _ => hok, fun h => absurd h (by decide)⟩
        case measure => simp [intOf]
      · go_ret
        exact HER.out w3 4 (only_nil HOW.out (Only.of_below hb [])) (Or.inl ⟨fun h => hno h.1, rfl, rfl⟩)
    · go_wp2_with (go_at_call 19; refine (hch _).mono ?_; rintro e w3 ⟨(⟨hok, rfl⟩ | ⟨hno, rfl⟩), hb⟩)
      · go_roundw
        case rel => exact ⟨2, rfl, by decide, only_nil HO.out (Only.of_below hb []), fun _ => HK.out.1 (by decide), fun _ => hok⟩
        case measure => simp [intOf]
      · go_ret
        exact HER.out w3 4 (only_nil HOW.out (Only.of_below hb [])) (Or.inl ⟨fun h => hno h.2, rfl, rfl⟩)
    · have HOK : Hid (OkN x.F ∧ OkN x.T) := ⟨HK.out.1 (by decide), HK.out.2 (by decide)⟩
      have k2 : wr.cell? ⟨mb, 2, none⟩ = some (.string x.X) := (MBox.cells (HMB.out wr HO.out).1).2.2
      have hml := lt_of_cell k2
      have ebd : wr.cell? ⟨0, 0, none⟩ = some (.iface 121 (.pointer (some (A 1)))) := (HE.out wr HOW.out).cell 1 (by decide)
      have efl : wr.cell? ⟨1, 0, none⟩ = some (.iface 121 (.pointer (some (A 8)))) := (HE.out wr HOW.out).cell 8 (by decide)
      clear s0 s1 hsl hch HK
      by_cases hx : 4000 < x.X.size
      · have d0 : decide ((4000 : Int) < (x.X.size : Int)) = true := decide_eq_true (by omega)
        go_wp2
        go_ret
        exact HER.out wr 2 HOW.out (Or.inr (Or.inl ⟨HOK.out, hx, rfl, rfl⟩))
      · have d0 : decide ((4000 : Int) < (x.X.size : Int)) = false := decide_eq_false (by omega)
        have hN := HN.out wr HOW.out
        obtain ⟨ad, cap, hv⟩ := at_none hN
        have c0 := hN.c0
        obtain ⟨n, hn⟩ : ∃ n, l.length = n := ⟨_, rfl⟩
        rw [hn] at hv hl
        rw [hv] at c0
        have htl := lt_of_cell c0
        have HLN : Hid (l.length = n) := hn
        have HV : Hid (v = .slice ad n cap) := hv
        by_cases hf : 100 ≤ n
        · have d1 : decide ((100 : Int) ≤ (n : Int)) = true := decide_eq_true (by omega)
          clear hN hv hn
          go_wp2
          go_ret
          exact HER.out wr 9 HOW.out (Or.inr (Or.inr (Or.inl ⟨HOK.out, by omega, by have := HLN.out; omega, rfl, rfl⟩)))
        · have d1 : decide ((100 : Int) ≤ (n : Int)) = false := decide_eq_false (by omega)
          obtain ⟨k0, k1, _⟩ := MBox.cells (HMB.out wr HO.out).1
          have HNW : Hid (∀ (r1 : Nat) (q1 : Value), (msC x)[r1]? = some q1 → (wr.alloc (.cells #[.string x.F, .string x.T, .string x.X] 40)).drew.cell? ((⟨wr.heap.size, 0, none⟩ : Addr).add r1) = some q1) := World.news_of_block (w := (wr.alloc (.cells #[.string x.F, .string x.T, .string x.X] 40)).drew) (heap_alloc_last wr (.cells #[.string x.F, .string x.T, .string x.X] 40))
          have oa : Only [] wr (wr.alloc (.cells #[.string x.F, .string x.T, .string x.X] 40)).drew := ((Only.refl [] wr).alloc _).drew
          have HRA : Hid ((wr.alloc (.cells #[.string x.F, .string x.T, .string x.X] 40)).drew.ownsRow base 40 3 (.slice ad n cap) n (rowOf msC l)) := by
            have := (hN.only oa (by simp) (fun _ _ => by simp)).own
            unfold RowM at this
            rw [hn, hv] at this
            exact this
          have HB2 : Hid (base ≤ (wr.alloc (.cells #[.string x.F, .string x.T, .string x.X] 40)).drew.heap.size) := Nat.le_trans HBS.out (Nat.le_trans HOW.out.size oa.size)
          have HSA : Hid ((wr.alloc (.cells #[.string x.F, .string x.T, .string x.X] 40)).drew.heap.size = wr.heap.size + 1) := by show (wr.alloc _).heap.size = _; simp
          have HEND : Hid (∀ w6 g6 c6, (wr.alloc (.cells #[.string x.F, .string x.T, .string x.X] 40)).drew.grownBy w6 (Value.slice ad n cap).ownBlock → w6.ownsRow base 40 3 (.slice (some ⟨g6, 0, none⟩) (n + 1) c6) (n + 1) (rowOf msC l ++ msC x) → ((Value.slice ad n cap).ownBlock = some g6 ∨ g6 = wr.heap.size + 1) → w6.cell? ⟨t, 0, none⟩ = some (.slice ad n cap) ∧ w6.frozen? ⟨t, 0, none⟩ = false ∧ t < w6.heap.size ∧ SendR A w (w6.setCell ⟨t, 0, none⟩ (.slice (some ⟨g6, 0, none⟩) (n + 1) c6)) base t v l x (.returned .nilIface)) := fun w6 g6 c6 hgr hrow hat => by
            have hq : Only (Value.slice ad n cap).ownBlock.toList wr w6 := (oa.mono (fun _ hk => by cases hk)).grown hgr (fun k hk => Or.inl (by rw [hk]; simp))
            have hvt : ∀ k ∈ (Value.slice ad n cap).ownBlock.toList, k ≠ t := fun k hk => HNE.out.2 k (by rw [HV.out]; simpa using hk)
            have hb6 : w6.heap[t]? = some (.cells #[.slice ad n cap] 27 (0, 0)) := by
              have := hN.blk
              rw [hv] at this
              exact (hq.block t (Array.getElem?_eq_some_iff.1 this).1 (fun hm => hvt t hm rfl)).trans this
            have hos : Only [t] w6 (w6.setCell ⟨t, 0, none⟩ (.slice (some ⟨g6, 0, none⟩) (n + 1) c6)) := (Only.refl [t] w6).setCell (Or.inl (by simp)) _
            have hgt : g6 ≠ t := by
              rcases hat with e | e
              · exact hvt g6 (by rw [e]; simp)
              · have := HNE.out.1
                have := HOW.out.size
                omega
            refine ⟨cell_of_row _ _ 0 _ _ _ hb6, frozen_of_row _ _ _ _ _ hb6, (Array.getElem?_eq_some_iff.1 hb6).1, 0, l ++ [x], rfl, Or.inr (Or.inr (Or.inr ⟨HOK.out, by omega, by have := HLN.out; omega, rfl, rfl⟩)), _, ⟨heap_setCell_same w6 t 0 _ _ _ hb6, ?_, fun k hk => by cases hk; exact hgt⟩, ?_⟩
            · refine RowM.only ?_ hos (fun k hk => by cases hk; simpa using hgt)
              unfold RowM
              rw [List.length_append, List.length_singleton, HLN.out, rowOf_append]
              simpa [rowOf] using hrow
            · rw [HV.out]
              exact ((HOW.out.mono (L' := t :: (Value.slice ad n cap).ownBlock.toList) (fun _ hk => by cases hk)).trans hq (fun k hk => Or.inl (List.mem_cons_of_mem _ hk))).trans hos (fun k hk => Or.inl (by simp at hk; simp [hk]))
          clear hN hv hn oa ebd efl
          go_upto_region 12 with fail
          have mixed : Tryd.prog.follows Departure.mixedOrders = true := by kernel_rfl
          go_region_law_o
            ((refine step_append_lies _ (by rfl) (.tmp 42) (.tmp 44) 25 (by rfl) base 40 i0 _ 3 48 msUnd hi0 hz0 hz1 hz2 (by rfl) (by decide) (.slice ad n cap) n (rowOf msC l) (by rfl) HRA.out ⟨wr.heap.size, 0, none⟩ 1 1 (msC x) (by rfl) (by rfl) HNW.out (msC_one _) (by decide) (by unfold maxLen; omega) (by omega) HB2.out (wr.heap.size + 1) HSA.out ?_; intro g6 c6 w6 hown6 hgr6 hat6 hlt6; obtain ⟨e0, e1, e2, hR⟩ := HEND.out w6 g6 c6 hgr6 hown6 hat6; have HR : Hid (SendR A w (w6.setCell ⟨t, 0, none⟩ (.slice (some ⟨g6, 0, none⟩) (n + 1) c6)) base t v l x (.returned .nilIface)) := hR; clear hown6 hgr6 hat6 hlt6 hR))
          all_goals go_wp2
          all_goals go_ret
          all_goals exact HR.out
end Go.Proofs.YtkfelijpajdcoaaDoor
