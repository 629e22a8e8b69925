/- Shares: the document's Open. -/
import Derived.Test.YtagpahgjbglmaaaDoorSr4
import Derived.Deep.DeepCutAuto
namespace Go.Proofs.YtagpahgjbglmaaaDoor
open Go Go.RowKit Go.Deep

/-- What the document's opening makes. -/
def ROpenR (l : List Opn) (N G O a d : Int) (c : Nat) (l' : List Opn) : Prop :=
  ((accB a && denB d) = false ∧ c = 2 ∧ l' = l) ∨
  ((accB a && denB d) = true ∧ l.any (agB N G O a d) = true ∧ c = 11 ∧ l' = l) ∨
  (∃ (i : Nat) (x : Opn), (accB a && denB d) = true ∧ l.any (agB N G O a d) = false ∧ l[i]? = some x ∧ sameO x (keyO N G O) ∧ c = 0 ∧ l' = l.set i { x with A := sumB x.A a, D := sumB x.D d }) ∨
  ((accB a && denB d) = true ∧ l.any (agB N G O a d) = false ∧ (∀ x ∈ l, ¬ sameO x (keyO N G O)) ∧ 40 ≤ l.length ∧ c = 9 ∧ l' = l) ∨
  ((accB a && denB d) = true ∧ l.any (agB N G O a d) = false ∧ (∀ x ∈ l, ¬ sameO x (keyO N G O)) ∧ l.length < 40 ∧ c = 0 ∧ l' = l ++ [⟨N, G, O, a, d⟩])
def Near (v v' : Value) (w : World) : Prop := ∀ k, v'.ownBlock = some k → v.ownBlock = some k ∨ w.heap.size ≤ k
theorem rowOf_push (l : List Opn) (x : Opn) : rowOf opC l ++ opC x = rowOf opC (l ++ [x]) := by rw [rowOf_append]; simp [rowOf]
/-- One open more, and the table told of it. -/
theorem RsAt.pushed {w w5 w6 : World} {base t n cap gl cp : Nat} {ad : Option Addr} {l l2 : List Opn} (h : RsAt w base t (.slice ad n cap) l) (ho : Only [] w w5) (hown : Rns w6 base (.slice (some ⟨gl, 0, none⟩) l2.length cp) l2) (hgr : Only (Value.slice ad n cap).ownBlock.toList w5 w6) (hat : (Value.slice ad n cap).ownBlock = some gl ∨ w5.heap.size ≤ gl) :
    w6.cell? ⟨t, 0, none⟩ = some (.slice ad n cap) ∧ w6.frozen? ⟨t, 0, none⟩ = false ∧ t < w6.heap.size ∧ RsAt (w6.setCell ⟨t, 0, none⟩ (.slice (some ⟨gl, 0, none⟩) l2.length cp)) base t (.slice (some ⟨gl, 0, none⟩) l2.length cp) l2 ∧ Only (t :: (Value.slice ad n cap).ownBlock.toList) w (w6.setCell ⟨t, 0, none⟩ (.slice (some ⟨gl, 0, none⟩) l2.length cp)) ∧ Near (.slice ad n cap) (.slice (some ⟨gl, 0, none⟩) l2.length cp) w := by
  have h5 := h.only ho
  have htn : t ∉ (Value.slice ad n cap).ownBlock.toList := fun hm => h.ne t (by simpa using hm) rfl
  have htl5 : t < w5.heap.size := lt_of_cell h5.c0
  have c6 := (hgr.cell (p := ⟨t, 0, none⟩) htl5 htn).trans h5.c0
  have f6 := (hgr.frozen (p := ⟨t, 0, none⟩) htl5 htn).trans h5.fr
  have hgt : gl ≠ t := by
    rcases hat with e | e
    · exact h.ne gl e
    · omega
  have hx : Only [t] w6 (w6.setCell ⟨t, 0, none⟩ (.slice (some ⟨gl, 0, none⟩) l2.length cp)) := (Only.refl [t] w6).setCell (Or.inl (by simp)) _
  refine ⟨c6, f6, lt_of_cell c6, ⟨World.cell?_setCell_same _ _ _ c6, by simpa using f6, hown.only hx (fun k hk => by cases hk; simpa using hgt), fun k hk => by cases hk; exact hgt⟩, ?_, fun k hk => ?_⟩
  · exact ((ho.mono (L' := t :: (Value.slice ad n cap).ownBlock.toList) (fun _ hk => by cases hk)).trans hgr (fun k hk => Or.inl (List.mem_cons_of_mem _ hk))).trans hx (fun k hk => Or.inl (by simp at hk; simp [hk]))
  · cases hk
    rcases hat with e | e
    · exact Or.inl e
    · exact Or.inr (show w.heap.size ≤ gl by have := ho.size; omega)
/-- What is told of opening: the table behind it. -/
def ROpened (w : World) (base t : Nat) (v : Value) (l : List Opn) (N G O a d : Int) (e : Ending) (w' : World) : Prop := ∃ (c : Nat) (v' : Value) (l' : List Opn), e = .returned (.int .i64 (c : Int)) ∧ ROpenR l N G O a d c l' ∧ RsAt w' base t v' l' ∧ Only (t :: v.ownBlock.toList) w w' ∧ Near v v' w
theorem ROpened.same {w w' : World} {base t : Nat} {v : Value} {l : List Opn} {N G O a d : Int} {c : Nat} {e : Ending} (h : RsAt w base t v l) (ho : Only [] w w') (he : e = .returned (.int .i64 (c : Int))) (hr : ROpenR l N G O a d c l) : ROpened w base t v l N G O a d e w' := ⟨c, v, l, he, hr, h.only ho, ho.mono (fun _ hk => by cases hk), fun _ hk => Or.inl hk⟩
set_option maxHeartbeats 1000000 in
theorem ropen_bound (w : World) (base t : Nat) (v : Value) (l : List Opn) (N G O a d : Int) (h : RsAt w base t v l) (hb : (accB a && denB d) = false) :
    Calls Tryd.prog 7 #[.pointer (some ⟨t, 0, none⟩), .agg #[.int .i64 N, .int .i64 G], .int .i64 O, .int .i64 a, .int .i64 d] w (ROpened w base t v l N G O a d) := by
  have HO1 : Hid (Only [] w (w.alloc (.cells #[.int .i64 N, .int .i64 G] 33))) := (Only.refl [] w).alloc _
  have HB : Hid (∀ W, Calls Tryd.prog 30 #[.int .i64 a, .int .i64 d] W fun e w' => e = .returned (.bool true) ∧ W = w') := fun W => by have := rbound_any a d W; rw [hb] at this; exact this
  have H : Hid (RsAt w base t v l) := h
  clear h
  go_enter Tryd.func7, Tryd.ntmps7
  go_wp2_with (first | (go_at_call 30; refine (HB.out _).mono ?_; rintro e w3 ⟨rfl, rfl⟩) | go_in)
  go_ret
  exact ROpened.same (c := 2) H.out HO1.out rfl (Or.inl ⟨hb, rfl, rfl⟩)
theorem only_nil {w1 w2 w3 : World} (h : Only [] w1 w2) (k : Only [] w2 w3) : Only [] w1 w3 := h.trans k (fun _ hk => by cases hk)
set_option maxRecDepth 100000 in
set_option maxHeartbeats 4000000 in
theorem ropen_in (w : World) (base t : Nat) (v : Value) (l : List Opn) (N G O a d : Int) (h : RsAt w base t v l) (hl : l.length ≤ 40) (hok : ∀ x ∈ l, OkO x) (hbs : base ≤ w.heap.size) (hb : (accB a && denB d) = true) :
    Calls Tryd.prog 7 #[.pointer (some ⟨t, 0, none⟩), .agg #[.int .i64 N, .int .i64 G], .int .i64 O, .int .i64 a, .int .i64 d] w (ROpened w base t v l N G O a d) := by
  obtain ⟨ad, cap, rfl, had, _⟩ := h.own.form
  have HA : Hid (l ≠ [] → ∃ g, ad = some ⟨g, 0, none⟩) := had
  obtain ⟨n, hn⟩ : ∃ n, l.length = n := ⟨_, rfl⟩
  have HN : Hid (l.length = n) := hn
  rw [hn] at hl h
  have H : Hid (RsAt w base t (.slice ad n cap) l) := h
  have HK : Hid (∀ x ∈ l, OkO x) := hok
  clear h hn had hok
  have HO1 : Hid (Only [] w (w.alloc (.cells #[.int .i64 N, .int .i64 G] 33))) := (Only.refl [] w).alloc _
  have hB0 : (w.alloc (.cells #[.int .i64 N, .int .i64 G] 33)).cell? ⟨w.heap.size, 0, none⟩ = some (.int .i64 N) := cell_of_row _ _ 0 _ _ _ (heap_alloc_last w _)
  have hB1 : (w.alloc (.cells #[.int .i64 N, .int .i64 G] 33)).cell? ⟨w.heap.size, 1, none⟩ = some (.int .i64 G) := cell_of_row _ _ 1 _ _ _ (heap_alloc_last w _)
  have HB : Hid ((w.alloc (.cells #[.int .i64 N, .int .i64 G] 33)).cell? ⟨w.heap.size, 0, none⟩ = some (.int .i64 N) ∧ (w.alloc (.cells #[.int .i64 N, .int .i64 G] 33)).cell? ⟨w.heap.size, 1, none⟩ = some (.int .i64 G)) := ⟨hB0, hB1⟩
  clear hB0 hB1
  rw [HN.out]
  have HBG : Hid (∀ k, (Value.slice ad n cap).ownBlock = some k → k < w.heap.size) := fun k hk => (World.ownsRow.lt H.out.own k hk).2
  obtain ⟨_, _, hra, hrd⟩ := acc_of hb
  have HBD : Hid (∀ W, Calls Tryd.prog 30 #[.int .i64 a, .int .i64 d] W fun e w' => e = .returned (.bool false) ∧ W = w') := fun W => by have := rbound_any a d W; rw [hb] at this; exact this
  have HACC : Hid ((accB a && denB d) = true) := hb
  clear hb
  go_enter Tryd.func7, Tryd.ntmps7
  go_wp2_with (first | (go_at_call 30; refine (HBD.out _).mono ?_; rintro e w3 ⟨rfl, rfl⟩; clear HBD) | go_in)
  generalize w.alloc (.cells #[.int .i64 N, .int .i64 G] 33) = w1 at HO1 HB ⊢
  generalize w.heap.size = b at HB HBG ⊢
  go_loopw [12] (fun i wr => ∃ j : Nat, i = .int .i64 j ∧ j ≤ n ∧ (∀ q y, q < j → l[q]? = some y → agB N G O a d y = false) ∧ Only [] w1 wr) (fun i _ => n - (intOf i).toNat)
  case atStart => exact ⟨0, rfl, Nat.zero_le _, fun q y hq => by omega, Only.refl _ _⟩
  case round =>
    obtain ⟨j, rfl, hj, hall, ho⟩ := hrel
    have HJ : Hid (∀ q y, q < j → l[q]? = some y → agB N G O a d y = false) := hall
    have HO : Hid (Only [] w1 wr) := ho
    have HW : Hid (Only [] w wr) := HO1.out.trans ho (fun _ hk => by cases hk)
    have hR := H.out.only HW.out
    have hc0 := hR.c0
    have b0 := (ho.cell (p := ⟨b, 0, none⟩) (lt_of_cell HB.out.1) (by simp)).trans HB.out.1
    have b1 := (ho.cell (p := ⟨b, 1, none⟩) (lt_of_cell HB.out.2) (by simp)).trans HB.out.2
    have bl := lt_of_cell b0
    clear hall ho
    by_cases hlt : j < n
    · obtain ⟨x, hx⟩ : ∃ x, l[j]? = some x := ⟨_, List.getElem?_eq_getElem (by rw [HN.out]; exact hlt)⟩
      obtain ⟨g, rfl⟩ := HA.out (fun e => by rw [e] at hx; cases hx)
      obtain ⟨c0, c1, c2, c3, c4⟩ := rn_cells hR.own HN.out hx
      have HX : Hid (l[j]? = some x) := hx
      have hokx := HK.out x (List.mem_of_getElem? hx)
      have hji : (j : Int) < n := by omega
      clear hR hx
      have next : agB N G O a d x = false → ∀ q y, q < j + 1 → l[q]? = some y → agB N G O a d y = false := fun hp q y hq hy => by
        rcases Nat.lt_or_ge q j with h1 | h1
        · exact HJ.out q y h1 hy
        · obtain rfl : q = j := by omega
          rw [HX.out] at hy
          cases hy
          exact hp
      have HNX : Hid (agB N G O a d x = false → ∀ q y, q < j + 1 → l[q]? = some y → agB N G O a d y = false) := next
      clear next
      by_cases hN : x.N = N
      · by_cases hG : x.G = G
        · by_cases hO : x.O = O
          · have HP : Hid (agB N G O a d x = false) := by show agB N G O a d x = _; unfold agB byB; simp [hO]
            rw [hN] at c0
            rw [hG] at c1
            rw [hO] at c2
            clear hN hG hO hokx
            go_wp2
            go_roundw
            case rel => exact ⟨j + 1, by go_num, by omega, HNX.out HP.out, HO.out.alloc _⟩
            case measure => simp [intOf]; omega
          · have dO : (x.O == O) = false := beq_eq_false_iff_ne.2 hO
            have dO2 : decide (x.O = O) = false := decide_eq_false hO
            have dO3 : (x.O != O) = true := by simpa using hO
            have HM1 : Hid (∀ W, Calls Tryd.prog 31 #[.int .i64 x.D, .int .i64 a] W fun e w' => e = .returned (.bool (meetB x.D a)) ∧ W = w') := fun W => rmeets_any x.D a W hokx.2.2 ⟨by omega, by omega⟩
            have HM2 : Hid (∀ W, Calls Tryd.prog 31 #[.int .i64 x.A, .int .i64 d] W fun e w' => e = .returned (.bool (meetB x.A d)) ∧ W = w') := fun W => rmeets_any x.A d W ⟨by have := hokx.1; omega, hokx.2.1⟩ hrd
            have HP : Hid (agB N G O a d x = (meetB x.D a || meetB x.A d)) := by show agB N G O a d x = _; unfold agB byB denyB haveB; simp [hN, hG, hO]
            rw [hN] at c0
            rw [hG] at c1
            clear hN hG hokx
            generalize hxO : x.O = xO at *
            generalize hxD : x.D = xD at *
            generalize hxA : x.A = xA at *
            cases hm : meetB xD a with
            | true =>
              rw [hm] at HM1 HP
              rw [Bool.true_or] at HP
              go_wp2_with (first | (go_at_call 31; refine (HM1.out _).mono ?_; rintro e w5 ⟨rfl, rfl⟩) | go_in)
              go_ret
              exact ROpened.same (c := 11) H.out (HW.out.alloc _) rfl (Or.inr (Or.inl ⟨HACC.out, any_some HX.out HP.out, rfl, rfl⟩))
            | false =>
              rw [hm] at HM1 HP
              rw [Bool.false_or] at HP
              cases hm2 : meetB xA d with
              | true =>
                rw [hm2] at HM2 HP
                go_wp2_with (first | (go_at_call 31; refine (HM1.out _).mono ?_; rintro e w5 ⟨rfl, rfl⟩; clear HM1) | (go_at_call 31; refine (HM2.out _).mono ?_; rintro e w5 ⟨rfl, rfl⟩) | go_in)
                go_ret
                exact ROpened.same (c := 11) H.out (HW.out.alloc _) rfl (Or.inr (Or.inl ⟨HACC.out, any_some HX.out HP.out, rfl, rfl⟩))
              | false =>
                rw [hm2] at HM2 HP
                go_wp2_with (first | (go_at_call 31; refine (HM1.out _).mono ?_; rintro e w5 ⟨rfl, rfl⟩; clear HM1) | (go_at_call 31; refine (HM2.out _).mono ?_; rintro e w5 ⟨rfl, rfl⟩) | go_in)
                go_roundw
                case rel => exact ⟨j + 1, by go_num, by omega, HNX.out HP.out, HO.out.alloc _⟩
                case measure => simp [intOf]; omega
        · have HP : Hid (agB N G O a d x = false) := by show agB N G O a d x = _; unfold agB denyB haveB; simp [hG]
          have dG : (x.G == G) = false := beq_eq_false_iff_ne.2 hG
          rw [hN] at c0
          clear hN hG hokx
          go_wp2
          go_roundw
          case rel => exact ⟨j + 1, by go_num, by omega, HNX.out HP.out, HO.out.alloc _⟩
          case measure => simp [intOf]; omega
      · have HP : Hid (agB N G O a d x = false) := by show agB N G O a d x = _; unfold agB denyB haveB; simp [hN]
        have dN : (x.N == N) = false := beq_eq_false_iff_ne.2 hN
        clear hN hokx
        go_wp2
        go_roundw
        case rel => exact ⟨j + 1, by go_num, by omega, HNX.out HP.out, HO.out.alloc _⟩
        case measure => simp [intOf]; omega
    · obtain rfl : j = n := by omega
      have HANY : Hid (l.any (agB N G O a d) = false) := any_none HN.out HJ.out
      clear HJ
      rcases first_cases (keyB N G O) l with hno | ⟨i, x, hx, hp, hfi⟩
      · have HF : Hid (∀ _u : Unit, _) := fun _u => rfind_no wr base t _ l N G O (H.out.only HW.out) (by rw [HN.out]; exact hl) hno
        have HNO : Hid (∀ x ∈ l, ¬ sameO x (keyO N G O)) := not_same hno
        clear hno
        by_cases h40 : 40 ≤ j
        · have d40 : decide ((40 : Int) ≤ (j : Int)) = true := decide_eq_true (by omega)
          have HZ : Hid (∀ W, Only [] w W → W.cell? ⟨t, 0, none⟩ = some (.slice ad j cap)) := fun W ho => (H.out.only ho).c0
          go_wp2_with (first | (go_at_call 32; refine (HF.out ()).mono ?_; rintro e w2 ⟨rfl, ho2⟩; have HO2 : Hid (Only [] w w2) := only_nil HW.out ho2; have z0 := HZ.out w2 HO2.out; clear HF ho2 b0 b1 hc0 bl) | go_in)
          go_ret
          exact ROpened.same (c := 9) H.out HO2.out rfl (Or.inr (Or.inr (Or.inr (Or.inl ⟨HACC.out, HANY.out, HNO.out, by rw [HN.out]; exact h40, rfl, rfl⟩))))
        · have hj40 : j < 40 := by omega
          have d40 : decide ((40 : Int) ≤ (j : Int)) = false := decide_eq_false (by omega)
          obtain ⟨i0, hi0, hz0, hz1, hz2⟩ := roInfo'
          have HZ : Hid (∀ W, Only [] w W → Only [] w1 W → W.cell? ⟨t, 0, none⟩ = some (.slice ad j cap) ∧ W.cell? ⟨b, 0, none⟩ = some (.int .i64 N) ∧ W.cell? ⟨b, 1, none⟩ = some (.int .i64 G)) := fun W ho ho1 => ⟨(H.out.only ho).c0, (ho1.cell (p := ⟨b, 0, none⟩) (lt_of_cell HB.out.1) (by simp)).trans HB.out.1, (ho1.cell (p := ⟨b, 1, none⟩) (lt_of_cell HB.out.2) (by simp)).trans HB.out.2⟩
          have HOW : Hid (∀ W, Only [] w W → (W.alloc (.cells #[.int .i64 N, .int .i64 G, .int .i64 O, .int .i64 a, .int .i64 d] 61)).drew.ownsRow base 61 5 (.slice ad j cap) j (rowOf opC l)) := fun W ho => by have := (H.out.only ((ho.alloc (.cells #[.int .i64 N, .int .i64 G, .int .i64 O, .int .i64 a, .int .i64 d] 61)).drew)).own; unfold Rns at this; rw [HN.out] at this; exact this
          have HNW : Hid (∀ (W : World) (q : Nat) (u : Value), (opC ⟨N, G, O, a, d⟩)[q]? = some u → (W.alloc (.cells #[.int .i64 N, .int .i64 G, .int .i64 O, .int .i64 a, .int .i64 d] 61)).drew.cell? ((⟨W.heap.size, 0, none⟩ : Addr).add q) = some u) := fun W => World.news_of_block (w := (W.alloc (.cells #[.int .i64 N, .int .i64 G, .int .i64 O, .int .i64 a, .int .i64 d] 61)).drew) (heap_alloc_last W _)
          have HFIN : Hid (∀ w2 w6 gl cp, Only [] w w2 → w6.ownsRow base 61 5 (.slice (some ⟨gl, 0, none⟩) (j + 1) cp) (j + 1) (rowOf opC l ++ opC ⟨N, G, O, a, d⟩) → (w2.alloc (.cells #[.int .i64 N, .int .i64 G, .int .i64 O, .int .i64 a, .int .i64 d] 61)).drew.grownBy w6 (Value.slice ad j cap).ownBlock → ((Value.slice ad j cap).ownBlock = some gl ∨ gl = w2.heap.size + 1) → w6.cell? ⟨t, 0, none⟩ = some (.slice ad j cap) ∧ w6.frozen? ⟨t, 0, none⟩ = false ∧ t < w6.heap.size ∧ ROpened w base t (.slice ad j cap) l N G O a d (.returned (.int .i64 0)) (w6.setCell ⟨t, 0, none⟩ (.slice (some ⟨gl, 0, none⟩) (j + 1) cp))) := fun w2 w6 gl cp ho hown hgr hat => by
            have e : (l ++ [(⟨N, G, O, a, d⟩ : Opn)]).length = j + 1 := by rw [List.length_append, HN.out]; rfl
            have hown2 : Rns w6 base (.slice (some ⟨gl, 0, none⟩) (l ++ [(⟨N, G, O, a, d⟩ : Opn)]).length cp) (l ++ [⟨N, G, O, a, d⟩]) := by unfold Rns; rw [e, ← rowOf_push]; exact hown
            have ho5 : Only [] w (w2.alloc (.cells #[.int .i64 N, .int .i64 G, .int .i64 O, .int .i64 a, .int .i64 d] 61)).drew := (ho.alloc _).drew
            have := H.out.pushed ho5 hown2 ((Only.refl _ _).grown hgr (fun k hk => Or.inl (by rw [hk]; simp))) (by rcases hat with h | h; exact Or.inl h; exact Or.inr (by rw [h]; simp))
            rw [e] at this
            obtain ⟨k0, k1, k2, k3, k4, k5⟩ := this
            exact ⟨k0, k1, k2, 0, _, _, rfl, Or.inr (Or.inr (Or.inr (Or.inr ⟨HACC.out, HANY.out, HNO.out, by rw [HN.out]; exact hj40, rfl, rfl⟩))), k3, k4, k5⟩
          have hbs2 : ∀ w2, Only [] w w2 → base ≤ (w2.alloc (.cells #[.int .i64 N, .int .i64 G, .int .i64 O, .int .i64 a, .int .i64 d] 61)).drew.heap.size := fun w2 (ho : Only [] w w2) => by
            have h1 := ho.size
            have e : (w2.alloc (.cells #[.int .i64 N, .int .i64 G, .int .i64 O, .int .i64 a, .int .i64 d] 61)).drew.heap.size = w2.heap.size + 1 := by simp
            omega
          have HBS : Hid (∀ w2, Only [] w w2 → base ≤ (w2.alloc (.cells #[.int .i64 N, .int .i64 G, .int .i64 O, .int .i64 a, .int .i64 d] 61)).drew.heap.size) := hbs2
          clear hbs2 hbs
          go_wp2_with (first | (go_at_call 32; refine (HF.out ()).mono ?_; rintro e w2 ⟨rfl, ho2⟩; have HO2 : Hid (Only [] w w2) := only_nil HW.out ho2; obtain ⟨z0, z1, z2⟩ := HZ.out w2 HO2.out (only_nil HO.out ho2); have HS2 : Hid (w2.drew.cell? ⟨t, 0, none⟩ = some (.slice ad j cap) ∧ w2.drew.cell? ⟨b, 0, none⟩ = some (.int .i64 N) ∧ w2.drew.cell? ⟨b, 1, none⟩ = some (.int .i64 G)) := ⟨z0, z1, z2⟩; have HSA : Hid ((w2.alloc (.cells #[.int .i64 N, .int .i64 G, .int .i64 O, .int .i64 a, .int .i64 d] 61)).drew.cell? ⟨t, 0, none⟩ = some (.slice ad j cap) ∧ (w2.alloc (.cells #[.int .i64 N, .int .i64 G, .int .i64 O, .int .i64 a, .int .i64 d] 61)).drew.cell? ⟨b, 0, none⟩ = some (.int .i64 N) ∧ (w2.alloc (.cells #[.int .i64 N, .int .i64 G, .int .i64 O, .int .i64 a, .int .i64 d] 61)).drew.cell? ⟨b, 1, none⟩ = some (.int .i64 G)) := HZ.out _ (HO2.out.alloc _).drew ((only_nil HO.out ho2).alloc _).drew; clear HF ho2 b0 b1 hc0 bl) | go_in)
          clear z0 z1 z2
          go_region_held3 (fun W => W.cell? ⟨t, 0, none⟩ = some (.slice ad j cap) ∧ W.cell? ⟨b, 0, none⟩ = some (.int .i64 N) ∧ W.cell? ⟨b, 1, none⟩ = some (.int .i64 G)) (with_reducible first | exact HS2.out | exact HSA.out | exact HS6.out)
            ((refine step_append_lies _ (by rfl) (.tmp 107) (.tmp 113) 29 (by rfl) base 61 i0 _ 5 40 rosUnd hi0 hz0 hz1 hz2 (by rfl) (by decide) (.slice ad j cap) j (rowOf opC l) (by rfl) (HOW.out w2 HO2.out) ⟨w2.heap.size, 0, none⟩ 1 1 (opC ⟨N, G, O, a, d⟩) (by rfl) (by rfl) (HNW.out w2) (opC_one _) (by decide) (by unfold maxLen; omega) (by omega) (HBS.out w2 HO2.out) (w2.heap.size + 1) (by simp) ?_; intro gl cp w6 hown6 hgr6 hat6 hlt6; obtain ⟨k0, k1, k2, hR⟩ := HFIN.out w2 w6 gl cp HO2.out hown6 hgr6 hat6; have HR : Hid (ROpened w base t (.slice ad j cap) l N G O a d (.returned (.int .i64 0)) (w6.setCell ⟨t, 0, none⟩ (.slice (some ⟨gl, 0, none⟩) (j + 1) cp))) := hR; have hq : Only (Value.slice ad j cap).ownBlock.toList (w2.alloc (.cells #[.int .i64 N, .int .i64 G, .int .i64 O, .int .i64 a, .int .i64 d] 61)).drew w6 := (Only.refl _ _).grown hgr6 (fun k hk => Or.inl (by rw [hk]; simp)); have hbn : b ∉ (Value.slice ad j cap).ownBlock.toList := fun hm => absurd (HBG.out b (by simpa using hm)) (Nat.lt_irrefl _); have HS6 : Hid (w6.cell? ⟨t, 0, none⟩ = some (.slice ad j cap) ∧ w6.cell? ⟨b, 0, none⟩ = some (.int .i64 N) ∧ w6.cell? ⟨b, 1, none⟩ = some (.int .i64 G)) := ⟨k0, (hq.cell (p := ⟨b, 0, none⟩) (lt_of_cell HSA.out.2.1) hbn).trans HSA.out.2.1, (hq.cell (p := ⟨b, 1, none⟩) (lt_of_cell HSA.out.2.2) hbn).trans HSA.out.2.2⟩; clear hown6 hgr6 hat6 hR hq hbn))
          go_wp2
          go_ret
          exact HR.out
      · have hokx := HK.out x (List.mem_of_getElem? hx)
        have hin : i < j := by have := (List.getElem?_eq_some_iff.1 hx).1; rw [HN.out] at this; exact this
        obtain ⟨g, rfl⟩ := HA.out (fun e => by rw [e] at hx; cases hx)
        have HF : Hid (∀ _u : Unit, _) := fun _u => rfind_at wr base t _ l N G O i x (H.out.only HW.out) (by rw [HN.out]; exact hl) hx hp hfi
        have HM1 : Hid (∀ W, Calls Tryd.prog 33 #[.int .i64 x.A, .int .i64 a] W fun e w' => e = .returned (.int .i64 (sumB x.A a)) ∧ W = w') := fun W => rsum_any x.A a W ⟨by have := hokx.1; omega, hokx.2.1⟩ ⟨by omega, by omega⟩
        have HM2 : Hid (∀ W, Calls Tryd.prog 33 #[.int .i64 x.D, .int .i64 d] W fun e w' => e = .returned (.int .i64 (sumB x.D d)) ∧ W = w') := fun W => rsum_any x.D d W hokx.2.2 hrd
        have HR : Hid (ROpenR l N G O a d 0 (l.set i { x with A := sumB x.A a, D := sumB x.D d })) := Or.inr (Or.inr (Or.inl ⟨i, x, HACC.out, HANY.out, hx, key_same hp, rfl, rfl⟩))
        have HZ : Hid (∀ W, Only [] w W → _) := fun W ho => And.intro (H.out.cellsAt HN.out hx W ho) (H.out.set2 HN.out hx (sumB x.A a) (sumB x.D d) W ho)
        clear hx hp hfi hokx hbs
        generalize l.set i { x with A := sumB x.A a, D := sumB x.D d } = l' at HZ HR
        generalize sumB x.A a = sA at *
        generalize sumB x.D d = sD at *
        generalize x.A = xA at *
        generalize x.D = xD at *
        have hii : (i : Int) < j := by omega
        go_wp2_with (first | (go_at_call 32; refine (HF.out ()).mono ?_; rintro e w2 ⟨rfl, ho2⟩; have HO2 : Hid (Only [] w w2) := only_nil HW.out ho2; obtain ⟨⟨k0, _, _, _, k3, k4⟩, f0, f1, f2, f3, f4, f5, hS, hO⟩ := HZ.out w2 HO2.out; have HS : Hid (RsAt ((w2.setCell ⟨g, i * 5 + 3, none⟩ (.int .i64 sA)).setCell ⟨g, i * 5 + 4, none⟩ (.int .i64 sD)) base t (.slice (some ⟨g, 0, none⟩) j cap) l' ∧ Only [t, g] w ((w2.setCell ⟨g, i * 5 + 3, none⟩ (.int .i64 sA)).setCell ⟨g, i * 5 + 4, none⟩ (.int .i64 sD))) := ⟨hS, hO⟩; clear hS hO; clear HF ho2 b0 b1 hc0 bl) | go_in)
        go_cut [14] (fun kx wx => kx = .int .i64 i ∧ wx = (w2.setCell ⟨g, i * 5 + 3, none⟩ (.int .i64 sA)).drew)
        case first =>
          go_region_with (go_at_call 33; refine (HM1.out _).mono ?_; rintro e w5 ⟨rfl, rfl⟩)
          all_goals
            go_wp2
            go_meet
            exact ⟨rfl, rfl⟩
        case rest =>
          obtain ⟨rfl, rfl⟩ := hcut
          clear k0 k3
          go_wp2
          go_region_with (go_at_call 33; refine (HM2.out _).mono ?_; rintro e w5 ⟨rfl, rfl⟩)
          all_goals go_wp2
          all_goals go_ret
          all_goals exact ⟨0, _, l', rfl, HR.out, HS.out.1.only ((Only.refl [] _).drewsN 2), HS.out.2.drewsN 2, fun _ hk => Or.inl hk⟩
theorem ropen_any (w : World) (base t : Nat) (v : Value) (l : List Opn) (N G O a d : Int) (h : RsAt w base t v l) (hl : l.length ≤ 40) (hok : ∀ x ∈ l, OkO x) (hbs : base ≤ w.heap.size) :
    Calls Tryd.prog 7 #[.pointer (some ⟨t, 0, none⟩), .agg #[.int .i64 N, .int .i64 G], .int .i64 O, .int .i64 a, .int .i64 d] w (ROpened w base t v l N G O a d) := by
  cases hb : (accB a && denB d) with
  | false => exact ropen_bound w base t v l N G O a d h hb
  | true => exact ropen_in w base t v l N G O a d h hl hok hbs hb
end Go.Proofs.YtagpahgjbglmaaaDoor
