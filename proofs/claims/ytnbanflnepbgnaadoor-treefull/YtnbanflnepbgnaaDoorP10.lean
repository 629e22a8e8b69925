/- TreeFull: the walk. -/
import Derived.Test.YtnbanflnepbgnaaDoorU23
/- TreeFull: the walk. -/
namespace Go.Proofs.YtnbanflnepbgnaaDoor
open Go Go.RowKit Go.Deep Go.Maps

def fullAt (j : Nat) : Nat := if j < 60 then j else 60
def linkAt (j : Nat) : Nat := if j < 7 then j else 7
theorem Four.only {w W : World} {bx bd : Nat} {D : Nat} {L : List Nat} (h : w.cell? ⟨bx, 0, none⟩ = some (.int .i64 1) ∧ w.cell? ⟨bx, 1, none⟩ = some (.int .i64 0) ∧ w.cell? ⟨bd, 0, none⟩ = some (.int .i64 D) ∧ w.cell? ⟨bd, 1, none⟩ = some (.int .i64 0)) (ho : Only L w W) (h1 : bx ∉ L) (h2 : bd ∉ L) : W.cell? ⟨bx, 0, none⟩ = some (.int .i64 1) ∧ W.cell? ⟨bx, 1, none⟩ = some (.int .i64 0) ∧ W.cell? ⟨bd, 0, none⟩ = some (.int .i64 D) ∧ W.cell? ⟨bd, 1, none⟩ = some (.int .i64 0) :=
  ⟨(ho.cell (p := ⟨bx, 0, none⟩) (lt_of_cell h.1) h1).trans h.1, (ho.cell (p := ⟨bx, 1, none⟩) (lt_of_cell h.2.1) h1).trans h.2.1, (ho.cell (p := ⟨bd, 0, none⟩) (lt_of_cell h.2.2.1) h2).trans h.2.2.1, (ho.cell (p := ⟨bd, 1, none⟩) (lt_of_cell h.2.2.2) h2).trans h.2.2.2⟩
theorem dec_size (q : Nat) : (bs (decL q)).size ≤ 2 := by
  show (decL q).toArray.size ≤ 2
  unfold decL
  split <;> simp
theorem f_add (q : Nat) : (⟨#[102]⟩ : ByteArray) ++ bs (decL q) = lettered 102 q := by
  show bs [102] ++ bs (decL q) = _
  rw [bs_append]
  rfl
theorem l_add (q : Nat) : (⟨#[108]⟩ : ByteArray) ++ bs (decL q) = lettered 108 q := by
  show bs [108] ++ bs (decL q) = _
  rw [bs_append]
  rfl
theorem full_low {W w : World} {tr j : Nat} {T : Tr} {A : Nat → Addr} (h : Full1 W w tr T (fullAt j)) (hE : Errs W A) (hc : j < 60) :
    Calls Tryd.prog 6 #[.pointer (some ⟨tr, 0, none⟩), .agg #[.int .i64 0, .int .i64 0], .string (lettered 102 j), .int .i64 1] w fun e w' => e = .returned (.tuple #[.agg #[.int .i64 ((j + 1 : Nat) : Int), .int .i64 0], .nilIface]) ∧ ∃ T', Full1 W w' tr T' (fullAt (j + 1)) := by
  unfold fullAt at h ⊢
  rw [if_pos hc] at h
  refine (h.create hE hc).mono fun e w' hh => ⟨hh.1, ?_⟩
  obtain ⟨T', h'⟩ := hh.2
  refine ⟨T', ?_⟩
  by_cases h2 : j + 1 < 60
  · rw [if_pos h2]; exact h'
  · rw [if_neg h2, show 60 = j + 1 by omega]; exact h'
theorem full_high {W w : World} {tr j : Nat} {T : Tr} {A : Nat → Addr} (h : Full1 W w tr T (fullAt j)) (hE : Errs W A) (hc : 60 ≤ j) (hj : j < 100) :
    Calls Tryd.prog 6 #[.pointer (some ⟨tr, 0, none⟩), .agg #[.int .i64 0, .int .i64 0], .string (lettered 102 j), .int .i64 1] w fun e w' => e = .returned (.tuple #[.agg #[.int .i64 0, .int .i64 0], .iface 123 (.pointer (some (A 8)))]) ∧ ∃ T', Full1 W w' tr T' (fullAt (j + 1)) := by
  unfold fullAt at h ⊢
  rw [if_neg (by omega)] at h
  refine (h.full hE (by omega) (by omega)).mono fun e w' hh => ⟨hh.1, T, ?_⟩
  rw [if_neg (by omega)]
  exact hh.2
theorem link_low {W w : World} {tr D j : Nat} {T : Tr} {A : Nat → Addr} (h : Full2 W w tr T D (linkAt j)) (hE : Errs W A) (hc : j < 7) :
    Calls Tryd.prog 11 #[.pointer (some ⟨tr, 0, none⟩), .agg #[.int .i64 1, .int .i64 0], .agg #[.int .i64 D, .int .i64 0], .string (lettered 108 j)] w fun e w' => e = .returned .nilIface ∧ (∃ T' L, Full2 W w' tr T' D (linkAt (j + 1)) ∧ (∀ k, FootT tr T' k → FootT tr T k) ∧ Only L w w' ∧ ∀ k ∈ L, FootT tr T k) := by
  unfold linkAt at h ⊢
  rw [if_pos hc] at h
  refine (h.link hE hc).mono fun e w' hh => ⟨hh.1, ?_⟩
  obtain ⟨T', L, h', hr⟩ := hh.2
  refine ⟨T', L, ?_, hr⟩
  by_cases h2 : j + 1 < 7
  · rw [if_pos h2]; exact h'
  · rw [if_neg h2, show 7 = j + 1 by omega]; exact h'
theorem link_high {W w : World} {tr D j : Nat} {T : Tr} {A : Nat → Addr} (h : Full2 W w tr T D (linkAt j)) (hE : Errs W A) (hc : 7 ≤ j) (hj : j < 100) :
    Calls Tryd.prog 11 #[.pointer (some ⟨tr, 0, none⟩), .agg #[.int .i64 1, .int .i64 0], .agg #[.int .i64 D, .int .i64 0], .string (lettered 108 j)] w fun e w' => e = .returned (.iface 123 (.pointer (some (A 8)))) ∧ (∃ T' L, Full2 W w' tr T' D (linkAt (j + 1)) ∧ (∀ k, FootT tr T' k → FootT tr T k) ∧ Only L w w' ∧ ∀ k ∈ L, FootT tr T k) := by
  unfold linkAt at h ⊢
  rw [if_neg (by omega)] at h
  refine (h.full hE hc hj).mono fun e w' hh => ⟨hh.1, ?_⟩
  rw [if_neg (by omega)]
  exact hh.2
set_option maxRecDepth 100000 in
set_option maxHeartbeats 4000000 in
theorem tfull_walk (n k : Nat) (A : Nat → Addr) (w : World) (hn : n ≤ 65) (hk : k ≤ 12) (hE : Errs w A) :
    Calls Tryd.prog 3 #[.int .i64 n, .int .i64 k] w fun e w' => e = .returned (.bool true) ∧ Below w.heap.size w w' := by
  have hroot := rooted_any A w hE
  have HE : Hid (Errs w A) := hE
  have hd1 : decide (65 < (n : Int)) = false := decide_eq_false (by omega)
  have hd2 : decide (12 < (k : Int)) = false := decide_eq_false (by omega)
  clear hE
  go_enter Tryd.func3, Tryd.ntmps3
  go_wp2_with (first
    | (go_at_call 4; go_must (refine hroot.mono ?_); rintro e w1 ⟨rfl, hb1⟩; have hnew := tree_new w1 300 (by decide) (by decide))
    | (go_at_call 5; go_must (refine hnew.mono ?_); rintro e w2 ⟨tr, t, p, b, db, B, pb, rfl, hT2, ho2, hN2, h1, h2, h3, h4, h5, h6, h7⟩; have HF0 : Hid (∃ T, Full1 w w2 tr T (fullAt 0)) := ⟨_, Full1.start hT2 (hb1.trans (ho2.to_below hb1.size (fun k hk => by cases hk))) hN2 (Nat.le_trans hb1.size h1) (Nat.le_trans hb1.size h2) (Nat.le_trans hb1.size h3) (Nat.le_trans hb1.size h4) (Nat.le_trans hb1.size h5) (Nat.le_trans hb1.size h6) (fun k hk => Nat.le_trans hb1.size (h7 k hk))⟩; clear hT2 ho2 hN2 h1 h2 h3 h4 h5 h6 h7 hnew hroot hb1)
    | go_in)
  clear hd1 hd2
  go_loopw [8] (fun i wr => ∃ j : Nat, j ≤ n ∧ i = .int .i64 j ∧ ∃ T, Full1 w wr tr T (fullAt j)) (fun i _ => n - (intOf i).toNat)
  case atStart => exact ⟨0, Nat.zero_le _, rfl, HF0.out⟩
  case round =>
    obtain ⟨j, hj, rfl, T, hF⟩ := hrel
    have HF : Hid (Full1 w wr tr T (fullAt j)) := hF
    clear hF HF0
    by_cases hlt : j < n
    · by_cases hc : j < 60
      · have hdc : decide (60 ≤ (j : Int)) = false := decide_eq_false (by omega)
        have HC : Hid (∀ W', Only [] wr W' → Calls Tryd.prog 6 #[.pointer (some ⟨tr, 0, none⟩), .agg #[.int .i64 0, .int .i64 0], .string ((⟨#[102]⟩ : ByteArray) ++ bs (decL j)), .int .i64 1] W' fun e w' => e = .returned (.tuple #[.agg #[.int .i64 ((j + 1 : Nat) : Int), .int .i64 0], .nilIface]) ∧ ∃ T', Full1 w w' tr T' (fullAt (j + 1))) := fun W' ho => by
          rw [f_add]
          exact full_low (HF.out.only ho) HE.out hc
        have HX : Hid (∀ W', Below w.heap.size w W' → Calls Tryd.prog 9 #[.nilIface, .int .i64 0] W' fun e w' => e = .returned (.bool true) ∧ Only [] W' w') := fun W' _ => (coded_nil W').mono fun e w' hh => ⟨hh.1, by rw [hh.2]; exact Only.refl _ _⟩
        generalize ((j + 1 : Nat) : Int) = V at HC
        have hrt := root_any wr (.pointer (some ⟨tr, 0, none⟩))
        have hsz := dec_size j
        go_wp2_with (first
          | (go_at_call 7; go_must (refine hrt.mono ?_); rintro e w3 ⟨rfl, ho3⟩; have hdec := decimal_any j w3 (by omega); clear hrt)
          | (go_at_call 8; go_must (refine hdec.mono ?_); rintro e w4 ⟨rfl, hb4⟩; have hcr := HC.out w4 (ho3.trans (Only.of_below hb4 []) (fun _ hk => by cases hk)); clear hdec ho3 hb4)
          | (go_at_call 6; go_must (refine hcr.mono ?_); rintro e w5 ⟨rfl, T5, hF5⟩; have HF5 : Hid (Full1 w (w5.alloc (.cells #[.int .i64 V, .int .i64 0] 29)) tr T5 (fullAt (j + 1))) := hF5.only ((Only.refl [] _).alloc _); have hco := HX.out _ HF5.out.below; clear hcr hF5)
          | (go_at_call 9; go_must (refine hco.mono ?_); rintro e w6 ⟨rfl, ho6⟩; have HF6 : Hid (Full1 w w6 tr T5 (fullAt (j + 1))) := HF5.out.only ho6; clear hco ho6)
          | go_in)
        go_roundw
        case rel => exact ⟨j + 1, by omega, by go_num, T5, HF6.out⟩
        case measure => simp [intOf]; omega
      · have hdc : decide (60 ≤ (j : Int)) = true := decide_eq_true (by omega)
        have HC : Hid (∀ W', Only [] wr W' → Calls Tryd.prog 6 #[.pointer (some ⟨tr, 0, none⟩), .agg #[.int .i64 0, .int .i64 0], .string ((⟨#[102]⟩ : ByteArray) ++ bs (decL j)), .int .i64 1] W' fun e w' => e = .returned (.tuple #[.agg #[.int .i64 0, .int .i64 0], .iface 123 (.pointer (some (A 8)))]) ∧ ∃ T', Full1 w w' tr T' (fullAt (j + 1))) := fun W' ho => by
          rw [f_add]
          exact full_high (HF.out.only ho) HE.out (by omega) (by omega)
        have HX : Hid (∀ W', Below w.heap.size w W' → Calls Tryd.prog 9 #[.iface 123 (.pointer (some (A 8))), .int .i64 9] W' fun e w' => e = .returned (.bool true) ∧ Only [] W' w') := fun W' hb => (coded_err A 8 (by decide) W' (HE.out.below hb (Nat.le_refl _))).mono fun e w' hh => ⟨hh.1, Only.of_below hh.2 []⟩
        have hrt := root_any wr (.pointer (some ⟨tr, 0, none⟩))
        have hsz := dec_size j
        go_wp2_with (first
          | (go_at_call 7; go_must (refine hrt.mono ?_); rintro e w3 ⟨rfl, ho3⟩; have hdec := decimal_any j w3 (by omega); clear hrt)
          | (go_at_call 8; go_must (refine hdec.mono ?_); rintro e w4 ⟨rfl, hb4⟩; have hcr := HC.out w4 (ho3.trans (Only.of_below hb4 []) (fun _ hk => by cases hk)); clear hdec ho3 hb4)
          | (go_at_call 6; go_must (refine hcr.mono ?_); rintro e w5 ⟨rfl, T5, hF5⟩; have HF5 : Hid (Full1 w (w5.alloc (.cells #[.int .i64 0, .int .i64 0] 29)) tr T5 (fullAt (j + 1))) := hF5.only ((Only.refl [] _).alloc _); have hco := HX.out _ HF5.out.below; clear hcr hF5)
          | (go_at_call 9; go_must (refine hco.mono ?_); rintro e w6 ⟨rfl, ho6⟩; have HF6 : Hid (Full1 w w6 tr T5 (fullAt (j + 1))) := HF5.out.only ho6; clear hco ho6)
          | go_in)
        go_roundw
        case rel => exact ⟨j + 1, by omega, by go_num, T5, HF6.out⟩
        case measure => simp [intOf]; omega
    · obtain rfl : j = n := by omega
      by_cases hz : j = 0 ∨ 60 ≤ j
      · have hq : (decide ((j : Int) = 0) || decide (60 ≤ (j : Int))) = true := by rcases hz with h | h <;> simp [h] <;> omega
        have hb := HF.out.below
        have HB : Hid (Below w.heap.size w wr) := hb
        clear hb
        rcases hz with rfl | h60
        · go_wp2
          go_ret
          exact ⟨rfl, HB.out⟩
        · have hd0 : decide ((j : Int) = 0) = false := decide_eq_false (by omega)
          have hd6 : decide (60 ≤ (j : Int)) = true := decide_eq_true (by omega)
          go_wp2
          go_ret
          exact ⟨rfl, HB.out⟩
      · have hd0 : decide ((j : Int) = 0) = false := decide_eq_false (by omega)
        have hd6 : decide (60 ≤ (j : Int)) = false := decide_eq_false (by omega)
        have HF' : Hid (Full1 w wr tr T j) := show Full1 w wr tr T j from by have h := HF.out; unfold fullAt at h; rw [if_pos (by omega)] at h; exact h
        have hrt := root_any wr (.pointer (some ⟨tr, 0, none⟩))
        clear HF
        go_wp2_with (first
          | (go_at_call 7; refine hrt.mono ?_; rintro e w3 ⟨rfl, ho3⟩; have hmk := (HF'.out.only ho3).mkdir HE.out (by omega) (by omega); clear hrt ho3)
          | (go_at_call 6; go_must (refine hmk.mono ?_); rintro e w4 ⟨rfl, T2, hF4⟩; have HF4 : Hid (Full2 w (w4.alloc (.cells #[.int .i64 ((j + 1 : Nat) : Int), .int .i64 0] 29)) tr T2 (j + 1) 0 ∧ ¬ FootT tr T2 w4.heap.size) := ⟨hF4.only ((Only.refl [] _).alloc _), fun hk => absurd (hF4.tree.foot_lt _ hk) (by omega)⟩; have hrt2 := root_any (w4.alloc (.cells #[.int .i64 ((j + 1 : Nat) : Int), .int .i64 0] 29)) (.pointer (some ⟨tr, 0, none⟩)); clear hmk hF4)
          | (go_at_call 7; go_must (refine hrt2.mono ?_); rintro e w5 ⟨rfl, ho5⟩; have HO5 : Hid (Only [] (w4.alloc (.cells #[.int .i64 ((j + 1 : Nat) : Int), .int .i64 0] 29)) w5) := ho5; have hlk := (HF4.out.1.only ho5).look HE.out; clear hrt2 ho5)
          | (go_at_call 10; go_must (refine hlk.mono ?_); rintro e w6 ⟨rfl, hF6, ho6⟩; have HO6 : Hid (Only [] (w4.alloc (.cells #[.int .i64 ((j + 1 : Nat) : Int), .int .i64 0] 29)) w6) := HO5.out.trans ho6 (fun _ hk => by cases hk); have HF6 : Hid (Full2 w w6 tr T2 (j + 1) 0) := hF6; clear hlk hF6 ho6)
          | go_in)
        have hh4 := heap_alloc_last w4 (.cells #[.int .i64 ((j + 1 : Nat) : Int), .int .i64 0] 29)
        have hh6 := heap_alloc_last w6 (.cells #[.int .i64 1, .int .i64 0] 29)
        have o6 : Only [] w6 (w6.alloc (.cells #[.int .i64 1, .int .i64 0] 29)) := (Only.refl [] _).alloc _
        have HS : Hid ((w6.alloc (.cells #[.int .i64 1, .int .i64 0] 29)).cell? ⟨w6.heap.size, 0, none⟩ = some (.int .i64 1) ∧ (w6.alloc (.cells #[.int .i64 1, .int .i64 0] 29)).cell? ⟨w6.heap.size, 1, none⟩ = some (.int .i64 0) ∧ (w6.alloc (.cells #[.int .i64 1, .int .i64 0] 29)).cell? ⟨w4.heap.size, 0, none⟩ = some (.int .i64 ((j + 1 : Nat) : Int)) ∧ (w6.alloc (.cells #[.int .i64 1, .int .i64 0] 29)).cell? ⟨w4.heap.size, 1, none⟩ = some (.int .i64 0)) := by
          have o46 := HO6.out.trans o6 (fun _ hk => by cases hk)
          exact ⟨cell_of_row _ _ 0 _ _ _ hh6, cell_of_row _ _ 1 _ _ _ hh6, (o46.cell (p := ⟨w4.heap.size, 0, none⟩) (by simp) (by simp)).trans (cell_of_row _ _ 0 _ _ _ hh4), (o46.cell (p := ⟨w4.heap.size, 1, none⟩) (by simp) (by simp)).trans (cell_of_row _ _ 1 _ _ _ hh4)⟩
        have HI : Hid (Full2 w (w6.alloc (.cells #[.int .i64 1, .int .i64 0] 29)) tr T2 (j + 1) 0 ∧ (¬ FootT tr T2 w6.heap.size) ∧ ¬ FootT tr T2 w4.heap.size) := ⟨HF6.out.only o6, fun hk => absurd (HF6.out.tree.foot_lt _ hk) (by omega), HF4.out.2⟩
        clear hh4 hh6 o6 HF4 HO5 HO6 HF6 HF' hd0 hd6 hz hj
        generalize w6.alloc (.cells #[.int .i64 1, .int .i64 0] 29) = w7 at HS HI ⊢
        generalize w6.heap.size = bx at HS HI ⊢
        generalize w4.heap.size = bd at HS HI ⊢
        generalize (j + 1) = D at HS HI ⊢
        go_loopw [15] (fun i wr => ∃ q : Nat, q ≤ k ∧ i = .int .i64 q ∧ ∃ T, Full2 w wr tr T D (linkAt q) ∧ (¬ FootT tr T bx) ∧ (¬ FootT tr T bd) ∧ wr.cell? ⟨bx, 0, none⟩ = some (.int .i64 1) ∧ wr.cell? ⟨bx, 1, none⟩ = some (.int .i64 0) ∧ wr.cell? ⟨bd, 0, none⟩ = some (.int .i64 D) ∧ wr.cell? ⟨bd, 1, none⟩ = some (.int .i64 0)) (fun i _ => k - (intOf i).toNat)
        case atStart => exact ⟨0, Nat.zero_le _, rfl, T2, HI.out.1, HI.out.2.1, HI.out.2.2, HS.out⟩
        case round =>
          obtain ⟨q, hq, rfl, T2, hF2, hx, hd, hS⟩ := hrel
          clear HS HI
          have HS : Hid (wr.cell? ⟨bx, 0, none⟩ = some (.int .i64 1) ∧ wr.cell? ⟨bx, 1, none⟩ = some (.int .i64 0) ∧ wr.cell? ⟨bd, 0, none⟩ = some (.int .i64 D) ∧ wr.cell? ⟨bd, 1, none⟩ = some (.int .i64 0)) := hS
          have HF2 : Hid (Full2 w wr tr T2 D (linkAt q)) := hF2
          have HAW : Hid ((¬ FootT tr T2 bx) ∧ ¬ FootT tr T2 bd) := ⟨hx, hd⟩
          clear hF2 hx hd hS
          by_cases hlt : q < k
          · have hadd : ∀ W : World, (Op.stringOp .add (⟨#[108]⟩ : ByteArray) (bs (decL q))).run Tryd.prog W = .ok (.string ((⟨#[108]⟩ : ByteArray) ++ bs (decL q))) W := fun W => run_string_add W _ _ (by decide) (by have := dec_size q; omega)
            have hsz := dec_size q
            by_cases hc : q < 7
            · have hdc : decide (8 ≤ (q : Int) + 1) = false := decide_eq_false (by omega)
              have HC : Hid (∀ W', Only [] wr W' → Calls Tryd.prog 11 #[.pointer (some ⟨tr, 0, none⟩), .agg #[.int .i64 1, .int .i64 0], .agg #[.int .i64 D, .int .i64 0], .string ((⟨#[108]⟩ : ByteArray) ++ bs (decL q))] W' fun e w' => e = .returned .nilIface ∧ ∃ T' L, Full2 w w' tr T' D (linkAt (q + 1)) ∧ (∀ k, FootT tr T' k → FootT tr T2 k) ∧ Only L W' w' ∧ ∀ k ∈ L, FootT tr T2 k) := fun W' ho => by
                rw [l_add]
                exact link_low (HF2.out.only ho) HE.out hc
              have HX : Hid (∀ W', Below w.heap.size w W' → Calls Tryd.prog 9 #[.nilIface, .int .i64 0] W' fun e w' => e = .returned (.bool true) ∧ Only [] W' w') := fun W' _ => (coded_nil W').mono fun e w' hh => ⟨hh.1, by rw [hh.2]; exact Only.refl _ _⟩
              go_wp2
              have HS0 : Hid (wr.drew.cell? ⟨bx, 0, none⟩ = some (.int .i64 1) ∧ wr.drew.cell? ⟨bx, 1, none⟩ = some (.int .i64 0) ∧ wr.drew.cell? ⟨bd, 0, none⟩ = some (.int .i64 D) ∧ wr.drew.cell? ⟨bd, 1, none⟩ = some (.int .i64 0)) := Four.only HS.out ((Only.refl [] wr).drew) (by simp) (by simp)
              go_region_held3 (fun W => W.cell? ⟨bx, 0, none⟩ = some (.int .i64 1) ∧ W.cell? ⟨bx, 1, none⟩ = some (.int .i64 0) ∧ W.cell? ⟨bd, 0, none⟩ = some (.int .i64 D) ∧ W.cell? ⟨bd, 1, none⟩ = some (.int .i64 0)) (first | exact HS0.out | exact hS2.out | exact hS3.out | exact hS4.out)
                (first
                  | (go_at_call 8; refine (decimal_any q _ (by omega)).mono ?_; rintro e w7 ⟨rfl, hb7⟩; have ho7 : Only [] wr w7 := (Only.refl [] wr).drew.trans (Only.of_below hb7 []) (fun _ hk => by cases hk); have hS2 : Hid (w7.cell? ⟨bx, 0, none⟩ = some (.int .i64 1) ∧ w7.cell? ⟨bx, 1, none⟩ = some (.int .i64 0) ∧ w7.cell? ⟨bd, 0, none⟩ = some (.int .i64 D) ∧ w7.cell? ⟨bd, 1, none⟩ = some (.int .i64 0)) := Four.only HS.out ho7 (by simp) (by simp); have hcl := HC.out w7 ho7; have HF7 : Hid (Full2 w w7 tr T2 D (linkAt q)) := HF2.out.only ho7; clear ho7 hb7)
                  | (go_at_call 11; refine hcl.mono ?_; rintro e w8 ⟨rfl, T8, L8, hF8, hs8, ho8, hl8⟩; have hS3 : Hid (w8.cell? ⟨bx, 0, none⟩ = some (.int .i64 1) ∧ w8.cell? ⟨bx, 1, none⟩ = some (.int .i64 0) ∧ w8.cell? ⟨bd, 0, none⟩ = some (.int .i64 D) ∧ w8.cell? ⟨bd, 1, none⟩ = some (.int .i64 0)) := Four.only hS2.out ho8 (fun hm => HAW.out.1 (hl8 _ hm)) (fun hm => HAW.out.2 (hl8 _ hm)); have HF8 : Hid (Full2 w w8 tr T8 D (linkAt (q + 1)) ∧ (¬ FootT tr T8 bx) ∧ ¬ FootT tr T8 bd) := ⟨hF8, fun hk => HAW.out.1 (hs8 _ hk), fun hk => HAW.out.2 (hs8 _ hk)⟩; have hco := HX.out w8 hF8.below; clear hF8 hs8 ho8 hl8 hcl)
                  | (go_at_call 9; refine hco.mono ?_; rintro e w9 ⟨rfl, ho9⟩; have hS4 : Hid (w9.cell? ⟨bx, 0, none⟩ = some (.int .i64 1) ∧ w9.cell? ⟨bx, 1, none⟩ = some (.int .i64 0) ∧ w9.cell? ⟨bd, 0, none⟩ = some (.int .i64 D) ∧ w9.cell? ⟨bd, 1, none⟩ = some (.int .i64 0)) := Four.only hS3.out ho9 (by simp) (by simp); have HF9 : Hid (Full2 w w9 tr T8 D (linkAt (q + 1)) ∧ (¬ FootT tr T8 bx) ∧ ¬ FootT tr T8 bd) := ⟨HF8.out.1.only ho9, HF8.out.2⟩; clear ho9 hco))
              go_wp2
              go_roundw
              case rel => exact ⟨q + 1, by omega, by go_num, T8, HF9.out.1, HF9.out.2.1, HF9.out.2.2, hS4.out⟩
              case measure => simp [intOf]; omega
            · have hdc : decide (8 ≤ (q : Int) + 1) = true := decide_eq_true (by omega)
              have HC : Hid (∀ W', Only [] wr W' → Calls Tryd.prog 11 #[.pointer (some ⟨tr, 0, none⟩), .agg #[.int .i64 1, .int .i64 0], .agg #[.int .i64 D, .int .i64 0], .string ((⟨#[108]⟩ : ByteArray) ++ bs (decL q))] W' fun e w' => e = .returned (.iface 123 (.pointer (some (A 8)))) ∧ ∃ T' L, Full2 w w' tr T' D (linkAt (q + 1)) ∧ (∀ k, FootT tr T' k → FootT tr T2 k) ∧ Only L W' w' ∧ ∀ k ∈ L, FootT tr T2 k) := fun W' ho => by
                rw [l_add]
                exact link_high (HF2.out.only ho) HE.out (by omega) (by omega)
              have HX : Hid (∀ W', Below w.heap.size w W' → Calls Tryd.prog 9 #[.iface 123 (.pointer (some (A 8))), .int .i64 9] W' fun e w' => e = .returned (.bool true) ∧ Only [] W' w') := fun W' hb => (coded_err A 8 (by decide) W' (HE.out.below hb (Nat.le_refl _))).mono fun e w' hh => ⟨hh.1, Only.of_below hh.2 []⟩
              go_wp2
              have HS0 : Hid (wr.drew.cell? ⟨bx, 0, none⟩ = some (.int .i64 1) ∧ wr.drew.cell? ⟨bx, 1, none⟩ = some (.int .i64 0) ∧ wr.drew.cell? ⟨bd, 0, none⟩ = some (.int .i64 D) ∧ wr.drew.cell? ⟨bd, 1, none⟩ = some (.int .i64 0)) := Four.only HS.out ((Only.refl [] wr).drew) (by simp) (by simp)
              go_region_held3 (fun W => W.cell? ⟨bx, 0, none⟩ = some (.int .i64 1) ∧ W.cell? ⟨bx, 1, none⟩ = some (.int .i64 0) ∧ W.cell? ⟨bd, 0, none⟩ = some (.int .i64 D) ∧ W.cell? ⟨bd, 1, none⟩ = some (.int .i64 0)) (first | exact HS0.out | exact hS2.out | exact hS3.out | exact hS4.out)
                (first
                  | (go_at_call 8; refine (decimal_any q _ (by omega)).mono ?_; rintro e w7 ⟨rfl, hb7⟩; have ho7 : Only [] wr w7 := (Only.refl [] wr).drew.trans (Only.of_below hb7 []) (fun _ hk => by cases hk); have hS2 : Hid (w7.cell? ⟨bx, 0, none⟩ = some (.int .i64 1) ∧ w7.cell? ⟨bx, 1, none⟩ = some (.int .i64 0) ∧ w7.cell? ⟨bd, 0, none⟩ = some (.int .i64 D) ∧ w7.cell? ⟨bd, 1, none⟩ = some (.int .i64 0)) := Four.only HS.out ho7 (by simp) (by simp); have hcl := HC.out w7 ho7; have HF7 : Hid (Full2 w w7 tr T2 D (linkAt q)) := HF2.out.only ho7; clear ho7 hb7)
                  | (go_at_call 11; refine hcl.mono ?_; rintro e w8 ⟨rfl, T8, L8, hF8, hs8, ho8, hl8⟩; have hS3 : Hid (w8.cell? ⟨bx, 0, none⟩ = some (.int .i64 1) ∧ w8.cell? ⟨bx, 1, none⟩ = some (.int .i64 0) ∧ w8.cell? ⟨bd, 0, none⟩ = some (.int .i64 D) ∧ w8.cell? ⟨bd, 1, none⟩ = some (.int .i64 0)) := Four.only hS2.out ho8 (fun hm => HAW.out.1 (hl8 _ hm)) (fun hm => HAW.out.2 (hl8 _ hm)); have HF8 : Hid (Full2 w w8 tr T8 D (linkAt (q + 1)) ∧ (¬ FootT tr T8 bx) ∧ ¬ FootT tr T8 bd) := ⟨hF8, fun hk => HAW.out.1 (hs8 _ hk), fun hk => HAW.out.2 (hs8 _ hk)⟩; have hco := HX.out w8 hF8.below; clear hF8 hs8 ho8 hl8 hcl)
                  | (go_at_call 9; refine hco.mono ?_; rintro e w9 ⟨rfl, ho9⟩; have hS4 : Hid (w9.cell? ⟨bx, 0, none⟩ = some (.int .i64 1) ∧ w9.cell? ⟨bx, 1, none⟩ = some (.int .i64 0) ∧ w9.cell? ⟨bd, 0, none⟩ = some (.int .i64 D) ∧ w9.cell? ⟨bd, 1, none⟩ = some (.int .i64 0)) := Four.only hS3.out ho9 (by simp) (by simp); have HF9 : Hid (Full2 w w9 tr T8 D (linkAt (q + 1)) ∧ (¬ FootT tr T8 bx) ∧ ¬ FootT tr T8 bd) := ⟨HF8.out.1.only ho9, HF8.out.2⟩; clear ho9 hco))
              go_wp2
              go_roundw
              case rel => exact ⟨q + 1, by omega, by go_num, T8, HF9.out.1, HF9.out.2.1, HF9.out.2.2, hS4.out⟩
              case measure => simp [intOf]; omega
          · obtain rfl : q = k := by omega
            have HB : Hid (Below w.heap.size w wr) := HF2.out.below
            go_wp2
            go_ret
            exact ⟨rfl, HB.out⟩
end Go.Proofs.YtnbanflnepbgnaaDoor
/- TreeFull: for every two numbers. -/
namespace Go.Proofs.YtnbanflnepbgnaaDoor
open Go Go.RowKit Go.Deep Go.Maps

set_option maxRecDepth 100000 in
set_option maxHeartbeats 1000000 in
theorem tfull_out (n k : Int) (A : Nat → Addr) (w : World) (hE : Errs w A) (h : n < 0 ∨ 65 < n ∨ k < 0 ∨ 12 < k) :
    Calls Tryd.prog 3 #[.int .i64 n, .int .i64 k] w fun e w' => e = .returned (.bool true) ∧ Below w.heap.size w w' := by
  have hroot := rooted_any A w hE
  clear hE
  by_cases h1 : n < 0
  · have hd1 : decide (n < 0) = true := decide_eq_true h1
    go_enter Tryd.func3, Tryd.ntmps3
    go_wp2_with (go_at_call 4; go_must (refine hroot.mono ?_); rintro e w1 ⟨rfl, hb1⟩)
    go_ret
    exact ⟨rfl, hb1⟩
  · have hd1 : decide (n < 0) = false := decide_eq_false h1
    by_cases h2 : 65 < n
    · have hd2 : decide (65 < n) = true := decide_eq_true h2
      go_enter Tryd.func3, Tryd.ntmps3
      go_wp2_with (go_at_call 4; go_must (refine hroot.mono ?_); rintro e w1 ⟨rfl, hb1⟩)
      go_ret
      exact ⟨rfl, hb1⟩
    · have hd2 : decide (65 < n) = false := decide_eq_false h2
      by_cases h3 : k < 0
      · have hd3 : decide (k < 0) = true := decide_eq_true h3
        go_enter Tryd.func3, Tryd.ntmps3
        go_wp2_with (go_at_call 4; go_must (refine hroot.mono ?_); rintro e w1 ⟨rfl, hb1⟩)
        go_ret
        exact ⟨rfl, hb1⟩
      · have hd3 : decide (k < 0) = false := decide_eq_false h3
        have hd4 : decide (12 < k) = true := decide_eq_true (by omega)
        go_enter Tryd.func3, Tryd.ntmps3
        go_wp2_with (go_at_call 4; go_must (refine hroot.mono ?_); rintro e w1 ⟨rfl, hb1⟩)
        go_ret
        exact ⟨rfl, hb1⟩
theorem tfull_all (n k : Int) (A : Nat → Addr) (w : World) (hE : Errs w A) :
    Calls Tryd.prog 3 #[.int .i64 n, .int .i64 k] w fun e w' => e = .returned (.bool true) ∧ Below w.heap.size w w' := by
  by_cases h : n < 0 ∨ 65 < n ∨ k < 0 ∨ 12 < k
  · exact tfull_out n k A w hE h
  · obtain ⟨m, rfl⟩ : ∃ m : Nat, n = (m : Int) := ⟨n.toNat, by omega⟩
    obtain ⟨l, rfl⟩ : ∃ l : Nat, k = (l : Int) := ⟨k.toNat, by omega⟩
    exact tfull_walk m l A w (by omega) (by omega) hE
end Go.Proofs.YtnbanflnepbgnaaDoor
