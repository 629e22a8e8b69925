/- NamesJoin, walked over the contracts. -/
import Derived.Test.YtnhpgpjopogbiaaDoorJ1
import Derived.ProofKit
import Derived.Deep.Strs
import Derived.Deep.Slices
import Derived.OpenShut
import Derived.Laws.AppendOwnNone
namespace Go.Proofs.YtnhpgpjopogbiaaDoor
open Go Go.RowKit Go.Deep

/-- WHAT A WALK IS TOLD OF A SLICE OF TEXTS THAT CAME IN. -/
def IsTexts (w : World) (a : Option Addr) (len cap : Nat) : Prop :=
  (a = none ∧ len = 0 ∧ cap = 0) ∨ (∃ ad, a = some ad ∧ len = 0) ∨ (0 < len ∧ ∃ (ab ao : Nat) (T : Nat → ByteArray), a = some ⟨ab, ao, none⟩ ∧ ∀ i, i < len → w.cell? ⟨ab, ao + i, none⟩ = some (.string (T i)))
theorem Tryd.cellsS1 : Tryd.prog.cellsOf 9 = 1 := by kernel_rfl
theorem isTexts_of {H : Type} {enc : TypeId × Value → H} {w : World} {base n : Nat} {sp : Nat → Bool} {held : Bool} {a : Option Addr} {len cap : Nat} {x : DataW H × List MemPlace} (h : DataW.trod enc Tryd.prog w base sp held n 27 [.slice a len cap] = some x) : IsTexts w a len cap := by
  rcases open_slice Tryd.underlying27 h with ⟨e, _⟩ | ⟨ad, len', cap', m, n', D, Pl, e, _, hl, hm, hmm, _, hx⟩
  · simp at e
    exact Or.inl ⟨e.1, e.2.1, e.2.2⟩
  · simp at e
    obtain ⟨rfl, rfl, rfl⟩ := e
    rcases Nat.eq_zero_or_pos len with h0 | h0
    · exact Or.inr (Or.inl ⟨ad, rfl, h0⟩)
    refine Or.inr (Or.inr ⟨h0, ?_⟩)
    have hle : len ≤ m := by rw [hmm]; split <;> omega
    rw [Tryd.cellsS1] at hx
    have inst : Inhabited ByteArray := ⟨⟨#[]⟩⟩
    obtain ⟨T, hT⟩ := choose_lt (α := ByteArray) (n := len) (p := fun i p => w.cells? base (ad.add (i * 1)) 1 = some [.string p]) (fun i hi => by
      obtain ⟨cs', c1, c2⟩ := hx i (by omega)
      obtain ⟨s0, e0, _, _⟩ := DataW.trod_string Tryd.underlying9 c2
      subst e0
      exact ⟨s0, c1⟩)
    obtain ⟨ab, ao, spot⟩ := ad
    have cell : ∀ i, i < len → w.cell? (((⟨ab, ao, spot⟩ : Addr).add (i * 1)).add 0) = some (.string (T i)) := fun i hi => (World.cells?_some (hT i hi)).2.2 0 (by decide)
    have hspot : spot = none := by
      have := cell 0 h0
      simp [Addr.add] at this
      exact World.cell?_spot this
    subst hspot
    refine ⟨ab, ao, T, rfl, fun i hi => ?_⟩
    have c0 := cell i hi
    have hadd : ((⟨ab, ao, none⟩ : Addr).add (i * 1)).add 0 = ⟨ab, ao + i, none⟩ := by
      unfold Addr.add
      split <;> split <;> simp_all
    rw [hadd] at c0
    exact c0

set_option maxRecDepth 100000 in
theorem namesJoin_many (a : Option Addr) (len cap : Nat) (A : Nat → Addr) (m : Int) (w : World) (h : 40 < len) (hE : Errs w A) (hm : w.cell? ⟨16, 0, none⟩ = some (.int .i64 m)) :
    Calls Tryd.prog 8 #[.slice a len cap] w fun e w' => e = .returned (.bool true) ∧ Below w.heap.size w w' := by
  have hn := named_any A m w hE hm
  have hd : decide (40 < (len : Int)) = true := decide_eq_true (by omega)
  clear hE hm
  go_enter Tryd.func8, Tryd.ntmps8
  go_wp2_with (go_at_call 30; go_must (refine hn.mono ?_); rintro e w1 ⟨rfl, hb1⟩)
  go_ret
  exact ⟨rfl, hb1⟩

set_option maxRecDepth 100000 in
theorem namesJoin_nil (A : Nat → Addr) (m : Int) (w : World) (hE : Errs w A) (hm : w.cell? ⟨16, 0, none⟩ = some (.int .i64 m)) :
    Calls Tryd.prog 8 #[.slice none 0 0] w fun e w' => e = .returned (.bool true) ∧ Below w.heap.size w w' := by
  have hn := named_any A m w hE hm
  clear hE hm
  go_enter Tryd.func8, Tryd.ntmps8
  go_wp2_with (go_at_call 30; go_must (refine hn.mono ?_); rintro e w1 ⟨rfl, hb1⟩)
  have HB1 : Hid (Below w.heap.size w w1) := hb1
  clear hb1 hn
  refine wp_loop_rounds 1 ?_
  rw [rounds_succ]
  go_wp2_with fail
  refine (join_none none 0 (fun _ => ⟨#[]⟩) _).mono ?_
  rintro e w2 ⟨rfl, hb2⟩
  rw [wantOf_none]
  go_wp2_with fail
  refine (pathError_none _ _ w2).mono ?_
  rintro e w3 ⟨rfl, hb3⟩
  have hs := split_root (w3.alloc (.cells #[.int .i64 0, .int .i64 (-1)] 67))
  have hb : Below w1.heap.size w1 (w3.alloc (.cells #[.int .i64 0, .int .i64 (-1)] 67)) := (hb2.trans (hb3.mono hb2.size)).alloc (Nat.le_trans hb2.size hb3.size) _
  have HB : Hid (Below w.heap.size w (w3.alloc (.cells #[.int .i64 0, .int .i64 (-1)] 67))) := HB1.out.trans (hb.mono HB1.out.size)
  clear hb2 hb3 hb
  go_wp2_with (go_at_call 33; go_must (refine hs.mono ?_); rintro e w5 ⟨rfl, hb5⟩)
  refine (sameTexts_none _ _ _ _ w5).mono ?_
  rintro e w6 ⟨rfl, hb6⟩
  go_wp2
  go_ret
  exact ⟨rfl, HB.out.trans ((hb5.trans (hb6.mono hb5.size)).mono HB.out.size)⟩

set_option maxRecDepth 100000 in
theorem namesJoin_empty (ad : Addr) (cap : Nat) (A : Nat → Addr) (m : Int) (w : World) (hE : Errs w A) (hm : w.cell? ⟨16, 0, none⟩ = some (.int .i64 m)) :
    Calls Tryd.prog 8 #[.slice (some ad) 0 cap] w fun e w' => e = .returned (.bool true) ∧ Below w.heap.size w w' := by
  obtain ⟨i0, hi, hz0, hz1, hz2⟩ := info_parts Tryd.infoS
  have hn := named_any A m w hE hm
  clear hE hm
  go_enter Tryd.func8, Tryd.ntmps8
  go_wp2_with (go_at_call 30; go_must (refine hn.mono ?_); rintro e w1 ⟨rfl, hb1⟩)
  have HB0 : Hid (Below w.heap.size w w1) := hb1
  clear hb1 hn
  refine wp_loop_rounds 1 ?_
  rw [rounds_succ]
  go_wp2_with (at_builtin; refine wpList_append_own _ rfl (.tmp 40) (.tmp 41) 27 rfl w1.heap.size 9 i0 _ 1 16 Tryd.underlying27 hi hz0 hz1 hz2 rfl (by decide) _ 0 [] rfl (World.ownsRow_nil _ _ _ _) ad 0 cap [] rfl rfl ?c1 ?c2 ?c3 ?c4 ?c5 ?_)
  case c1 => intro j u hj; simp at hj
  case c2 => intro u hu; cases hu
  case c3 => decide
  case c4 => decide
  case c5 => exact Nat.le_refl _
  · intro v' w1' _ hg hv
    obtain rfl := hv
    have HB1' : Hid (Below w.heap.size w w1') := HB0.out.trans (((Below.refl _ _).grown hg (Nat.le_refl _) (fun k hk => by cases hk)).mono HB0.out.size)
    clear hg HB0
    obtain ⟨w1, HB1⟩ : ∃ W, Hid (Below w.heap.size w W) ∧ W = w1' := ⟨w1', HB1', rfl⟩
    obtain ⟨HB1, rfl⟩ := HB1
    clear HB1'
    go_wp2_with fail
    refine (join_none none 0 (fun _ => ⟨#[]⟩) _).mono ?_
    rintro e w2 ⟨rfl, hb2⟩
    rw [wantOf_none]
    go_wp2_with fail
    refine (pathError_none _ _ w2).mono ?_
    rintro e w3 ⟨rfl, hb3⟩
    have hs := split_root (w3.alloc (.cells #[.int .i64 0, .int .i64 (-1)] 67))
    have hb : Below w1.heap.size w1 (w3.alloc (.cells #[.int .i64 0, .int .i64 (-1)] 67)) := (hb2.trans (hb3.mono hb2.size)).alloc (Nat.le_trans hb2.size hb3.size) _
    have HB : Hid (Below w.heap.size w (w3.alloc (.cells #[.int .i64 0, .int .i64 (-1)] 67))) := HB1.out.trans (hb.mono HB1.out.size)
    clear hb2 hb3 hb
    go_wp2_with (go_at_call 33; go_must (refine hs.mono ?_); rintro e w5 ⟨rfl, hb5⟩)
    refine (sameTexts_none _ _ _ _ w5).mono ?_
    rintro e w6 ⟨rfl, hb6⟩
    go_wp2
    go_ret
    exact ⟨rfl, HB.out.trans ((hb5.trans (hb6.mono hb5.size)).mono HB.out.size)⟩

/-! ### names that are some -/
def strCells (n : Nat) (T : Nat → ByteArray) : List Value := (List.range n).map fun i => Value.string (T i)
theorem strCells_len (n : Nat) (T : Nat → ByteArray) : (strCells n T).length = n := by simp [strCells]
theorem strCells_at (n : Nat) (T : Nat → ByteArray) (i : Nat) (u : Value) (h : (strCells n T)[i]? = some u) : i < n ∧ u = .string (T i) := by
  have hi : i < n := by
    rcases Nat.lt_or_ge i n with k | k
    · exact k
    · rw [List.getElem?_eq_none (by rw [strCells_len]; exact k)] at h; cases h
  simp [strCells, hi] at h
  exact ⟨hi, h.symm⟩
theorem own_cells {w : World} {base g n cap : Nat} {T : Nat → ByteArray} (h : w.ownsRow base 9 1 (.slice (some ⟨g, 0, none⟩) n cap) n (strCells n T)) : ∀ i, i < n → w.cell? ⟨g, 0 + i, none⟩ = some (.string (T i)) := fun i hi => by
  have := h.cells (g := g) rfl i (.string (T i)) (by simp [strCells, hi])
  have e : (⟨g, 0, none⟩ : Addr).add i = ⟨g, 0 + i, none⟩ := by by_cases h : i = 0 <;> simp [Addr.add, h]
  rw [e] at this
  exact this
theorem want_next (j : Nat) (T : Nat → ByteArray) : bs (pathT (textsOf j T)) ++ ⟨#[47]⟩ ++ T j = bs (pathT (textsOf (j + 1) T)) := by
  apply data_inj
  rw [bs_data, textsOf_succ, pathT_snoc]
  simp [bs_data]

set_option maxHeartbeats 1000000 in
set_option maxRecDepth 100000 in
theorem namesJoin_some (ab ao len cap : Nat) (T : Nat → ByteArray) (A : Nat → Addr) (m : Int) (w : World) (h0 : 0 < len) (hlen : len ≤ 40) (hc : ∀ i, i < len → w.cell? ⟨ab, ao + i, none⟩ = some (.string (T i))) (hE : Errs w A) (hm : w.cell? ⟨16, 0, none⟩ = some (.int .i64 m)) :
    Calls Tryd.prog 8 #[.slice (some ⟨ab, ao, none⟩) len cap] w fun e w' => e = .returned (.bool true) ∧ Below w.heap.size w w' := by
  obtain ⟨i0, hi, hz0, hz1, hz2⟩ := info_parts Tryd.infoS
  have hn := named_any A m w hE hm
  have HE : Hid (Errs w A) := hE
  have HM : Hid (w.cell? ⟨16, 0, none⟩ = some (.int .i64 m)) := hm
  have HC : Hid (∀ i, i < len → w.cell? ⟨ab, ao + i, none⟩ = some (.string (T i))) := hc
  have hd : decide (40 < (len : Int)) = false := decide_eq_false (by omega)
  clear hE hm hc
  go_enter Tryd.func8, Tryd.ntmps8
  go_wp2_with (go_at_call 30; go_must (refine hn.mono ?_); rintro e w1 ⟨rfl, hb1⟩)
  have HB1 : Hid (Below w.heap.size w w1) := hb1
  clear hb1 hn hd
  go_loop [4, 5] (fun o i => ∃ j : Nat, j ≤ len ∧ i = .int .i64 j ∧ o = .string (bs (pathT (textsOf j T))) ∧ ∀ i, i < j → (T i).size ≤ 200) (fun _ i => len - (intOf i).toNat)
  case atStart => exact ⟨0, Nat.zero_le _, rfl, rfl, fun i h => absurd h (Nat.not_lt_zero _)⟩
  case round =>
    obtain ⟨j, hj, rfl, rfl, hall⟩ := hrel
    have HA : Hid (∀ i, i < j → (T i).size ≤ 200) := hall
    clear hall
    by_cases hlt : j < len
    · have c0 := HC.out j hlt
      have c1 : w1.cell? ⟨ab, ao + j, none⟩ = some (.string (T j)) := (HB1.out.cell (p := ⟨ab, ao + j, none⟩) (lt_of_cell c0)).trans c0
      clear c0
      by_cases h200 : 200 < (T j).size
      · have hd2 : decide (200 < ((T j).size : Int)) = true := decide_eq_true (by omega)
        go_wp2
        go_ret
        exact ⟨rfl, HB1.out⟩
      · have hd2 : decide (200 < ((T j).size : Int)) = false := decide_eq_false (by omega)
        have HN : Hid (∀ i, i < j + 1 → (T i).size ≤ 200) := fun i hi => by
          rcases Nat.lt_or_ge i j with k | k
          · exact HA.out i k
          · obtain rfl : i = j := by omega
            omega
        have HW : Hid (bs (pathT (textsOf j T)) ++ ⟨#[47]⟩ ++ T j = bs (pathT (textsOf (j + 1) T))) := want_next j T
        have hsz : (bs (pathT (textsOf j T))).size ≤ 8040 := by
          rw [bs_len]
          have := want_size j T HA.out
          omega
        generalize bs (pathT (textsOf j T)) = W0 at hsz HW ⊢
        go_wp2
        go_round
        case rel => exact ⟨j + 1, by omega, by go_num, by rw [← HW.out], HN.out⟩
        case measure => simp [intOf]; omega
    · obtain rfl : j = len := by omega
      have hcw : ∀ i, i < j → w1.cell? ⟨ab, ao + i, none⟩ = some (.string (T i)) := fun i hi => (HB1.out.cell (p := ⟨ab, ao + i, none⟩) (lt_of_cell (HC.out i hi))).trans (HC.out i hi)
      have HCW : Hid (∀ i, i < j → w1.cell? ⟨ab, ao + i, none⟩ = some (.string (T i))) := hcw
      clear hcw hlt
      obtain ⟨W0, hW0⟩ : ∃ W0, bs (pathT (textsOf j T)) = W0 := ⟨_, rfl⟩
      have HW0 : Hid (bs (pathT (textsOf j T)) = W0) := hW0
      rw [hW0]
      clear hW0
      go_wp2_with (at_builtin; refine wpList_append_own _ rfl (.tmp 40) (.tmp 41) 27 rfl w1.heap.size 9 i0 _ 1 16 Tryd.underlying27 hi hz0 hz1 hz2 rfl (by decide) _ 0 [] rfl (World.ownsRow_nil _ _ _ _) ⟨ab, ao, none⟩ j cap (strCells j T) rfl ?c0 ?c1 ?c2 ?c3 ?c4 ?c5 ?_)
      case c0 => exact strCells_len j T
      case c1 =>
        intro i u hu
        obtain ⟨hi', rfl⟩ := strCells_at j T i u hu
        exact HCW.out i hi'
      case c2 =>
        intro u hu
        obtain ⟨i, _, rfl⟩ := List.mem_map.1 hu
        rfl
      case c3 => unfold maxLen; omega
      case c4 => omega
      · intro v' w2 ho hg _
        have hb2 : Below w1.heap.size w1 w2 := (Below.refl _ _).grown hg (Nat.le_refl _) (fun k hk => by cases hk)
        have HB2 : Hid (Below w.heap.size w w2) := HB1.out.trans (hb2.mono HB1.out.size)
        obtain ⟨g, cap', hv, hcap'⟩ : ∃ g cap', v' = .slice (some ⟨g, 0, none⟩) j cap' ∧ j ≤ cap' := by
          rcases ho.2 with ⟨_, hz⟩ | ⟨g, cap', cur, hv, _, _, hcap', _⟩
          · omega
          · exact ⟨g, cap', hv, hcap'⟩
        rw [hv] at ho ⊢
        clear hg hv
        have hj0 := join_some g 0 cap' j T A w2 (HE.out.below HB2.out (Nat.le_refl _)) (own_cells ho) (by omega) (by omega) hcap' HA.out
        rw [wantOf_some j T (by omega), HW0.out] at hj0
        clear ho
        go_wp2_with fail
        refine hj0.mono ?_
        rintro e w3 ⟨code, place, v, hP, hEr, hb3, hres⟩
        have HB3 : Hid (Below w.heap.size w w3) := HB2.out.trans (hb3.mono HB2.out.size)
        have hpe := pathError_some ab ao cap j T w3 (fun i hi => (HB3.out.cell (p := ⟨ab, ao + i, none⟩) (lt_of_cell (HC.out i hi))).trans (HC.out i hi)) (by omega)
        have HP : Hid (PathIs j T code place) := hP
        have HEr : Hid (ErrIs w3 A code place v) := hEr
        clear hP hEr hb3 hb2 hj0
        rcases hres with ⟨rfl, rfl⟩ | ⟨hpos, rfl⟩
        · go_wp2_with fail
          refine hpe.mono ?_
          rintro e w4 ⟨code', place', hP', rfl, hb4⟩
          obtain ⟨rfl, rfl⟩ := pathIs_one HP.out hP'
          obtain ⟨h12, -, hok⟩ := pathIs_few hP'
          have hb34 : Below w3.heap.size w3 (w4.alloc (.cells #[.int .i64 0, .int .i64 place] 67)) := hb4.alloc hb4.size _
          have HB4 : Hid (Below w.heap.size w (w4.alloc (.cells #[.int .i64 0, .int .i64 place] 67))) := HB3.out.trans (hb34.mono HB3.out.size)
          have hbk := back_some j T A m _ (by omega) h12 hok (HE.out.below HB4.out (Nat.le_refl _)) ((HB4.out.cell (p := ⟨16, 0, none⟩) (lt_of_cell HM.out)).trans HM.out)
          rw [wantOf_some j T (by omega), HW0.out] at hbk
          clear hP' hb4 hb34 hok hpe
          go_wp2_with (go_at_call 33; go_must (refine hbk.mono ?_); rintro e w5 ⟨a5, c5, rfl, hT5, hb5⟩)
          have HB5 : Hid (Below w.heap.size w w5) := HB4.out.trans (hb5.mono HB4.out.size)
          refine (sameTexts_any a5 (some ⟨ab, ao, none⟩) c5 cap j T w5 hT5 (Or.inr ⟨ab, ao, rfl, fun i hi => (HB5.out.cell (p := ⟨ab, ao + i, none⟩) (lt_of_cell (HC.out i hi))).trans (HC.out i hi)⟩) (by omega)).mono ?_
          rintro e w6 ⟨rfl, hb6⟩
          clear hT5 hb5 hbk
          go_wp2
          go_ret
          exact ⟨rfl, HB5.out.trans (hb6.mono HB5.out.size)⟩
        · go_wp2_with fail
          refine hpe.mono ?_
          rintro e w4 ⟨code', place', hP', rfl, hb4⟩
          obtain ⟨rfl, rfl⟩ := pathIs_one HP.out hP'
          have hb34 : Below w3.heap.size w3 (w4.alloc (.cells #[.int .i64 code, .int .i64 place] 67)) := hb4.alloc hb4.size _
          have HB4 : Hid (Below w.heap.size w (w4.alloc (.cells #[.int .i64 code, .int .i64 place] 67))) := HB3.out.trans (hb34.mono HB3.out.size)
          have hf := faulted_any A code place v _ (HE.out.below HB4.out (Nat.le_refl _)) (HEr.out.below hb34 (Nat.le_refl _)) hpos
          clear hP' hb4 hb34 hpe
          go_wp2_with (go_at_call 35; go_must (refine hf.mono ?_); rintro e w5 ⟨rfl, hb5⟩)
          go_ret
          exact ⟨rfl, HB4.out.trans (hb5.mono HB4.out.size)⟩

theorem namesJoin_any (a : Option Addr) (len cap : Nat) (A : Nat → Addr) (m : Int) (w : World) (h : IsTexts w a len cap) (hE : Errs w A) (hm : w.cell? ⟨16, 0, none⟩ = some (.int .i64 m)) :
    Calls Tryd.prog 8 #[.slice a len cap] w fun e w' => e = .returned (.bool true) ∧ Below w.heap.size w w' := by
  rcases Nat.lt_or_ge 40 len with hl | hl
  · exact namesJoin_many a len cap A m w hl hE hm
  rcases h with ⟨rfl, rfl, rfl⟩ | ⟨ad, rfl, rfl⟩ | ⟨h0, ab, ao, T, rfl, hc⟩
  · exact namesJoin_nil A m w hE hm
  · exact namesJoin_empty ad cap A m w hE hm
  · exact namesJoin_some ab ao len cap T A m w h0 hl hc hE hm
end Go.Proofs.YtnhpgpjopogbiaaDoor
