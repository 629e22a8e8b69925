/- Compounds on the wire, the document's side: what it writes. -/
import Derived.Test.YtkopiffnkbjbiaaDoorWi16
import Derived.Test.YtkopiffnkbjbiaaDoorB1
namespace Go.Proofs.YtkopiffnkbjbiaaDoor
open Go Go.RowKit Go.Deep

set_option maxHeartbeats 400000 in
theorem item_big (s : ByteArray) (w : World) (hs : s.size ≤ 2000000) :
    Calls Tryd.prog 28 #[.string s] w fun e w' => e = .returned (.string (itemS s)) ∧ Below w.heap.size w w' := by
  have HI : Hid (itemS s = bs (be 4 s.size) ++ s ++ bs (be (fillN s.size) 0)) := rfl
  have hf4 := fillN_lt s.size
  have hff : (s.size + fillN s.size) % 4 = 0 := by unfold fillN; omega
  go_enter Tryd.func28, Tryd.ntmps28
  go_wp2
  go_loop [3] (fun i => ∃ j : Nat, j ≤ fillN s.size ∧ i = .int .i64 j) (fun i => 4 - (intOf i).toNat)
  case atStart => exact ⟨0, Nat.zero_le _, rfl⟩
  case round =>
    obtain ⟨j, hj, rfl⟩ := hrel
    by_cases hlt : j < fillN s.size
    · have hm : 0 < (s.size + j) % 4 := by have : fillN s.size = (4 - s.size % 4) % 4 := rfl
                                           omega
      go_wp2
      go_round
      case rel => exact ⟨j + 1, by omega, by go_num⟩
      case measure => simp [intOf]; omega
    · obtain rfl : j = fillN s.size := by omega
      have hz4 : (bs (be 4 s.size)).size ≤ 4 := by rw [bs_size, be_length]; exact Nat.le_refl _
      have hz0 : (bs (be (fillN s.size) 0)).size ≤ 4 := by rw [bs_size, be_length]; omega
      have hz1 : (bs (be 4 s.size) ++ s).size ≤ 2000004 := by rw [ByteArray.size_append]; omega
      go_wp2_with (first
        | (go_at_call 27; refine (big4 s.size _ (by omega)).mono ?_; rintro e w1 ⟨rfl, hb1⟩)
        | (go_at_call 50; refine (zeros_any (fillN s.size) _ (by omega)).mono ?_; rintro e w2 ⟨rfl, hb2⟩))
      go_ret
      exact ⟨by rw [HI.out]; rfl, hb1.trans (hb2.mono hb1.size)⟩
/-- A text that the document writes: its bytes, an error's number. -/
structure WD (w : World) (m : Nat) (st : ByteArray × Nat) : Prop where
  c0 : w.cell? ⟨m, 0, none⟩ = some (.string st.1)
  c1 : w.cell? ⟨m, 1, none⟩ = some (.int .i64 (st.2 : Nat))
  frz : ∀ j, w.frozen? ⟨m, j, none⟩ = false
  le : st.1.size ≤ 4000
theorem WD.lt {w : World} {m : Nat} {st : ByteArray × Nat} (h : WD w m st) : m < w.heap.size := lt_of_cell h.c0
theorem WD.only {w w' : World} {m : Nat} {st : ByteArray × Nat} {L : List Nat} (h : WD w m st) (ho : Only L w w') (hn : m ∉ L) : WD w' m st :=
  ⟨(ho.cell (p := ⟨m, 0, none⟩) h.lt hn).trans h.c0, (ho.cell (p := ⟨m, 1, none⟩) h.lt hn).trans h.c1, fun j => (ho.frozen (p := ⟨m, j, none⟩) h.lt hn).trans (h.frz j), h.le⟩
theorem WD.later {w w' : World} {m : Nat} {st : ByteArray × Nat} (h : WD w m st) (ho : Only [] w w') : WD w' m st := h.only ho (by simp)
theorem WD.put {w : World} {m : Nat} {st : ByteArray × Nat} (h : WD w m st) (s : ByteArray) (hs : s.size ≤ 4000) : WD (w.setCell ⟨m, 0, none⟩ (.string s)) m (s, st.2) :=
  ⟨World.cell?_setCell_same _ _ _ h.c0, set_off _ h.c1 (by decide), fun j => by simpa using h.frz j, hs⟩
theorem WD.err {w : World} {m : Nat} {st : ByteArray × Nat} (h : WD w m st) (e : Nat) : WD (w.setCell ⟨m, 1, none⟩ (.int .i64 (e : Nat))) m (st.1, e) :=
  ⟨set_off _ h.c0 (by decide), World.cell?_setCell_same _ _ _ h.c1, fun j => by simpa using h.frz j, h.le⟩
/-- How a function that writes for the document ends. -/
def ZEnd (m : Nat) (w : World) (st : ByteArray × Nat) (L : List Step) (e : Ending) (w' : World) : Prop := e = .returned (.tuple #[]) ∧ Only [m] w w' ∧ WD w' m (runW st L)
theorem dAdd (m : Nat) (st : ByteArray × Nat) (x : ByteArray) (w : World) (h : WD w m st) (hx : x.size ≤ 3000000) : Calls Tryd.prog 26 #[P0 m, .string x] w (ZEnd m w st [some x]) := by
  obtain ⟨s, e⟩ := st
  have c0 : w.cell? ⟨m, 0, none⟩ = some (.string s) := h.c0
  have c1 : w.cell? ⟨m, 1, none⟩ = some (.int .i64 (e : Nat)) := h.c1
  have f0 := h.frz 0
  have f1 := h.frz 1
  have hs : s.size ≤ 4000 := h.le
  have H : Hid (WD w m (s, e)) := h
  cases e with
  | zero =>
    by_cases hf : s.size + x.size ≤ 4000
    · have hsz : (s ++ x).size ≤ 4000 := by rw [ByteArray.size_append]; exact hf
      have FIN : Hid (ZEnd m w (s, 0) [some x] (.returned (.tuple #[])) (w.setCell ⟨m, 0, none⟩ (.string (s ++ x)))) := ⟨rfl, setO _ _ _ _, by rw [run_fits _ _ (by omega)]; exact h.put _ hsz⟩
      have c1' : w.cell? ⟨m, 1, none⟩ = some (.int .i64 0) := c1
      have hcat := ByteArray.size_append (a := s) (b := x)
      have HC : Hid ((s ++ x).size = s.size + x.size) := hcat
      clear h c1 hcat
      go_enter Tryd.func26, Tryd.ntmps26
      go_wp2
      go_end0
      exact FIN.out
    · have FIN : Hid (ZEnd m w (s, 0) [some x] (.returned (.tuple #[])) (w.setCell ⟨m, 1, none⟩ (.int .i64 9))) := ⟨rfl, setO _ _ _ _, by rw [run_full _ _ (by omega)]; exact h.err 9⟩
      have c1' : w.cell? ⟨m, 1, none⟩ = some (.int .i64 0) := c1
      have hg : 4000 < s.size + x.size := by omega
      clear h c1 hf
      go_enter Tryd.func26, Tryd.ntmps26
      go_wp2
      go_end0
      exact FIN.out
  | succ k =>
    have FIN : Hid (ZEnd m w (s, k + 1) [some x] (.returned (.tuple #[])) w) := ⟨rfl, Only.refl _ _, by rw [runW_stuck]; exact h⟩
    have hb : (((k + 1 : Nat) : Int) == 0) = false := beq_eq_false_iff_ne.2 (by omega)
    have hb2 : ((k : Int) + 1 == 0) = false := beq_eq_false_iff_ne.2 (by omega)
    clear h
    go_enter Tryd.func26, Tryd.ntmps26
    go_wp2
    go_end0
    exact FIN.out
theorem ZEnd.two {m : Nat} {w w1 w' : World} {st : ByteArray × Nat} {L M : List Step} {e : Ending} (h1 : Only [m] w w1) (h : ZEnd m w1 (runW st L) M e w') : ZEnd m w st (L ++ M) e w' := ⟨h.1, h1.seq h.2.1, by rw [runW_app]; exact h.2.2⟩
theorem dSgn0 (m : Nat) (st : ByteArray × Nat) (n : Nat) (hn : n < 9223372036854775808) (w : World) (h : WD w m st) : Calls Tryd.prog 29 #[P0 m, .int .i64 (n : Int)] w (ZEnd m w st ([some (bs (be 4 0))] ++ [some (bs (be 8 n))])) := by
  have hne : ((n : Int) == -9223372036854775808) = false := beq_eq_false_iff_ne.2 (by omega)
  have KB : Hid (∀ (x : ByteArray) (st1 : ByteArray × Nat) (w1 : World), x.size ≤ 8 → WD w1 m st1 → _) := fun x st1 w1 hx k => dAdd m st1 x w1 k (by omega)
  have S0 : Hid (WD w m st) := h
  have O0 : Hid (Only [m] w w) := Only.refl _ _
  clear h
  go_enter Tryd.func29, Tryd.ntmps29
  go_wp2_with (go_at_call 27; refine (big4 0 _ (by decide)).mono ?_; rintro e x0 ⟨rfl, hb⟩; have B0 : Hid (Only [] _ x0) := Only.of_below hb _; clear hb)
  refine (KB.out _ _ _ (by rw [bs_size, be_length]; decide) (S0.out.later B0.out)).mono ?_
  rintro e w1 ⟨rfl, o, s⟩
  have O1 : Hid (Only [m] w w1) := O0.out.seq (B0.out.more.seq o)
  have S1 : Hid (WD w1 m (runW st [some (bs (be 4 0))])) := s
  clear o s O0 S0 B0
  go_wp2_with (go_at_call 27; refine (big8 n _ hn).mono ?_; rintro e x1 ⟨rfl, hb⟩; have B1 : Hid (Only [] _ x1) := Only.of_below hb _; clear hb)
  refine (KB.out _ _ _ (by rw [bs_size, be_length]; decide) (S1.out.later B1.out)).mono ?_
  rintro e w2 ⟨rfl, o, s⟩
  have O2 : Hid (Only [m] w w2) := O1.out.seq (B1.out.more.seq o)
  have S2 : Hid (WD w2 m (runW (runW st [some (bs (be 4 0))]) [some (bs (be 8 n))])) := s
  clear o s O1 S1 B1
  go_wp2
  go_end0
  exact ⟨rfl, O2.out, S2.out⟩
theorem dSgn1 (m : Nat) (st : ByteArray × Nat) (n : Nat) (hn0 : 0 < n) (hn : n < 9223372036854775808) (w : World) (h : WD w m st) : Calls Tryd.prog 29 #[P0 m, .int .i64 (-(n : Int))] w (ZEnd m w st ([some (bs (be 4 1))] ++ [some (bs (be 8 n))])) := by
  have hne : (-(n : Int) == -9223372036854775808) = false := beq_eq_false_iff_ne.2 (by omega)
  have KB : Hid (∀ (x : ByteArray) (st1 : ByteArray × Nat) (w1 : World), x.size ≤ 8 → WD w1 m st1 → _) := fun x st1 w1 hx k => dAdd m st1 x w1 k (by omega)
  have S0 : Hid (WD w m st) := h
  have O0 : Hid (Only [m] w w) := Only.refl _ _
  clear h
  go_enter Tryd.func29, Tryd.ntmps29
  go_wp2_with (go_at_call 27; refine (big4 1 _ (by decide)).mono ?_; rintro e x0 ⟨rfl, hb⟩; have B0 : Hid (Only [] _ x0) := Only.of_below hb _; clear hb)
  refine (KB.out _ _ _ (by rw [bs_size, be_length]; decide) (S0.out.later B0.out)).mono ?_
  rintro e w1 ⟨rfl, o, s⟩
  have O1 : Hid (Only [m] w w1) := O0.out.seq (B0.out.more.seq o)
  have S1 : Hid (WD w1 m (runW st [some (bs (be 4 1))])) := s
  clear o s O0 S0 B0
  go_wp2_with (go_at_call 27; refine (big8 n _ hn).mono ?_; rintro e x1 ⟨rfl, hb⟩; have B1 : Hid (Only [] _ x1) := Only.of_below hb _; clear hb)
  refine (KB.out _ _ _ (by rw [bs_size, be_length]; decide) (S1.out.later B1.out)).mono ?_
  rintro e w2 ⟨rfl, o, s⟩
  have O2 : Hid (Only [m] w w2) := O1.out.seq (B1.out.more.seq o)
  have S2 : Hid (WD w2 m (runW (runW st [some (bs (be 4 1))]) [some (bs (be 8 n))])) := s
  clear o s O1 S1 B1
  go_wp2
  go_end0
  exact ⟨rfl, O2.out, S2.out⟩
set_option maxRecDepth 100000 in
theorem dSgn2 (m : Nat) (st : ByteArray × Nat) (w : World) (h : WD w m st) : Calls Tryd.prog 29 #[P0 m, .int .i64 (-9223372036854775808)] w (ZEnd m w st ([some (bs (be 4 1))] ++ [none])) := by
  have KB : Hid (∀ (x : ByteArray) (st1 : ByteArray × Nat) (w1 : World), x.size ≤ 8 → WD w1 m st1 → _) := fun x st1 w1 hx k => dAdd m st1 x w1 k (by omega)
  have S0 : Hid (WD w m st) := h
  have O0 : Hid (Only [m] w w) := Only.refl _ _
  clear h
  go_enter Tryd.func29, Tryd.ntmps29
  go_wp2_with (go_at_call 27; refine (big4 1 _ (by decide)).mono ?_; rintro e x0 ⟨rfl, hb⟩; have B0 : Hid (Only [] _ x0) := Only.of_below hb _; clear hb)
  refine (KB.out _ _ _ (by rw [bs_size, be_length]; decide) (S0.out.later B0.out)).mono ?_
  rintro e w1 ⟨rfl, o, s⟩
  have O1 : Hid (Only [m] w w1) := O0.out.seq (B0.out.more.seq o)
  have S1 : Hid (WD w1 m (runW st [some (bs (be 4 1))])) := s
  clear o s O0 S0 B0
  rcases hst : runW st [some (bs (be 4 1))] with ⟨s, e⟩
  rw [hst] at S1
  have c1 : w1.cell? ⟨m, 1, none⟩ = some (.int .i64 (e : Nat)) := S1.out.c1
  have f1 := S1.out.frz 1
  have HST : Hid (runW st [some (bs (be 4 1))] = (s, e)) := hst
  clear hst
  cases e with
  | zero =>
    have c1' : w1.cell? ⟨m, 1, none⟩ = some (.int .i64 0) := c1
    have FIN : Hid (ZEnd m w st ([some (bs (be 4 1))] ++ [none]) (.returned (.tuple #[])) (w1.setCell ⟨m, 1, none⟩ (.int .i64 2))) := ⟨rfl, O1.out.seq (setO _ _ _ _), by rw [runW_app, HST.out]; exact S1.out.err 2⟩
    clear c1
    go_wp2
    refine bodyPost_ret (results_none rfl _ _ _) rfl ?_
    exact FIN.out
  | succ k =>
    have FIN : Hid (ZEnd m w st ([some (bs (be 4 1))] ++ [none]) (.returned (.tuple #[])) w1) := ⟨rfl, O1.out, by rw [runW_app, HST.out, runW_stuck]; exact S1.out⟩
    have hb : (((k + 1 : Nat) : Int) == 0) = false := beq_eq_false_iff_ne.2 (by omega)
    have hb2 : ((k : Int) + 1 == 0) = false := beq_eq_false_iff_ne.2 (by omega)
    go_wp2
    refine bodyPost_ret (results_none rfl _ _ _) rfl ?_
    exact FIN.out
theorem dSgn (m : Nat) (st : ByteArray × Nat) (n : Int) (w : World) (h : WD w m st) (hn : I64 n) : Calls Tryd.prog 29 #[P0 m, .int .i64 n] w (ZEnd m w st (sgn n)) := by
  obtain ⟨h1, h2⟩ := hn
  unfold sgn
  by_cases e1 : n = -9223372036854775808
  · rw [if_pos e1, e1]
    exact dSgn2 m st w h
  · rw [if_neg e1]
    by_cases e2 : n < 0
    · rw [if_pos e2]
      have e : n = -(((-n).toNat : Nat) : Int) := by omega
      have := dSgn1 m st (-n).toNat (by omega) (by omega) w h
      rw [← e] at this
      exact this
    · rw [if_neg e2]
      have e : n = ((n.toNat : Nat) : Int) := by omega
      have := dSgn0 m st n.toNat (by omega) w h
      rw [← e] at this
      exact this
end Go.Proofs.YtkopiffnkbjbiaaDoor
