/- NodesActs: the walk. -/
import Derived.Test.YtohbdpefcmibeacDoorH21
namespace Go.Proofs.YtohbdpefcmibeacDoor
open Go Go.RowKit Go.Deep Go.Maps

theorem intInfo : (Tryd.prog.info? 3).map (fun i => (i.zero, i.size, i.bytes)) = some (some (.int .i64 0), 1, 8) := by kernel_rfl
theorem intsUnd : Tryd.prog.underlying 40 = some (.slice 3) := by kernel_rfl
theorem made_ints (n i : Nat) (hi : i < n) : (madeCells (Value.int .i64 0).cells (n * 1)).toList[i]? = some (.int .i64 0) := by
  have hc : (Value.int .i64 0).cells = #[.int .i64 0] := by kernel_rfl
  rw [hc]
  have h1 : i < (n * 1) := by omega
  have h2 : (madeCells #[Value.int .i64 0] (n * 1)).size = n * 1 := size_madeCells _ _
  rw [Array.getElem?_toList, Array.getElem?_eq_getElem (by omega)]
  simp [madeCells, Nat.mod_one]
/-- Behind the numbers' row. -/
theorem Laid5.start {W w w' : World} {t most : Nat} (hb : Below W.heap.size W w) (hT : TabAt w t noRow most (fun _ => 0) (fun _ => none)) (ht : W.heap.size ≤ t)
    (hown : w'.ownsRow w.heap.size 3 1 (.slice (some ⟨w.heap.size, 0, none⟩) most most) most (madeCells (Value.int .i64 0).cells (most * 1)).toList) (hgr : w.grownBy w' none) :
    Laid5 W w' W.heap.size t noRow most (fun _ => 0) (fun _ => none) w.heap.size (fun _ => 0) (.slice none 0 0) [] := by
  have ho : Only [] w w' := (Only.refl [] w).grown hgr (fun k hk => by cases hk)
  have hlt := (hown.lt w.heap.size rfl).2
  have hfoot : ∀ k, InFoot t noRow most (fun _ => none) k → k = t := fun k hk => by
    rcases hk with h | h | ⟨i, n, hn, _⟩
    · exact h
    · cases h
    · cases hn
  have htl' : t < w.heap.size := hT.tlt
  refine ⟨hT.kept ho (fun _ _ => by simp), fun i hi => ?_, fun o => hown.frozenAt o, hlt, World.ownsRow_nil _ _ _ _, fun k hk => ?_, fun k hk => by simp [Value.ownBlock], by simp [Value.ownBlock], fun k hk => ?_, hb.size, fun k hk => by simp [Value.ownBlock] at hk, hb.trans (ho.to_below hb.size (fun k hk => by cases hk)), Nat.le_trans hb.size ho.size, Nat.zero_le _⟩
  · rw [hown.cellAt _ (by omega)]
    exact made_ints most i hi
  · have := hfoot k hk; omega
  · have := hfoot k hk; omega
set_option maxRecDepth 100000 in
set_option maxHeartbeats 4000000 in
theorem nacts_walk (most ab ao len cap : Nat) (P : Nat → NActM) (A : Nat → Addr) (w : World) (hp : NActsAt w ab ao len P) (h1 : 1 ≤ most) (h2 : most ≤ 300) (hlen : len ≤ 60) (hE : Errs w A) :
    Calls Tryd.prog 4 #[.int .i64 most, .slice (some ⟨ab, ao, none⟩) len cap] w fun e w' => e = .returned (.bool true) ∧ Below w.heap.size w w' := by
  have HE : Hid (Errs w A) := hE
  have HP : Hid (NActsAt w ab ao len P) := hp
  have hd1 : decide ((most : Int) < 1) = false := decide_eq_false (by omega)
  have hd2 : decide (300 < (most : Int)) = false := decide_eq_false (by omega)
  obtain ⟨i0, hi0, hz⟩ := Option.map_eq_some_iff.1 intInfo
  simp only [Prod.mk.injEq] at hz
  obtain ⟨hz0, hz1, hz2⟩ := hz
  clear hE hp
  go_enter Tryd.func4, Tryd.ntmps4
  go_wp2_with (first
    | (go_at_call 11; refine (fresh_any _).mono ?_; rintro e w1 ⟨rfl, hb1⟩; have hnew := tnew w1 most h1 (by omega))
    | (go_at_call 12; go_must (refine hnew.mono ?_); rintro e w2 ⟨t, rfl, hT, ho2, ht⟩; have HB2 : Hid (Below w.heap.size w w2) := hb1.trans (ho2.to_below hb1.size (fun k hk => by cases hk)); have HT2 : Hid (TabAt w2 t noRow most (fun _ => 0) (fun _ => none)) := hT; have HTP : Hid (w.heap.size ≤ t) := Nat.le_trans hb1.size ht; clear hT ho2 ht hnew hb1)
    | (at_make; refine wpList_make_full _ rfl _ _ 40 rfl w2.heap.size 3 i0 _ 1 intsUnd hi0 hz0 hz1 .i64 .i64 most most most rfl rfl rfl rfl (by rw [hz2]; omega) (by unfold maxLen; omega) (Nat.le_refl _) ?_; intro w3 hown3 hgr3; have HL0 : Hid (Laid5 w w3 w.heap.size t noRow most (fun _ => 0) (fun _ => none) w2.heap.size (fun _ => 0) (.slice none 0 0) []) := Laid5.start HB2.out HT2.out HTP.out hown3 hgr3; clear hown3 hgr3)
    | go_in)
  clear hd1 hd2 HB2 HT2 HTP hi0 hz0 hz1 hz2
  generalize w2.heap.size = T at HL0 ⊢
  refine wp_loop_ghost (fun n a w' => ∃ j, n = len - j ∧ j ≤ len ∧ InvIn w { most := most, ab := ab, ao := ao, len := len, cap := cap, t := t, T := T } j a w') len ⟨0, rfl, Nat.zero_le _, InvIn.mk (Agree.start most) HL0.out rfl rfl rfl rfl rfl rfl rfl⟩ ?_
  rintro n a wr ⟨j, rfl, hj, hI⟩
  clear HL0
  by_cases hlt : j < len
  · exact nacts_round w A { most := most, ab := ab, ao := ao, len := len, cap := cap, t := t, T := T } P j HE.out HP.out h2 h1 hlen hlt _ rfl _ _ (fun a' w' h => ⟨len - (j + 1), by omega, j + 1, rfl, by omega, h⟩) a wr hI
  · obtain rfl : j = len := by omega
    obtain ⟨u, p, g, tm, nd, l, ha, hc', rfl, hF, h9, h10, hA, hL⟩ := hI
    rw [act_open hF.s0 hF.s1 hF.s6 hF.s8 h9 h10 rfl rfl rfl]
    have HB : Hid (Below w.heap.size w wr) := hL.below
    clear hF h9 h10 hA hL
    go_wp2
    go_ret
    exact ⟨rfl, HB.out⟩
set_option maxRecDepth 100000 in
set_option maxHeartbeats 1000000 in
theorem nacts_many (most : Int) (a : Option Addr) (len cap : Nat) (w : World) (h : 60 < len) :
    Calls Tryd.prog 4 #[.int .i64 most, .slice a len cap] w fun e w' => e = .returned (.bool true) ∧ Below w.heap.size w w' := by
  go_enter Tryd.func4, Tryd.ntmps4
  go_wp2_with (go_at_call 11; refine (fresh_any _).mono ?_; rintro e w1 ⟨rfl, hb1⟩)
  go_ret
  exact ⟨rfl, hb1⟩
set_option maxRecDepth 100000 in
set_option maxHeartbeats 1000000 in
theorem nacts_bound (most : Int) (a : Option Addr) (len cap : Nat) (A : Nat → Addr) (w : World) (hl : len ≤ 60) (h : most < 1 ∨ 300 < most) (hE : Errs w A) :
    Calls Tryd.prog 4 #[.int .i64 most, .slice a len cap] w fun e w' => e = .returned (.bool true) ∧ Below w.heap.size w w' := by
  have HE : Hid (Errs w A) := hE
  have HH : Hid (most < 1 ∨ 300 < most) := h
  have hdb : decide (most < 1) = true ∨ decide (most < 1) = false ∧ decide (300 < most) = true := by
    by_cases h1 : most < 1
    · exact Or.inl (decide_eq_true h1)
    · exact Or.inr ⟨decide_eq_false h1, decide_eq_true (by omega)⟩
  clear hE h
  rcases hdb with hd1 | ⟨hd1, hd2⟩
  all_goals go_enter Tryd.func4, Tryd.ntmps4
  all_goals go_wp2_with (first
    | (go_at_call 11; refine (fresh_any _).mono ?_; rintro e w1 ⟨rfl, hb1⟩; have hnew := tnew_bound w1 most _ ((HE.out.of_below hb1).cell 1 (by decide)) HH.out)
    | (go_at_call 12; go_must (refine hnew.mono ?_); rintro e w2 ⟨rfl, ho2⟩; have HB2 : Hid (Below w.heap.size w w2) := hb1.trans (ho2.to_below hb1.size (fun k hk => by cases hk)); have hcd := coded_err A 1 (by decide) w2 (HE.out.of_below HB2.out); clear ho2 hnew)
    | (go_at_call 13; go_must (refine hcd.mono ?_); rintro e w3 ⟨rfl, hb3⟩; have HB3 : Hid (Below w.heap.size w w3) := HB2.out.trans ((Only.of_below hb3 []).to_below HB2.out.size (fun k hk => by cases hk)); clear hb3 hcd)
    | go_in)
  all_goals go_ret
  all_goals exact ⟨rfl, HB3.out⟩
set_option maxRecDepth 100000 in
set_option maxHeartbeats 4000000 in
theorem nacts_none (most : Nat) (a : Option Addr) (cap : Nat) (w : World) (h1 : 1 ≤ most) (h2 : most ≤ 300) :
    Calls Tryd.prog 4 #[.int .i64 most, .slice a 0 cap] w fun e w' => e = .returned (.bool true) ∧ Below w.heap.size w w' := by
  have hd1 : decide ((most : Int) < 1) = false := decide_eq_false (by omega)
  have hd2 : decide (300 < (most : Int)) = false := decide_eq_false (by omega)
  obtain ⟨i0, hi0, hz⟩ := Option.map_eq_some_iff.1 intInfo
  simp only [Prod.mk.injEq] at hz
  obtain ⟨hz0, hz1, hz2⟩ := hz
  go_enter Tryd.func4, Tryd.ntmps4
  go_wp2_with (first
    | (go_at_call 11; refine (fresh_any _).mono ?_; rintro e w1 ⟨rfl, hb1⟩; have hnew := tnew w1 most h1 (by omega))
    | (go_at_call 12; go_must (refine hnew.mono ?_); rintro e w2 ⟨t, rfl, hT, ho2, ht⟩; have HB2 : Hid (Below w.heap.size w w2) := hb1.trans (ho2.to_below hb1.size (fun k hk => by cases hk)); have HT2 : Hid (TabAt w2 t noRow most (fun _ => 0) (fun _ => none)) := hT; have HTP : Hid (w.heap.size ≤ t) := Nat.le_trans hb1.size ht; clear hT ho2 ht hnew hb1)
    | (at_make; refine wpList_make_full _ rfl _ _ 40 rfl w2.heap.size 3 i0 _ 1 intsUnd hi0 hz0 hz1 .i64 .i64 most most most rfl rfl rfl rfl (by rw [hz2]; omega) (by unfold maxLen; omega) (Nat.le_refl _) ?_; intro w3 hown3 hgr3; have HL0 : Hid (Laid5 w w3 w.heap.size t noRow most (fun _ => 0) (fun _ => none) w2.heap.size (fun _ => 0) (.slice none 0 0) []) := Laid5.start HB2.out HT2.out HTP.out hown3 hgr3; clear hown3 hgr3)
    | go_in)
  clear hd1 hd2 HB2 HT2 HTP hi0 hz0 hz1 hz2
  generalize w2.heap.size = T at HL0 ⊢
  refine wp_loop_rounds 1 ?_
  rw [rounds_succ]
  go_wp2
  go_ret
  exact ⟨rfl, HL0.out.below⟩
theorem nacts_all (most : Int) (a : Option Addr) (len cap : Nat) (A : Nat → Addr) (w : World) (hp : IsNActs w a len) (hE : Errs w A) :
    Calls Tryd.prog 4 #[.int .i64 most, .slice a len cap] w fun e w' => e = .returned (.bool true) ∧ Below w.heap.size w w' := by
  rcases Nat.lt_or_ge 60 len with h | h
  · exact nacts_many most a len cap w h
  by_cases hb : most < 1 ∨ 300 < most
  · exact nacts_bound most a len cap A w h hb hE
  obtain ⟨m, rfl⟩ : ∃ k : Nat, most = (k : Int) := ⟨most.toNat, by omega⟩
  rcases hp with rfl | ⟨ab, ao, P, rfl, hP⟩
  · exact nacts_none m a cap w (by omega) (by omega)
  · exact nacts_walk m ab ao len cap P A w hP (by omega) (by omega) h hE
end Go.Proofs.YtohbdpefcmibeacDoor
