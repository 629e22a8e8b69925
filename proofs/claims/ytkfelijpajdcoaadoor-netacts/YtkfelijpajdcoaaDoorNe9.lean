/- A net: the program's functions but Send: replace by what a closure makes, Take, Drop, Twice, For, List. -/
import Derived.Test.YtkfelijpajdcoaaDoorNe8
namespace Go.Proofs.YtkfelijpajdcoaaDoor
open Go Go.RowKit Go.Deep

theorem RowM.form {ty : TypeId} {w : World} {base : Nat} {v : Value} {l : List Msg} (h : RowM ty w base v l) : ∃ ad n c, v = .slice ad n c := by
  rcases RowM.open h with ⟨h1, _⟩ | ⟨g, cap, cur, h1, _⟩
  · exact ⟨_, _, _, h1⟩
  · exact ⟨_, _, _, h1⟩
theorem net_open {w : World} {base t : Nat} {v : Value} {l : List Msg} {i : Nat} (h : PNet w base t v l) (hi : i < l.length) : ∃ g cap, v = .slice (some ⟨g, 0, none⟩) l.length cap ∧ g < w.heap.size := by
  rcases RowM.open h.own with ⟨_, h2⟩ | ⟨g, cap, cur, h1, _, h3, _⟩
  · subst h2
    simp at hi
  · exact ⟨g, cap, h1, h3⟩
set_option maxHeartbeats 4000000 in
theorem replace_take (w : World) (base t tb : Nat) (v : Value) (l : List Msg) (i : Nat) (x : Msg) (h : PNet w base t v l) (hx : l[i]? = some x) (hl : l.length ≤ 100) (hb : ∃ y, MBox 40 w tb y) (htt : tb ≠ t) (htv : v.ownBlock ≠ some tb) :
    Calls Tryd.prog 21 #[.pointer (some ⟨t, 0, none⟩), .int .i64 i, .func (.func 22) #[] #[.pointer (some ⟨tb, 0, none⟩)]] w fun e w' => e = .returned .nilIface ∧ MBox 40 w' tb x ∧ ∃ v', PNet w' base t v' (l.take i ++ l.drop (i + 1)) ∧ (∀ k, v'.ownBlock = some k → v.ownBlock = some k ∨ w.heap.size ≤ k) ∧ Only (tb :: t :: v.ownBlock.toList) w w' := by
  have hil : i < l.length := (List.getElem?_eq_some_iff.1 hx).1
  obtain ⟨g, cap, rfl, hgl⟩ := net_open h hil
  obtain ⟨c0, c1, c2, -⟩ := RowM.cells h.own hx
  have cw := h.c0
  have htl := lt_of_cell cw
  have hgt : g ≠ tb := fun e => htv (by rw [e]; rfl)
  have htk := take1_any w tb x hb
  have HS : Hid (∀ w1, Only [tb] w w1 → PNet w1 base t (.slice (some ⟨g, 0, none⟩) l.length cap) l) := fun w1 ho => h.only ho (by simpa using fun e => htt e.symm) (fun k hk => by cases hk; simpa using hgt)
  have HR : Hid (∀ w1, Only [tb] w w1 → Calls Tryd.prog 30 #[.slice (some ⟨g, 0, none⟩) l.length cap, .int .i64 i, .int .i64 ((i : Int) + 1), .slice none 0 0] w1 fun e w' => ∃ v', e = .returned v' ∧ Placed w1 w' base g v' (l.take i ++ l.drop (i + 1))) := fun w1 ho => replace_none_any w1 base g l.length cap i 0 none l (HS.out w1 ho).own rfl (by omega) hil
  have HE : Hid (∀ w1 w2 v', Only [tb] w w1 → MBox 40 w1 tb x → Placed w1 w2 base g v' (l.take i ++ l.drop (i + 1)) → w2.cell? ⟨t, 0, none⟩ = some (.slice (some ⟨g, 0, none⟩) l.length cap) ∧ w2.frozen? ⟨t, 0, none⟩ = false ∧ t < w2.heap.size ∧ MBox 40 (w2.setCell ⟨t, 0, none⟩ v') tb x ∧ PNet (w2.setCell ⟨t, 0, none⟩ v') base t v' (l.take i ++ l.drop (i + 1)) ∧ (∀ k, v'.ownBlock = some k → some g = some k ∨ w.heap.size ≤ k) ∧ Only (tb :: t :: [g]) w (w2.setCell ⟨t, 0, none⟩ v')) := fun w1 w2 v' ho hm hp => by
    obtain ⟨r1, r2, r3, r4, r5⟩ := PNet.stored (HS.out w1 ho) (Only.refl [] w1) hp rfl
    exact ⟨r1, r2, r3, hm.kept r5 (by simp [htt, Ne.symm hgt]), r4, (fun k hk => by
      rcases hp.2.2 with e | ⟨k', e, e2⟩
      · exact Or.inl (e.symm.trans hk)
      · rw [e] at hk
        cases hk
        exact Or.inr (Nat.le_trans ho.size e2)), (ho.mono (L' := [tb, t, g]) (fun k hk => by simp at hk; simp [hk])).trans r5 (fun k hk => Or.inl (by simp at hk ⊢; omega))⟩
  have e1 : (Value.slice (some ⟨g, 0, none⟩) l.length cap).ownBlock.toList = [g] := rfl
  rw [e1]
  obtain ⟨n, hn⟩ : ∃ n, l.length = n := ⟨_, rfl⟩
  rw [hn] at HS HR HE cw hl hil
  have d0 : decide ((i : Int) < 0) = false := decide_eq_false (by omega)
  have d1 : decide ((n : Int) ≤ (i : Int)) = false := decide_eq_false (by omega)
  have d2 : IntKind.i64.wrap ((n : Int) - 1) = (n : Int) - 1 := by rw [IntKind.wrap_i64]; omega
  have d3 : decide (100 < (n : Int) - 1) = false := decide_eq_false (by omega)
  have d4 : IntKind.i64.wrap ((i : Int) + 1) = (i : Int) + 1 := by rw [IntKind.wrap_i64]; omega
  have d5 : (i : Int) < n := by omega
  clear h hx hb htv hn e1
  go_enter Tryd.func21, Tryd.ntmps21
  go_wp2_with (first
    | (go_at_call 22; refine htk.mono ?_; rintro e w1 ⟨rfl, hm, ho⟩; have HM : Hid (MBox 40 w1 tb x) := hm; have HO : Hid (Only [tb] w w1) := ho; clear cw htl c0 c1 c2 hgl htk; have cw := (HS.out w1 ho).c0; have htl := lt_of_cell cw; have hre := HR.out w1 ho; clear hm ho)
    | (go_at_call 30; refine hre.mono ?_; rintro e w2 ⟨v2, rfl, hp⟩; obtain ⟨ad2, n2, cap2, rfl⟩ := RowM.form hp.1; obtain ⟨k0, k1, k2, hR⟩ := HE.out w1 w2 (.slice ad2 n2 cap2) HO.out HM.out hp; have HF : Hid (MBox 40 (w2.setCell ⟨t, 0, none⟩ (.slice ad2 n2 cap2)) tb x ∧ PNet (w2.setCell ⟨t, 0, none⟩ (.slice ad2 n2 cap2)) base t (.slice ad2 n2 cap2) (l.take i ++ l.drop (i + 1)) ∧ (∀ k, (Value.slice ad2 n2 cap2).ownBlock = some k → some g = some k ∨ w.heap.size ≤ k) ∧ Only (tb :: t :: [g]) w (w2.setCell ⟨t, 0, none⟩ (.slice ad2 n2 cap2))) := hR; clear hre hp hR cw htl))
  go_ret
  exact ⟨rfl, HF.out.1, _, HF.out.2⟩
set_option maxHeartbeats 4000000 in
theorem replace_drop (w : World) (base t cb : Nat) (v : Value) (l : List Msg) (i : Nat) (x : Msg) (h : PNet w base t v l) (hx : l[i]? = some x) (hl : l.length ≤ 100) (hc : w.cell? ⟨cb, 0, none⟩ = some (.int .i64 0)) :
    Calls Tryd.prog 21 #[.pointer (some ⟨t, 0, none⟩), .int .i64 i, .func (.func 31) #[] #[.pointer (some ⟨cb, 0, none⟩)]] w fun e w' => e = .returned .nilIface ∧ ∃ v', PNet w' base t v' (l.take i ++ l.drop (i + 1)) ∧ Only (t :: v.ownBlock.toList) w w' := by
  have hil : i < l.length := (List.getElem?_eq_some_iff.1 hx).1
  obtain ⟨g, cap, rfl, hgl⟩ := net_open h hil
  obtain ⟨c0, c1, c2, -⟩ := RowM.cells h.own hx
  have cw := h.c0
  have htl := lt_of_cell cw
  have htk := times1_none w cb x hc
  have HS : Hid (∀ w1, Only [] w w1 → PNet w1 base t (.slice (some ⟨g, 0, none⟩) l.length cap) l) := fun w1 ho => h.only ho (by simp) (fun k _ => by simp)
  have HR : Hid (∀ w1 sa c, Only [] w w1 → Calls Tryd.prog 30 #[.slice (some ⟨g, 0, none⟩) l.length cap, .int .i64 i, .int .i64 ((i : Int) + 1), .slice sa 0 c] w1 fun e w' => ∃ v', e = .returned v' ∧ Placed w1 w' base g v' (l.take i ++ l.drop (i + 1))) := fun w1 sa c ho => replace_none_any w1 base g l.length cap i c sa l (HS.out w1 ho).own rfl (by omega) hil
  have HE : Hid (∀ w1 w2 v', Only [] w w1 → Placed w1 w2 base g v' (l.take i ++ l.drop (i + 1)) → w2.cell? ⟨t, 0, none⟩ = some (.slice (some ⟨g, 0, none⟩) l.length cap) ∧ w2.frozen? ⟨t, 0, none⟩ = false ∧ t < w2.heap.size ∧ PNet (w2.setCell ⟨t, 0, none⟩ v') base t v' (l.take i ++ l.drop (i + 1)) ∧ Only (t :: [g]) w (w2.setCell ⟨t, 0, none⟩ v')) := fun w1 w2 v' ho hp => PNet.stored h ho hp rfl
  have e1 : (Value.slice (some ⟨g, 0, none⟩) l.length cap).ownBlock.toList = [g] := rfl
  rw [e1]
  obtain ⟨n, hn⟩ : ∃ n, l.length = n := ⟨_, rfl⟩
  rw [hn] at HS HR HE cw hl hil
  have d0 : decide ((i : Int) < 0) = false := decide_eq_false (by omega)
  have d1 : decide ((n : Int) ≤ (i : Int)) = false := decide_eq_false (by omega)
  have d2 : IntKind.i64.wrap ((n : Int) - 1) = (n : Int) - 1 := by rw [IntKind.wrap_i64]; omega
  have d3 : decide (100 < (n : Int) - 1) = false := decide_eq_false (by omega)
  have d4 : IntKind.i64.wrap ((i : Int) + 1) = (i : Int) + 1 := by rw [IntKind.wrap_i64]; omega
  have d5 : (i : Int) < n := by omega
  clear h hx hc hn e1
  go_enter Tryd.func21, Tryd.ntmps21
  go_wp2_with (first
    | (go_at_call 31; refine htk.mono ?_; rintro e w1 ⟨sa, c, rfl, ho⟩; have HO : Hid (Only [] w w1) := ho; clear cw htl c0 c1 c2 hgl htk; have cw := (HS.out w1 ho).c0; have htl := lt_of_cell cw; have hre := HR.out w1 sa c ho; clear ho)
    | (go_at_call 30; refine hre.mono ?_; rintro e w2 ⟨v2, rfl, hp⟩; obtain ⟨ad2, n2, cap2, rfl⟩ := RowM.form hp.1; obtain ⟨k0, k1, k2, hR⟩ := HE.out w1 w2 (.slice ad2 n2 cap2) HO.out hp; have HF : Hid (PNet (w2.setCell ⟨t, 0, none⟩ (.slice ad2 n2 cap2)) base t (.slice ad2 n2 cap2) (l.take i ++ l.drop (i + 1)) ∧ Only (t :: [g]) w (w2.setCell ⟨t, 0, none⟩ (.slice ad2 n2 cap2))) := hR; clear hre hp hR cw htl))
  go_ret
  exact ⟨rfl, _, HF.out⟩
set_option maxHeartbeats 4000000 in
theorem replace_twice (A : Nat → Addr) (w : World) (base t cb : Nat) (v : Value) (l : List Msg) (i : Nat) (x : Msg) (hE : Errs w A) (h : PNet w base t v l) (hx : l[i]? = some x) (hl : l.length ≤ 100) (hc : w.cell? ⟨cb, 0, none⟩ = some (.int .i64 2)) (hbs : base ≤ w.heap.size) :
    Calls Tryd.prog 21 #[.pointer (some ⟨t, 0, none⟩), .int .i64 i, .func (.func 31) #[] #[.pointer (some ⟨cb, 0, none⟩)]] w fun e w' => (l.length < 100 ∧ e = .returned .nilIface ∧ ∃ v', PNet w' base t v' (l.take i ++ [x, x] ++ l.drop (i + 1)) ∧ Only (t :: v.ownBlock.toList) w w') ∨ (l.length = 100 ∧ e = .returned (sErr A 8) ∧ Only [] w w') := by
  have hil : i < l.length := (List.getElem?_eq_some_iff.1 hx).1
  obtain ⟨g, cap, rfl, hgl⟩ := net_open h hil
  obtain ⟨c0, c1, c2, -⟩ := RowM.cells h.own hx
  have cw := h.c0
  have htl := lt_of_cell cw
  have htk := times1_two w cb x hc
  have HS : Hid (∀ w1, Only [] w w1 → PNet w1 base t (.slice (some ⟨g, 0, none⟩) l.length cap) l) := fun w1 ho => h.only ho (by simp) (fun k _ => by simp)
  have HC8 : Hid (∀ w1, Only [] w w1 → w1.cell? ⟨1, 0, none⟩ = some (.iface 121 (.pointer (some (A 8))))) := fun w1 ho => (ho.cell (p := ⟨1, 0, none⟩) (lt_of_cell (hE.cell 8 (by decide))) (by simp)).trans (hE.cell 8 (by decide))
  have HR : Hid (∀ w1 vg, Only [] w w1 → w.heap.size ≤ vg → Msgs w1 w.heap.size (.slice (some ⟨vg, 0, none⟩) 2 2) [x, x] → Calls Tryd.prog 30 #[.slice (some ⟨g, 0, none⟩) l.length cap, .int .i64 i, .int .i64 ((i : Int) + 1), .slice (some ⟨vg, 0, none⟩) 2 2] w1 fun e w' => ∃ v', e = .returned v' ∧ Placed w1 w' base g v' (l.take i ++ [x, x] ++ l.drop (i + 1))) := fun w1 vg ho hvg hm => replace_two_any w1 base w.heap.size g vg l.length cap i 2 l [x, x] (HS.out w1 ho).own rfl (by omega) hil hm rfl (by omega) (Nat.le_trans hbs ho.size)
  have HE : Hid (∀ w1 w2 v', Only [] w w1 → Placed w1 w2 base g v' (l.take i ++ [x, x] ++ l.drop (i + 1)) → w2.cell? ⟨t, 0, none⟩ = some (.slice (some ⟨g, 0, none⟩) l.length cap) ∧ w2.frozen? ⟨t, 0, none⟩ = false ∧ t < w2.heap.size ∧ PNet (w2.setCell ⟨t, 0, none⟩ v') base t v' (l.take i ++ [x, x] ++ l.drop (i + 1)) ∧ Only (t :: [g]) w (w2.setCell ⟨t, 0, none⟩ v')) := fun w1 w2 v' ho hp => PNet.stored h ho hp rfl
  have e1 : (Value.slice (some ⟨g, 0, none⟩) l.length cap).ownBlock.toList = [g] := rfl
  rw [e1]
  obtain ⟨n, hn⟩ : ∃ n, l.length = n := ⟨_, rfl⟩
  rw [hn] at HS HR HE cw hl hil ⊢
  have d0 : decide ((i : Int) < 0) = false := decide_eq_false (by omega)
  have d1 : decide ((n : Int) ≤ (i : Int)) = false := decide_eq_false (by omega)
  have d2 : IntKind.i64.wrap ((n : Int) - 1) = (n : Int) - 1 := by rw [IntKind.wrap_i64]; omega
  have d6 : IntKind.i64.wrap ((n : Int) - 1 + 2) = (n : Int) - 1 + 2 := by rw [IntKind.wrap_i64]; omega
  have d4 : IntKind.i64.wrap ((i : Int) + 1) = (i : Int) + 1 := by rw [IntKind.wrap_i64]; omega
  have d5 : (i : Int) < n := by omega
  unfold sErr
  clear h hx hc hn e1 hE hbs
  by_cases hfull : n < 100
  · have d3 : decide (100 < (n : Int) - 1 + 2) = false := decide_eq_false (by omega)
    go_enter Tryd.func21, Tryd.ntmps21
    go_wp2_with (first
      | (go_at_call 31; refine htk.mono ?_; rintro e w1 ⟨vg, rfl, hvg, hm, ho⟩; have HO : Hid (Only [] w w1) := ho; clear cw htl c0 c1 c2 hgl htk; have cw := (HS.out w1 ho).c0; have htl := lt_of_cell cw; have hre := HR.out w1 vg ho hvg hm; clear ho hm hvg)
      | (go_at_call 30; refine hre.mono ?_; rintro e w2 ⟨v2, rfl, hp⟩; obtain ⟨ad2, n2, cap2, rfl⟩ := RowM.form hp.1; obtain ⟨k0, k1, k2, hR⟩ := HE.out w1 w2 (.slice ad2 n2 cap2) HO.out hp; have HF : Hid (PNet (w2.setCell ⟨t, 0, none⟩ (.slice ad2 n2 cap2)) base t (.slice ad2 n2 cap2) (l.take i ++ [x, x] ++ l.drop (i + 1)) ∧ Only (t :: [g]) w (w2.setCell ⟨t, 0, none⟩ (.slice ad2 n2 cap2))) := hR; clear hre hp hR cw htl))
    go_ret
    exact Or.inl ⟨hfull, rfl, _, HF.out⟩
  · have d3 : decide (100 < (n : Int) - 1 + 2) = true := decide_eq_true (by omega)
    go_enter Tryd.func21, Tryd.ntmps21
    go_wp2_with (go_at_call 31; refine htk.mono ?_; rintro e w1 ⟨vg, rfl, hvg, hm, ho⟩; have HO : Hid (Only [] w w1) := ho; clear cw htl c0 c1 c2 hgl htk; have cw := (HS.out w1 ho).c0; have htl := lt_of_cell cw; have c8 := HC8.out w1 ho; clear ho hm hvg)
    go_ret
    exact Or.inr ⟨by omega, rfl, HO.out⟩
end Go.Proofs.YtkfelijpajdcoaaDoor
