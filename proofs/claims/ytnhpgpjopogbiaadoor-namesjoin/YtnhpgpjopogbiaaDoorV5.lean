/- NamesCheck, walked over the contracts. -/
import Derived.Test.YtnhpgpjopogbiaaDoorS8
import Derived.Test.YtnhpgpjopogbiaaDoorM3
import Derived.Test.YtnhpgpjopogbiaaDoorM4
namespace Go.Proofs.YtnhpgpjopogbiaaDoor
open Go Go.RowKit Go.Deep

theorem pathIs_one {n : Nat} {T : Nat → ByteArray} {c p c' p' : Int} (h : PathIs n T c p) (h' : PathIs n T c' p') : c = c' ∧ p = p' := by
  rcases h with ⟨i, hi, hn, hb, rfl, rfl⟩ | ⟨ha, h12, rfl, rfl⟩ | ⟨ha, h12, rfl, rfl⟩
  · rcases h' with ⟨i', hi', hn', hb', rfl, rfl⟩ | ⟨ha', h12', rfl, rfl⟩ | ⟨ha', h12', rfl, rfl⟩
    · refine ⟨rfl, ?_⟩
      rcases Nat.lt_trichotomy i i' with k | rfl | k
      · exact absurd (hb' i k) hn
      · rfl
      · exact absurd (hb i' k) hn'
    · exact absurd (ha' i hi) hn
    · exact absurd (ha' i hi) hn
  · rcases h' with ⟨i', hi', hn', hb', rfl, rfl⟩ | ⟨ha', h12', rfl, rfl⟩ | ⟨ha', h12', rfl, rfl⟩
    · exact absurd (ha i' hi') hn'
    · exact ⟨rfl, rfl⟩
    · omega
  · rcases h' with ⟨i', hi', hn', hb', rfl, rfl⟩ | ⟨ha', h12', rfl, rfl⟩ | ⟨ha', h12', rfl, rfl⟩
    · exact absurd (ha i' hi') hn'
    · omega
    · exact ⟨rfl, rfl⟩
theorem pathIs_few {n : Nat} {T : Nat → ByteArray} {p : Int} (h : PathIs n T 0 p) : n ≤ 12 ∧ p = -1 ∧ ∀ k, k < n → OkN (T k) := by
  rcases h with ⟨_, _, _, _, h, _⟩ | ⟨_, _, h, _⟩ | ⟨ha, h, _, hp⟩
  · cases h
  · cases h
  · exact ⟨h, hp, ha⟩
theorem pathIs_code {n : Nat} {T : Nat → ByteArray} {c p : Int} (h : PathIs n T c p) : c = 0 ∨ 0 < c := by
  rcases h with ⟨_, _, _, _, h, _⟩ | ⟨_, _, h, _⟩ | ⟨_, _, h, _⟩ <;> omega

/-- Two answers to one text. -/
theorem split_pair {s : ByteArray} {A : Nat → Addr} {w w1 w2 w3 : World} {a1 a2 : Option Addr} {n1 c1 n2 c2 : Nat} {v1 : Value} {code place : Int}
    (h1 : Cuts s A w (.returned (.tuple #[.slice a1 n1 c1, v1])) w1) (h2 : SplitEnds s w2 (.returned (.tuple #[.slice a2 n2 c2, .agg #[.int .i64 code, .int .i64 place]])) w3) :
    (0 < code ∧ n1 = 0 ∧ ErrIs w1 A code place v1) ∨ (code = 0 ∧ v1 = .nilIface ∧ n1 = n2 ∧ n1 ≤ 1000000 ∧ ∃ T, TextsIn w1 a1 n1 T ∧ TextsIn w3 a2 n1 T) := by
  rcases h1 with ⟨h, e1, _⟩ | ⟨h, hb, e1, _⟩ | ⟨h, hg, c, p, v, hP, hV, _, hR⟩
  · rcases h2 with ⟨_, e2, _⟩ | ⟨h', _⟩ | ⟨h', _⟩
    · simp at e1 e2
      obtain ⟨⟨rfl, rfl, rfl⟩, rfl⟩ := e1
      obtain ⟨⟨rfl, rfl, rfl⟩, rfl, rfl⟩ := e2
      exact Or.inr ⟨rfl, rfl, rfl, by decide, fun _ => ⟨#[]⟩, Or.inl rfl, Or.inl rfl⟩
    · rw [h] at h'; cases h'
    · rw [h] at h'; cases h'
  · rcases h2 with ⟨h', _⟩ | ⟨_, _, e2, _⟩ | ⟨_, hg, _⟩
    · rw [h] at h'; cases h'
    · simp at e1 e2
      obtain ⟨⟨rfl, rfl, rfl⟩, rfl⟩ := e1
      obtain ⟨⟨rfl, rfl, rfl⟩, rfl, rfl⟩ := e2
      exact Or.inl ⟨by decide, rfl, Or.inr (Or.inl ⟨0, by decide, rfl, rfl, rfl⟩)⟩
    · obtain ⟨h0, k1, k2⟩ := hg
      exact absurd (hb h0) (fun k => k.elim (fun k => k k1) k2)
  · rcases h2 with ⟨h', _⟩ | ⟨_, hb, _⟩ | ⟨_, _, c', p', hP', _, hR'⟩
    · rw [h] at h'; cases h'
    · obtain ⟨h0, k1, k2⟩ := hg
      exact absurd (hb h0) (fun k => k.elim (fun k => k k1) k2)
    · obtain ⟨rfl, rfl⟩ := pathIs_one hP hP'
      rcases hR with ⟨rfl, a, e1, hT⟩ | ⟨hne, e1⟩
      · rcases hR' with ⟨hlt, _⟩ | ⟨_, a', c'', e2, hT'⟩
        · exact absurd hlt (by decide)
        · simp at e1 e2
          obtain ⟨⟨rfl, rfl, rfl⟩, rfl⟩ := e1
          obtain ⟨⟨rfl, rfl, rfl⟩, rfl, rfl⟩ := e2
          have := (pathIs_few hP).1
          exact Or.inr ⟨rfl, rfl, rfl, by omega, _, hT, hT'⟩
      · rcases hR' with ⟨hlt, e2⟩ | ⟨h0, _⟩
        · simp at e1 e2
          obtain ⟨⟨rfl, rfl, rfl⟩, rfl⟩ := e1
          obtain ⟨⟨rfl, rfl, rfl⟩, rfl, rfl⟩ := e2
          exact Or.inl ⟨hlt, rfl, hV⟩
        · exact absurd h0 hne
theorem cuts_form {s : ByteArray} {A : Nat → Addr} {w w' : World} {e : Ending} (h : Cuts s A w e w') : ∃ a n c v, e = .returned (.tuple #[.slice a n c, v]) ∧ (v = .nilIface ∨ ∃ t u, v = .iface t u) ∧ Below w.heap.size w w' := by
  rcases h with ⟨_, e, b⟩ | ⟨_, _, e, b⟩ | ⟨_, _, c, p, v, _, hV, b, (⟨_, a, e, _⟩ | ⟨_, e⟩)⟩
  · exact ⟨_, _, _, _, e, Or.inl rfl, b⟩
  · exact ⟨_, _, _, _, e, Or.inr ⟨_, _, rfl⟩, b⟩
  · exact ⟨_, _, _, _, e, Or.inl rfl, b⟩
  · refine ⟨_, _, _, _, e, ?_, b⟩
    rcases hV with ⟨_, rfl⟩ | ⟨_, _, _, _, rfl⟩ | ⟨_, _, _, _, rfl, _⟩
    · exact Or.inl rfl
    · exact Or.inr ⟨_, _, rfl⟩
    · exact Or.inr ⟨_, _, rfl⟩
theorem ends_form {s : ByteArray} {w w' : World} {e : Ending} (h : SplitEnds s w e w') : ∃ a n c, ∃ code place : Int, e = .returned (.tuple #[.slice a n c, .agg #[.int .i64 code, .int .i64 place]]) ∧ Below w.heap.size w w' := by
  rcases h with ⟨_, e, b⟩ | ⟨_, _, e, b⟩ | ⟨_, _, c, p, _, b, (⟨_, e⟩ | ⟨rfl, a, c', e, _⟩)⟩
  · exact ⟨_, _, _, _, _, e, b⟩
  · exact ⟨_, _, _, _, _, e, b⟩
  · exact ⟨_, _, _, _, _, e, b⟩
  · exact ⟨_, _, _, _, _, e, b⟩
theorem faulted_any (A : Nat → Addr) (code place : Int) (v : Value) (w : World) (hE : Errs w A) (h : ErrIs w A code place v) (hc : 0 < code) :
    Calls Tryd.prog 35 #[v, .agg #[.int .i64 code, .int .i64 place]] w fun e w' => e = .returned (.bool true) ∧ Below w.heap.size w w' := by
  rcases h with ⟨rfl, _⟩ | ⟨k, hk, rfl, rfl, rfl⟩ | ⟨k, pb, hk, rfl, rfl, h0, h1⟩
  · exact absurd hc (by decide)
  · exact faulted_err A k hk w hE
  · exact faulted_fault A k hk pb place w hE h0 h1
theorem asked_any (s : ByteArray) (A : Nat → Addr) (w : World) (hE : Errs w A) : Calls Tryd.prog 31 #[.string s] w fun e w' => ∃ (v : Value) (c : Int), e = .returned v ∧ Below w.heap.size w w' ∧
    (∀ W, Calls Tryd.prog 32 #[.string s] W fun e w' => e = .returned (.int .i64 c) ∧ W = w') ∧
    (∀ W, Errs W A → Calls Tryd.prog 11 #[v, .int .i64 c] W fun e w' => e = .returned (.bool true) ∧ Below W.heap.size W w') := by
  refine (check_any s A w hE).mono ?_
  rintro e w' ⟨⟨ho, rfl⟩ | ⟨ho, rfl⟩, hb⟩
  · exact ⟨_, 0, rfl, hb, fun W => (nameError_any s W).mono fun _ _ k => ⟨k.1.elim (fun x => x.2) (fun x => absurd ho x.1), k.2⟩, fun W _ => (coded_nil W).mono fun _ _ k => ⟨k.1, k.2 ▸ Below.refl _ _⟩⟩
  · exact ⟨_, 4, rfl, hb, fun W => (nameError_any s W).mono fun _ _ k => ⟨k.1.elim (fun x => absurd x.1 ho) (fun x => x.2), k.2⟩, fun W hW => coded_err A 3 (by decide) W hW⟩

set_option maxRecDepth 100000 in
theorem namesCheck_walk (s : ByteArray) (A : Nat → Addr) (m : Int) (w : World) (hs : s.size ≤ 600) (hE : Errs w A) (hm : w.cell? ⟨16, 0, none⟩ = some (.int .i64 m)) :
    Calls Tryd.prog 7 #[.string s] w fun e w' => e = .returned (.bool true) ∧ Below w.heap.size w w' := by
  have hn := named_any A m w hE hm
  have HE : Hid (Errs w A) := hE
  have HM : Hid (w.cell? ⟨16, 0, none⟩ = some (.int .i64 m)) := hm
  have hd : decide (600 < (s.size : Int)) = false := decide_eq_false (by omega)
  clear hE hm
  go_enter Tryd.func7, Tryd.ntmps7
  go_wp2_with (go_at_call 30; go_must (refine hn.mono ?_); rintro e w1 ⟨rfl, hb1⟩)
  have E1 : Errs w1 A := HE.out.below hb1 (Nat.le_refl _)
  refine (asked_any s A w1 E1).mono ?_
  rintro e w2 ⟨v, c, rfl, hb2, hq, hk⟩
  have HK : Hid (∀ W, Errs W A → Calls Tryd.prog 11 #[v, .int .i64 c] W fun e w' => e = .returned (.bool true) ∧ Below W.heap.size W w') := hk
  have HB2 : Hid (Below w.heap.size w w2) := hb1.trans (hb2.mono hb1.size)
  have hq2 := hq w2
  clear hk hb1 hb2 E1 hn hq
  go_wp2_with (go_at_call 32; go_must (refine hq2.mono ?_); rintro e w3 ⟨rfl, rfl⟩)
  refine (HK.out w2 (HE.out.below HB2.out (Nat.le_refl _))).mono ?_
  rintro e w3 ⟨rfl, hb3⟩
  have HB3 : Hid (Below w.heap.size w w3) := HB2.out.trans (hb3.mono HB2.out.size)
  clear hb3 hq2 HK HB2
  go_wp2_with fail
  refine (split_any s A m w3 (HE.out.below HB3.out (Nat.le_refl _)) ((HB3.out.cell (p := ⟨16, 0, none⟩) (lt_of_cell HM.out)).trans HM.out) (by omega)).mono ?_
  intro e w4 hC
  obtain ⟨a1, n1, c1, v1, rfl, hv1, hb4⟩ := cuts_form hC
  have HC : Hid (Cuts s A w3 (.returned (.tuple #[.slice a1 n1 c1, v1])) w4) := hC
  have HB4 : Hid (Below w.heap.size w w4) := HB3.out.trans (hb4.mono HB3.out.size)
  clear hC hb4 hv1
  go_wp2_with fail
  refine (splitOf_any s w4 hs).mono ?_
  intro e w5 hS
  obtain ⟨a2, n2, c2, code, place, rfl, hb5⟩ := ends_form hS
  have hpair := split_pair HC.out hS
  have hb45 : Below w4.heap.size w4 (w5.alloc (.cells #[.int .i64 code, .int .i64 place] 67)) := hb5.alloc hb5.size _
  have hb6 : Below w.heap.size w (w5.alloc (.cells #[.int .i64 code, .int .i64 place] 67)) := HB4.out.trans (hb45.mono HB4.out.size)
  clear hS HC
  rcases hpair with ⟨hpos, rfl, hEr⟩ | ⟨rfl, rfl, rfl, hle, T, hT1, hT2⟩
  · have hf := faulted_any A code place v1 _ (HE.out.below hb6 (Nat.le_refl _)) (hEr.below hb45 (Nat.le_refl _)) hpos
    have HB6 : Hid _ := hb6
    clear hb5 hb45 hb6 hEr
    go_wp2_with (go_at_call 35; go_must (refine hf.mono ?_); rintro e w7 ⟨rfl, hb7⟩)
    go_ret
    exact ⟨rfl, HB6.out.trans (hb7.mono HB6.out.size)⟩
  · have hf := sameTexts_any a1 a2 c1 c2 n1 T _ (hT1.below hb45 (Nat.le_refl _)) (hT2.below ((Below.refl _ _).alloc (Nat.le_refl _) _) (Nat.le_refl _)) hle
    have HB6 : Hid _ := hb6
    clear hb5 hb45 hb6 hT1 hT2
    go_wp2_with (go_at_call 36; go_must (refine hf.mono ?_); rintro e w7 ⟨rfl, hb7⟩)
    go_ret
    exact ⟨rfl, HB6.out.trans (hb7.mono HB6.out.size)⟩
set_option maxRecDepth 100000 in
theorem namesCheck_long (s : ByteArray) (A : Nat → Addr) (m : Int) (w : World) (hs : 600 < s.size) (hE : Errs w A) (hm : w.cell? ⟨16, 0, none⟩ = some (.int .i64 m)) :
    Calls Tryd.prog 7 #[.string s] w fun e w' => e = .returned (.bool true) ∧ Below w.heap.size w w' := by
  have hn := named_any A m w hE hm
  have hd : decide (600 < (s.size : Int)) = true := decide_eq_true (by omega)
  clear hE hm
  go_enter Tryd.func7, Tryd.ntmps7
  go_wp2_with (go_at_call 30; go_must (refine hn.mono ?_); rintro e w1 ⟨rfl, hb1⟩)
  go_ret
  exact ⟨rfl, hb1⟩
theorem namesCheck_any (s : ByteArray) (A : Nat → Addr) (m : Int) (w : World) (hE : Errs w A) (hm : w.cell? ⟨16, 0, none⟩ = some (.int .i64 m)) :
    Calls Tryd.prog 7 #[.string s] w fun e w' => e = .returned (.bool true) ∧ Below w.heap.size w w' := by
  rcases Nat.lt_or_ge 600 s.size with h | h
  · exact namesCheck_long s A m w h hE hm
  · exact namesCheck_walk s A m w h hE hm
end Go.Proofs.YtnhpgpjopogbiaaDoor
