/- Calls: who can be a caller: NewCaller by its contract; lease.New, serve.New, NewListener. -/
import Derived.Test.YtmfcfkomdflhlaaDoorCl1
import Derived.Test.YtmfcfkomdflhlaaDoorQ6
import Derived.Test.YtmfcfkomdflhlaaDoorP7
import Derived.Test.YtmfcfkomdflhlaaDoorQ5
namespace Go.Proofs.YtmfcfkomdflhlaaDoor
open Go Go.RowKit Go.Deep Go.Maps

/-- A caller in memory. -/
def ClrAt (w : World) (c : Nat) (a b : ByteArray) (last : Int) (t : ByteArray) : Prop := w.heap[c]? = some (.cells #[.string a, .string b, .int .i64 last, .string t] 44 (0, 0))
theorem check_yes0 (A : Nat → Addr) (s : ByteArray) (h : OkN s) (W : World) (hE : Errs W A) : Calls Tryd.prog 11 #[.string s] W fun e w' => e = .returned .nilIface ∧ Below W.heap.size W w' :=
  (check_any s A W hE).mono fun e w' q => by
    rcases q with ⟨⟨_, q⟩ | ⟨q, _⟩, hb⟩
    · exact ⟨q, hb⟩
    · exact absurd h q
theorem check_no0 (A : Nat → Addr) (s : ByteArray) (h : ¬ OkN s) (W : World) (hE : Errs W A) : Calls Tryd.prog 11 #[.string s] W fun e w' => e = .returned (erV A 3) ∧ Below W.heap.size W w' :=
  (check_any s A W hE).mono fun e w' q => by
    rcases q with ⟨⟨q, _⟩ | ⟨_, q⟩, hb⟩
    · exact absurd q h
    · exact ⟨q, hb⟩
theorem pair_cells {w w' : World} {x y : Value} {t : TypeId} (hb : Below (w.alloc (.cells #[x, y] t)).heap.size (w.alloc (.cells #[x, y] t)) w') : w'.cell? ⟨w.heap.size, 1, none⟩ = some y ∧ Below w.heap.size w w' := by
  refine ⟨?_, ((Below.refl _ _).alloc (Nat.le_refl _) _).trans (hb.mono (by simp))⟩
  rw [hb.cell (p := ⟨w.heap.size, 1, none⟩) (by simp)]
  simp
theorem newCaller_no1 (A : Nat → Addr) (a b : ByteArray) (w : World) (hE : Errs w A) (ha : ¬ OkN a) :
    Calls Tryd.prog 5 #[.string a, .string b] w fun e w' => e = .returned (.tuple #[.pointer none, erV A 3]) ∧ Below w.heap.size w w' := by
  have H1 : Hid (∀ W, Errs W A → Calls Tryd.prog 11 #[.string a] W fun e w' => e = .returned (erV A 3) ∧ Below W.heap.size W w') := check_no0 A a ha
  have HE : Hid (∀ o, Errs (w.alloc o) A) := fun o => hE.below ((Below.refl _ _).alloc (Nat.le_refl _) _) (Nat.le_refl _)
  clear hE ha
  go_enter Tryd.func5, Tryd.ntmps5
  go_wp2
  refine wp_loop_rounds 3 ?_
  rw [rounds_succ]
  go_wp2_with (go_at_call 11; go_must (refine (H1.out _ (HE.out _)).mono ?_); rintro e w1 ⟨rfl, hb⟩)
  go_ret2
  exact ⟨rfl, (pair_cells hb).2⟩
theorem newCaller_no2 (A : Nat → Addr) (a b : ByteArray) (w : World) (hE : Errs w A) (ha : OkN a) (hb : ¬ OkN b) :
    Calls Tryd.prog 5 #[.string a, .string b] w fun e w' => e = .returned (.tuple #[.pointer none, erV A 3]) ∧ Below w.heap.size w w' := by
  have H1 : Hid (∀ W, Errs W A → Calls Tryd.prog 11 #[.string a] W fun e w' => e = .returned .nilIface ∧ Below W.heap.size W w') := check_yes0 A a ha
  have H2 : Hid (∀ W, Errs W A → Calls Tryd.prog 11 #[.string b] W fun e w' => e = .returned (erV A 3) ∧ Below W.heap.size W w') := check_no0 A b hb
  have HE0 : Hid (∀ W, Below w.heap.size w W → Errs W A) := fun W h => hE.below h (Nat.le_refl _)
  have HE : Hid (∀ o, Errs (w.alloc o) A) := fun o => hE.below ((Below.refl _ _).alloc (Nat.le_refl _) _) (Nat.le_refl _)
  clear hE ha hb
  go_enter Tryd.func5, Tryd.ntmps5
  go_wp2
  refine wp_loop_rounds 3 ?_
  rw [rounds_succ]
  go_wp2_with (go_at_call 11; go_must (refine (H1.out _ (HE.out _)).mono ?_); rintro e w1 ⟨rfl, hb⟩; obtain ⟨c1, B1⟩ := pair_cells hb; have HB1 : Hid (Below w.heap.size w w1) := B1; clear B1 hb)
  rw [rounds_succ]
  go_wp2_with (go_at_call 11; go_must (refine (H2.out w1 (HE0.out _ HB1.out)).mono ?_); rintro e w2 ⟨rfl, hb⟩)
  go_ret2
  exact ⟨rfl, HB1.out.trans (hb.mono HB1.out.size)⟩
theorem newCaller_ok (A : Nat → Addr) (a b : ByteArray) (w : World) (hE : Errs w A) (ha : OkN a) (hb : OkN b) :
    Calls Tryd.prog 5 #[.string a, .string b] w fun e w' => ∃ c, e = .returned (.tuple #[.pointer (some ⟨c, 0, none⟩), .nilIface]) ∧ ClrAt w' c a b 0 ⟨#[]⟩ ∧ w.heap.size ≤ c ∧ Below w.heap.size w w' := by
  have H1 : Hid (∀ W, Errs W A → Calls Tryd.prog 11 #[.string a] W fun e w' => e = .returned .nilIface ∧ Below W.heap.size W w') := check_yes0 A a ha
  have H2 : Hid (∀ W, Errs W A → Calls Tryd.prog 11 #[.string b] W fun e w' => e = .returned .nilIface ∧ Below W.heap.size W w') := check_yes0 A b hb
  have HE0 : Hid (∀ W, Below w.heap.size w W → Errs W A) := fun W h => hE.below h (Nat.le_refl _)
  have HE : Hid (∀ o, Errs (w.alloc o) A) := fun o => hE.below ((Below.refl _ _).alloc (Nat.le_refl _) _) (Nat.le_refl _)
  clear hE ha hb
  go_enter Tryd.func5, Tryd.ntmps5
  go_wp2
  refine wp_loop_rounds 3 ?_
  rw [rounds_succ]
  go_wp2_with (go_at_call 11; go_must (refine (H1.out _ (HE.out _)).mono ?_); rintro e w1 ⟨rfl, hb⟩; obtain ⟨c1, B1⟩ := pair_cells hb; have HB1 : Hid (Below w.heap.size w w1) := B1; clear B1 hb)
  rw [rounds_succ]
  go_wp2_with (go_at_call 11; go_must (refine (H2.out w1 (HE0.out _ HB1.out)).mono ?_); rintro e w2 ⟨rfl, hb⟩; have HB2 : Hid (Below w.heap.size w w2) := HB1.out.trans (hb.mono HB1.out.size); clear hb)
  rw [rounds_succ]
  go_wp2
  go_ret2
  exact ⟨_, rfl, (show (w2.heap.push _)[w2.heap.size]? = _ by simp), HB2.out.size, HB2.out.alloc HB2.out.size _⟩
theorem leaseNew0 (w : World) : Calls Tryd.prog 25 #[] w fun e w' => (∃ t, e = .returned (.pointer (some ⟨t, 0, none⟩))) ∧ Below w.heap.size w w' := by
  have hmm := @run_makeMap Tryd.prog
  go_enter Tryd.func25, Tryd.ntmps25
  go_wp2
  go_ret
  exact ⟨⟨_, rfl⟩, ((Below.refl _ _).alloc (Nat.le_refl _) _).alloc (by simp) _⟩
theorem cell_new0 (w : World) (a : Array Value) (ty : TypeId) (k : Nat) (v : Value) (h : k = w.heap.size ∧ a[0]? = some v) : (w.alloc (.cells a ty)).cell? ⟨k, 0, none⟩ = some v := by
  obtain ⟨rfl, h⟩ := h
  rw [World.cell?_alloc_new]
  exact h
/-- A server over a tree. -/
theorem serve_over (w : World) (tr : Nat) : Calls Tryd.prog 14 #[.pointer (some ⟨tr, 0, none⟩)] w fun e w' => ∃ s, e = .returned (.pointer (some ⟨s, 0, none⟩)) ∧ (w'.cell? ⟨s, 0, none⟩ = some (.pointer (some ⟨tr, 0, none⟩)) ∧ w.heap.size ≤ s ∧ s + 1 ≤ w'.heap.size) ∧ Below w.heap.size w w' := by
  have hmm := @run_makeMap Tryd.prog
  go_enter Tryd.func14, Tryd.ntmps14
  go_wp2_with (go_at_call 25; go_must (refine (leaseNew0 _).mono ?_); rintro e w2 ⟨⟨lt, rfl⟩, hb2⟩)
  go_ret
  have hs := hb2.size
  exact ⟨w2.heap.size + 1 + 1, rfl, ⟨cell_new0 _ _ _ _ _ (by simp), by omega, by simp⟩, ((hb2.alloc hs _).alloc (by simp; omega) _).alloc (by simp; omega) _⟩
/-- A new server: one there is. -/
theorem serveNew0 (w : World) (most : Nat) (h1 : 1 ≤ most) (h2 : most ≤ 300) :
    Calls Tryd.prog 8 #[.int .i64 most] w fun e w' => (∃ t, e = .returned (.tuple #[.pointer (some ⟨t, 0, none⟩), .nilIface])) ∧ Below w.heap.size w w' := by
  have HT : Hid (Calls Tryd.prog 13 #[.int .i64 most] w fun e w' => (∃ tr, e = .returned (.tuple #[.pointer (some ⟨tr, 0, none⟩), .nilIface])) ∧ Below w.heap.size w w') := (tree_new w most h1 h2).mono fun e w' q => by
    obtain ⟨tr, t, p, b, db, B, pb, he, _, ho, _⟩ := q
    exact ⟨⟨tr, he⟩, ho.to_below (Nat.le_refl _) (fun k hk => by cases hk)⟩
  clear h1 h2
  go_enter Tryd.func8, Tryd.ntmps8
  go_wp2_with (first
    | (go_at_call 13; go_must (refine HT.out.mono ?_); rintro e w1 ⟨⟨tr, rfl⟩, hb1⟩)
    | (go_at_call 14; go_must (refine (serve_over _ _).mono ?_); rintro e w2 ⟨s, rfl, _, hb2⟩))
  go_ret2
  exact ⟨⟨_, rfl⟩, hb1.trans (hb2.mono hb1.size)⟩
theorem newListener_name (A : Nat → Addr) (a : ByteArray) (v : Value) (m : Int) (w : World) (hE : Errs w A) (ha : ¬ OkN a) :
    Calls Tryd.prog 9 #[.string a, v, .int .i64 m] w fun e w' => e = .returned (.tuple #[.pointer none, erV A 3]) ∧ Below w.heap.size w w' := by
  have H1 : Hid (Calls Tryd.prog 11 #[.string a] w fun e w' => e = .returned (erV A 3) ∧ Below w.heap.size w w') := check_no0 A a ha w hE
  clear hE ha
  go_enter Tryd.func9, Tryd.ntmps9
  go_wp2_with (go_at_call 11; go_must (refine H1.out.mono ?_); rintro e w1 ⟨rfl, hb⟩)
  go_ret2
  exact ⟨rfl, hb⟩
theorem newListener_nil (A : Nat → Addr) (a : ByteArray) (m : Int) (w : World) (hE : Errs w A) (ha : OkN a) :
    Calls Tryd.prog 9 #[.string a, .pointer none, .int .i64 m] w fun e w' => e = .returned (.tuple #[.pointer none, erV A 2]) ∧ Below w.heap.size w w' := by
  have H1 : Hid (Calls Tryd.prog 11 #[.string a] w fun e w' => e = .returned .nilIface ∧ Below w.heap.size w w') := check_yes0 A a ha w hE
  have HE0 : Hid (∀ W, Below w.heap.size w W → Errs W A) := fun W h => hE.below h (Nat.le_refl _)
  clear hE ha
  go_enter Tryd.func9, Tryd.ntmps9
  go_wp2_with (go_at_call 11; go_must (refine H1.out.mono ?_); rintro e w1 ⟨rfl, hb⟩; have ce : w1.cell? ⟨0, 0, none⟩ = some (erV A 2) := (HE0.out w1 hb).cell 2 (by decide); have HB : Hid (Below w.heap.size w w1) := hb; clear hb)
  go_region
  all_goals
    go_wp2
    go_ret2
    exact ⟨rfl, HB.out.drew⟩
theorem newListener_bad (A : Nat → Addr) (a : ByteArray) (s : Nat) (m : Int) (w : World) (hE : Errs w A) (ha : OkN a) (hm : m < 1 ∨ 20 < m) :
    Calls Tryd.prog 9 #[.string a, .pointer (some ⟨s, 0, none⟩), .int .i64 m] w fun e w' => e = .returned (.tuple #[.pointer none, erV A 1]) ∧ Below w.heap.size w w' := by
  have H1 : Hid (Calls Tryd.prog 11 #[.string a] w fun e w' => e = .returned .nilIface ∧ Below w.heap.size w w') := check_yes0 A a ha w hE
  have H2 : Hid (∀ W, Below w.heap.size w W → Calls Tryd.prog 15 #[.int .i64 m] W fun e w' => e = .returned (.tuple #[.pointer none, erV A 1]) ∧ Below w.heap.size w w') := fun W hb => (new_bad A W m (hE.below hb (Nat.le_refl _)).four hm).mono fun e w' q => ⟨q.1, only_below hb q.2⟩
  clear hE ha hm
  go_enter Tryd.func9, Tryd.ntmps9
  go_wp2_with (first
    | (go_at_call 11; go_must (refine H1.out.mono ?_); rintro e w1 ⟨rfl, hb⟩)
    | (go_at_call 15; go_must (refine (H2.out w1 hb).mono ?_); rintro e w2 ⟨rfl, hb2⟩))
  go_ret2
  exact ⟨rfl, hb2⟩
/-- A listener in memory: its cache, its name, its server. -/
def LsnAt (w : World) (l c : Nat) (a : ByteArray) (s : Nat) : Prop := w.heap[l]? = some (.cells #[.pointer (some ⟨c, 0, none⟩), .string a, .pointer (some ⟨s, 0, none⟩)] 57 (0, 0))
theorem newListener_ok (A : Nat → Addr) (a : ByteArray) (s : Nat) (m : Nat) (w : World) (hE : Errs w A) (ha : OkN a) (h1 : 1 ≤ m) (h2 : m ≤ 20) :
    Calls Tryd.prog 9 #[.string a, .pointer (some ⟨s, 0, none⟩), .int .i64 m] w fun e w' => ∃ l c b, e = .returned (.tuple #[.pointer (some ⟨l, 0, none⟩), .nilIface]) ∧ LsnAt w' l c a s ∧ (∀ base, CaAt w' base c b (.slice none 0 0) m []) ∧ w.heap.size ≤ l ∧ w.heap.size ≤ c ∧ w.heap.size ≤ b ∧ Below w.heap.size w w' := by
  have H1 : Hid (Calls Tryd.prog 11 #[.string a] w fun e w' => e = .returned .nilIface ∧ Below w.heap.size w w') := check_yes0 A a ha w hE
  have H2 : Hid (∀ W, Below w.heap.size w W → Calls Tryd.prog 15 #[.int .i64 m] W fun e w' => ∃ c b, e = .returned (.tuple #[.pointer (some ⟨c, 0, none⟩), .nilIface]) ∧ (∀ base, CaAt w' base c b (.slice none 0 0) m []) ∧ W.heap.size ≤ c ∧ W.heap.size ≤ b ∧ Below w.heap.size w w') := fun W hb => (new_ok W m h1 h2).mono fun e w' q => by
    obtain ⟨t, b, he, hc, ho, k1, k2⟩ := q
    exact ⟨t, b, he, hc, k1, k2, only_below hb ho⟩
  clear hE ha h1 h2
  go_enter Tryd.func9, Tryd.ntmps9
  go_wp2_with (first
    | (go_at_call 11; go_must (refine H1.out.mono ?_); rintro e w1 ⟨rfl, hb⟩; have HB : Hid (Below w.heap.size w w1) := hb; clear hb)
    | (go_at_call 15; go_must (refine (H2.out w1 HB.out).mono ?_); rintro e w2 ⟨c, b, rfl, hq⟩; have HQ : Hid ((∀ base, CaAt w2 base c b (.slice none 0 0) m []) ∧ w1.heap.size ≤ c ∧ w1.heap.size ≤ b ∧ Below w.heap.size w w2) := hq; clear hq))
  go_ret2
  obtain ⟨q1, q2, q3, q4⟩ := HQ.out
  have := HB.out.size
  exact ⟨_, c, b, rfl, (show (w2.heap.push _)[w2.heap.size]? = _ by simp), fun base => (q1 base).only ((Only.refl [] _).alloc _), q4.size, by omega, by omega, q4.alloc q4.size _⟩
end Go.Proofs.YtmfcfkomdflhlaaDoor
