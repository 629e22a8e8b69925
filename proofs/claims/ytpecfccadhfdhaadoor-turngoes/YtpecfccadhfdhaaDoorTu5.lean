/- Turns, the document's side: its table in memory; find, Begin. -/
import Derived.Test.YtpecfccadhfdhaaDoorTu4
import Derived.Test.YtpecfccadhfdhaaDoorH1
import Derived.Test.YtpecfccadhfdhaaDoorSl1
namespace Go.Proofs.YtpecfccadhfdhaaDoor
open Go Go.RowKit Go.Deep

def rtC (x : Trn) : List Value := [.int .i64 x.o, .int .i64 (x.q : Nat), .string x.r]
theorem rtC_len (x : Trn) : (rtC x).length = 3 := rfl
theorem rtC_one (x : Trn) : ∀ v ∈ rtC x, v.oneCell' = true := by
  intro v hv
  simp only [rtC, List.mem_cons, List.not_mem_nil, or_false] at hv
  rcases hv with rfl | rfl | rfl <;> rfl
theorem infoRt : (Tryd.prog.info? 53).map (fun i => (i.zero, i.size, i.bytes)) = some (some (.agg #[.int .i64 0, .int .i64 0, .string ⟨#[]⟩]), 3, 32) := by kernel_rfl
theorem infoRt' : ∃ i, Tryd.prog.info? 53 = some i ∧ i.zero = some (.agg #[.int .i64 0, .int .i64 0, .string ⟨#[]⟩]) ∧ i.size = 3 ∧ i.bytes = 32 := by
  obtain ⟨i, hi, hz⟩ := Option.map_eq_some_iff.1 infoRt
  simp only [Prod.mk.injEq] at hz
  exact ⟨i, hi, hz⟩
theorem undRts : Tryd.prog.underlying 29 = some (.slice 53) := by kernel_rfl
/-- The document's turns in a row of one's own. -/
def Rts (w : World) (base : Nat) (v : Value) (L : List Trn) : Prop := w.ownsRow base 53 3 v L.length (rowOf rtC L)
theorem own_block {w : World} {base e k n b : Nat} {v : Value} {xs : List Value} (h : w.ownsRow base e k v n xs) (hb : v.ownBlock = some b) : base ≤ b ∧ b < w.heap.size ∧ ∃ cur, w.heap[b]? = some (.cells cur e (0, 0)) := by
  rcases h.2 with ⟨rfl, _⟩ | ⟨g, cap, cur, rfl, h1, h2, h3⟩
  · cases hb
  · cases hb
    exact ⟨h1, (Array.getElem?_eq_some_iff.1 h2).1, cur, h2⟩
theorem Rts.only {w w' : World} {base : Nat} {v : Value} {L : List Trn} {K : List Nat} (h : Rts w base v L) (ho : Only K w w') (hn : ∀ k, v.ownBlock = some k → k ∉ K) : Rts w' base v L := ho.owns h hn
theorem Rts.nil (w : World) (base : Nat) : Rts w base (.slice none 0 0) [] := World.ownsRow_nil _ _ _ _
/-- Where a turn lies. -/
def RtIn (w : World) (g j : Nat) (x : Trn) : Prop := w.cell? ⟨g, j * 3, none⟩ = some (.int .i64 x.o) ∧ w.cell? ⟨g, j * 3 + 1, none⟩ = some (.int .i64 (x.q : Nat)) ∧ w.cell? ⟨g, j * 3 + 2, none⟩ = some (.string x.r)
theorem RtIn.only {w w' : World} {g j : Nat} {x : Trn} {K : List Nat} (h : RtIn w g j x) (ho : Only K w w') (hn : g ∉ K) : RtIn w' g j x :=
  ⟨(ho.cell (p := ⟨g, j * 3, none⟩) (lt_of_cell h.1) hn).trans h.1, (ho.cell (p := ⟨g, j * 3 + 1, none⟩) (lt_of_cell h.2.1) hn).trans h.2.1, (ho.cell (p := ⟨g, j * 3 + 2, none⟩) (lt_of_cell h.2.2) hn).trans h.2.2⟩
theorem Rts.form {w : World} {base : Nat} {v : Value} {L : List Trn} (h : Rts w base v L) : ∃ ad cap, v = .slice ad L.length cap ∧ ∀ j x, L[j]? = some x → ∃ g, ad = some ⟨g, 0, none⟩ ∧ base ≤ g ∧ g < w.heap.size ∧ RtIn w g j x := by
  rcases h.2 with ⟨rfl, hz⟩ | ⟨g, cap, cur, rfl, h1, h2, h3⟩
  · refine ⟨none, 0, by rw [hz], fun j s hs => ?_⟩
    have := List.eq_nil_of_length_eq_zero hz
    subst this
    simp at hs
  · refine ⟨_, _, rfl, fun j x hx => ⟨g, rfl, h1, (Array.getElem?_eq_some_iff.1 h2).1, ?_⟩⟩
    have hlt : j < L.length := (List.getElem?_eq_some_iff.1 hx).1
    have key : ∀ i, i < 3 → w.cell? ⟨g, j * 3 + i, none⟩ = (rtC x)[i]? := fun i hi => by
      rw [World.ownsRow.cellAt h _ (by omega)]
      exact rowOf_get rtC_len L j i x hi hx
    exact ⟨key 0 (by decide), key 1 (by decide), key 2 (by decide)⟩
theorem Rts.snoc {w : World} {base n : Nat} {v : Value} {L : List Trn} {x : Trn} (hn : L.length = n) (h : w.ownsRow base 53 3 v (n + 1) (rowOf rtC L ++ rtC x)) : Rts w base v (L ++ [x]) := by
  unfold Rts
  rw [rowOf_append, List.length_append, List.length_singleton, hn, show rowOf rtC [x] = rtC x by simp [rowOf]]
  exact h
theorem Rts.own {w : World} {base n : Nat} {v : Value} {L : List Trn} (hn : L.length = n) (h : Rts w base v L) : w.ownsRow base 53 3 v n (rowOf rtC L) := by
  unfold Rts at h
  rw [hn] at h
  exact h
theorem Rts.set {w : World} {base g cap n k : Nat} {l : List Trn} (h : Rts w base (.slice (some ⟨g, 0, none⟩) n cap) l) (hn : l.length = n) (hk : k < n) (x : Trn) :
    Rts (((w.setCell ⟨g, k * 3, none⟩ (.int .i64 x.o)).setCell ⟨g, k * 3 + 1, none⟩ (.int .i64 (x.q : Nat))).setCell ⟨g, k * 3 + 2, none⟩ (.string x.r)) base (.slice (some ⟨g, 0, none⟩) n cap) (l.set k x) := by
  subst hn
  obtain ⟨y, hy⟩ : ∃ y, l[k]? = some y := ⟨_, List.getElem?_eq_getElem hk⟩
  have e0 := rowOf_set rtC_len l k 0 y { y with o := x.o } (.int .i64 x.o) (by decide) hy rfl
  have y1 : (l.set k { y with o := x.o })[k]? = some { y with o := x.o } := by simp [hk]
  have e1 := rowOf_set rtC_len (l.set k { y with o := x.o }) k 1 _ { y with o := x.o, q := x.q } (.int .i64 (x.q : Nat)) (by decide) y1 rfl
  rw [List.set_set] at e1
  have y2 : (l.set k { y with o := x.o, q := x.q })[k]? = some { y with o := x.o, q := x.q } := by simp [hk]
  have e2 := rowOf_set rtC_len (l.set k { y with o := x.o, q := x.q }) k 2 _ x (.string x.r) (by decide) y2 rfl
  rw [List.set_set] at e2
  have h0 := (World.ownsRow.stored h (k * 3 + 0) (.int .i64 x.o)).1
  have h1 := (World.ownsRow.stored h0 (k * 3 + 1) (.int .i64 (x.q : Nat))).1
  have h2 := (World.ownsRow.stored h1 (k * 3 + 2) (.string x.r)).1
  rw [e0, e1, e2] at h2
  unfold Rts
  rw [List.length_set]
  exact h2
theorem rt_news {w : World} (x : Trn) (ty : TypeId) : ∀ (r : Nat) (q : Value), (rtC x)[r]? = some q → (w.alloc (.cells #[.int .i64 x.o, .int .i64 (x.q : Nat), .string x.r] ty)).cell? ((⟨w.heap.size, 0, none⟩ : Addr).add r) = some q := World.news_of_block (w := w.alloc (.cells #[.int .i64 x.o, .int .i64 (x.q : Nat), .string x.r] ty)) (heap_alloc_last w _)
/-- The document's table. -/
structure RtAt (w : World) (base m : Nat) (v : Value) (L : List Trn) : Prop where
  tab : w.heap[m]? = some (.cells #[v] 31 (0, 0))
  own : Rts w base v L
section
variable {w w' : World} {base m : Nat} {v : Value} {L : List Trn}
theorem RtAt.lt (h : RtAt w base m v L) : m < w.heap.size := (Array.getElem?_eq_some_iff.1 h.tab).1
theorem RtAt.c0 (h : RtAt w base m v L) : w.cell? ⟨m, 0, none⟩ = some v := cell_of_row _ _ 0 _ _ _ h.tab
theorem RtAt.fr (h : RtAt w base m v L) (j : Nat) : w.frozen? ⟨m, j, none⟩ = false := frozen_of_row _ _ _ _ _ h.tab
theorem RtAt.ne (h : RtAt w base m v L) {k : Nat} (hk : v.ownBlock = some k) : k ≠ m := fun e => by
  obtain ⟨_, _, cur, hc⟩ := own_block h.own hk
  rw [e, h.tab] at hc
  simp at hc
theorem RtAt.kept {K : List Nat} (h : RtAt w base m v L) (ho : Only K w w') (h1 : m ∉ K) (h2 : ∀ k, v.ownBlock = some k → k ∉ K) : RtAt w' base m v L := ⟨(ho.block m h.lt h1).trans h.tab, h.own.only ho h2⟩
theorem RtAt.only (h : RtAt w base m v L) (ho : Only [] w w') : RtAt w' base m v L := h.kept ho (by simp) (fun _ _ => by simp)
end
/-! ### find -/
def FindR (L : List Trn) (o : Int) (e : Ending) : Prop :=
  (∃ (k : Nat) (x : Trn), L[k]? = some x ∧ x.o = o ∧ e = .returned (.int .i64 (k : Nat))) ∨ (findT L o = none ∧ e = .returned (.int .i64 (-1)))
theorem findT_of_none {L : List Trn} {o : Int} (h : ∀ x ∈ L, ¬ x.o = o) : findT L o = none := by
  unfold findT
  rw [List.find?_eq_none]
  intro x hx
  simpa using h x hx
set_option maxRecDepth 100000 in
set_option maxHeartbeats 4000000 in
theorem rfind_any (w : World) (base m : Nat) (v : Value) (L : List Trn) (o : Int) (h : RtAt w base m v L) (hl : L.length ≤ 100) :
    Calls Tryd.prog 16 #[.pointer (some ⟨m, 0, none⟩), .int .i64 o] w fun e w' => FindR L o e ∧ w = w' := by
  have c0 := h.c0
  obtain ⟨ad, cap, rfl, hf⟩ := h.own.form
  have HF : Hid (∀ j x, L[j]? = some x → ∃ g, ad = some ⟨g, 0, none⟩ ∧ base ≤ g ∧ g < w.heap.size ∧ RtIn w g j x) := hf
  obtain ⟨n, hn⟩ : ∃ n, L.length = n := ⟨_, rfl⟩
  have HN : Hid (L.length = n) := hn
  rw [hn] at c0 hl
  clear hf hn h
  go_enter Tryd.func16, Tryd.ntmps16
  go_wp2
  go_loop [5] (fun i => ∃ j : Nat, i = .int .i64 (j : Nat) ∧ j ≤ n ∧ ∀ x ∈ L.take j, ¬ x.o = o) (fun i => n - (intOf i).toNat)
  case atStart => exact ⟨0, rfl, Nat.zero_le _, fun x hx => by simp at hx⟩
  case round =>
    obtain ⟨j, rfl, hj, hno⟩ := hrel
    have HNO : Hid (∀ x ∈ L.take j, ¬ x.o = o) := hno
    clear hno
    by_cases hlt : j < n
    · obtain ⟨x, hx⟩ : ∃ x, L[j]? = some x := ⟨L[j]'(by have := HN.out; omega), List.getElem?_eq_getElem _⟩
      obtain ⟨g, rfl, _, _, q0, _, _⟩ := HF.out j x hx
      have HX : Hid (L[j]? = some x) := hx
      have HST : Hid (¬ x.o = o → ∀ y ∈ L.take (j + 1), ¬ y.o = o) := fun hne y hy => by
        rw [List.take_add_one, HX.out] at hy
        rcases List.mem_append.1 hy with e | e
        · exact HNO.out y e
        · simp at e
          rw [e]
          exact hne
      clear hx
      by_cases hi : x.o = o
      · subst hi
        go_wp2
        go_ret
        exact ⟨Or.inl ⟨j, x, HX.out, rfl, rfl⟩, rfl⟩
      · have hb : (x.o == o) = false := by simpa using hi
        go_wp2
        go_round
        case rel => exact ⟨j + 1, by go_num, by omega, HST.out hi⟩
        case measure => simp [intOf]; omega
    · obtain rfl : j = n := by omega
      have HD : Hid (∀ x ∈ L, ¬ x.o = o) := by
        have := HNO.out
        rw [← HN.out, List.take_length] at this
        exact this
      go_wp2
      go_ret
      exact ⟨Or.inr ⟨findT_of_none HD.out, rfl⟩, rfl⟩
/-! ### Begin -/
def rbegV (L : List Trn) (o q : Int) : Value := .tuple #[.string (begT L o q).2.2, .bool (begT L o q).2.1, .int .i64 ((begT L o q).1 : Nat)]
set_option maxRecDepth 100000 in
set_option maxHeartbeats 4000000 in
theorem rbeg_any (w : World) (base m : Nat) (v : Value) (L : List Trn) (o q : Int) (h : RtAt w base m v L) (hi : TInv L) :
    Calls Tryd.prog 7 #[.pointer (some ⟨m, 0, none⟩), .int .i64 o, .int .i64 q] w fun e w' => e = .returned (rbegV L o q) ∧ w = w' := by
  have hl := hi.len
  have hf := rfind_any w base m v L o h (by omega)
  have c0 := h.c0
  obtain ⟨ad, cap, rfl, hfm⟩ := h.own.form
  have HF : Hid (∀ j x, L[j]? = some x → ∃ g, ad = some ⟨g, 0, none⟩ ∧ base ≤ g ∧ g < w.heap.size ∧ RtIn w g j x) := hfm
  have HI : Hid (TInv L) := hi
  clear hfm h hi
  by_cases h1 : q < 0
  · have e : rbegV L o q = .tuple #[.string ⟨#[]⟩, .bool false, .int .i64 2] := by unfold rbegV begT; rw [if_pos (Or.inl h1)]; rfl
    have d0 : decide (q < 0) = true := decide_eq_true h1
    rw [e]
    clear e hf
    go_enter Tryd.func7, Tryd.ntmps7
    go_wp2
    go_ret3
    exact ⟨rfl, rfl⟩
  have d0 : decide (q < 0) = false := decide_eq_false h1
  by_cases h2 : 4294967295 < q
  · have e : rbegV L o q = .tuple #[.string ⟨#[]⟩, .bool false, .int .i64 2] := by unfold rbegV begT; rw [if_pos (Or.inr h2)]; rfl
    have d1 : decide (4294967296 ≤ q) = true := decide_eq_true (by omega)
    rw [e]
    clear e hf
    go_enter Tryd.func7, Tryd.ntmps7
    go_wp2
    go_ret3
    exact ⟨rfl, rfl⟩
  have d1 : decide (4294967296 ≤ q) = false := decide_eq_false (by omega)
  have HQ : Hid (¬ (q < 0 ∨ 4294967295 < q)) := fun h => by omega
  go_enter Tryd.func7, Tryd.ntmps7
  go_wp2_with fail
  refine hf.mono ?_
  rintro e w2 ⟨⟨k, x, hk, ho, rfl⟩ | ⟨hno, rfl⟩, rfl⟩
  · obtain ⟨g, rfl, _, _, q0, q1, q2⟩ := HF.out k x hk
    have hkl : k < L.length := (List.getElem?_eq_some_iff.1 hk).1
    have HFT : Hid (findT L o = some x) := by show _ = _; rw [← ho]; exact findT_at HI.out.nod (List.mem_of_getElem? hk)
    have hxq := HI.out.seq x (List.mem_of_getElem? hk)
    clear hf hk ho
    by_cases h3 : (x.q : Int) = q
    · have HE : Hid (rbegV L o q = .tuple #[.string x.r, .bool true, .int .i64 0]) := by show _ = _; unfold rbegV begT; rw [if_neg HQ.out, HFT.out]; simp only [← h3, if_true]; rfl
      subst h3
      go_wp2
      go_ret3
      exact ⟨by rw [HE.out]; rfl, rfl⟩
    · have b3 : ((x.q : Int) == q) = false := beq_eq_false_iff_ne.2 h3
      have h3' : ¬ q = (x.q : Int) := fun e => h3 e.symm
      by_cases h4 : q = (nextT x.q : Int)
      · have HE : Hid (rbegV L o q = .tuple #[.string ⟨#[]⟩, .bool false, .int .i64 0]) := by show _ = _; unfold rbegV begT; rw [if_neg HQ.out, HFT.out]; simp only; rw [if_neg h3', if_pos h4]; rfl
        by_cases h5 : x.q = 4294967295
        · have h6 : q = 0 := by rw [h4, h5]; rfl
          rw [h5] at q1 b3
          subst h6
          go_wp2
          go_ret3
          exact ⟨by rw [HE.out]; rfl, rfl⟩
        · have h6 : q = (x.q : Int) + 1 := by rw [h4]; unfold nextT; rw [if_neg h5]; omega
          have b6 : ((x.q : Int) + 1 == 4294967296) = false := beq_eq_false_iff_ne.2 (by omega)
          have b7 : (q != (x.q : Int) + 1) = false := by rw [h6]; simp
          clear h6 h4
          go_wp2
          go_ret3
          exact ⟨by rw [HE.out]; rfl, rfl⟩
      · have HE : Hid (rbegV L o q = .tuple #[.string ⟨#[]⟩, .bool false, .int .i64 12]) := by show _ = _; unfold rbegV begT; rw [if_neg HQ.out, HFT.out]; simp only; rw [if_neg h3', if_neg h4]; rfl
        by_cases h5 : x.q = 4294967295
        · have h6 : ¬ q = 0 := fun e => h4 (by rw [e, h5]; rfl)
          have b7 : (q != 0) = true := by simpa using h6
          rw [h5] at q1 b3
          go_wp2
          go_ret3
          exact ⟨by rw [HE.out]; rfl, rfl⟩
        · have h6 : ¬ q = (x.q : Int) + 1 := fun e => h4 (by rw [e]; unfold nextT; rw [if_neg h5]; omega)
          have b6 : ((x.q : Int) + 1 == 4294967296) = false := beq_eq_false_iff_ne.2 (by omega)
          have b7 : (q != (x.q : Int) + 1) = true := by simpa using h6
          go_wp2
          go_ret3
          exact ⟨by rw [HE.out]; rfl, rfl⟩
  · by_cases h3 : 30 ≤ L.length
    · have HE : Hid (rbegV L o q = .tuple #[.string ⟨#[]⟩, .bool false, .int .i64 9]) := by show _ = _; unfold rbegV begT; rw [if_neg HQ.out, hno]; simp only [h3, if_true]; rfl
      have d3 : decide ((30 : Int) ≤ (L.length : Int)) = true := decide_eq_true (by omega)
      clear hf hno
      go_wp2
      go_ret3
      exact ⟨by rw [HE.out]; rfl, rfl⟩
    · have HE : Hid (rbegV L o q = .tuple #[.string ⟨#[]⟩, .bool false, .int .i64 0]) := by show _ = _; unfold rbegV begT; rw [if_neg HQ.out, hno]; simp only [h3, if_false]; rfl
      have d3 : decide ((30 : Int) ≤ (L.length : Int)) = false := decide_eq_false (by omega)
      clear hf hno
      go_wp2
      go_ret3
      exact ⟨by rw [HE.out]; rfl, rfl⟩
end Go.Proofs.YtpecfccadhfdhaaDoor
