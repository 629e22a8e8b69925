/- TreeFull: what the tree is like while files are made in the root, and while one file is linked in a directory. -/
import Derived.Test.YtnbanflnepbgnaaDoorU21
import Derived.Test.YtnbanflnepbgnaaDoorU22
namespace Go.Proofs.YtnbanflnepbgnaaDoor
open Go Go.RowKit Go.Deep Go.Maps

/-- Where a tree lies behind a step: where it lay, or in its places, or in its nodes, or in its directories. -/
theorem foot_step {tr k : Nat} {T T' : Tr} (h1 : T'.t = T.t) (h2 : T'.db = T.db) (h3 : T'.pb = T.pb) (hk : FootT tr T' k) : FootT tr T k ∨ T'.p.a = some k ∨ (∃ j x, T'.nd j = some x ∧ k ∈ x.foot) ∨ ∃ j x, T'.ds j = some x ∧ k = x.b := by
  rcases hk with e | e | e | h | hk
  · exact Or.inl (Or.inl e)
  · exact Or.inl (Or.inr (Or.inl (e.trans h2)))
  · exact Or.inl (Or.inr (Or.inr (Or.inl (e.trans h3))))
  · exact Or.inr (Or.inr (Or.inr h))
  · rcases hk with e | e | h
    · exact Or.inl (Or.inr (Or.inr (Or.inr (Or.inr (Or.inl (e.trans h1))))))
    · exact Or.inr (Or.inl e)
    · exact Or.inr (Or.inr (Or.inl h))
theorem foot_dir {tr a k : Nat} {T : Tr} {d : DirM} (hd : T.ds a = some d) (hk : k = d.b) : FootT tr T k := Or.inr (Or.inr (Or.inr (Or.inl ⟨a, d, hd, hk⟩)))
theorem foot_t {tr : Nat} {T : Tr} : FootT tr T T.t := Or.inr (Or.inr (Or.inr (Or.inr (Or.inl rfl))))
theorem foot_p {tr k : Nat} {T : Tr} (h : T.p.a = some k) : FootT tr T k := Or.inr (Or.inr (Or.inr (Or.inr (Or.inr (Or.inl h)))))
theorem foot_node {tr i k : Nat} {T : Tr} {n : Nod} (h : T.nd i = some n) (hk : k ∈ n.foot) : FootT tr T k := Or.inr (Or.inr (Or.inr (Or.inr (.node h hk))))
def entF (c : UInt8) (q i : Nat) : Ent := ⟨(lettered c q).data.toList, i, 0⟩
/-- Entries that have such names. -/
def Named (c : UInt8) (f : Nat → Nat) (l : List Ent) (n : Nat) : Prop := l.length = n ∧ ∀ e ∈ l, ∃ q, q < n ∧ e = entF c q (f q)
theorem Named.free {c : UInt8} {f : Nat → Nat} {l : List Ent} {n q : Nat} (h : Named c f l n) (hn : n ≤ q) (hq : q < 100) : findE l (lettered c q).data.toList = none := by
  unfold findE
  rw [List.find?_eq_none]
  intro e he
  obtain ⟨r, hr, rfl⟩ := h.2 e he
  intro hh
  have : (lettered c r).data.toList = (lettered c q).data.toList := by simpa [entF] using hh
  have := lettered_inj (by omega) hq this
  omega
theorem Named.step {c : UInt8} {f : Nat → Nat} {l : List Ent} {n : Nat} (h : Named c f l n) (hn : n < 100) : Named c f (insE (entF c n (f n)) (dropE l (lettered c n).data.toList)) (n + 1) := by
  rw [dropE_none (h.free (Nat.le_refl _) hn)]
  refine ⟨by rw [length_insE, h.1], fun e he => ?_⟩
  rcases mem_insE.1 he with rfl | he
  · exact ⟨n, by omega, rfl⟩
  · obtain ⟨q, hq, e1⟩ := h.2 e he
    exact ⟨q, by omega, e1⟩
theorem Named.first {c : UInt8} {f : Nat → Nat} {l : List Ent} {n : Nat} (h : Named c f l n) (hn : n < 100) (h0 : 0 < n → findE l (lettered c 0).data.toList = some (entF c 0 (f 0))) : findE (insE (entF c n (f n)) (dropE l (lettered c n).data.toList)) (lettered c 0).data.toList = some (entF c 0 (f 0)) := by
  rw [dropE_none (h.free (Nat.le_refl _) hn)]
  by_cases e : n = 0
  · subst e
    exact findE_ins_same (entF c 0 (f 0)) (h.free (Nat.le_refl _) hn)
  · rw [findE_ins_other _ _ (fun x => e (lettered_inj (by omega) (by omega) x).symm)]
    exact h0 (by omega)

/-- While files are made. -/
structure Full1 (W w : World) (tr : Nat) (T : Tr) (c : Nat) : Prop where
  tree : TreeAt w tr T
  below : Below W.heap.size W w
  foot : ∀ k, FootT tr T k → W.heap.size ≤ k
  most : T.most = 300
  g : ∀ i, T.g i = 0
  N : T.p.N = c + 1
  root : ∃ na d, T.nd 0 = some na ∧ na.K = 2 ∧ 0 ≤ na.C ∧ na.C ≤ (c : Int) ∧ T.ds 0 = some d ∧ Named 102 (· + 1) d.l c ∧ (0 < c → findE d.l (lettered 102 0).data.toList = some (entF 102 0 1))
  files : ∀ i, 1 ≤ i → i ≤ c → ∃ ni, T.nd i = some ni ∧ ni.K = 1 ∧ ni.L = 1 ∧ ni.C = 0
  gone : ∀ i, c < i → T.nd i = none
  nodir : ∀ i, i ≠ 0 → T.ds i = none
theorem Full1.only {W w w' : World} {tr c : Nat} {T : Tr} (h : Full1 W w tr T c) (ho : Only [] w w') : Full1 W w' tr T c :=
  ⟨h.tree.only ho, h.below.trans (ho.to_below h.below.size (fun k hk => by cases hk)), h.foot, h.most, h.g, h.N, h.root, h.files, h.gone, h.nodir⟩
theorem Full1.some {W w : World} {tr c i : Nat} {T : Tr} (h : Full1 W w tr T c) (hi : i ≤ c) : (T.nd i).isSome = true := by
  by_cases e : i = 0
  · obtain ⟨na, _, h1, _⟩ := h.root
    rw [e, h1]
    rfl
  · obtain ⟨ni, h1, _⟩ := h.files i (by omega) hi
    rw [h1]
    rfl
theorem okF (q : Nat) (hq : q < 100) : OkN (lettered 102 q) ∧ (lettered 102 q).size ≤ 1000 := lettered_ok 102 q (by decide) hq
theorem okL (q : Nat) (hq : q < 100) : OkN (lettered 108 q) ∧ (lettered 108 q).size ≤ 1000 := lettered_ok 108 q (by decide) hq
theorem Full1.start {W w : World} {tr t : Nat} {p : Row} {b db B pb : Nat} (hT : TreeAt w tr (Tr.fresh t p 300 b db B pb)) (ho : Below W.heap.size W w) (hN : p.N = 1) (h0 : W.heap.size ≤ tr) (h1 : W.heap.size ≤ t) (h2 : W.heap.size ≤ b) (h3 : W.heap.size ≤ db) (h4 : W.heap.size ≤ B) (h5 : W.heap.size ≤ pb) (h6 : ∀ k, p.a = Option.some k → W.heap.size ≤ k) : Full1 W w tr (Tr.fresh t p 300 b db B pb) 0 := by
  refine ⟨hT, ho, fun k hk => ?_, rfl, fun _ => rfl, hN, ⟨{ newNod b 2 with Z := 0, L := 2 }, ⟨B, []⟩, rfl, rfl, Int.le_refl _, Int.le_refl _, rfl, ⟨rfl, fun e he => by cases he⟩, fun h => by cases h⟩, fun i h1 h2 => by omega, fun i hi => ?_, fun i hi => ?_⟩
  · rcases hk with e | e | e | ⟨j, x, hx, rfl⟩ | hk
    · omega
    · rw [e]; exact h3
    · rw [e]; exact h5
    · have hx' : setN (fun _ => none) 0 (Option.some (⟨B, []⟩ : DirM)) j = Option.some x := hx
      by_cases e : j = 0
      · subst e
        rw [setN_same] at hx'
        cases hx'
        exact h4
      · rw [setN_other _ _ e] at hx'
        cases hx'
    · rcases hk with e | e | ⟨j, x, hx, hf⟩
      · rw [e]; exact h1
      · exact h6 k e
      · have hx' : setN (fun _ => none) 0 (Option.some ({ newNod b 2 with Z := 0, L := 2 } : Nod)) j = Option.some x := hx
        by_cases e : j = 0
        · subst e
          rw [setN_same] at hx'
          cases hx'
          have : k = b := by simpa [newNod, Nod.foot, footD] using hf
          omega
        · rw [setN_other _ _ e] at hx'
          cases hx'
  · show setN (fun _ => none) 0 _ i = none
    rw [setN_other _ _ (show i ≠ 0 by omega)]
  · show setN (fun _ => none) 0 _ i = none
    rw [setN_other _ _ hi]
theorem Full1.create {W w : World} {tr c : Nat} {T : Tr} {A : Nat → Addr} (h : Full1 W w tr T c) (hE : Errs W A) (hc : c < 60) :
    Calls Tryd.prog 6 #[.pointer (Option.some ⟨tr, 0, none⟩), .agg #[.int .i64 0, .int .i64 0], .string (lettered 102 c), .int .i64 1] w fun e w' => e = .returned (.tuple #[.agg #[.int .i64 ((c + 1 : Nat) : Int), .int .i64 0], .nilIface]) ∧ ∃ T', Full1 W w' tr T' (c + 1) := by
  obtain ⟨na, d, hn0, hK0, hC0, hC1, hd0, hnm, hfi⟩ := h.root
  have hcount : countTo T.nd T.p.N < T.most := by have := countTo_le T.nd T.p.N; rw [h.N] at this; rw [h.N, h.most]; omega
  have hlive : ∀ e ∈ d.l, e.i < T.p.N ∧ e.c = T.g e.i := fun e he => by
    obtain ⟨q, hq, rfl⟩ := hnm.2 e he
    exact ⟨by show q + 1 < T.p.N; rw [h.N]; omega, by rw [h.g]; rfl⟩
  have hcall := create_file w tr T A 0 (c + 1) na d (lettered 102 c) h.tree (hE.below h.below (Nat.le_refl _)) hd0 hn0 hK0 ⟨hC0, by omega⟩ (okF c (by omega)).1 (okF c (by omega)).2 (hnm.free (Nat.le_refl _) (by omega)) (by rw [hnm.1]; omega) hlive (by omega) hcount (h.gone _ (by omega)) (fun j hj => h.some (by omega))
  rw [h.g 0, h.g (c + 1)] at hcall
  refine hcall.mono fun e w' hh => ?_
  obtain ⟨he, p', b, hT0, hN, hb, hpa, ho⟩ := hh
  obtain ⟨T', ni, na', hT, t1, t2, t3, t4, t5, t6, t7, t8, n1, n2, n3, n4, m1, m2, m3⟩ : ∃ (T' : Tr) (ni na' : Nod), TreeAt w' tr T' ∧ T'.t = T.t ∧ T'.db = T.db ∧ T'.pb = T.pb ∧ T'.g = T.g ∧ T'.most = T.most ∧ T'.p = p' ∧ T'.ds = setN T.ds 0 (Option.some ⟨d.b, (insE (entF 102 c (c + 1)) (dropE d.l (lettered 102 c).data.toList))⟩) ∧ T'.nd = setN (setN T.nd (c + 1) (Option.some ni)) 0 (Option.some na') ∧ ni.K = 1 ∧ ni.L = 1 ∧ ni.C = 0 ∧ (∀ k ∈ ni.foot, k = b) ∧ na'.K = na.K ∧ na'.C = na.C + 1 ∧ na'.foot = na.foot :=
    ⟨_, _, _, hT0, rfl, rfl, rfl, rfl, rfl, rfl, rfl, rfl, rfl, rfl, rfl, (fun k hk => by simpa [newNod, Nod.foot, footD] using hk), rfl, rfl, rfl⟩
  have hws := h.below.size
  refine ⟨he, T', hT, ?_, ?_, by rw [t5]; exact h.most, (fun i => by rw [t4]; exact h.g i), ?_, ?_, ?_, ?_, ?_⟩
  · refine h.below.trans (ho.to_below h.below.size (fun k hk => ?_))
    rcases List.mem_cons.1 hk with e1 | hk
    · exact h.foot _ (foot_dir hd0 e1)
    · rcases List.mem_cons.1 hk with e1 | hk
      · rw [e1]; exact h.foot _ (foot_node hn0 na.b_foot)
      · rcases List.mem_cons.1 hk with e1 | hk
        · rw [e1]; exact h.foot _ foot_t
        · exact h.foot _ (foot_p (by simpa using hk))
  · intro k hk
    rcases foot_step t1 t2 t3 hk with h1 | h1 | ⟨j, x, hx, hf⟩ | ⟨j, x, hx, hf⟩
    · exact h.foot k h1
    · rw [t6] at h1
      rcases hpa k h1 with h2 | h2
      · exact h.foot k (foot_p h2)
      · omega
    · rw [t8] at hx
      by_cases e : j = 0
      · subst e
        rw [setN_same] at hx
        cases hx
        rw [m3] at hf
        exact h.foot k (foot_node hn0 hf)
      · rw [setN_other _ _ e] at hx
        by_cases e2 : j = c + 1
        · subst e2
          rw [setN_same] at hx
          cases hx
          have := n4 k hf
          omega
        · rw [setN_other _ _ e2] at hx
          exact h.foot k (foot_node hx hf)
    · rw [t7] at hx
      by_cases e : j = 0
      · subst e
        rw [setN_same] at hx
        cases hx
        exact h.foot k (foot_dir hd0 hf)
      · rw [setN_other _ _ e] at hx
        exact h.foot k (foot_dir hx hf)
  · rw [t6, hN, h.N]
    omega
  · exact ⟨na', ⟨d.b, (insE (entF 102 c (c + 1)) (dropE d.l (lettered 102 c).data.toList))⟩, by rw [t8, setN_same], by rw [m1]; exact hK0, by omega, by omega, by rw [t7, setN_same], hnm.step (by omega), fun _ => hnm.first (by omega) hfi⟩
  · intro i h1 h2
    by_cases e : i = c + 1
    · subst e
      exact ⟨ni, by rw [t8, setN_other _ _ (by omega), setN_same], n1, n2, n3⟩
    · obtain ⟨ni, h3, h4⟩ := h.files i h1 (by omega)
      exact ⟨ni, by rw [t8, setN_other _ _ (by omega), setN_other _ _ e, h3], h4⟩
  · intro i hi
    rw [t8, setN_other _ _ (by omega), setN_other _ _ (by omega)]
    exact h.gone i (by omega)
  · intro i hi
    rw [t7, setN_other _ _ hi]
    exact h.nodir i hi
theorem Full1.full {W w : World} {tr q : Nat} {T : Tr} {A : Nat → Addr} (h : Full1 W w tr T 60) (hE : Errs W A) (hq : 60 ≤ q) (hq2 : q < 100) :
    Calls Tryd.prog 6 #[.pointer (Option.some ⟨tr, 0, none⟩), .agg #[.int .i64 0, .int .i64 0], .string (lettered 102 q), .int .i64 1] w fun e w' => e = .returned (.tuple #[.agg #[.int .i64 0, .int .i64 0], errV (A 8)]) ∧ Full1 W w' tr T 60 := by
  obtain ⟨na, d, hn0, hK0, hC0, hC1, hd0, hnm, hfi⟩ := h.root
  have hcall := create_full w tr T A 0 1 na d (lettered 102 q) h.tree (hE.below h.below (Nat.le_refl _)) hd0 hn0 hK0 (Or.inl rfl) (okF q (by omega)).1 (okF q (by omega)).2 (hnm.free hq hq2) (by rw [hnm.1]; omega) (by rw [hnm.1]; omega)
  rw [h.g 0] at hcall
  exact hcall.mono fun e w' hh => ⟨hh.1, h.only hh.2⟩

/-- While a file is linked in a directory. -/
structure Full2 (W w : World) (tr : Nat) (T : Tr) (D m : Nat) : Prop where
  tree : TreeAt w tr T
  below : Below W.heap.size W w
  foot : ∀ k, FootT tr T k → W.heap.size ≤ k
  g : ∀ i, T.g i = 0
  N : 1 < T.p.N
  D1 : D ≠ 0 ∧ D ≠ 1
  root : ∃ na d, T.nd 0 = some na ∧ na.K = 2 ∧ T.ds 0 = some d ∧ findE d.l (lettered 102 0).data.toList = some (entF 102 0 1)
  dir : ∃ nD d, T.nd D = some nD ∧ nD.K = 2 ∧ 0 ≤ nD.C ∧ nD.C ≤ (m : Int) ∧ T.ds D = some d ∧ Named 108 (fun _ => 1) d.l m
  file : ∃ n1, T.nd 1 = some n1 ∧ n1.K = 1 ∧ n1.L = (m : Int) + 1 ∧ 0 ≤ n1.C ∧ n1.C ≤ (m : Int)
theorem Full2.only {W w w' : World} {tr D m : Nat} {T : Tr} (h : Full2 W w tr T D m) (ho : Only [] w w') : Full2 W w' tr T D m :=
  ⟨h.tree.only ho, h.below.trans (ho.to_below h.below.size (fun k hk => by cases hk)), h.foot, h.g, h.N, h.D1, h.root, h.dir, h.file⟩
theorem okD : OkN ⟨#[100]⟩ := by
  refine ⟨by decide, by decide, by rw [Lib.toList_data]; decide, by rw [Lib.toList_data]; decide, fun x hx => ?_⟩
  have : x = 0 := by have h : x < 1 := hx; omega
  subst this
  rfl
theorem d_free {f : Nat → Nat} {l : List Ent} {n : Nat} (h : Named 102 f l n) : findE l (⟨#[100]⟩ : ByteArray).data.toList = none := by
  unfold findE
  rw [List.find?_eq_none]
  intro e he
  obtain ⟨r, hr, rfl⟩ := h.2 e he
  intro hh
  have h1 : (lettered 102 r).data.toList = [100] := by simpa [entF] using hh
  have h2 : (lettered 102 r).data.toList = 102 :: decL r := by simp [lettered, bs]
  rw [h2] at h1
  cases h1
theorem Full1.mkdir {W w : World} {tr c : Nat} {T : Tr} {A : Nat → Addr} (h : Full1 W w tr T c) (hE : Errs W A) (hc1 : 1 ≤ c) (hc : c < 60) :
    Calls Tryd.prog 6 #[.pointer (Option.some ⟨tr, 0, none⟩), .agg #[.int .i64 0, .int .i64 0], .string ⟨#[100]⟩, .int .i64 2] w fun e w' => e = .returned (.tuple #[.agg #[.int .i64 ((c + 1 : Nat) : Int), .int .i64 0], .nilIface]) ∧ ∃ T', Full2 W w' tr T' (c + 1) 0 := by
  obtain ⟨na, d, hn0, hK0, hC0, hC1, hd0, hnm, hfi⟩ := h.root
  have hcount : countTo T.nd T.p.N < T.most := by have := countTo_le T.nd T.p.N; rw [h.N] at this; rw [h.N, h.most]; omega
  have hlive : ∀ e ∈ d.l, e.i < T.p.N ∧ e.c = T.g e.i := fun e he => by
    obtain ⟨q, hq, rfl⟩ := hnm.2 e he
    exact ⟨by show q + 1 < T.p.N; rw [h.N]; omega, by rw [h.g]; rfl⟩
  have hcall := create_dir w tr T A 0 (c + 1) na d ⟨#[100]⟩ h.tree (hE.below h.below (Nat.le_refl _)) hd0 hn0 hK0 ⟨hC0, by omega⟩ okD (by decide) (d_free hnm) (by rw [hnm.1]; omega) hlive (by omega) hcount (h.gone _ (by omega)) (h.nodir _ (by omega)) (fun j hj => h.some (by omega))
  rw [h.g 0, h.g (c + 1)] at hcall
  refine hcall.mono fun e w' hh => ?_
  obtain ⟨he, p', b, B, hT0, hN, hb, hB, hpa, ho⟩ := hh
  obtain ⟨n1, h11, h12, h13, h14⟩ := h.files 1 (Nat.le_refl _) hc1
  obtain ⟨T', ni, na', hT, t1, t2, t3, t4, t6, t7, t8, g1, g3, g4, m1, m3⟩ : ∃ (T' : Tr) (ni na' : Nod), TreeAt w' tr T' ∧ T'.t = T.t ∧ T'.db = T.db ∧ T'.pb = T.pb ∧ T'.g = T.g ∧ T'.p = p' ∧ T'.ds = setN (setN T.ds (c + 1) (Option.some ⟨B, []⟩)) 0 (Option.some ⟨d.b, (insE (⟨(⟨#[100]⟩ : ByteArray).data.toList, c + 1, 0⟩ : Ent) (dropE d.l (⟨#[100]⟩ : ByteArray).data.toList))⟩) ∧ T'.nd = setN (setN T.nd (c + 1) (Option.some ni)) 0 (Option.some na') ∧ ni.K = 2 ∧ ni.C = 0 ∧ (∀ k ∈ ni.foot, k = b) ∧ na'.K = na.K ∧ na'.foot = na.foot :=
    ⟨_, _, _, hT0, rfl, rfl, rfl, rfl, rfl, rfl, rfl, rfl, rfl, (fun k hk => by simpa [newNod, Nod.foot, footD] using hk), rfl, rfl⟩
  have hws := h.below.size
  refine ⟨he, T', hT, ?_, ?_, (fun i => by rw [t4]; exact h.g i), ?_, ⟨by omega, by omega⟩, ?_, ?_, ?_⟩
  · refine h.below.trans (ho.to_below h.below.size (fun k hk => ?_))
    rcases List.mem_cons.1 hk with e1 | hk
    · exact h.foot _ (foot_dir hd0 e1)
    · rcases List.mem_cons.1 hk with e1 | hk
      · rw [e1]; exact h.foot _ (foot_node hn0 na.b_foot)
      · rcases List.mem_cons.1 hk with e1 | hk
        · rw [e1]; exact h.foot _ (Or.inr (Or.inl rfl))
        · rcases List.mem_cons.1 hk with e1 | hk
          · rw [e1]; exact h.foot _ foot_t
          · exact h.foot _ (foot_p (by simpa using hk))
  · intro k hk
    rcases foot_step t1 t2 t3 hk with h1 | h1 | ⟨j, x, hx, hf⟩ | ⟨j, x, hx, hf⟩
    · exact h.foot k h1
    · rw [t6] at h1
      rcases hpa k h1 with h2 | h2
      · exact h.foot k (foot_p h2)
      · omega
    · rw [t8] at hx
      by_cases e : j = 0
      · subst e
        rw [setN_same] at hx
        cases hx
        rw [m3] at hf
        exact h.foot k (foot_node hn0 hf)
      · rw [setN_other _ _ e] at hx
        by_cases e2 : j = c + 1
        · subst e2
          rw [setN_same] at hx
          cases hx
          have := g4 k hf
          omega
        · rw [setN_other _ _ e2] at hx
          exact h.foot k (foot_node hx hf)
    · rw [t7] at hx
      by_cases e : j = 0
      · subst e
        rw [setN_same] at hx
        cases hx
        exact h.foot k (foot_dir hd0 hf)
      · rw [setN_other _ _ e] at hx
        by_cases e2 : j = c + 1
        · subst e2
          rw [setN_same] at hx
          cases hx
          have hf : k = B := hf
          omega
        · rw [setN_other _ _ e2] at hx
          exact h.foot k (foot_dir hx hf)
  · rw [t6, hN, h.N]
    omega
  · refine ⟨na', ⟨d.b, (insE (⟨(⟨#[100]⟩ : ByteArray).data.toList, c + 1, 0⟩ : Ent) (dropE d.l (⟨#[100]⟩ : ByteArray).data.toList))⟩, by rw [t8, setN_same], by rw [m1]; exact hK0, by rw [t7, setN_same], ?_⟩
    show findE (insE (⟨(⟨#[100]⟩ : ByteArray).data.toList, c + 1, 0⟩ : Ent) (dropE d.l (⟨#[100]⟩ : ByteArray).data.toList)) _ = _
    rw [dropE_none (d_free hnm), findE_ins_other]
    · exact hfi (by omega)
    · intro e
      have h2 : (lettered 102 0).data.toList = 102 :: decL 0 := by simp [lettered, bs]
      rw [h2] at e
      cases e
  · exact ⟨ni, ⟨B, []⟩, by rw [t8, setN_other _ _ (by omega), setN_same], g1, by omega, by omega, by rw [t7, setN_other _ _ (by omega), setN_same], rfl, fun e he => by cases he⟩
  · exact ⟨n1, by rw [t8, setN_other _ _ (by omega), setN_other _ _ (by omega), h11], h12, by rw [h13]; rfl, by omega, by omega⟩
theorem Full2.look {W w : World} {tr D m : Nat} {T : Tr} {A : Nat → Addr} (h : Full2 W w tr T D m) (hE : Errs W A) :
    Calls Tryd.prog 10 #[.pointer (Option.some ⟨tr, 0, none⟩), .agg #[.int .i64 0, .int .i64 0], .string ⟨#[102, 48]⟩] w fun e w' => e = .returned (.tuple #[.agg #[.int .i64 1, .int .i64 0], .nilIface]) ∧ Full2 W w' tr T D m ∧ Only [] w w' := by
  obtain ⟨na, d, h1, h2, h3, h4⟩ := h.root
  have hcall := lookup_ok w tr T A 0 na d (lettered 102 0) (entF 102 0 1) h.tree (hE.below h.below (Nat.le_refl _)) h3 h1 h2 (okF 0 (by omega)).1 (okF 0 (by omega)).2 h4
  rw [h.g 0] at hcall
  exact hcall.mono fun e w' hh => ⟨hh.1, h.only hh.2, hh.2⟩
theorem Full2.link {W w : World} {tr D m : Nat} {T : Tr} {A : Nat → Addr} (h : Full2 W w tr T D m) (hE : Errs W A) (hm : m < 7) :
    Calls Tryd.prog 11 #[.pointer (Option.some ⟨tr, 0, none⟩), .agg #[.int .i64 1, .int .i64 0], .agg #[.int .i64 D, .int .i64 0], .string (lettered 108 m)] w fun e w' => e = .returned .nilIface ∧ (∃ T' L, Full2 W w' tr T' D (m + 1) ∧ (∀ k, FootT tr T' k → FootT tr T k) ∧ Only L w w' ∧ ∀ k ∈ L, FootT tr T k) := by
  obtain ⟨nD, d, h1, h2, h3, h4, h5, hnm⟩ := h.dir
  obtain ⟨n1, f1, f2, f3, f4, f5⟩ := h.file
  obtain ⟨na, d0, r1, r2, r3, r4⟩ := h.root
  have hlive : ∀ e ∈ d.l, e.i < T.p.N ∧ e.c = T.g e.i := fun e he => by
    obtain ⟨q, hq, rfl⟩ := hnm.2 e he
    exact ⟨h.N, by rw [h.g]; rfl⟩
  have hcall := link_ok w tr T A D 1 nD n1 d (lettered 108 m) h.tree (hE.below h.below (Nat.le_refl _)) h5 h1 h2 f1 f2 (okL m (by omega)).1 (okL m (by omega)).2 (hnm.free (Nat.le_refl _) (by omega)) (by rw [hnm.1]; omega) ⟨h3, by omega⟩ ⟨f4, by omega⟩ ⟨by omega, by omega⟩ hlive
  rw [h.g 1, h.g D] at hcall
  refine hcall.mono fun e w' hh => ?_
  obtain ⟨he, hT0, ho⟩ := hh
  obtain ⟨T', ni, nD', hT, t1, t2, t3, t4, t6, t7, t8, g1, g2, g3, g4, m1, m2, m3⟩ : ∃ (T' : Tr) (ni nD' : Nod), TreeAt w' tr T' ∧ T'.t = T.t ∧ T'.db = T.db ∧ T'.pb = T.pb ∧ T'.g = T.g ∧ T'.p = T.p ∧ T'.ds = setN T.ds D (Option.some ⟨d.b, (insE (entF 108 m 1) (dropE d.l (lettered 108 m).data.toList))⟩) ∧ T'.nd = setN (setN T.nd D (Option.some nD')) 1 (Option.some ni) ∧ ni.K = n1.K ∧ ni.L = n1.L + 1 ∧ ni.C = n1.C + 1 ∧ ni.foot = n1.foot ∧ nD'.K = nD.K ∧ nD'.C = nD.C + 1 ∧ nD'.foot = nD.foot :=
    ⟨_, _, _, hT0, rfl, rfl, rfl, rfl, rfl, rfl, rfl, rfl, rfl, rfl, rfl, rfl, rfl, rfl⟩
  have hL : ∀ k ∈ [d.b, n1.b, nD.b], FootT tr T k := fun k hk => by
    rcases List.mem_cons.1 hk with e1 | hk
    · exact foot_dir h5 e1
    · rcases List.mem_cons.1 hk with e1 | hk
      · rw [e1]; exact foot_node f1 n1.b_foot
      · have e1 : k = nD.b := by simpa using hk
        rw [e1]; exact foot_node h1 nD.b_foot
  have hb : Below W.heap.size w w' := ho.to_below h.below.size (fun k hk => h.foot k (hL k hk))
  have hsub : ∀ k, FootT tr T' k → FootT tr T k := fun k hk => by
    rcases foot_step t1 t2 t3 hk with h6 | h6 | ⟨j, x, hx, hf⟩ | ⟨j, x, hx, hf⟩
    · exact h6
    · rw [t6] at h6
      exact foot_p h6
    · rw [t8] at hx
      by_cases e : j = 1
      · subst e
        rw [setN_same] at hx
        cases hx
        rw [g4] at hf
        exact foot_node f1 hf
      · rw [setN_other _ _ e] at hx
        by_cases e2 : j = D
        · subst e2
          rw [setN_same] at hx
          cases hx
          rw [m3] at hf
          exact foot_node h1 hf
        · rw [setN_other _ _ e2] at hx
          exact foot_node hx hf
    · rw [t7] at hx
      by_cases e : j = D
      · subst e
        rw [setN_same] at hx
        cases hx
        exact foot_dir h5 hf
      · rw [setN_other _ _ e] at hx
        exact foot_dir hx hf
  refine ⟨he, T', [d.b, n1.b, nD.b], ⟨hT, h.below.trans hb, fun k hk => h.foot k (hsub k hk), (fun i => by rw [t4]; exact h.g i), by rw [t6]; exact h.N, h.D1, ?_, ?_, ?_⟩, hsub, ho, hL⟩
  · exact ⟨na, d0, by rw [t8, setN_other _ _ (by omega), setN_other _ _ (Ne.symm h.D1.1), r1], r2, by rw [t7, setN_other _ _ (Ne.symm h.D1.1), r3], r4⟩
  · exact ⟨nD', ⟨d.b, (insE (entF 108 m 1) (dropE d.l (lettered 108 m).data.toList))⟩, by rw [t8, setN_other _ _ h.D1.2, setN_same], by rw [m1]; exact h2, by omega, by omega, by rw [t7, setN_same], hnm.step (by omega)⟩
  · exact ⟨ni, by rw [t8, setN_same], by rw [g1]; exact f2, by omega, by omega, by omega⟩
theorem Full2.full {W w : World} {tr D q : Nat} {T : Tr} {A : Nat → Addr} (h : Full2 W w tr T D 7) (hE : Errs W A) (hq : 7 ≤ q) (hq2 : q < 100) :
    Calls Tryd.prog 11 #[.pointer (Option.some ⟨tr, 0, none⟩), .agg #[.int .i64 1, .int .i64 0], .agg #[.int .i64 D, .int .i64 0], .string (lettered 108 q)] w fun e w' => e = .returned (errV (A 8)) ∧ (∃ T' L, Full2 W w' tr T' D 7 ∧ (∀ k, FootT tr T' k → FootT tr T k) ∧ Only L w w' ∧ ∀ k ∈ L, FootT tr T k) := by
  obtain ⟨nD, d, h1, h2, h3, h4, h5, hnm⟩ := h.dir
  obtain ⟨n1, f1, f2, f3, f4, f5⟩ := h.file
  have hcall := link_full w tr T A D 1 nD n1 d (lettered 108 q) h.tree (hE.below h.below (Nat.le_refl _)) h5 h1 h2 f1 f2 (okL q (by omega)).1 (okL q (by omega)).2 (hnm.free hq hq2) (by rw [hnm.1]; omega) ⟨by omega, by omega⟩
  rw [h.g 1, h.g D] at hcall
  exact hcall.mono fun e w' hh => ⟨hh.1, T, [], h.only hh.2, fun _ hk => hk, hh.2, fun k hk => by cases hk⟩
end Go.Proofs.YtnbanflnepbgnaaDoor
