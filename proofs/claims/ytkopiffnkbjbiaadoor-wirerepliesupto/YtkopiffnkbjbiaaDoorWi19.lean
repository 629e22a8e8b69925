/- WireOps: ops that came in; what the document writes of them. -/
import Derived.Test.YtkopiffnkbjbiaaDoorWi18
import Derived.Test.YtkopiffnkbjbiaaDoorWi17
import Derived.Deep.Strs
import Derived.Deep.Slices
import Derived.OpenShut
import Derived.ChangeArms
import Derived.SizedLaws
import Derived.BigQuiet
import Derived.Deep.QuietTactic
namespace Go.Proofs.YtkopiffnkbjbiaaDoor
open Go Go.RowKit Go.Deep Go.WideShapes

/-- A list that came in. -/
structure RwA {α : Type} (w : World) (c : α → List Value) (n : Nat) (ad : Option Addr) (l : List α) : Prop where
  at_ : ∀ i x, l[i]? = some x → ∃ g o, ad = some ⟨g, o, none⟩ ∧ ∀ j u, (c x)[j]? = some u → w.cell? ⟨g, o + i * n + j, none⟩ = some u
theorem RwA.later {α : Type} {w w' : World} {c : α → List Value} {n : Nat} {ad : Option Addr} {l : List α} (h : RwA w c n ad l) (ho : Only [] w w') : RwA w' c n ad l :=
  ⟨fun i x e => by
    obtain ⟨g, o, h1, h2⟩ := h.at_ i x e
    exact ⟨g, o, h1, fun j u hu => (ho.cell (p := ⟨g, o + i * n + j, none⟩) (lt_of_cell (h2 j u hu)) (by simp)).trans (h2 j u hu)⟩⟩
def OpV.fits (x : OpV) : Prop := x.ok ∧ x.K.size ≤ 140737488351232 ∧ x.N.size ≤ 140737488351232 ∧ x.T.size ≤ 140737488351232
def IsOps (w : World) (ad : Option Addr) (len : Nat) : Prop := len * 96 ≤ 140737488351232 ∧ ∃ l : List OpV, l.length = len ∧ RwA w opC 9 ad l ∧ ∀ x ∈ l, x.fits
theorem choose_ltW {α : Type} [Inhabited α] {n : Nat} {p : Nat → α → Prop} (h : ∀ i, i < n → ∃ a, p i a) : ∃ f : Nat → α, ∀ i, i < n → p i (f i) :=
  ⟨fun i => if hi : i < n then (h i hi).choose else default, fun i hi => by simp only [hi, dite_true]; exact (h i hi).choose_spec⟩
theorem Tryd.cellsOpW : Tryd.prog.cellsOf 40 = 9 := by kernel_rfl
theorem Tryd.cellsIntW : Tryd.prog.cellsOf 3 = 1 := by kernel_rfl
theorem Tryd.cellsStrW : Tryd.prog.cellsOf 9 = 1 := by kernel_rfl
theorem Tryd.cellsStW : Tryd.prog.cellsOf 38 = 2 := by kernel_rfl
theorem Tryd.bytesOpW : Tryd.prog.bytesOf 40 = 96 := by kernel_rfl
theorem nine_of {l : List Value} (h : l.length = 9) : ∃ a b c d e f g h i, l = [a, b, c, d, e, f, g, h, i] := by
  match l, h with
  | [a, b, c, d, e, f, g, h, i], _ => exact ⟨a, b, c, d, e, f, g, h, i, rfl⟩
theorem two_ofW {l : List Value} (h : l.length = 2) : ∃ a b, l = [a, b] := by
  match l, h with
  | [a, b], _ => exact ⟨a, b, rfl⟩
theorem weightsAll_memW {H : Type} {P : Program} {e : TypeId} : ∀ {l : List (DataW H)} {d : DataW H}, d ∈ l → ∀ n ∈ d.weights P e, n ∈ DataW.weightsAll P e l
  | d0 :: l, d, hm, n, hn => by
    simp only [DataW.weightsAll, List.mem_append]
    rcases List.mem_cons.1 hm with rfl | hm
    · exact Or.inl hn
    · exact Or.inr (weightsAll_memW hm n hn)
theorem wf64 {n : Int} (h : (Lit.int .i64 n).wf = true) : I64 n := by
  simp [Lit.wf, IntKind.min, IntKind.max, IntKind.signed, IntKind.bits] at h
  exact ⟨by omega, by omega⟩
theorem state_fieldsW {H : Type} {enc : TypeId × Value → H} {w : World} {base n : Nat} {sp : Nat → Bool} {held : Bool} {cs : List Value} {x : DataW H × List MemPlace} (h : DataW.trod enc Tryd.prog w base sp held n 38 cs = some x) :
    ∃ a b : Int, cs = [.int .i64 a, .int .i64 b] ∧ I64 a ∧ I64 b := by
  have hst := DataW.trod_struct Tryd.underlying38 h
  rw [Tryd.cellsStW] at hst
  obtain ⟨xs, k, _, hxx, hcl, hlen, hx⟩ := hst
  obtain ⟨c0, c1, rfl⟩ := two_ofW (l := cs) (by simpa using hcl)
  have g : ∀ i (hi : i < xs.length), xs[i]? = some xs[i] := fun i hi => List.getElem?_eq_getElem hi
  have hl2 : xs.length = 2 := hlen
  have y0 := (hx 0 _ rfl).trans (g 0 (by omega))
  have y1 := (hx 1 _ rfl).trans (g 1 (by omega))
  obtain ⟨n0, e0, _, r0⟩ := DataW.trod_int Tryd.underlying3 y0
  obtain ⟨n1, e1, _, r1⟩ := DataW.trod_int Tryd.underlying3 y1
  simp [Tryd.cellsIntW] at e0 e1
  subst e0 e1
  exact ⟨n0, n1, rfl, wf64 r0, wf64 r1⟩
theorem op_fieldsW {H : Type} {enc : TypeId × Value → H} {w : World} {base n : Nat} {sp : Nat → Bool} {held : Bool} {cs : List Value} {x : DataW H × List MemPlace} (h : DataW.trod enc Tryd.prog w base sp held n 40 cs = some x) (hw : ∀ q ∈ x.1.weights Tryd.prog 40, q ≤ reachBytes) :
    ∃ p : OpV, cs = opC p ∧ p.fits := by
  have hst := DataW.trod_struct Tryd.underlying40 h
  rw [Tryd.cellsOpW] at hst
  obtain ⟨xs, k, _, hxx, hcl, hlen, hx⟩ := hst
  obtain ⟨c0, c1, c2, c3, c4, c5, c6, c7, c8, rfl⟩ := nine_of (l := cs) (by simpa using hcl)
  have g : ∀ i (hi : i < xs.length), xs[i]? = some xs[i] := fun i hi => List.getElem?_eq_getElem hi
  have hl8 : xs.length = 8 := hlen
  have y0 := (hx 0 _ rfl).trans (g 0 (by omega))
  have y1 := (hx 1 _ rfl).trans (g 1 (by omega))
  have y2 := (hx 2 _ rfl).trans (g 2 (by omega))
  have y3 := (hx 3 _ rfl).trans (g 3 (by omega))
  have y4 := (hx 4 _ rfl).trans (g 4 (by omega))
  have y5 := (hx 5 _ rfl).trans (g 5 (by omega))
  have y6 := (hx 6 _ rfl).trans (g 6 (by omega))
  have y7 := (hx 7 _ rfl).trans (g 7 (by omega))
  obtain ⟨s0, e0, d0, _⟩ := DataW.trod_string Tryd.underlying9 y0
  obtain ⟨s1, e1, d1, _⟩ := DataW.trod_string Tryd.underlying9 y1
  obtain ⟨s2, e2, d2, _⟩ := DataW.trod_string Tryd.underlying9 y2
  obtain ⟨n3, e3, _, r3⟩ := DataW.trod_int Tryd.underlying3 y3
  obtain ⟨n4, e4, _, r4⟩ := DataW.trod_int Tryd.underlying3 y4
  obtain ⟨n5, e5, _, r5⟩ := DataW.trod_int Tryd.underlying3 y5
  obtain ⟨n6, e6, _, r6⟩ := DataW.trod_int Tryd.underlying3 y6
  obtain ⟨n7, n8, e7, r7, r8⟩ := state_fieldsW y7
  have wt : ∀ (j : Nat) (s : ByteArray) (hj : j < xs.length), (xs[j]'hj).1 = .lit (.string s.data.toList) → ∀ t, (Tryd.prog.underlying 40).bind (fun u => match u with | .struct fs => (fs.toList.map (·.type))[j]? | _ => none) = some t → s.size ≤ 140737488351232 := fun j s hj hd t ht => by
    have h1 : s.data.toList.length ∈ x.1.weights Tryd.prog 40 := by
      rw [hxx]
      rw [Tryd.underlying40] at ht
      simp only [DataW.weights, Tryd.underlying40]
      refine DataW.weights_mem_each (j := j) ht (d := .lit (.string s.data.toList)) (by rw [List.getElem?_map, g j hj]; simp [hd]) _ (by simp [DataW.weights])
    have h2 := hw _ h1
    have h3 : s.data.toList.length = s.size := by simp
    have h4 : reachBytes = 140737488351232 := rfl
    omega
  have w0 := wt 0 s0 (by omega) (by rw [d0]) 9 (by rw [Tryd.underlying40]; rfl)
  have w1 := wt 1 s1 (by omega) (by rw [d1]) 9 (by rw [Tryd.underlying40]; rfl)
  have w2 := wt 2 s2 (by omega) (by rw [d2]) 9 (by rw [Tryd.underlying40]; rfl)
  simp [Tryd.cellsIntW, Tryd.cellsStrW, Tryd.cellsStW] at e0 e1 e2 e3 e4 e5 e6 e7
  obtain ⟨e7, e8⟩ := e7
  subst e0 e1 e2 e3 e4 e5 e6 e7 e8
  exact ⟨⟨s0, s1, s2, n3, n4, n5, n6, n7, n8⟩, rfl, ⟨wf64 r3, wf64 r4, wf64 r5, wf64 r6, r7, r8⟩, w0, w1, w2⟩
theorem isOps_of {H : Type} {enc : TypeId × Value → H} {w : World} {base n : Nat} {sp : Nat → Bool} {held : Bool} {a : Option Addr} {len cap : Nat} {x : DataW H × List MemPlace} (h : DataW.trod enc Tryd.prog w base sp held n 22 [.slice a len cap] = some x) (hw : ∀ q ∈ x.1.weights Tryd.prog 22, q ≤ reachBytes) : IsOps w a len := by
  rcases open_slice Tryd.underlying22 h with ⟨e, _⟩ | ⟨ad, len', cap', m, n', D, Pl, e, _, hl, hm, hmm, hxx, hx⟩
  · simp at e
    obtain ⟨rfl, rfl, rfl⟩ := e
    exact ⟨by decide, [], rfl, ⟨fun i x e => by cases e⟩, fun x hx => by cases hx⟩
  · simp at e
    obtain ⟨rfl, rfl, rfl⟩ := e
    have h96 : len * 96 ≤ 140737488351232 := by
      have h4 : reachBytes = 140737488351232 := rfl
      rw [← h4]
      rw [hxx] at hw
      simp only [DataW.weights, Tryd.underlying22] at hw
      have := hw _ (List.mem_cons_self ..)
      rw [Tryd.bytesOpW] at this
      simp only [List.length_map, List.length_range] at this
      have h5 : len * 96 ≤ (len + 0) * 96 := by omega
      refine Nat.le_trans ?_ this
      exact Nat.mul_le_mul_right _ (Nat.le_add_right _ _)
    rcases Nat.eq_zero_or_pos len with h0 | h0
    · subst h0
      exact ⟨h96, [], rfl, ⟨fun i x e => by cases e⟩, fun x hx => by cases hx⟩
    have hle : len ≤ m := by rw [hmm]; split <;> omega
    rw [Tryd.cellsOpW] at hx
    have hwD : ∀ i, i < len → ∀ q ∈ (D i).weights Tryd.prog 40, q ≤ reachBytes := fun i hi q hq => by
      refine hw q ?_
      rw [hxx]
      simp only [DataW.weights, Tryd.underlying22]
      exact List.mem_cons_of_mem _ (List.mem_append_left _ (weightsAll_memW (List.mem_map.2 ⟨i, List.mem_range.2 hi, rfl⟩) q hq))
    have inst : Inhabited OpV := ⟨⟨⟨#[]⟩, ⟨#[]⟩, ⟨#[]⟩, 0, 0, 0, 0, 0, 0⟩⟩
    obtain ⟨P, hP⟩ := choose_ltW (α := OpV) (n := len) (p := fun i p => w.cells? base (ad.add (i * 9)) 9 = some (opC p) ∧ p.fits) (fun i hi => by
      obtain ⟨cs', c1, c2⟩ := hx i (by omega)
      obtain ⟨p, rfl, hok⟩ := op_fieldsW c2 (hwD i hi)
      exact ⟨p, c1, hok⟩)
    obtain ⟨ab, ao, spot⟩ := ad
    have cell : ∀ i, i < len → ∀ k, k < 9 → w.cell? (((⟨ab, ao, spot⟩ : Addr).add (i * 9)).add k) = (opC (P i))[k]? := fun i hi k hk => (World.cells?_some (hP i hi).1).2.2 k hk
    have hspot : spot = none := by
      have := cell 0 h0 0 (by decide)
      simp [Addr.add, opC] at this
      exact World.cell?_spot this
    subst hspot
    have hadd : ∀ i k, ((⟨ab, ao, none⟩ : Addr).add (i * 9)).add k = ⟨ab, ao + i * 9 + k, none⟩ := fun i k => by
      unfold Addr.add
      split <;> split <;> simp_all
    refine ⟨h96, (List.range len).map P, by simp, ⟨fun i x hxi => ⟨ab, ao, rfl, fun j u hu => ?_⟩⟩, fun x hxm => ?_⟩
    · rw [List.getElem?_map] at hxi
      obtain ⟨i', hi', rfl⟩ := Option.map_eq_some_iff.1 hxi
      obtain ⟨hlt, e⟩ := List.getElem?_eq_some_iff.1 hi'
      rw [List.getElem_range] at e
      subst e
      have hj : j < 9 := by have := (List.getElem?_eq_some_iff.1 hu).1; rw [opC_len] at this; exact this
      have := cell i (by simpa using hlt) j hj
      rw [hadd] at this
      rw [this]
      exact hu
    · obtain ⟨i, hi, rfl⟩ := List.mem_map.1 hxm
      exact (hP i (List.mem_range.1 hi)).2
set_option maxHeartbeats 1000000 in
theorem lawOps_arg (ad : Option Addr) (cap : Nat) (l : List OpV) (w : World) (hr : RwA w opC 9 ad l) (hl : l.length * 96 ≤ 140737488351232) : Calls Tryd.prog 11 #[.slice ad l.length cap] w fun e w' => ∃ v, e = .returned v ∧ Only [] w w' ∧ w'.ownsRow w.heap.size 65 9 v l.length (rowOf opC l) := by
  obtain ⟨i0, hi0, hz0, hz1, hz2⟩ := opInfo
  have HR : Hid (RwA w opC 9 ad l) := hr
  obtain ⟨n, hn⟩ : ∃ n, l.length = n := ⟨_, rfl⟩
  have HN : Hid (l.length = n) := hn
  have hnb : n * 96 ≤ 140737488351232 := hn ▸ hl
  rw [hn]
  clear hn hl hr
  go_enter Tryd.func11, Tryd.ntmps11
  go_wp2
  go_loopw [3, 4] (fun v i wr => ∃ j : Nat, j ≤ n ∧ i = .int .i64 (j : Nat) ∧ Only [] w wr ∧ wr.ownsRow w.heap.size 65 9 v (l.take j).length (rowOf opC (l.take j))) (fun _ i _ => n - (intOf i).toNat)
  case atStart => exact ⟨0, Nat.zero_le _, rfl, Only.refl _ _, World.ownsRow_nil _ _ _ _⟩
  case round =>
    obtain ⟨j, hj, rfl, ho, hrow⟩ := hrel
    have O : Hid (Only [] w wr) := ho
    have HLT : Hid ((l.take j).length = j) := by show _ = _; rw [List.length_take, HN.out]; omega
    have HROW : Hid (wr.ownsRow w.heap.size 65 9 u3 j (rowOf opC (l.take j))) := by
      rw [HLT.out] at hrow
      exact hrow
    clear ho hrow
    by_cases hlt : j < n
    · obtain ⟨x, hx⟩ := at_lt l (j := j) (by rw [HN.out]; exact hlt)
      have hrx := HR.out.later O.out
      obtain ⟨g, o, rfl, hc⟩ := hrx.at_ j x hx
      have HX : Hid (l.take j ++ [x] = l.take (j + 1)) := by
        show _ = _
        rw [List.take_add_one, hx]
        rfl
      have c0 : wr.cell? ⟨g, o + j * 9, none⟩ = some (.string x.K) := hc 0 _ rfl
      have c1 : wr.cell? ⟨g, o + j * 9 + 1, none⟩ = some (.string x.N) := hc 1 _ rfl
      have c2 : wr.cell? ⟨g, o + j * 9 + 2, none⟩ = some (.string x.T) := hc 2 _ rfl
      have c3 : wr.cell? ⟨g, o + j * 9 + 3, none⟩ = some (.int .i64 x.x1) := hc 3 _ rfl
      have c4 : wr.cell? ⟨g, o + j * 9 + 4, none⟩ = some (.int .i64 x.x2) := hc 4 _ rfl
      have c5 : wr.cell? ⟨g, o + j * 9 + 5, none⟩ = some (.int .i64 x.x3) := hc 5 _ rfl
      have c6 : wr.cell? ⟨g, o + j * 9 + 6, none⟩ = some (.int .i64 x.x4) := hc 6 _ rfl
      have c7 : wr.cell? ⟨g, o + j * 9 + 7, none⟩ = some (.int .i64 x.x5) := hc 7 _ rfl
      have c8 : wr.cell? ⟨g, o + j * 9 + 8, none⟩ = some (.int .i64 x.x6) := hc 8 _ rfl
      clear hrx hc hx
      go_wp2_with (first
        | (at_builtin; refine wpList_append_lies _ rfl (.tmp 16) (.tmp 34) 29 rfl w.heap.size 65 i0 _ 9 96 opsUnd hi0 hz0 hz1 hz2 rfl (by decide) u3 j _ rfl (World.ownsRow.alloc (World.ownsRow.alloc HROW.out _) _) ⟨wr.heap.size + 1, 0, none⟩ 1 1 (opC x) rfl rfl (op_news1 _ x _) (opC_one x) (by decide) (by unfold maxLen; omega) (by omega) (by rw [World.size_alloc, World.size_alloc]; have := O.out.size; omega) (wr.heap.size + 1 + 1) (by simp) ?_; intro g5 c5 w5 hown5 hgr5 hat5 hlt5; have HV5 : Hid (w5.ownsRow w.heap.size 65 9 (.slice (some ⟨g5, 0, none⟩) (j + 1) c5) (l.take j ++ [x]).length (rowOf opC (l.take j ++ [x]))) := row_snoc HLT.out hown5; have HG5 : Hid (Only u3.ownBlock.toList wr w5) := ((Only.refl _ wr).alloc _).seq (grown_only hgr5 (fun b hb => Or.inl (by simp [hb]))); clear hown5 hgr5 hat5 hlt5)
        | go_in)
      go_roundw
      case rel => exact ⟨j + 1, by omega, by go_num, O.out.trans HG5.out (fun k hk => Or.inr (own_at HROW.out (by simpa using hk)).1), by rw [← HX.out]; exact HV5.out⟩
      case measure => simp [intOf]; omega
    · obtain rfl : n = j := by omega
      go_wp2
      go_ret
      exact ⟨_, rfl, O.out, by
        have := HROW.out
        rw [← HN.out, List.take_length] at this
        rw [HN.out] at this
        exact this⟩
def bulkL : List OpV → Nat
  | [] => 0
  | x :: l => 60 + x.K.size + x.N.size + x.T.size + bulkL l
theorem bulkL_app (l : List OpV) (x : OpV) : bulkL (l ++ [x]) = bulkL l + 60 + x.K.size + x.N.size + x.T.size := by
  induction l with
  | nil => simp [bulkL]
  | cons a l ih => simp only [List.cons_append, bulkL, ih]; omega
theorem bulkL_mem {l : List OpV} {x : OpV} (h : x ∈ l) : x.K.size ≤ bulkL l ∧ x.N.size ≤ bulkL l ∧ x.T.size ≤ bulkL l := by
  induction l with
  | nil => cases h
  | cons a l ih =>
    simp only [bulkL]
    rcases List.mem_cons.1 h with rfl | h
    · omega
    · have := ih h
      omega
theorem bulkL_le {l : List OpV} (h : ∀ x ∈ l, x.fits) : bulkL l ≤ l.length * 422212465053756 := by
  induction l with
  | nil => exact Nat.zero_le _
  | cons a l ih =>
    have h1 := (h a (List.mem_cons_self ..)).2
    have h2 := ih (fun x hx => h x (List.mem_cons_of_mem _ hx))
    simp only [bulkL, List.length_cons]
    omega
set_option maxRecDepth 100000 in
set_option maxHeartbeats 4000000 in
theorem bulk_small (ad : Option Addr) (cap : Nat) (l : List OpV) (w : World) (hr : RwA w opC 9 ad l) (hl : l.length ≤ 16) (hf : ∀ x ∈ l, x.fits) : Calls Tryd.prog 9 #[.slice ad l.length cap] w fun e w' => e = .returned (.int .i64 (bulkL l : Nat)) ∧ Only [] w w' := by
  have HR : Hid (RwA w opC 9 ad l) := hr
  have HF : Hid (∀ x ∈ l, x.fits) := hf
  obtain ⟨n, hn⟩ : ∃ n, l.length = n := ⟨_, rfl⟩
  have HN : Hid (l.length = n) := hn
  have hnb : n ≤ 16 := hn ▸ hl
  rw [hn]
  clear hn hl hr hf
  go_enter Tryd.func9, Tryd.ntmps9
  go_wp2
  go_loopw [3, 4] (fun v i wr => ∃ j : Nat, j ≤ n ∧ i = .int .i64 (j : Nat) ∧ v = .int .i64 (bulkL (l.take j) : Nat) ∧ Only [] w wr) (fun _ i _ => n - (intOf i).toNat)
  case atStart => exact ⟨0, Nat.zero_le _, rfl, rfl, Only.refl _ _⟩
  case round =>
    obtain ⟨j, hj, rfl, rfl, ho⟩ := hrel
    have O : Hid (Only [] w wr) := ho
    clear ho
    by_cases hlt : j < n
    · obtain ⟨x, hx⟩ := at_lt l (j := j) (by rw [HN.out]; exact hlt)
      obtain ⟨g, o, rfl, hc⟩ := (HR.out.later O.out).at_ j x hx
      obtain ⟨_, hk1, hk2, hk3⟩ := HF.out x (mem_at hx)
      have hbl : bulkL (l.take j) ≤ 16 * 422212465053756 := by
        refine Nat.le_trans (bulkL_le (fun x hx => HF.out x (List.mem_of_mem_take hx))) (Nat.mul_le_mul_right _ ?_)
        rw [List.length_take]
        omega
      have HX : Hid (bulkL (l.take (j + 1)) = bulkL (l.take j) + 60 + x.K.size + x.N.size + x.T.size) := by
        show _ = _
        rw [List.take_add_one, hx, ← bulkL_app]
        rfl
      have c0 : wr.cell? ⟨g, o + j * 9, none⟩ = some (.string x.K) := hc 0 _ rfl
      have c1 : wr.cell? ⟨g, o + j * 9 + 1, none⟩ = some (.string x.N) := hc 1 _ rfl
      have c2 : wr.cell? ⟨g, o + j * 9 + 2, none⟩ = some (.string x.T) := hc 2 _ rfl
      clear hc hx
      generalize bulkL (l.take j) = B at hbl HX ⊢
      go_wp2_with fail
      go_big_quiet (fail)
      go_wp2
      go_roundw
      case rel => exact ⟨j + 1, by omega, by go_num, by rw [HX.out]; go_num, O.out.drewsN _⟩
      case measure => simp [intOf]; omega
    · obtain rfl : n = j := by omega
      have HT : Hid (l.take n = l) := by show _ = _; rw [← HN.out, List.take_length]
      rw [HT.out]
      go_wp2
      go_ret
      exact ⟨rfl, O.out⟩
end Go.Proofs.YtkopiffnkbjbiaaDoor
