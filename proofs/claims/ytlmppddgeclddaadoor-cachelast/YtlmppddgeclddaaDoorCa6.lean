/- What was answered, the document's side: its cache in memory; Look. -/
import Derived.Test.YtlmppddgeclddaaDoorCa5
import Derived.Test.YtlmppddgeclddaaDoorPr1
namespace Go.Proofs.YtlmppddgeclddaaDoor
open Go Go.RowKit Go.Deep

def kpC (x : Kp) : List Value := [.string x.c, .int .i64 x.n, .string x.t, .string x.r]
theorem kpC_len (x : Kp) : (kpC x).length = 4 := rfl
theorem kpC_one (x : Kp) : ∀ v ∈ kpC x, v.oneCell' = true := by
  intro v hv
  simp only [kpC, List.mem_cons, List.not_mem_nil, or_false] at hv
  rcases hv with rfl | rfl | rfl | rfl <;> rfl
theorem kpInfo : (Tryd.prog.info? 58).map (fun i => (i.zero, i.size, i.bytes)) = some (some (.agg #[.string ⟨#[]⟩, .int .i64 0, .string ⟨#[]⟩, .string ⟨#[]⟩]), 4, 56) := by kernel_rfl
theorem kpInfo' : ∃ i, Tryd.prog.info? 58 = some i ∧ i.zero = some (.agg #[.string ⟨#[]⟩, .int .i64 0, .string ⟨#[]⟩, .string ⟨#[]⟩]) ∧ i.size = 4 ∧ i.bytes = 56 := by
  obtain ⟨i, hi, hz⟩ := Option.map_eq_some_iff.1 kpInfo
  simp only [Prod.mk.injEq] at hz
  exact ⟨i, hi, hz⟩
theorem kpsUnd : Tryd.prog.underlying 31 = some (.slice 58) := by kernel_rfl
/-- The document's list of what is kept. -/
def Kps (w : World) (base : Nat) (v : Value) (L : List Kp) : Prop := PartRow w base 58 4 v L.length (rowOf kpC L)
/-- Where a request lies. -/
def KpIn (w : World) (g o : Nat) (x : Kp) : Prop := w.cell? ⟨g, o, none⟩ = some (.string x.c) ∧ w.cell? ⟨g, o + 1, none⟩ = some (.int .i64 x.n) ∧ w.cell? ⟨g, o + 2, none⟩ = some (.string x.t) ∧ w.cell? ⟨g, o + 3, none⟩ = some (.string x.r)
theorem Kps.form {w : World} {base : Nat} {v : Value} {L : List Kp} (h : Kps w base v L) : ∃ ad cap, v = .slice ad L.length cap ∧ (cap : Int) ≤ 9223372036854775807 ∧ L.length ≤ cap ∧ ∀ j x, L[j]? = some x → ∃ g off, ad = some ⟨g, off, none⟩ ∧ KpIn w g (off + j * 4) x := by
  obtain ⟨ad, cap, hv, h1, h2, h3⟩ := PartRow.form h
  refine ⟨ad, cap, hv, h1, h2, fun j x hx => ?_⟩
  have hlt : j < L.length := (List.getElem?_eq_some_iff.1 hx).1
  obtain ⟨g, off, rfl, _⟩ := h3 (j * 4) (by omega)
  have key : ∀ i, i < 4 → w.cell? ⟨g, off + j * 4 + i, none⟩ = (kpC x)[i]? := fun i hi => by
    obtain ⟨g', off', e, hc⟩ := h3 (j * 4 + i) (by omega)
    simp only [Option.some.injEq, Addr.mk.injEq, and_true] at e
    obtain ⟨rfl, rfl⟩ := e
    rw [Nat.add_assoc, hc]
    exact rowOf_get kpC_len L j i x hi hx
  exact ⟨g, off, rfl, key 0 (by decide), key 1 (by decide), key 2 (by decide), key 3 (by decide)⟩
structure KcAt (w : World) (base m : Nat) (v : Value) (most : Nat) (L : List Kp) : Prop where
  tab : w.heap[m]? = some (.cells #[.int .i64 (most : Nat), v] 33 (0, 0))
  own : Kps w base v L
section
variable {w w' : World} {base m : Nat} {v : Value} {most : Nat} {L : List Kp}
theorem KcAt.lt (h : KcAt w base m v most L) : m < w.heap.size := (Array.getElem?_eq_some_iff.1 h.tab).1
theorem KcAt.c0 (h : KcAt w base m v most L) : w.cell? ⟨m, 0, none⟩ = some (.int .i64 (most : Nat)) := cell_of_row _ _ 0 _ _ _ h.tab
theorem KcAt.c1 (h : KcAt w base m v most L) : w.cell? ⟨m, 1, none⟩ = some v := cell_of_row _ _ 1 _ _ _ h.tab
theorem KcAt.fr (h : KcAt w base m v most L) (j : Nat) : w.frozen? ⟨m, j, none⟩ = false := frozen_of_row _ _ _ _ _ h.tab
theorem KcAt.ne (h : KcAt w base m v most L) {k : Nat} (hk : v.ownBlock = some k) : k ≠ m := fun e => by
  obtain ⟨_, _, cur, hc⟩ := PartRow.block h.own hk
  rw [e, h.tab] at hc
  simp at hc
theorem KcAt.kept {K : List Nat} (h : KcAt w base m v most L) (ho : Only K w w') (h1 : m ∉ K) (h2 : ∀ k, v.ownBlock = some k → k ∉ K) : KcAt w' base m v most L := ⟨(ho.block m h.lt h1).trans h.tab, PartRow.only h.own ho h2⟩
theorem KcAt.only (h : KcAt w base m v most L) (ho : Only [] w w') : KcAt w' base m v most L := h.kept ho (by simp) (fun _ _ => by simp)
end
theorem kk_eq {x : Kp} {c : ByteArray} {n : Int} (h1 : x.c = c) (h2 : x.n = n) : x.k = (c, n) := by unfold Kp.k; rw [h1, h2]
theorem bytes_eq {s r : ByteArray} (h : s = r) : (s.toList == r.toList) = true := by rw [h]; simp
/-- Of the first j none is this request. -/
def NoneTo (L : List Kp) (j : Nat) (k : ByteArray × Int) : Prop := ∀ x ∈ L.take j, ¬ x.k = k
theorem NoneTo.step {L : List Kp} {j : Nat} {k : ByteArray × Int} {x : Kp} (h : NoneTo L j k) (hx : L[j]? = some x) (hn : ¬ x.k = k) : NoneTo L (j + 1) k := fun y hy => by
  rw [List.take_add_one, hx] at hy
  rcases List.mem_append.1 hy with e | e
  · exact h y e
  · simp at e
    rw [e]
    exact hn
theorem NoneTo.all {L : List Kp} {k : ByteArray × Int} (h : NoneTo L L.length k) : findK L k = none := findK_of_none fun x hx => h x (by rw [List.take_length]; exact hx)
theorem NoneTo.found {L : List Kp} {j : Nat} {k : ByteArray × Int} {x : Kp} (h : NoneTo L j k) (hx : L[j]? = some x) (he : x.k = k) : findK L k = some x := by
  induction L generalizing j with
  | nil => cases hx
  | cons y L ih =>
    rw [findK_cons]
    cases j with
    | zero =>
      simp at hx
      rw [hx, if_pos he]
    | succ j =>
      rw [if_neg (h y (by simp))]
      exact ih (j := j) (fun z hz => h z (by simp [hz])) (by simpa using hx)
def rlookV (L : List Kp) (k : ByteArray × Int) (s : ByteArray) : Value := .tuple #[.string (lookK L k s).2.2, .bool (lookK L k s).2.1, .int .i64 ((lookK L k s).1 : Nat)]
set_option maxRecDepth 100000 in
set_option maxHeartbeats 4000000 in
theorem rlook_any (w : World) (base m : Nat) (v : Value) (most : Nat) (L : List Kp) (k : ByteArray × Int) (s : ByteArray) (h : KcAt w base m v most L) (hl : L.length ≤ 100) :
    Calls Tryd.prog 11 #[.pointer (some ⟨m, 0, none⟩), .string k.1, .int .i64 k.2, .string s] w fun e w' => e = .returned (rlookV L k s) ∧ w = w' := by
  have c1 := h.c1
  obtain ⟨ad, cap, rfl, hcm, hnc, hf⟩ := h.own.form
  have HF : Hid (∀ j x, L[j]? = some x → ∃ g off, ad = some ⟨g, off, none⟩ ∧ KpIn w g (off + j * 4) x) := hf
  obtain ⟨n, hn⟩ : ∃ n, L.length = n := ⟨_, rfl⟩
  have HN : Hid (L.length = n) := hn
  rw [hn] at c1 hl
  obtain ⟨c, i⟩ := k
  dsimp only
  clear hf hn h hcm hnc
  go_enter Tryd.func11, Tryd.ntmps11
  go_wp2
  go_loop [11] (fun q => ∃ j : Nat, q = .int .i64 (j : Nat) ∧ j ≤ n ∧ NoneTo L j (c, i)) (fun q => n - (intOf q).toNat)
  case atStart => exact ⟨0, rfl, Nat.zero_le _, fun x hx => by simp at hx⟩
  case round =>
    obtain ⟨j, rfl, hj, hno⟩ := hrel
    have HNO : Hid (NoneTo L j (c, i)) := hno
    clear hno
    by_cases hlt : j < n
    · obtain ⟨x, hx⟩ : ∃ x, L[j]? = some x := ⟨L[j]'(by have := HN.out; omega), List.getElem?_eq_getElem _⟩
      obtain ⟨g, off, rfl, q0, q1, q2, q3⟩ := HF.out j x hx
      have HX : Hid (L[j]? = some x) := hx
      clear hx
      by_cases h1 : x.c = c
      · have b1 := bytes_eq h1
        by_cases h2 : x.n = i
        · have b2 : (x.n != i) = false := by rw [h2]; simp
          have HFD : Hid (findK L (c, i) = some x) := HNO.out.found HX.out (kk_eq h1 h2)
          clear h1 h2
          by_cases h3 : x.t = s
          · have b3 := bytes_eq h3
            have HR : Hid (rlookV L (c, i) s = .tuple #[.string x.r, .bool true, .int .i64 0]) := by show _ = _; unfold rlookV lookK; rw [HFD.out]; simp [h3]
            clear h3
            go_wp2
            go_ret3
            exact ⟨by rw [HR.out]; rfl, rfl⟩
          · have b3 := bytes_ne h3
            have HR : Hid (rlookV L (c, i) s = .tuple #[.string ⟨#[]⟩, .bool false, .int .i64 12]) := by show _ = _; unfold rlookV lookK; rw [HFD.out]; simp [h3]
            clear h3
            go_wp2
            go_ret3
            exact ⟨by rw [HR.out]; rfl, rfl⟩
        · have b2 : (x.n != i) = true := by simpa using h2
          have HST : Hid (NoneTo L (j + 1) (c, i)) := HNO.out.step HX.out (fun e => h2 (by unfold Kp.k at e; cases e; rfl))
          clear h1 h2
          go_wp2
          go_round
          case rel => exact ⟨j + 1, by go_num, by omega, HST.out⟩
          case measure => simp [intOf]; omega
      · have b1 := bytes_ne h1
        have HST : Hid (NoneTo L (j + 1) (c, i)) := HNO.out.step HX.out (fun e => h1 (by unfold Kp.k at e; cases e; rfl))
        clear h1
        go_wp2
        go_round
        case rel => exact ⟨j + 1, by go_num, by omega, HST.out⟩
        case measure => simp [intOf]; omega
    · obtain rfl : j = n := by omega
      have HR : Hid (rlookV L (c, i) s = .tuple #[.string ⟨#[]⟩, .bool false, .int .i64 0]) := by show _ = _; unfold rlookV lookK; rw [NoneTo.all (by rw [HN.out]; exact HNO.out)]; rfl
      go_wp2
      go_ret3
      exact ⟨by rw [HR.out]; rfl, rfl⟩
end Go.Proofs.YtlmppddgeclddaaDoor
