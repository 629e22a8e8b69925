/- Package names: Join by its contract in the document's words; and what Split gives back of what was joined. -/
import Derived.Test.YtnhpgpjopogbiaaDoorS9
import Derived.Test.YtnhpgpjopogbiaaDoorV5
namespace Go.Proofs.YtnhpgpjopogbiaaDoor
open Go Go.RowKit Go.Deep

/-- The path of names. -/
def wantOf (n : Nat) (T : Nat → ByteArray) : ByteArray := if n = 0 then ⟨#[47]⟩ else bs (pathT (textsOf n T))
theorem wantOf_none (T : Nat → ByteArray) : wantOf 0 T = ⟨#[47]⟩ := rfl
theorem wantOf_some (n : Nat) (T : Nat → ByteArray) (h : n ≠ 0) : wantOf n T = bs (pathT (textsOf n T)) := if_neg h
theorem texts_cons (n : Nat) (T : Nat → ByteArray) (h : n ≠ 0) : ∃ x r, textsOf n T = x :: r := by
  cases k : textsOf n T with
  | nil => have := textsOf_len n T; rw [k] at this; exact absurd this.symm h
  | cons x r => exact ⟨x, r, rfl⟩
theorem texts_mem {n : Nat} {T : Nat → ByteArray} {y : List UInt8} (h : y ∈ textsOf n T) : ∃ i, i < n ∧ y = (T i).data.toList := by
  obtain ⟨i, hi, rfl⟩ := List.mem_map.1 h
  exact ⟨i, List.mem_range.1 hi, rfl⟩
theorem want_size (n : Nat) (T : Nat → ByteArray) (h : ∀ i, i < n → (T i).size ≤ 200) : (pathT (textsOf n T)).length ≤ 201 * n := by
  have := pathT_len (textsOf n T) fun x hx => by
    obtain ⟨i, hi, rfl⟩ := texts_mem hx
    exact h i hi
  rwa [textsOf_len] at this
theorem bs_len (l : List UInt8) : (bs l).size = l.length := by
  show (bs l).data.toList.length = l.length
  rw [bs_data]
theorem stroke_ahead (l : List UInt8) : (⟨#[47]⟩ : ByteArray) ++ bs l = bs (47 :: l) := by
  apply data_inj
  rw [bs_data]
  simp [bs_data]

/-! ### strings.Join at a stroke -/
theorem strokes_none (a : Option Addr) (c : Nat) (w : World) : Calls Tryd.prog 58 #[.slice a 0 c, .string ⟨#[47]⟩] w fun e w' => e = .returned (.string (bs [])) ∧ Below w.heap.size w w' :=
  (Any.strings_Join_none Tryd.lays156 Tryd.Builder_Extra_156 a c ⟨#[47]⟩ w).mono fun _ _ ⟨he, hw⟩ => ⟨he, hw ▸ Below.refl _ _⟩
theorem strokes_some (ab ao c n : Nat) (T : Nat → ByteArray) (w : World) (hc : ∀ i, i < n → w.cell? ⟨ab, ao + i, none⟩ = some (.string (T i))) (h0 : n ≠ 0) (hn : n ≤ 1000) (hcap : n ≤ c) (hs : ∀ i, i < n → (T i).size ≤ 200) :
    Calls Tryd.prog 58 #[.slice (some ⟨ab, ao, none⟩) n c, .string ⟨#[47]⟩] w fun e w' => e = .returned (.string (bs (Lib.join (textsOf n T) [47]))) ∧ Below w.heap.size w w' := by
  have hl : ((List.range n).map T).length = n := by simp
  have hm : ((List.range n).map T).map (·.data.toList) = textsOf n T := by simp [textsOf, Function.comp_def]
  have hlen : (Lib.join (textsOf n T) [47]).length ≤ 1000000 := by
    obtain ⟨x, r, e⟩ := texts_cons n T h0
    have := want_size n T hs
    rw [e, pathT_join, List.length_cons] at this
    rw [e]
    omega
  have h := Tryd.strings_Join ab ao c ((List.range n).map T) ⟨#[47]⟩ w (fun j x hx => by
      have hj : j < n := by
        rcases Nat.lt_or_ge j n with k | k
        · exact k
        · rw [List.getElem?_eq_none (by rw [hl]; exact k)] at hx; cases hx
      rw [hc j hj]
      simp [hj] at hx
      rw [hx]) (lt_of_cell (hc 0 (by omega))) (by rw [hl]; omega) (by rw [hl]; exact hcap) (by
      rw [hm]
      exact Nat.le_trans hlen (by decide))
  rw [hl, hm] at h
  exact h

theorem join_none (a : Option Addr) (c : Nat) (T : Nat → ByteArray) (w : World) : Calls Tryd.prog 37 #[.slice a 0 c] w fun e w' => e = .returned (.tuple #[.string (wantOf 0 T), .nilIface]) ∧ Below w.heap.size w w' := by
  have hk := strokes_none a c w
  have hc := checkAll_none a c w
  rw [show (bs [] : ByteArray) = ⟨#[]⟩ from rfl] at hk
  go_enter Tryd.func37, Tryd.ntmps37
  go_wp2_with (first
    | (go_at_call 55; go_must (refine hc.mono ?_); rintro e w1 ⟨rfl, rfl⟩)
    | (go_at_call 58; go_must (refine hk.mono ?_); rintro e w1 ⟨rfl, hb1⟩))
  go_ret2
  exact ⟨rfl, hb1⟩
theorem join_some (ab ao c n : Nat) (T : Nat → ByteArray) (A : Nat → Addr) (w : World) (hE : Errs w A) (hc : ∀ i, i < n → w.cell? ⟨ab, ao + i, none⟩ = some (.string (T i))) (h0 : n ≠ 0) (hn : n ≤ 1000) (hcap : n ≤ c) (hs : ∀ i, i < n → (T i).size ≤ 200) :
    Calls Tryd.prog 37 #[.slice (some ⟨ab, ao, none⟩) n c] w fun e w' => ∃ (code place : Int) (v : Value), PathIs n T code place ∧ ErrIs w' A code place v ∧ Below w.heap.size w w' ∧
      ((code = 0 ∧ e = .returned (.tuple #[.string (wantOf n T), .nilIface])) ∨ (0 < code ∧ e = .returned (.tuple #[.string ⟨#[]⟩, v]))) := by
  have hk := checkAll_some ab ao c n T A w hE hc (by omega)
  have HC : Hid (∀ i, i < n → w.cell? ⟨ab, ao + i, none⟩ = some (.string (T i))) := hc
  have HS : Hid (∀ i, i < n → (T i).size ≤ 200) := hs
  obtain ⟨x, r, hxr⟩ := texts_cons n T h0
  have hW : Hid (wantOf n T = ⟨#[47]⟩ ++ bs (Lib.join (textsOf n T) [47])) := by
    have : wantOf n T = ⟨#[47]⟩ ++ bs (Lib.join (textsOf n T) [47]) := by rw [wantOf_some n T h0, stroke_ahead, hxr, pathT_join]
    exact this
  have hJ : (bs (Lib.join (textsOf n T) [47])).size ≤ 1000000 := by
    have := want_size n T hs
    rw [hxr, pathT_join, List.length_cons] at this
    rw [hxr, bs_len]
    omega
  clear hc hE hs hxr
  go_enter Tryd.func37, Tryd.ntmps37
  go_wp2_with fail
  refine hk.mono ?_
  rintro e w1 ⟨code, place, v, hP, hEr, rfl, hb1⟩
  have HP : Hid (PathIs n T code place) := hP
  have HE : Hid (ErrIs w1 A code place v) := hEr
  have HB : Hid (Below w.heap.size w w1) := hb1
  have hcode := pathIs_code hP
  clear hP hb1
  rcases hEr with ⟨rfl, rfl⟩ | ⟨k, hk1, rfl, rfl, rfl⟩ | ⟨k, pb, hk1, rfl, rfl, -, -⟩
  · have hq := strokes_some ab ao c n T w1 (fun i hi => (HB.out.cell (p := ⟨ab, ao + i, none⟩) (lt_of_cell (HC.out i hi))).trans (HC.out i hi)) h0 hn hcap HS.out
    generalize bs (Lib.join (textsOf n T) [47]) = J at hq hJ hW
    go_wp2_with (go_at_call 58; go_must (refine hq.mono ?_); rintro e w2 ⟨rfl, hb2⟩)
    go_ret2
    exact ⟨0, place, .nilIface, HP.out, HE.out.below hb2 (Nat.le_refl _), HB.out.trans (hb2.mono HB.out.size), Or.inl ⟨rfl, by rw [hW.out]; rfl⟩⟩
  · go_wp2
    go_ret2
    exact ⟨_, _, _, HP.out, HE.out, HB.out, Or.inr ⟨by omega, rfl⟩⟩
  · go_wp2
    go_ret2
    exact ⟨_, _, _, HP.out, HE.out, HB.out, Or.inr ⟨by omega, rfl⟩⟩

/-! ### what was joined is split again -/
theorem textsIn_congr {w : World} {a : Option Addr} {n : Nat} {T T' : Nat → ByteArray} (h : TextsIn w a n T) (e : ∀ i, i < n → T i = T' i) : TextsIn w a n T' := by
  rcases h with h | ⟨ab, ao, rfl, h⟩
  · exact Or.inl h
  · exact Or.inr ⟨ab, ao, rfl, fun i hi => by rw [h i hi, e i hi]⟩
theorem back_none (T : Nat → ByteArray) (w : World) : Calls Tryd.prog 33 #[.string (wantOf 0 T)] w fun e w' => ∃ a c, e = .returned (.tuple #[.slice a 0 c, .nilIface]) ∧ TextsIn w' a 0 T ∧ Below w.heap.size w w' :=
  (split_root w).mono fun _ _ h => ⟨none, 0, h.1, Or.inl rfl, h.2⟩
theorem back_some (n : Nat) (T : Nat → ByteArray) (A : Nat → Addr) (m : Int) (w : World) (h0 : n ≠ 0) (hn : n ≤ 12) (hok : ∀ k, k < n → OkN (T k)) (hE : Errs w A) (hm : w.cell? ⟨16, 0, none⟩ = some (.int .i64 m)) :
    Calls Tryd.prog 33 #[.string (wantOf n T)] w fun e w' => ∃ a c, e = .returned (.tuple #[.slice a n c, .nilIface]) ∧ TextsIn w' a n T ∧ Below w.heap.size w w' := by
  have hsz : (pathT (textsOf n T)).length ≤ 201 * n := want_size n T fun i hi => by have := (hok i hi).2.1; omega
  rw [wantOf_some n T h0]
  refine (split_any (bs (pathT (textsOf n T))) A m w hE hm (by rw [bs_len]; omega)).mono ?_
  obtain ⟨x, r, hxr⟩ := texts_cons n T h0
  have hd : (bs (pathT (textsOf n T))).data.toList = pathT (textsOf n T) := bs_data _
  have hw : wordsOf (bs (pathT (textsOf n T))).data.toList = textsOf n T := by
    rw [hd, hxr]
    refine words_path x r fun y hy => ?_
    rw [← hxr] at hy
    obtain ⟨i, hi, rfl⟩ := texts_mem hy
    exact okN_bytes (hok i hi)
  have hfirst : ∀ h : 0 < (bs (pathT (textsOf n T))).size, (bs (pathT (textsOf n T)))[0].toNat = 47 := fun h => by
    have e : ∀ (s : ByteArray) (l : List UInt8), s = bs (47 :: l) → ∀ h : 0 < s.size, s[0].toNat = 47 := by
      rintro s l rfl h
      rfl
    exact e _ (Lib.join (x :: r) [47]) (by rw [hxr, pathT_join]) h
  obtain ⟨k, rfl⟩ : ∃ k, n = k + 1 := ⟨n - 1, by omega⟩
  obtain ⟨y, c, hy, hc⟩ := okN_last (hok k (by omega))
  have hlast : pathT (textsOf (k + 1) T) = (pathT (textsOf k T) ++ 47 :: y) ++ [c] := by rw [textsOf_succ, hy, path_last]
  have hl : ∀ h : 0 < (bs (pathT (textsOf (k + 1) T))).size, (bs (pathT (textsOf (k + 1) T)))[(bs (pathT (textsOf (k + 1) T))).size - 1].toNat ≠ 47 := fun h => by
    have h1 : (bs (pathT (textsOf (k + 1) T)))[(bs (pathT (textsOf (k + 1) T))).size - 1] = c := by
      have e : ∀ (s : ByteArray) (l : List UInt8) (c : UInt8), s = bs (l ++ [c]) → ∀ h : s.size - 1 < s.size, s[s.size - 1] = c := by
        rintro s l c rfl h
        have h2 : (bs (l ++ [c])).size = l.length + 1 := by rw [bs_len]; simp
        show (bs (l ++ [c])).data.toList[(bs (l ++ [c])).size - 1] = c
        simp [bs_data, h2]
      exact e _ (pathT (textsOf k T) ++ 47 :: y) c (by rw [hlast]) _
    rw [h1]
    exact hc
  have hpos : 0 < (bs (pathT (textsOf (k + 1) T))).size := by rw [bs_len, hlast]; simp; omega
  have hP0 : PathIs (k + 1) T 0 (-1) := Or.inr (Or.inr ⟨hok, hn, rfl, rfl⟩)
  rintro e w' (⟨h, _⟩ | ⟨_, hb, _⟩ | ⟨_, _, code, place, v, hP, hV, hB, hR⟩)
  · exfalso
    rw [Lib.toList_data, hd, hlast] at h
    have : (pathT (textsOf k T) ++ 47 :: y) ++ [c] = [47] := by simpa using h
    have := congrArg List.length this
    simp at this
    omega
  · exact absurd (hb hpos) (fun k => k.elim (fun k => k (hfirst hpos)) (hl hpos))
  · rw [hw, textsOf_len] at hP hR
    have hP' : PathIs (k + 1) T code place := by
      rcases hP with ⟨i, hi, hno, hb, h1, h2⟩ | ⟨ha, h12, _⟩ | ⟨ha, h12, h1, h2⟩
      · exact absurd (hok i hi) (by rw [← textsOf_at (k + 1) T i hi]; exact hno)
      · exact absurd h12 (by omega)
      · exact Or.inr (Or.inr ⟨hok, hn, h1, h2⟩)
    obtain ⟨rfl, rfl⟩ := pathIs_one hP' hP0
    rcases hR with ⟨_, a, he, hT⟩ | ⟨hne, _⟩
    · exact ⟨a, _, he, textsIn_congr hT fun i hi => textsOf_at (k + 1) T i hi, hB⟩
    · exact absurd rfl hne
end Go.Proofs.YtnhpgpjopogbiaaDoor
