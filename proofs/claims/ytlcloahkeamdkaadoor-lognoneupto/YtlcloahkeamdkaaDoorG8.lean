/- DiskKeeps: the law's short ways. -/
import Derived.Test.YtlcloahkeamdkaaDoorDk14
import Derived.Deep.DeepCutAuto
import Derived.Test.YtlcloahkeamdkaaDoorRows
import Derived.ProofKit
import Derived.Deep.Strs
import Derived.Deep.Slices
import Derived.OpenShut
import Derived.Lib.SmallJoins
/- DiskKeeps: the law's short ways. -/
namespace Go.Proofs.YtlcloahkeamdkaaDoor
open Go Go.RowKit Go.Deep

end Go.Proofs.YtlcloahkeamdkaaDoor
/- DiskKeeps: the law's walk. -/
namespace Go.Proofs.YtlcloahkeamdkaaDoor
open Go Go.RowKit Go.Deep

theorem strInfo : (Tryd.prog.info? 9).map (fun i => (i.zero, i.size, i.bytes)) = some (some (.string ⟨#[]⟩), 1, 16) := by kernel_rfl
theorem strsUnd : Tryd.prog.underlying 34 = some (.slice 9) := by kernel_rfl
def txt (s : Sec) : Value := .string (bs s.1)
end Go.Proofs.YtlcloahkeamdkaaDoor
/- DiskKeeps, DiskActs: a list of acts that came in, of so much at most. -/
namespace Go.Proofs.YtlcloahkeamdkaaDoor
open Go Go.RowKit Go.Deep Go.WideShapes

theorem bulk_part {H : Type} {d : DataW H} {l : List (DataW H)} (h : d ∈ l) : Rows.uptoBulk d ≤ Rows.uptoBulkAll l := by
  induction l with
  | nil => cases h
  | cons x r ih =>
    simp only [Rows.uptoBulkAll]
    rcases List.mem_cons.1 h with e | e
    · subst e; omega
    · have := ih e; omega
theorem bulk_one {H : Type} (d : DataW H) : 1 ≤ Rows.uptoBulk d := by
  cases d with
  | lit l => cases l <;> simp [Rows.uptoBulk]
  | nil => simp [Rows.uptoBulk]
  | ptr d => simp [Rows.uptoBulk]
  | slice elems spare => simp [Rows.uptoBulk]
  | agg parts => simp [Rows.uptoBulk]
  | iface t d => simp [Rows.uptoBulk]
  | map entries => simp [Rows.uptoBulk]
  | held h => simp [Rows.uptoBulk]
theorem bulk_len {H : Type} (l : List (DataW H)) : l.length ≤ Rows.uptoBulkAll l := by
  induction l with
  | nil => simp [Rows.uptoBulkAll]
  | cons x r ih => have := bulk_one x; simp only [Rows.uptoBulkAll, List.length_cons]; omega
theorem choose_ltD {α : Type} [Inhabited α] {n : Nat} {p : Nat → α → Prop} (h : ∀ i, i < n → ∃ a, p i a) : ∃ f : Nat → α, ∀ i, i < n → p i (f i) :=
  ⟨fun i => if hi : i < n then (h i hi).choose else default, fun i hi => by simp only [hi, dite_true]; exact (h i hi).choose_spec⟩
theorem Tryd.cellsActD : Tryd.prog.cellsOf 52 = 4 := by kernel_rfl
theorem Tryd.cellsIntD : Tryd.prog.cellsOf 3 = 1 := by kernel_rfl
theorem Tryd.cellsStrD : Tryd.prog.cellsOf 9 = 1 := by kernel_rfl
theorem Tryd.cellsBoolD : Tryd.prog.cellsOf 4 = 1 := by kernel_rfl
theorem Tryd.cellsBoolsD : Tryd.prog.cellsOf 45 = 1 := by kernel_rfl
theorem four_ofD {l : List Value} (h : l.length = 4) : ∃ a b c d, l = [a, b, c, d] := by
  match l, h with
  | [a, b, c, d], _ => exact ⟨a, b, c, d, rfl⟩
section
variable {H : Type} {enc : TypeId × Value → H} {w : World} {base n : Nat} {sp : Nat → Bool} {held : Bool} {cs : List Value} {x : DataW H × List MemPlace}
theorem bulk_elem {D : Nat → DataW H} {len m i N : Nat} (hi : i < len) (hN : Rows.uptoBulk (.slice ((List.range len).map D) ((List.range m).map fun j => D (len + j))) ≤ N) : Rows.uptoBulk (D i) ≤ N := by
  simp only [Rows.uptoBulk] at hN
  have := bulk_part (l := (List.range len).map D) (d := D i) (List.mem_map.2 ⟨i, List.mem_range.2 hi, rfl⟩)
  omega
theorem bulk_count {D : Nat → DataW H} {len m N : Nat} (hN : Rows.uptoBulk (.slice ((List.range len).map D) ((List.range m).map fun j => D (len + j))) ≤ N) : len ≤ N := by
  simp only [Rows.uptoBulk] at hN
  have := bulk_len ((List.range len).map D)
  simp only [List.length_map, List.length_range] at this
  omega
theorem bools_of {N : Nat} (h : DataW.trod enc Tryd.prog w base sp held n 45 cs = some x) (hN : Rows.uptoBulk x.1 ≤ N) : ∃ (a : Option Addr) (cap : Nat) (B : List Bool), cs = [.slice a B.length cap] ∧ B.length ≤ N ∧ ((a = none ∧ B = [] ∧ cap = 0) ∨ ∃ ad, a = some ad ∧ ∀ j v, (B.map Value.bool)[j]? = some v → w.cell? (ad.add j) = some v) := by
  rcases open_slice Tryd.underlying45 h with ⟨rfl, _⟩ | ⟨ad, len, cap, m, n', D, Pl, rfl, _, hl, hm, hmm, rfl, hx⟩
  · exact ⟨none, 0, [], rfl, Nat.zero_le _, Or.inl ⟨rfl, rfl, rfl⟩⟩
  · have hle : len ≤ m := by rw [hmm]; split <;> omega
    rw [Tryd.cellsBoolD] at hx
    obtain ⟨P, hP⟩ := choose_ltD (α := Bool) (n := len) (p := fun i b => w.cell? (ad.add i) = some (.bool b)) (fun i hi => by
      obtain ⟨cs', c1, c2⟩ := hx i (by omega)
      obtain ⟨b, e, _⟩ := DataW.trod_bool Tryd.underlying4 c2
      have h1 := (World.cells?_some c1).2.2 0 (by decide)
      have hadd : (ad.add (i * 1)).add 0 = ad.add i := by
        rw [Nat.mul_one]
        unfold Addr.add
        split <;> split <;> simp_all
      rw [hadd, e] at h1
      exact ⟨b, h1⟩)
    have hBl : ((List.range len).map P).length = len := by simp
    refine ⟨some ad, cap, (List.range len).map P, by rw [hBl], by rw [hBl]; exact bulk_count hN, Or.inr ⟨ad, rfl, fun j v hv => ?_⟩⟩
    rw [List.getElem?_map, List.getElem?_map] at hv
    obtain ⟨b, hb, rfl⟩ := Option.map_eq_some_iff.1 hv
    obtain ⟨i, hi, rfl⟩ := Option.map_eq_some_iff.1 hb
    obtain ⟨hlt, e⟩ := List.getElem?_eq_some_iff.1 hi
    rw [List.getElem_range] at e
    subst e
    exact hP j (by simpa using hlt)
theorem act_fields (h : DataW.trod enc Tryd.prog w base sp held n 52 cs = some x) (hN : Rows.uptoBulk x.1 ≤ 1048576) :
    ∃ p : Ac, cs = [.string p.K, .int .i64 p.N, .string p.S, .slice p.ka p.B.length p.kc] ∧ AcKeep w p ∧ p.S.size ≤ 1048576 ∧ p.B.length ≤ 1048576 ∧ p.N < 9223372036854775808 := by
  have hst := DataW.trod_struct Tryd.underlying52 h
  rw [Tryd.cellsActD] at hst
  obtain ⟨xs, k, _, hxx, hcl, hlen, hx⟩ := hst
  obtain ⟨c0, c1, c2, c3, rfl⟩ := four_ofD (l := cs) (by simpa using hcl)
  have g : ∀ i (hi : i < xs.length), xs[i]? = some xs[i] := fun i hi => List.getElem?_eq_getElem hi
  have hl4 : xs.length = 4 := hlen
  have y0 := (hx 0 _ rfl).trans (g 0 (by omega))
  have y1 := (hx 1 _ rfl).trans (g 1 (by omega))
  have y2 := (hx 2 _ rfl).trans (g 2 (by omega))
  have y3 := (hx 3 _ rfl).trans (g 3 (by omega))
  have hpart : ∀ i (hi : i < xs.length), Rows.uptoBulk (xs[i]'hi).1 ≤ 1048576 := fun i hi => by
    rw [hxx] at hN
    simp only [Rows.uptoBulk] at hN
    have hm := bulk_part (l := xs.map (·.1)) (d := (xs[i]'hi).1) (List.mem_map.2 ⟨xs[i], List.getElem_mem _, rfl⟩)
    omega
  obtain ⟨s0, e0, _, _⟩ := DataW.trod_string Tryd.underlying9 y0
  obtain ⟨n1, e1, _, r1⟩ := DataW.trod_int Tryd.underlying3 y1
  obtain ⟨s2, e2, d2, _⟩ := DataW.trod_string Tryd.underlying9 y2
  obtain ⟨ka, kc, B, e3, l3, hk3⟩ := bools_of y3 (hpart 3 (by omega))
  have hs : s2.size ≤ 1048576 := by
    have := hpart 2 (by omega)
    rw [d2] at this
    simp only [Rows.uptoBulk] at this
    have h3 : s2.data.toList.length = s2.size := by simp
    omega
  have hn : n1 < 9223372036854775808 := by
    simp [Lit.wf, IntKind.min, IntKind.max, IntKind.signed, IntKind.bits] at r1
    omega
  simp [Tryd.cellsIntD, Tryd.cellsStrD, Tryd.cellsBoolsD] at e0 e1 e2 e3
  subst e0 e1 e2 e3
  exact ⟨⟨s0, n1, s2, ka, kc, B⟩, rfl, hk3, hs, l3, hn⟩
end
def IsDActs (w : World) (ad : Option Addr) (len : Nat) : Prop := len ≤ 1048576 ∧ ∃ L : List Ac, L.length = len ∧ ActsIn w ad L
theorem isDActs_of {H : Type} {enc : TypeId × Value → H} {w : World} {base n : Nat} {sp : Nat → Bool} {held : Bool} {a : Option Addr} {len cap : Nat} {x : DataW H × List MemPlace} (h : DataW.trod enc Tryd.prog w base sp held n 48 [.slice a len cap] = some x) (hN : Rows.uptoBulk x.1 ≤ 1048576) : IsDActs w a len := by
  rcases open_slice Tryd.underlying48 h with ⟨e, _⟩ | ⟨ad, len', cap', m, n', D, Pl, e, _, hl, hm, hmm, rfl, hx⟩
  · simp at e
    obtain ⟨rfl, rfl, rfl⟩ := e
    exact ⟨Nat.zero_le _, [], rfl, fun i x e => by cases e⟩
  · simp at e
    obtain ⟨rfl, rfl, rfl⟩ := e
    have hle : len ≤ m := by rw [hmm]; split <;> omega
    rcases Nat.eq_zero_or_pos len with h0 | h0
    · subst h0
      exact ⟨Nat.zero_le _, [], rfl, fun i x e => by cases e⟩
    rw [Tryd.cellsActD] at hx
    have inst : Inhabited Ac := ⟨⟨⟨#[]⟩, 0, ⟨#[]⟩, none, 0, []⟩⟩
    obtain ⟨P, hP⟩ := choose_ltD (α := Ac) (n := len) (p := fun i p => w.cells? base (ad.add (i * 4)) 4 = some [.string p.K, .int .i64 p.N, .string p.S, .slice p.ka p.B.length p.kc] ∧ AcKeep w p ∧ p.S.size ≤ 1048576 ∧ p.B.length ≤ 1048576 ∧ p.N < 9223372036854775808) (fun i hi => by
      obtain ⟨cs', c1, c2⟩ := hx i (by omega)
      obtain ⟨p, rfl, hq⟩ := act_fields c2 (bulk_elem hi hN)
      exact ⟨p, c1, hq⟩)
    obtain ⟨ab, ao, spot⟩ := ad
    have cell : ∀ i, i < len → ∀ k, k < 4 → w.cell? (((⟨ab, ao, spot⟩ : Addr).add (i * 4)).add k) = [Value.string (P i).K, .int .i64 (P i).N, .string (P i).S, .slice (P i).ka (P i).B.length (P i).kc][k]? := fun i hi k hk => (World.cells?_some (hP i hi).1).2.2 k hk
    have hspot : spot = none := by
      have h1 := cell 0 h0 0 (by decide)
      simp [Addr.add] at h1
      exact World.cell?_spot h1
    subst hspot
    have hadd : ∀ i j, ((⟨ab, ao, none⟩ : Addr).add (i * 4)).add j = ⟨ab, ao + i * 4 + j, none⟩ := fun i j => by
      unfold Addr.add
      split <;> split <;> simp_all
    refine ⟨bulk_count hN, (List.range len).map P, by simp, fun i y hy => ?_⟩
    rw [List.getElem?_map] at hy
    obtain ⟨i', hi', rfl⟩ := Option.map_eq_some_iff.1 hy
    obtain ⟨hlt, e⟩ := List.getElem?_eq_some_iff.1 hi'
    rw [List.getElem_range] at e
    subst e
    have hil : i < len := by simpa using hlt
    have q0 := cell i hil 0 (by decide)
    have q1 := cell i hil 1 (by decide)
    have q2 := cell i hil 2 (by decide)
    have q3 := cell i hil 3 (by decide)
    rw [hadd] at q0 q1 q2 q3
    exact ⟨ab, ao, rfl, lt_of_cell q0, q0, q1, q2, q3, (hP i hil).2.1, (hP i hil).2.2.1, (hP i hil).2.2.2.1, (hP i hil).2.2.2.2⟩
end Go.Proofs.YtlcloahkeamdkaaDoor
