/- CacheActs: a list of acts that came in. -/
import Derived.Test.YtlmppddgeclddaaDoorCa9
import Derived.ProofKit
import Derived.Deep.Strs
import Derived.Deep.Slices
import Derived.OpenShut
import Derived.Lib.SmallJoins
namespace Go.Proofs.YtlmppddgeclddaaDoor
open Go Go.RowKit Go.Deep

theorem choose_ltK {α : Type} [Inhabited α] {n : Nat} {p : Nat → α → Prop} (h : ∀ i, i < n → ∃ a, p i a) : ∃ f : Nat → α, ∀ i, i < n → p i (f i) :=
  ⟨fun i => if hi : i < n then (h i hi).choose else default, fun i hi => by simp only [hi, dite_true]; exact (h i hi).choose_spec⟩
theorem Tryd.cellsKAct : Tryd.prog.cellsOf 35 = 5 := by kernel_rfl
theorem Tryd.cellsIntK : Tryd.prog.cellsOf 3 = 1 := by kernel_rfl
theorem Tryd.cellsStrK : Tryd.prog.cellsOf 9 = 1 := by kernel_rfl
theorem Tryd.cellsBoolK : Tryd.prog.cellsOf 4 = 1 := by kernel_rfl
theorem five_ofK {l : List Value} (h : l.length = 5) : ∃ a b c d e, l = [a, b, c, d, e] := by
  match l, h with
  | [a, b, c, d, e], _ => exact ⟨a, b, c, d, e, rfl⟩
theorem kact_fields {H : Type} {enc : TypeId × Value → H} {w : World} {base n : Nat} {sp : Nat → Bool} {held : Bool} {cs : List Value} {x : DataW H × List MemPlace} (h : DataW.trod enc Tryd.prog w base sp held n 35 cs = some x) :
    ∃ p : KAct, cs = [.bool p.K, .string p.C, .string p.T, .string p.R, .int .i64 p.I] ∧ OkQ (p.C, p.I) := by
  have hst := DataW.trod_struct Tryd.underlying35 h
  rw [Tryd.cellsKAct] at hst
  obtain ⟨xs, k, _, _, hcl, hlen, hx⟩ := hst
  obtain ⟨c0, c1, c2, c3, c4, rfl⟩ := five_ofK (l := cs) (by simpa using hcl)
  have g : ∀ i (hi : i < xs.length), xs[i]? = some xs[i] := fun i hi => List.getElem?_eq_getElem hi
  have hl5 : xs.length = 5 := hlen
  have y0 := (hx 0 _ rfl).trans (g 0 (by omega))
  have y1 := (hx 1 _ rfl).trans (g 1 (by omega))
  have y2 := (hx 2 _ rfl).trans (g 2 (by omega))
  have y3 := (hx 3 _ rfl).trans (g 3 (by omega))
  have y4 := (hx 4 _ rfl).trans (g 4 (by omega))
  obtain ⟨b0, e0, _⟩ := DataW.trod_bool Tryd.underlying4 y0
  obtain ⟨s1, e1, _, m1⟩ := DataW.trod_string Tryd.underlying9 y1
  obtain ⟨s2, e2, _, _⟩ := DataW.trod_string Tryd.underlying9 y2
  obtain ⟨s3, e3, _, _⟩ := DataW.trod_string Tryd.underlying9 y3
  obtain ⟨n4, e4, _, wf4⟩ := DataW.trod_int Tryd.underlying3 y4
  simp [Tryd.cellsIntK, Tryd.cellsStrK, Tryd.cellsBoolK] at e0 e1 e2 e3 e4
  subst e0 e1 e2 e3 e4
  exact ⟨⟨b0, s1, s2, s3, n4⟩, rfl, m1, wf4⟩
theorem isKActs_of {H : Type} {enc : TypeId × Value → H} {w : World} {base n : Nat} {sp : Nat → Bool} {held : Bool} {a : Option Addr} {len cap : Nat} {x : DataW H × List MemPlace} (h : DataW.trod enc Tryd.prog w base sp held n 22 [.slice a len cap] = some x) : IsKActs w a len := by
  rcases open_slice Tryd.underlying22 h with ⟨e, _⟩ | ⟨ad, len', cap', m, n', D, Pl, e, _, hl, hm, hmm, _, hx⟩
  · simp at e
    exact Or.inl e.2.1
  · simp at e
    obtain ⟨rfl, rfl, rfl⟩ := e
    rcases Nat.eq_zero_or_pos len with h0 | h0
    · exact Or.inl h0
    right
    have hle : len ≤ m := by rw [hmm]; split <;> omega
    rw [Tryd.cellsKAct] at hx
    have inst : Inhabited KAct := ⟨⟨false, ⟨#[]⟩, ⟨#[]⟩, ⟨#[]⟩, 0⟩⟩
    obtain ⟨P, hP⟩ := choose_ltK (α := KAct) (n := len) (p := fun i p => w.cells? base (ad.add (i * 5)) 5 = some [.bool p.K, .string p.C, .string p.T, .string p.R, .int .i64 p.I] ∧ OkQ (p.C, p.I)) (fun i hi => by
      obtain ⟨cs', c1, c2⟩ := hx i (by omega)
      obtain ⟨p, rfl, hq⟩ := kact_fields c2
      exact ⟨p, c1, hq⟩)
    obtain ⟨ab, ao, spot⟩ := ad
    have cell : ∀ i, i < len → ∀ k, k < 5 → w.cell? (((⟨ab, ao, spot⟩ : Addr).add (i * 5)).add k) = [Value.bool (P i).K, .string (P i).C, .string (P i).T, .string (P i).R, .int .i64 (P i).I][k]? := fun i hi k hk => (World.cells?_some (hP i hi).1).2.2 k hk
    have hspot : spot = none := by
      have := cell 0 h0 0 (by decide)
      simp [Addr.add] at this
      exact World.cell?_spot this
    subst hspot
    have hadd : ∀ i k, ((⟨ab, ao, none⟩ : Addr).add (i * 5)).add k = ⟨ab, ao + i * 5 + k, none⟩ := fun i k => by
      unfold Addr.add
      split <;> split <;> simp_all
    refine ⟨ab, ao, P, rfl, fun i hi => ?_⟩
    have c0 := cell i hi 0 (by decide)
    have c1 := cell i hi 1 (by decide)
    have c2 := cell i hi 2 (by decide)
    have c3 := cell i hi 3 (by decide)
    have c4 := cell i hi 4 (by decide)
    rw [hadd] at c0 c1 c2 c3 c4
    exact ⟨c0, c1, c2, c3, c4, (hP i hi).2⟩
end Go.Proofs.YtlmppddgeclddaaDoor
