/- Nodes: a []int, a []NodeAct that came in: opened. -/
import Derived.Test.YtohbdpefcmibeacDoorH10
import Derived.ProofKit
import Derived.Deep.Strs
import Derived.Deep.Slices
import Derived.OpenShut
import Derived.Lib.SmallJoins
namespace Go.Proofs.YtohbdpefcmibeacDoor
open Go Go.RowKit Go.Deep Go.Maps

theorem Tryd.cellsInt5 : Tryd.prog.cellsOf 3 = 1 := by kernel_rfl
theorem Tryd.cellsStr5 : Tryd.prog.cellsOf 9 = 1 := by kernel_rfl
theorem Tryd.cellsHandle5 : Tryd.prog.cellsOf 43 = 2 := by kernel_rfl
theorem isInts_of {H : Type} {enc : TypeId × Value → H} {w : World} {base n : Nat} {sp : Nat → Bool} {held : Bool} {a : Option Addr} {len cap : Nat} {x : DataW H × List MemPlace} (h : DataW.trod enc Tryd.prog w base sp held n 40 [.slice a len cap] = some x) : IsInts w a len := by
  rcases open_slice Tryd.underlying40 h with ⟨e, _⟩ | ⟨ad, len', cap', m, n', D, Pl, e, _, hl, hm, hmm, _, hx⟩
  · simp at e
    exact Or.inl e.2.1
  · simp at e
    obtain ⟨rfl, rfl, rfl⟩ := e
    rcases Nat.eq_zero_or_pos len with h0 | h0
    · exact Or.inl h0
    right
    have hle : len ≤ m := by rw [hmm]; split <;> omega
    rw [Tryd.cellsInt5] at hx
    obtain ⟨P, hP⟩ := choose_lt (α := Int) (n := len) (p := fun i p => w.cells? base (ad.add (i * 1)) 1 = some [.int .i64 p]) (fun i hi => by
      obtain ⟨cs', c1, c2⟩ := hx i (by omega)
      obtain ⟨k, rfl, _, _⟩ := DataW.trod_int Tryd.underlying3 c2
      exact ⟨k, c1⟩)
    obtain ⟨ab, ao, spot⟩ := ad
    have cell : ∀ i, i < len → w.cell? (((⟨ab, ao, spot⟩ : Addr).add (i * 1)).add 0) = some (.int .i64 (P i)) := fun i hi => (World.cells?_some (hP i hi)).2.2 0 (by decide)
    have hspot : spot = none := by
      have := cell 0 h0
      simp [Addr.add] at this
      exact World.cell?_spot this
    subst hspot
    have hadd : ∀ i, ((⟨ab, ao, none⟩ : Addr).add (i * 1)).add 0 = ⟨ab, ao + i, none⟩ := fun i => by
      unfold Addr.add
      split <;> split <;> simp_all
    refine ⟨ab, ao, P, rfl, fun i hi => ?_⟩
    have c0 := cell i hi
    rw [hadd] at c0
    exact c0

structure NActM where
  K : ByteArray
  N : Int
  G : Int
  X : Int
  Y : Int
/-- The acts lie in memory. -/
def NActsAt (w : World) (ab ao len : Nat) (P : Nat → NActM) : Prop :=
  ∀ i, i < len → w.cell? ⟨ab, ao + i * 5, none⟩ = some (.string (P i).K) ∧ w.cell? ⟨ab, ao + i * 5 + 1, none⟩ = some (.int .i64 (P i).N) ∧ w.cell? ⟨ab, ao + i * 5 + 2, none⟩ = some (.int .i64 (P i).G) ∧ w.cell? ⟨ab, ao + i * 5 + 3, none⟩ = some (.int .i64 (P i).X) ∧ w.cell? ⟨ab, ao + i * 5 + 4, none⟩ = some (.int .i64 (P i).Y)
def IsNActs (w : World) (a : Option Addr) (len : Nat) : Prop := len = 0 ∨ ∃ ab ao P, a = some ⟨ab, ao, none⟩ ∧ NActsAt w ab ao len P
theorem Tryd.cellsNAct : Tryd.prog.cellsOf 45 = 5 := by kernel_rfl
theorem five_of {α : Type} {l : List α} (h : l.length = 5) : ∃ a b c d e, l = [a, b, c, d, e] := by
  match l, h with
  | [a, b, c, d, e], _ => exact ⟨a, b, c, d, e, rfl⟩
theorem nact_fields {H : Type} {enc : TypeId × Value → H} {w : World} {base n : Nat} {sp : Nat → Bool} {held : Bool} {cs : List Value} {x : DataW H × List MemPlace} (h : DataW.trod enc Tryd.prog w base sp held n 45 cs = some x) :
    ∃ p : NActM, cs = [.string p.K, .int .i64 p.N, .int .i64 p.G, .int .i64 p.X, .int .i64 p.Y] := by
  obtain ⟨y0, y1, y2, y3, m, rfl, hl, h0, h1, h2, h3⟩ := Joins.trod_struct4 Tryd.underlying45 h
  rw [Tryd.cellsNAct] at hl
  obtain ⟨c0, c1, c2, c3, c4, rfl⟩ := five_of hl
  obtain ⟨z0, z1, k, _, _, g0, g1⟩ := ChangeShapes.trod_struct2 Tryd.underlying43 h1
  obtain ⟨s0, e0, _, _⟩ := DataW.trod_string Tryd.underlying9 h0
  obtain ⟨k1, e1, _, _⟩ := DataW.trod_int Tryd.underlying3 g0
  obtain ⟨k2, e2, _, _⟩ := DataW.trod_int Tryd.underlying3 g1
  obtain ⟨k3, e3, _, _⟩ := DataW.trod_int Tryd.underlying3 h2
  obtain ⟨k4, e4, _, _⟩ := DataW.trod_int Tryd.underlying3 h3
  simp [Tryd.cellsStr5] at e0
  simp [Tryd.cellsInt5, Tryd.cellsHandle5] at e1
  simp [Tryd.cellsInt5, Tryd.cellsHandle5] at e2
  simp [Tryd.cellsInt5] at e3
  simp [Tryd.cellsInt5] at e4
  subst e0 e1 e2 e3 e4
  exact ⟨⟨s0, k1, k2, k3, k4⟩, rfl⟩
theorem isNActs_of {H : Type} {enc : TypeId × Value → H} {w : World} {base n : Nat} {sp : Nat → Bool} {held : Bool} {a : Option Addr} {len cap : Nat} {x : DataW H × List MemPlace} (h : DataW.trod enc Tryd.prog w base sp held n 35 [.slice a len cap] = some x) : IsNActs w a len := by
  rcases open_slice Tryd.underlying35 h with ⟨e, _⟩ | ⟨ad, len', cap', m, n', D, Pl, e, _, hl, hm, hmm, _, hx⟩
  · simp at e
    exact Or.inl e.2.1
  · simp at e
    obtain ⟨rfl, rfl, rfl⟩ := e
    rcases Nat.eq_zero_or_pos len with h0 | h0
    · exact Or.inl h0
    right
    have hle : len ≤ m := by rw [hmm]; split <;> omega
    rw [Tryd.cellsNAct] at hx
    have inst : Inhabited NActM := ⟨⟨⟨#[]⟩, 0, 0, 0, 0⟩⟩
    obtain ⟨P, hP⟩ := choose_lt (α := NActM) (n := len) (p := fun i p => w.cells? base (ad.add (i * 5)) 5 = some [.string p.K, .int .i64 p.N, .int .i64 p.G, .int .i64 p.X, .int .i64 p.Y]) (fun i hi => by
      obtain ⟨cs', c1, c2⟩ := hx i (by omega)
      obtain ⟨p, rfl⟩ := nact_fields c2
      exact ⟨p, c1⟩)
    obtain ⟨ab, ao, spot⟩ := ad
    have cell : ∀ i, i < len → ∀ k, k < 5 → w.cell? (((⟨ab, ao, spot⟩ : Addr).add (i * 5)).add k) = [Value.string (P i).K, .int .i64 (P i).N, .int .i64 (P i).G, .int .i64 (P i).X, .int .i64 (P i).Y][k]? := fun i hi k hk => (World.cells?_some (hP i hi)).2.2 k hk
    have hspot : spot = none := by
      have := cell 0 h0 0 (by decide)
      simp [Addr.add] at this
      exact World.cell?_spot this
    subst hspot
    have hadd : ∀ i k, ((⟨ab, ao, none⟩ : Addr).add (i * 5)).add k = ⟨ab, ao + i * 5 + k, none⟩ := fun i k => by
      unfold Addr.add
      split <;> split <;> simp_all
    refine ⟨ab, ao, P, rfl, fun i hi => ?_⟩
    have c0 := cell i hi 0 (by decide)
    have c1 := cell i hi 1 (by decide)
    have c2 := cell i hi 2 (by decide)
    have c3 := cell i hi 3 (by decide)
    have c4 := cell i hi 4 (by decide)
    rw [hadd] at c0 c1 c2 c3 c4
    exact ⟨c0, c1, c2, c3, c4⟩
end Go.Proofs.YtohbdpefcmibeacDoor
