/- LeaseActs: every list. -/
import Derived.Test.YtaipigiinljpkaaGreatDoorLd8
import Derived.ProofKit
import Derived.Deep.Strs
import Derived.Deep.Slices
import Derived.OpenShut
import Derived.Lib.SmallJoins
namespace Go.Proofs.YtaipigiinljpkaaGreatDoor
open Go Go.RowKit Go.Deep

theorem Tryz.cellsInt9 : Tryz.prog.cellsOf 3 = 1 := by kernel_rfl
theorem Tryz.cellsStr9 : Tryz.prog.cellsOf 9 = 1 := by kernel_rfl
theorem Tryz.cellsAAct : Tryz.prog.cellsOf 31 = 4 := by kernel_rfl
theorem choose_lt9 {α : Type} [Inhabited α] {n : Nat} {p : Nat → α → Prop} (h : ∀ i, i < n → ∃ a, p i a) : ∃ f : Nat → α, ∀ i, i < n → p i (f i) :=
  ⟨fun i => if hi : i < n then Classical.choose (h i hi) else default, fun i hi => by simp only [hi, dif_pos]; exact Classical.choose_spec (h i hi)⟩
theorem four_list {α : Type} {l : List α} (h : l.length = 4) : ∃ a b c d, l = [a, b, c, d] := by
  match l, h with
  | [a, b, c, d], _ => exact ⟨a, b, c, d, rfl⟩
theorem aact_fields {H : Type} {enc : TypeId × Value → H} {w : World} {base n : Nat} {sp : Nat → Bool} {held : Bool} {cs : List Value} {x : DataW H × List MemPlace} (h : DataW.trod enc Tryz.prog w base sp held n 31 cs = some x) :
    ∃ p : AActM, cs = [.string p.K, .string p.Nm, .int .i64 p.ID, .int .i64 p.N] := by
  obtain ⟨y0, y1, y2, y3, m, rfl, hl, h0, h1, h2, h3⟩ := Joins.trod_struct4 Tryz.underlying31 h
  rw [Tryz.cellsAAct] at hl
  obtain ⟨c0, c1, c2, c3, rfl⟩ := four_list hl
  obtain ⟨s0, e0, _, _⟩ := DataW.trod_string Tryz.underlying9 h0
  obtain ⟨s1, e1, _, _⟩ := DataW.trod_string Tryz.underlying9 h1
  obtain ⟨k2, e2, _, _⟩ := DataW.trod_int Tryz.underlying3 h2
  obtain ⟨k3, e3, _, _⟩ := DataW.trod_int Tryz.underlying3 h3
  simp [Tryz.cellsStr9] at e0
  simp [Tryz.cellsStr9] at e1
  simp [Tryz.cellsInt9] at e2
  simp [Tryz.cellsInt9] at e3
  subst e0 e1 e2 e3
  exact ⟨⟨s0, s1, k2, k3⟩, rfl⟩
theorem isAActs_of {H : Type} {enc : TypeId × Value → H} {w : World} {base n : Nat} {sp : Nat → Bool} {held : Bool} {a : Option Addr} {len cap : Nat} {x : DataW H × List MemPlace} (h : DataW.trod enc Tryz.prog w base sp held n 22 [.slice a len cap] = some x) : IsAActs w a len := by
  rcases open_slice Tryz.underlying22 h with ⟨e, _⟩ | ⟨ad, len', cap', m, n', D, Pl, e, _, hl, hm, hmm, _, hx⟩
  · simp at e
    exact Or.inl e.2.1
  · simp at e
    obtain ⟨rfl, rfl, rfl⟩ := e
    rcases Nat.eq_zero_or_pos len with h0 | h0
    · exact Or.inl h0
    right
    have hle : len ≤ m := by rw [hmm]; split <;> omega
    rw [Tryz.cellsAAct] at hx
    have inst : Inhabited AActM := ⟨⟨⟨#[]⟩, ⟨#[]⟩, 0, 0⟩⟩
    obtain ⟨P, hP⟩ := choose_lt9 (α := AActM) (n := len) (p := fun i p => w.cells? base (ad.add (i * 4)) 4 = some [.string p.K, .string p.Nm, .int .i64 p.ID, .int .i64 p.N]) (fun i hi => by
      obtain ⟨cs', c1, c2⟩ := hx i (by omega)
      obtain ⟨p, rfl⟩ := aact_fields c2
      exact ⟨p, c1⟩)
    obtain ⟨ab, ao, spot⟩ := ad
    have cell : ∀ i, i < len → ∀ k, k < 4 → w.cell? (((⟨ab, ao, spot⟩ : Addr).add (i * 4)).add k) = [Value.string (P i).K, .string (P i).Nm, .int .i64 (P i).ID, .int .i64 (P i).N][k]? := fun i hi k hk => (World.cells?_some (hP i hi)).2.2 k hk
    have hspot : spot = none := by
      have := cell 0 h0 0 (by decide)
      simp [Addr.add] at this
      exact World.cell?_spot this
    subst hspot
    have hadd : ∀ i k, ((⟨ab, ao, none⟩ : Addr).add (i * 4)).add k = ⟨ab, ao + i * 4 + k, none⟩ := fun i k => by
      unfold Addr.add
      split <;> split <;> simp_all
    refine ⟨ab, ao, P, rfl, fun i hi => ?_⟩
    have c0 := cell i hi 0 (by decide)
    have c1 := cell i hi 1 (by decide)
    have c2 := cell i hi 2 (by decide)
    have c3 := cell i hi 3 (by decide)
    rw [hadd] at c0 c1 c2 c3
    exact ⟨c0, c1, c2, c3⟩
set_option maxRecDepth 100000 in
set_option maxHeartbeats 1000000 in
theorem aacts_long (a : Option Addr) (len cap : Nat) (A : Nat → Addr) (w : World) (hE : Errs w A) (hl : 60 < len) : Calls Tryz.prog 3 #[.slice a len cap] w fun e w' => e = .returned (.bool true) ∧ Below w.heap.size w w' := by
  have hh := known_any A w hE
  have g1 : decide (60 < (len : Int)) = true := decide_eq_true (by omega)
  clear hE
  go_enter Tryz.func3, Tryz.ntmps3
  go_wp2_with (go_at_call 4; refine hh.mono ?_; rintro e w1 ⟨rfl, hb1⟩; have HB : Hid (Below w.heap.size w w1) := hb1; clear hh hb1)
  go_ret
  exact ⟨rfl, HB.out⟩
theorem aacts_all (a : Option Addr) (len cap : Nat) (A : Nat → Addr) (w : World) (hP : IsAActs w a len) (hE : Errs w A) : Calls Tryz.prog 3 #[.slice a len cap] w fun e w' => e = .returned (.bool true) ∧ Below w.heap.size w w' := by
  by_cases hl : 60 < len
  · exact aacts_long a len cap A w hE hl
  · exact aacts_walk a len cap A w hP hE (by omega)
end Go.Proofs.YtaipigiinljpkaaGreatDoor
