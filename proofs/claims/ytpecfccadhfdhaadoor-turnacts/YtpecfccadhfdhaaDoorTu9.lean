/- TurnActs: every list. -/
import Derived.Test.YtpecfccadhfdhaaDoorTu8
import Derived.ProofKit
import Derived.Deep.Strs
import Derived.Deep.Slices
import Derived.OpenShut
import Derived.Lib.SmallJoins
namespace Go.Proofs.YtpecfccadhfdhaaDoor
open Go Go.RowKit Go.Deep

theorem Tryd.cellsInt10 : Tryd.prog.cellsOf 3 = 1 := by kernel_rfl
theorem Tryd.cellsStr10 : Tryd.prog.cellsOf 9 = 1 := by kernel_rfl
theorem Tryd.cellsTAct : Tryd.prog.cellsOf 33 = 4 := by kernel_rfl
theorem choose_lt9 {α : Type} [Inhabited α] {n : Nat} {p : Nat → α → Prop} (h : ∀ i, i < n → ∃ a, p i a) : ∃ f : Nat → α, ∀ i, i < n → p i (f i) :=
  ⟨fun i => if hi : i < n then Classical.choose (h i hi) else default, fun i hi => by simp only [hi, dif_pos]; exact Classical.choose_spec (h i hi)⟩
theorem four_list {α : Type} {l : List α} (h : l.length = 4) : ∃ a b c d, l = [a, b, c, d] := by
  match l, h with
  | [a, b, c, d], _ => exact ⟨a, b, c, d, rfl⟩
theorem tact_fields {H : Type} {enc : TypeId × Value → H} {w : World} {base n : Nat} {sp : Nat → Bool} {held : Bool} {cs : List Value} {x : DataW H × List MemPlace} (h : DataW.trod enc Tryd.prog w base sp held n 33 cs = some x) :
    ∃ p : TuAct, cs = [.string p.K, .string p.R, .int .i64 p.O, .int .i64 p.Q] ∧ I64 p.O := by
  obtain ⟨y0, y1, y2, y3, m, rfl, hl, h0, h1, h2, h3⟩ := Joins.trod_struct4 Tryd.underlying33 h
  rw [Tryd.cellsTAct] at hl
  obtain ⟨c0, c1, c2, c3, rfl⟩ := four_list hl
  obtain ⟨s0, e0, _, _⟩ := DataW.trod_string Tryd.underlying9 h0
  obtain ⟨s1, e1, _, _⟩ := DataW.trod_string Tryd.underlying9 h1
  obtain ⟨k2, e2, _, hw2⟩ := DataW.trod_int Tryd.underlying3 h2
  obtain ⟨k3, e3, _, _⟩ := DataW.trod_int Tryd.underlying3 h3
  simp [Tryd.cellsStr10] at e0
  simp [Tryd.cellsStr10] at e1
  simp [Tryd.cellsInt10] at e2
  simp [Tryd.cellsInt10] at e3
  subst e0 e1 e2 e3
  exact ⟨⟨s0, s1, k2, k3⟩, rfl, hw2⟩
theorem isTActs_of {H : Type} {enc : TypeId × Value → H} {w : World} {base n : Nat} {sp : Nat → Bool} {held : Bool} {a : Option Addr} {len cap : Nat} {x : DataW H × List MemPlace} (h : DataW.trod enc Tryd.prog w base sp held n 22 [.slice a len cap] = some x) : IsTActs w a len := by
  rcases open_slice Tryd.underlying22 h with ⟨e, _⟩ | ⟨ad, len', cap', m, n', D, Pl, e, _, hl, hm, hmm, _, hx⟩
  · simp at e
    exact Or.inl e.2.1
  · simp at e
    obtain ⟨rfl, rfl, rfl⟩ := e
    rcases Nat.eq_zero_or_pos len with h0 | h0
    · exact Or.inl h0
    right
    have hle : len ≤ m := by rw [hmm]; split <;> omega
    rw [Tryd.cellsTAct] at hx
    have inst : Inhabited TuAct := ⟨⟨⟨#[]⟩, ⟨#[]⟩, 0, 0⟩⟩
    obtain ⟨P, hP⟩ := choose_lt9 (α := TuAct) (n := len) (p := fun i p => w.cells? base (ad.add (i * 4)) 4 = some [.string p.K, .string p.R, .int .i64 p.O, .int .i64 p.Q] ∧ I64 p.O) (fun i hi => by
      obtain ⟨cs', c1, c2⟩ := hx i (by omega)
      obtain ⟨p, rfl, hp⟩ := tact_fields c2
      exact ⟨p, c1, hp⟩)
    obtain ⟨ab, ao, spot⟩ := ad
    have cell : ∀ i, i < len → ∀ k, k < 4 → w.cell? (((⟨ab, ao, spot⟩ : Addr).add (i * 4)).add k) = [Value.string (P i).K, .string (P i).R, .int .i64 (P i).O, .int .i64 (P i).Q][k]? := fun i hi k hk => (World.cells?_some (hP i hi).1).2.2 k hk
    have hspot : spot = none := by
      have := cell 0 h0 0 (by decide)
      simp [Addr.add] at this
      exact World.cell?_spot this
    subst hspot
    have hadd : ∀ i k, ((⟨ab, ao, none⟩ : Addr).add (i * 4)).add k = ⟨ab, ao + i * 4 + k, none⟩ := fun i k => by
      unfold Addr.add
      split <;> split <;> simp_all
    refine ⟨ab, ao, P, rfl, fun i hi => ?_⟩
    have c0 := cell i hi 0 (by decide)
    have c1 := cell i hi 1 (by decide)
    have c2 := cell i hi 2 (by decide)
    have c3 := cell i hi 3 (by decide)
    rw [hadd] at c0 c1 c2 c3
    exact ⟨c0, c1, c2, c3, (hP i hi).2⟩
set_option maxRecDepth 100000 in
set_option maxHeartbeats 1000000 in
theorem tacts_long (a : Option Addr) (len cap : Nat) (A : Nat → Addr) (w : World) (hE : Errs w A) (hl : 100 < len) : Calls Tryd.prog 3 #[.slice a len cap] w fun e w' => e = .returned (.bool true) ∧ Below w.heap.size w w' := by
  have hh := turned_any A w hE.four
  have g1 : decide (100 < (len : Int)) = true := decide_eq_true (by omega)
  clear hE
  go_enter Tryd.func3, Tryd.ntmps3
  go_wp2_with (go_at_call 5; refine hh.mono ?_; rintro e w1 ⟨rfl, hb1⟩; have HB : Hid (Below w.heap.size w w1) := hb1; clear hh hb1)
  go_ret
  exact ⟨rfl, HB.out⟩
theorem tacts_all (a : Option Addr) (len cap : Nat) (A : Nat → Addr) (w : World) (hP : IsTActs w a len) (hE : Errs w A) : Calls Tryd.prog 3 #[.slice a len cap] w fun e w' => e = .returned (.bool true) ∧ Below w.heap.size w w' := by
  by_cases hl : 100 < len
  · exact tacts_long a len cap A w hE hl
  · exact tacts_walk a len cap A w hP hE (by omega)
end Go.Proofs.YtpecfccadhfdhaaDoor
