/- NetActs: a list of acts that came in; the law for any of them. -/
import Derived.Test.YtkfelijpajdcoaaDoorNe18
import Derived.ProofKit
import Derived.Deep.Strs
import Derived.Deep.Slices
import Derived.OpenShut
import Derived.Lib.SmallJoins
namespace Go.Proofs.YtkfelijpajdcoaaDoor
open Go Go.RowKit Go.Deep

theorem choose_ltK {α : Type} [Inhabited α] {n : Nat} {p : Nat → α → Prop} (h : ∀ i, i < n → ∃ a, p i a) : ∃ f : Nat → α, ∀ i, i < n → p i (f i) :=
  ⟨fun i => if hi : i < n then (h i hi).choose else default, fun i hi => by simp only [hi, dite_true]; exact (h i hi).choose_spec⟩
theorem Tryd.cellsEAct : Tryd.prog.cellsOf 35 = 5 := by kernel_rfl
theorem Tryd.cellsMsgE : Tryd.prog.cellsOf 33 = 3 := by kernel_rfl
theorem Tryd.cellsIntE : Tryd.prog.cellsOf 3 = 1 := by kernel_rfl
theorem Tryd.cellsStrE : Tryd.prog.cellsOf 9 = 1 := by kernel_rfl
theorem five_ofE {l : List Value} (h : l.length = 5) : ∃ a b c d e, l = [a, b, c, d, e] := by
  match l, h with
  | [a, b, c, d, e], _ => exact ⟨a, b, c, d, e, rfl⟩
theorem msg_fields {H : Type} {enc : TypeId × Value → H} {w : World} {base n : Nat} {sp : Nat → Bool} {held : Bool} {c1 c2 c3 : Value} {x : DataW H × List MemPlace} (h : DataW.trod enc Tryd.prog w base sp held n 33 [c1, c2, c3] = some x) :
    ∃ p : Msg, [c1, c2, c3] = [.string p.F, .string p.T, .string p.X] := by
  have hst := DataW.trod_struct Tryd.underlying33 h
  obtain ⟨xs, k, _, _, hcl, hlen, hx⟩ := hst
  have g : ∀ i (hi : i < xs.length), xs[i]? = some xs[i] := fun i hi => List.getElem?_eq_getElem hi
  have hl3 : xs.length = 3 := hlen
  have y0 := (hx 0 _ rfl).trans (g 0 (by omega))
  have y1 := (hx 1 _ rfl).trans (g 1 (by omega))
  have y2 := (hx 2 _ rfl).trans (g 2 (by omega))
  obtain ⟨s0, e0, _, _⟩ := DataW.trod_string Tryd.underlying9 y0
  obtain ⟨s1, e1, _, _⟩ := DataW.trod_string Tryd.underlying9 y1
  obtain ⟨s2, e2, _, _⟩ := DataW.trod_string Tryd.underlying9 y2
  simp [Tryd.cellsStrE] at e0 e1 e2
  subst e0 e1 e2
  exact ⟨⟨s0, s1, s2⟩, rfl⟩
theorem nact_fields {H : Type} {enc : TypeId × Value → H} {w : World} {base n : Nat} {sp : Nat → Bool} {held : Bool} {cs : List Value} {x : DataW H × List MemPlace} (h : DataW.trod enc Tryd.prog w base sp held n 35 cs = some x) :
    ∃ p : NAct, cs = [.string p.K, .string p.M.F, .string p.M.T, .string p.M.X, .int .i64 p.I] := by
  have hst := DataW.trod_struct Tryd.underlying35 h
  rw [Tryd.cellsEAct] at hst
  obtain ⟨xs, k, _, _, hcl, hlen, hx⟩ := hst
  obtain ⟨c0, c1, c2, c3, c4, rfl⟩ := five_ofE (l := cs) (by simpa using hcl)
  have g : ∀ i (hi : i < xs.length), xs[i]? = some xs[i] := fun i hi => List.getElem?_eq_getElem hi
  have hl3 : xs.length = 3 := hlen
  have y0 := (hx 0 _ rfl).trans (g 0 (by omega))
  have y1 := (hx 1 _ rfl).trans (g 1 (by omega))
  have y2 := (hx 2 _ rfl).trans (g 2 (by omega))
  obtain ⟨s0, e0, _, _⟩ := DataW.trod_string Tryd.underlying9 y0
  obtain ⟨n2, e2, _, wf2⟩ := DataW.trod_int Tryd.underlying3 y2
  simp [Tryd.cellsStrE, Tryd.cellsIntE, Tryd.cellsMsgE] at e0 e2 y1
  obtain ⟨p, hp⟩ := msg_fields y1
  simp only [List.cons.injEq, and_true] at hp
  obtain ⟨h1, h2, h3⟩ := hp
  subst e0 e2 h1 h2 h3
  exact ⟨⟨s0, p, n2⟩, rfl⟩
theorem isEActs_of {H : Type} {enc : TypeId × Value → H} {w : World} {base n : Nat} {sp : Nat → Bool} {held : Bool} {a : Option Addr} {len cap : Nat} {x : DataW H × List MemPlace} (h : DataW.trod enc Tryd.prog w base sp held n 22 [.slice a len cap] = some x) : IsEActs w a len := by
  rcases open_slice Tryd.underlying22 h with ⟨e, _⟩ | ⟨ad, len', cap', m, n', D, Pl, e, _, hl, hm, hmm, _, hx⟩
  · simp at e
    exact Or.inl e.2.1
  · simp at e
    obtain ⟨rfl, rfl, rfl⟩ := e
    rcases Nat.eq_zero_or_pos len with h0 | h0
    · exact Or.inl h0
    right
    have hle : len ≤ m := by rw [hmm]; split <;> omega
    rw [Tryd.cellsEAct] at hx
    have inst : Inhabited NAct := ⟨⟨⟨#[]⟩, ⟨⟨#[]⟩, ⟨#[]⟩, ⟨#[]⟩⟩, 0⟩⟩
    obtain ⟨P, hP⟩ := choose_ltK (α := NAct) (n := len) (p := fun i p => w.cells? base (ad.add (i * 5)) 5 = some [.string p.K, .string p.M.F, .string p.M.T, .string p.M.X, .int .i64 p.I]) (fun i hi => by
      obtain ⟨cs', c1, c2⟩ := hx i (by omega)
      obtain ⟨p, rfl⟩ := nact_fields c2
      exact ⟨p, c1⟩)
    obtain ⟨ab, ao, spot⟩ := ad
    have cell : ∀ i, i < len → ∀ k, k < 5 → w.cell? (((⟨ab, ao, spot⟩ : Addr).add (i * 5)).add k) = [Value.string (P i).K, .string (P i).M.F, .string (P i).M.T, .string (P i).M.X, .int .i64 (P i).I][k]? := fun i hi k hk => (World.cells?_some (hP i hi)).2.2 k hk
    have hspot : spot = none := by
      have := cell 0 h0 0 (by decide)
      simp [Addr.add] at this
      exact World.cell?_spot this
    subst hspot
    have hadd : ∀ i k, ((⟨ab, ao, none⟩ : Addr).add (i * 5)).add k = ⟨ab, ao + i * 5 + k, none⟩ := fun i k => by
      unfold Addr.add
      split <;> split <;> simp_all
    refine ⟨ab, ao, P, rfl, fun i hi => ?_⟩
    have c0 := cell i hi 0 (by decide)
    have c1 := cell i hi 1 (by decide)
    have c2 := cell i hi 2 (by decide)
    have c3 := cell i hi 3 (by decide)
    have c4 := cell i hi 4 (by decide)
    rw [hadd] at c0 c1 c2 c3 c4
    exact ⟨c0, c1, c2, c3, c4⟩
set_option maxRecDepth 100000 in
set_option maxHeartbeats 1000000 in
theorem eacts_long (a : Option Addr) (len cap : Nat) (A : Nat → Addr) (w : World) (hE : Errs w A) (hl : 150 < len) : Calls Tryd.prog 3 #[.slice a len cap] w fun e w' => e = .returned (.bool true) ∧ Below w.heap.size w w' := by
  have hh := sent_any A w hE
  have g1 : decide (150 < (len : Int)) = true := decide_eq_true (by omega)
  clear hE
  go_enter Tryd.func3, Tryd.ntmps3
  go_wp2_with (go_at_call 4; refine hh.mono ?_; rintro e w1 ⟨rfl, hb1⟩; have HB : Hid (Below w.heap.size w w1) := hb1; clear hh hb1)
  go_ret
  exact ⟨rfl, HB.out⟩
theorem eacts_all (a : Option Addr) (len cap : Nat) (A : Nat → Addr) (w : World) (hP : IsEActs w a len) (hE : Errs w A) : Calls Tryd.prog 3 #[.slice a len cap] w fun e w' => e = .returned (.bool true) ∧ Below w.heap.size w w' := by
  by_cases hl : 150 < len
  · exact eacts_long a len cap A w hE hl
  · exact eacts_walk a len cap A w hP hE (by omega)
end Go.Proofs.YtkfelijpajdcoaaDoor
