/- A slice of Puts that came in: opened; and XdrTwice at every length. -/
import Derived.Test.YtnhpgpjopogbiaaDoorT1
import Derived.ProofKit
import Derived.Deep.Strs
import Derived.Deep.Slices
import Derived.OpenShut
namespace Go.Proofs.YtnhpgpjopogbiaaDoor
open Go Go.RowKit Go.Deep

theorem Tryd.cellsPut : Tryd.prog.cellsOf 42 = 3 := by kernel_rfl
theorem Tryd.cellsStr : Tryd.prog.cellsOf 9 = 1 := by kernel_rfl
theorem Tryd.cellsInt : Tryd.prog.cellsOf 3 = 1 := by kernel_rfl

/-- WHAT A WALK IS TOLD OF A SLICE OF PUTS THAT CAME IN. -/
def IsPuts (w : World) (a : Option Addr) (len : Nat) : Prop :=
  len = 0 ∨ ∃ ab ao P, a = some ⟨ab, ao, none⟩ ∧ PutsAt w ab ao len P ∧ ∀ i, i < len → (P i).N < 9223372036854775808 ∧ -9223372036854775808 ≤ (P i).N

theorem three_of {α : Type} {l : List α} (h : l.length = 3) : ∃ a b c, l = [a, b, c] := by
  match l, h with
  | [a, b, c], _ => exact ⟨a, b, c, rfl⟩

theorem put_fields {H : Type} {enc : TypeId × Value → H} {w : World} {base n : Nat} {sp : Nat → Bool} {held : Bool} {cs : List Value} {x : DataW H × List MemPlace} (h : DataW.trod enc Tryd.prog w base sp held n 42 cs = some x) :
    ∃ p : PutM, cs = [.string p.K, .int .i64 p.N, .string p.S] ∧ p.N < 9223372036854775808 ∧ -9223372036854775808 ≤ p.N := by
  obtain ⟨y0, y1, y2, m, rfl, hl, h0, h1, h2⟩ := trod_struct3 Tryd.underlying42 h
  rw [Tryd.cellsPut] at hl
  obtain ⟨c0, c1, c2, rfl⟩ := three_of hl
  obtain ⟨s0, e0, _, _⟩ := DataW.trod_string Tryd.underlying9 h0
  obtain ⟨k, e1, _, hk⟩ := DataW.trod_int Tryd.underlying3 h1
  obtain ⟨s2, e2, _, _⟩ := DataW.trod_string Tryd.underlying9 h2
  simp [Tryd.cellsStr] at e0
  simp [Tryd.cellsInt] at e1
  simp [Tryd.cellsStr] at e2
  subst e0 e1 e2
  have hb := bounds_i64 hk
  exact ⟨⟨s0, k, s2⟩, rfl, by show k < _; omega, hb.1⟩

theorem isPuts_of {H : Type} {enc : TypeId × Value → H} {w : World} {base n : Nat} {sp : Nat → Bool} {held : Bool} {a : Option Addr} {len cap : Nat} {x : DataW H × List MemPlace} (h : DataW.trod enc Tryd.prog w base sp held n 37 [.slice a len cap] = some x) : IsPuts w a len := by
  rcases open_slice Tryd.underlying37 h with ⟨e, _⟩ | ⟨ad, len', cap', m, n', D, Pl, e, _, hl, hm, hmm, _, hx⟩
  · simp at e
    exact Or.inl e.2.1
  · simp at e
    obtain ⟨rfl, rfl, rfl⟩ := e
    rcases Nat.eq_zero_or_pos len with h0 | h0
    · exact Or.inl h0
    right
    have hle : len ≤ m := by rw [hmm]; split <;> omega
    rw [Tryd.cellsPut] at hx
    have inst : Inhabited PutM := ⟨⟨⟨#[]⟩, 0, ⟨#[]⟩⟩⟩
    obtain ⟨P, hP⟩ := choose_lt (α := PutM) (n := len) (p := fun i p => w.cells? base (ad.add (i * 3)) 3 = some [.string p.K, .int .i64 p.N, .string p.S] ∧ p.N < 9223372036854775808 ∧ -9223372036854775808 ≤ p.N) (fun i hi => by
      obtain ⟨cs', c1, c2⟩ := hx i (by omega)
      obtain ⟨p, rfl, hp⟩ := put_fields c2
      exact ⟨p, c1, hp⟩)
    obtain ⟨ab, ao, spot⟩ := ad
    have cell : ∀ i, i < len → ∀ k, k < 3 → w.cell? (((⟨ab, ao, spot⟩ : Addr).add (i * 3)).add k) = [Value.string (P i).K, .int .i64 (P i).N, .string (P i).S][k]? := fun i hi k hk => (World.cells?_some (hP i hi).1).2.2 k hk
    have hspot : spot = none := by
      have := cell 0 h0 0 (by decide)
      simp [Addr.add] at this
      exact World.cell?_spot this
    subst hspot
    have hadd : ∀ i k, ((⟨ab, ao, none⟩ : Addr).add (i * 3)).add k = ⟨ab, ao + i * 3 + k, none⟩ := fun i k => by
      unfold Addr.add
      split <;> split <;> simp_all
    refine ⟨ab, ao, P, rfl, fun i hi => ?_, fun i hi => (hP i hi).2⟩
    have c0 := cell i hi 0 (by decide)
    have c1 := cell i hi 1 (by decide)
    have c2 := cell i hi 2 (by decide)
    rw [hadd] at c0 c1 c2
    exact ⟨c0, c1, c2⟩

set_option maxRecDepth 100000 in
theorem twice_many (a : Option Addr) (len cap : Nat) (w : World) (h : 60 < len) :
    Calls Tryd.prog 5 #[.slice a len cap] w fun e w' => e = .returned (.bool true) ∧ Below w.heap.size w w' := by
  go_enter Tryd.func5, Tryd.ntmps5
  go_wp2_with (go_at_call 13; refine (four_any _).mono ?_; rintro e w1 ⟨rfl, hb1⟩)
  go_ret
  exact ⟨rfl, hb1⟩

set_option maxRecDepth 100000 in
theorem twice_none (a : Option Addr) (cap : Nat) (w : World) :
    Calls Tryd.prog 5 #[.slice a 0 cap] w fun e w' => e = .returned (.bool true) ∧ Below w.heap.size w w' := by
  go_enter Tryd.func5, Tryd.ntmps5
  go_wp2_with (go_at_call 13; refine (four_any _).mono ?_; rintro e w1 ⟨rfl, hb1⟩)
  refine wp_loop_rounds 1 ?_
  rw [rounds_succ]
  go_wp2_with (first
    | (go_at_call 21; refine (text_any w1.heap.size ⟨#[]⟩ _ ?_).mono ?_; exact (by simp); rintro e w2 ⟨rfl, rfl⟩)
    | (go_at_call 22; refine (newReader_any ⟨#[]⟩ _).mono ?_; rintro e w2 ⟨rfl, rfl⟩))
  refine wp_loop_rounds 1 ?_
  rw [rounds_succ]
  go_wp2_with (go_at_call 27; refine (rEnd_none (w1.heap.size + 1) _ ?_).mono ?_; exact (by simp [bs]); rintro e w2 ⟨rfl, rfl⟩)
  go_ret
  exact ⟨rfl, (hb1.alloc hb1.size _).alloc (by have := hb1.size; simp; omega) _⟩

theorem twice_all (a : Option Addr) (len cap : Nat) (T : TypeId) (e0 e1 e8 : Value) (w : World) (hp : IsPuts w a len)
    (hE0 : w.cell? ⟨0, 0, none⟩ = some (.iface T e0)) (hE1 : w.cell? ⟨1, 0, none⟩ = some (.iface T e1)) (hE8 : w.cell? ⟨8, 0, none⟩ = some (.iface T e8)) :
    Calls Tryd.prog 5 #[.slice a len cap] w fun e w' => e = .returned (.bool true) ∧ Below w.heap.size w w' := by
  rcases Nat.lt_or_ge 60 len with h | h
  · exact twice_many a len cap w h
  rcases hp with rfl | ⟨ab, ao, P, rfl, hP, hN⟩
  · exact twice_none a cap w
  · exact twice_walk ab ao len cap P T e0 e1 e8 w hP h (fun i hi => (hN i hi).1) hE0 hE1 hE8
end Go.Proofs.YtnhpgpjopogbiaaDoor
