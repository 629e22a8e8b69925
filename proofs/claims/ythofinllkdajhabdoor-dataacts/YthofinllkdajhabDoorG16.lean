/- Data: a slice of acts that came in: opened. -/
import Derived.Test.YthofinllkdajhabDoorG14
import Derived.Test.YthofinllkdajhabDoorG15
import Derived.ProofKit
import Derived.Deep.Strs
import Derived.Deep.Slices
import Derived.OpenShut
import Derived.Lib.SmallJoins
namespace Go.Proofs.YthofinllkdajhabDoor
open Go Go.RowKit Go.Deep Go.Maps

structure ActM where
  K : ByteArray
  At : Int
  N : Int
  S : ByteArray
/-- The acts lie in memory. -/
def ActsAt (w : World) (ab ao len : Nat) (P : Nat → ActM) : Prop :=
  ∀ i, i < len → w.cell? ⟨ab, ao + i * 4, none⟩ = some (.string (P i).K) ∧ w.cell? ⟨ab, ao + i * 4 + 1, none⟩ = some (.int .i64 (P i).At) ∧ w.cell? ⟨ab, ao + i * 4 + 2, none⟩ = some (.int .i64 (P i).N) ∧ w.cell? ⟨ab, ao + i * 4 + 3, none⟩ = some (.string (P i).S)
def ActFits (p : ActM) : Prop := p.At < 9223372036854775808 ∧ -9223372036854775808 ≤ p.At ∧ p.N < 9223372036854775808 ∧ -9223372036854775808 ≤ p.N
def IsActs (w : World) (a : Option Addr) (len : Nat) : Prop := len = 0 ∨ ∃ ab ao P, a = some ⟨ab, ao, none⟩ ∧ ActsAt w ab ao len P ∧ ∀ i, i < len → ActFits (P i)

theorem Tryd.cellsAct : Tryd.prog.cellsOf 55 = 4 := by kernel_rfl
theorem Tryd.cellsStrA : Tryd.prog.cellsOf 9 = 1 := by kernel_rfl
theorem Tryd.cellsIntA : Tryd.prog.cellsOf 3 = 1 := by kernel_rfl
theorem four_of {α : Type} {l : List α} (h : l.length = 4) : ∃ a b c d, l = [a, b, c, d] := by
  match l, h with
  | [a, b, c, d], _ => exact ⟨a, b, c, d, rfl⟩
theorem act_fields {H : Type} {enc : TypeId × Value → H} {w : World} {base n : Nat} {sp : Nat → Bool} {held : Bool} {cs : List Value} {x : DataW H × List MemPlace} (h : DataW.trod enc Tryd.prog w base sp held n 55 cs = some x) :
    ∃ p : ActM, cs = [.string p.K, .int .i64 p.At, .int .i64 p.N, .string p.S] ∧ ActFits p := by
  obtain ⟨y0, y1, y2, y3, m, rfl, hl, h0, h1, h2, h3⟩ := Joins.trod_struct4 Tryd.underlying55 h
  rw [Tryd.cellsAct] at hl
  obtain ⟨c0, c1, c2, c3, rfl⟩ := four_of hl
  obtain ⟨s0, e0, _, _⟩ := DataW.trod_string Tryd.underlying9 h0
  obtain ⟨k1, e1, _, hk1⟩ := DataW.trod_int Tryd.underlying3 h1
  obtain ⟨k2, e2, _, hk2⟩ := DataW.trod_int Tryd.underlying3 h2
  obtain ⟨s3, e3, _, _⟩ := DataW.trod_string Tryd.underlying9 h3
  simp [Tryd.cellsStrA] at e0
  simp [Tryd.cellsIntA] at e1
  simp [Tryd.cellsIntA] at e2
  simp [Tryd.cellsStrA] at e3
  subst e0 e1 e2 e3
  have hb1 := bounds_i64 hk1
  have hb2 := bounds_i64 hk2
  exact ⟨⟨s0, k1, k2, s3⟩, rfl, by show k1 < _; omega, hb1.1, by show k2 < _; omega, hb2.1⟩
theorem isActs_of {H : Type} {enc : TypeId × Value → H} {w : World} {base n : Nat} {sp : Nat → Bool} {held : Bool} {a : Option Addr} {len cap : Nat} {x : DataW H × List MemPlace} (h : DataW.trod enc Tryd.prog w base sp held n 45 [.slice a len cap] = some x) : IsActs w a len := by
  rcases open_slice Tryd.underlying45 h with ⟨e, _⟩ | ⟨ad, len', cap', m, n', D, Pl, e, _, hl, hm, hmm, _, hx⟩
  · simp at e
    exact Or.inl e.2.1
  · simp at e
    obtain ⟨rfl, rfl, rfl⟩ := e
    rcases Nat.eq_zero_or_pos len with h0 | h0
    · exact Or.inl h0
    right
    have hle : len ≤ m := by rw [hmm]; split <;> omega
    rw [Tryd.cellsAct] at hx
    have inst : Inhabited ActM := ⟨⟨⟨#[]⟩, 0, 0, ⟨#[]⟩⟩⟩
    obtain ⟨P, hP⟩ := choose_lt (α := ActM) (n := len) (p := fun i p => w.cells? base (ad.add (i * 4)) 4 = some [.string p.K, .int .i64 p.At, .int .i64 p.N, .string p.S] ∧ ActFits p) (fun i hi => by
      obtain ⟨cs', c1, c2⟩ := hx i (by omega)
      obtain ⟨p, rfl, hp⟩ := act_fields c2
      exact ⟨p, c1, hp⟩)
    obtain ⟨ab, ao, spot⟩ := ad
    have cell : ∀ i, i < len → ∀ k, k < 4 → w.cell? (((⟨ab, ao, spot⟩ : Addr).add (i * 4)).add k) = [Value.string (P i).K, .int .i64 (P i).At, .int .i64 (P i).N, .string (P i).S][k]? := fun i hi k hk => (World.cells?_some (hP i hi).1).2.2 k hk
    have hspot : spot = none := by
      have := cell 0 h0 0 (by decide)
      simp [Addr.add] at this
      exact World.cell?_spot this
    subst hspot
    have hadd : ∀ i k, ((⟨ab, ao, none⟩ : Addr).add (i * 4)).add k = ⟨ab, ao + i * 4 + k, none⟩ := fun i k => by
      unfold Addr.add
      split <;> split <;> simp_all
    refine ⟨ab, ao, P, rfl, fun i hi => ?_, fun i hi => (hP i hi).2⟩
    have c0 := cell i hi 0 (by decide)
    have c1 := cell i hi 1 (by decide)
    have c2 := cell i hi 2 (by decide)
    have c3 := cell i hi 3 (by decide)
    rw [hadd] at c0 c1 c2 c3
    exact ⟨c0, c1, c2, c3⟩

/-- Both files, as they begin. -/
theorem Two.start {W w1 : World} (hb : Below W.heap.size W w1) : Two W ((w1.alloc (.cells #[.int .i64 0, .map none] 49)).alloc (.cells #[.string ⟨#[]⟩, .slice none 0 0] 53)) (w1.heap.size + 2) w1.heap.size none ⟨#[]⟩ [] (w1.heap.size + 1) (.slice none 0 0) ⟨#[]⟩ [] := by
  have hsz : (w1.alloc (.cells #[.int .i64 0, .map none] 49)).heap.size = w1.heap.size + 1 := by simp
  have hh := heap_alloc_last (w1.alloc (.cells #[.int .i64 0, .map none] 49)) (.cells #[.string ⟨#[]⟩, .slice none 0 0] 53)
  rw [hsz] at hh
  have hle := hb.size
  refine ⟨(DataAt.zero w1).kept ((Only.refl [] _).alloc _) (fun _ _ => by simp), ⟨cell_of_row _ _ 0 _ _ _ hh, cell_of_row _ _ 1 _ _ _ hh, fun o => ?_, ⟨by simp, Or.inl ⟨rfl, rfl⟩⟩, by omega⟩, ?_, ?_, ?_, (hb.alloc hle _).alloc (by rw [hsz]; omega) _, by simp⟩
  · unfold World.frozen?
    rw [hh]
    simp
  · intro k hk
    simp [footD, footB, Value.ownBlock] at hk ⊢
    omega
  · intro k hk
    simp [footD] at hk
    omega
  · intro k hk
    simp [footB, Value.ownBlock] at hk
    omega
end Go.Proofs.YthofinllkdajhabDoor
