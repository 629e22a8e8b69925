/- Locks: acts that came in; the laws' closed fact. -/
import Derived.Test.YtfnniphemlnanaaDoorLk16
import Derived.Deep.Strs
import Derived.Deep.Slices
import Derived.OpenShut
import Derived.ChangeArms
namespace Go.Proofs.YtfnniphemlnanaaDoor
open Go Go.RowKit Go.Deep Go.WideShapes

structure LActM where
  K : ByteArray
  N : Int
  G : Int
  O : Int
  A : Int
  S : Int
  W : Bool
/-- The acts lie in memory. -/
def LActsAt (w : World) (ab ao len : Nat) (P : Nat → LActM) : Prop :=
  ∀ i, i < len → w.cell? ⟨ab, ao + i * 7, none⟩ = some (.string (P i).K) ∧ w.cell? ⟨ab, ao + i * 7 + 1, none⟩ = some (.int .i64 (P i).N) ∧ w.cell? ⟨ab, ao + i * 7 + 2, none⟩ = some (.int .i64 (P i).G) ∧ w.cell? ⟨ab, ao + i * 7 + 3, none⟩ = some (.int .i64 (P i).O) ∧ w.cell? ⟨ab, ao + i * 7 + 4, none⟩ = some (.int .i64 (P i).A) ∧ w.cell? ⟨ab, ao + i * 7 + 5, none⟩ = some (.int .i64 (P i).S) ∧ w.cell? ⟨ab, ao + i * 7 + 6, none⟩ = some (.bool (P i).W)
def IsLActs (w : World) (a : Option Addr) (len : Nat) : Prop := len = 0 ∨ ∃ ab ao P, a = some ⟨ab, ao, none⟩ ∧ LActsAt w ab ao len P
theorem choose_ltL {α : Type} [Inhabited α] {n : Nat} {p : Nat → α → Prop} (h : ∀ i, i < n → ∃ a, p i a) : ∃ f : Nat → α, ∀ i, i < n → p i (f i) :=
  ⟨fun i => if hi : i < n then (h i hi).choose else default, fun i hi => by simp only [hi, dite_true]; exact (h i hi).choose_spec⟩
theorem Tryd.cellsLAct : Tryd.prog.cellsOf 37 = 7 := by kernel_rfl
theorem Tryd.cellsIntL : Tryd.prog.cellsOf 3 = 1 := by kernel_rfl
theorem Tryd.cellsStrL : Tryd.prog.cellsOf 9 = 1 := by kernel_rfl
theorem Tryd.cellsBoolL : Tryd.prog.cellsOf 4 = 1 := by kernel_rfl
theorem Tryd.cellsHandleL : Tryd.prog.cellsOf 33 = 2 := by kernel_rfl
theorem Tryd.cellsRangeL : Tryd.prog.cellsOf 35 = 2 := by kernel_rfl
theorem seven_of {l : List Value} (h : l.length = 7) : ∃ a b c d e f g, l = [a, b, c, d, e, f, g] := by
  match l, h with
  | [a, b, c, d, e, f, g], _ => exact ⟨a, b, c, d, e, f, g, rfl⟩
theorem lact_fields {H : Type} {enc : TypeId × Value → H} {w : World} {base n : Nat} {sp : Nat → Bool} {held : Bool} {cs : List Value} {x : DataW H × List MemPlace} (h : DataW.trod enc Tryd.prog w base sp held n 37 cs = some x) :
    ∃ p : LActM, cs = [.string p.K, .int .i64 p.N, .int .i64 p.G, .int .i64 p.O, .int .i64 p.A, .int .i64 p.S, .bool p.W] := by
  have hst := DataW.trod_struct Tryd.underlying37 h
  rw [Tryd.cellsLAct] at hst
  obtain ⟨xs, k, _, _, hcl, hlen, hx⟩ := hst
  obtain ⟨c0, c1, c2, c3, c4, c5, c6, rfl⟩ := seven_of (l := cs) (by simpa using hcl)
  have g : ∀ i (hi : i < xs.length), xs[i]? = some xs[i] := fun i hi => List.getElem?_eq_getElem hi
  have hl5 : xs.length = 5 := hlen
  have y0 := (hx 0 _ rfl).trans (g 0 (by omega))
  have y1 := (hx 1 _ rfl).trans (g 1 (by omega))
  have y2 := (hx 2 _ rfl).trans (g 2 (by omega))
  have y3 := (hx 3 _ rfl).trans (g 3 (by omega))
  have y4 := (hx 4 _ rfl).trans (g 4 (by omega))
  obtain ⟨s0, e0, _, _⟩ := DataW.trod_string Tryd.underlying9 y0
  obtain ⟨z0, z1, k2, _, _, h0, h1⟩ := ChangeShapes.trod_struct2 Tryd.underlying33 y1
  obtain ⟨n1, e1, _, _⟩ := DataW.trod_int Tryd.underlying3 h0
  obtain ⟨n2, e2, _, _⟩ := DataW.trod_int Tryd.underlying3 h1
  obtain ⟨n3, e3, _, _⟩ := DataW.trod_int Tryd.underlying3 y2
  obtain ⟨z2, z3, k3, _, _, h2, h3⟩ := ChangeShapes.trod_struct2 Tryd.underlying35 y3
  obtain ⟨n4, e4, _, _⟩ := DataW.trod_int Tryd.underlying3 h2
  obtain ⟨n5, e5, _, _⟩ := DataW.trod_int Tryd.underlying3 h3
  obtain ⟨b6, e6, _⟩ := DataW.trod_bool Tryd.underlying4 y4
  simp [Tryd.cellsIntL, Tryd.cellsStrL, Tryd.cellsHandleL, Tryd.cellsRangeL, Tryd.cellsBoolL] at e0 e1 e2 e3 e4 e5 e6
  subst e0 e1 e2 e3 e4 e5 e6
  exact ⟨⟨s0, n1, n2, n3, n4, n5, b6⟩, rfl⟩
theorem isLActs_of {H : Type} {enc : TypeId × Value → H} {w : World} {base n : Nat} {sp : Nat → Bool} {held : Bool} {a : Option Addr} {len cap : Nat} {x : DataW H × List MemPlace} (h : DataW.trod enc Tryd.prog w base sp held n 22 [.slice a len cap] = some x) : IsLActs w a len := by
  rcases open_slice Tryd.underlying22 h with ⟨e, _⟩ | ⟨ad, len', cap', m, n', D, Pl, e, _, hl, hm, hmm, _, hx⟩
  · simp at e
    exact Or.inl e.2.1
  · simp at e
    obtain ⟨rfl, rfl, rfl⟩ := e
    rcases Nat.eq_zero_or_pos len with h0 | h0
    · exact Or.inl h0
    right
    have hle : len ≤ m := by rw [hmm]; split <;> omega
    rw [Tryd.cellsLAct] at hx
    have inst : Inhabited LActM := ⟨⟨⟨#[]⟩, 0, 0, 0, 0, 0, false⟩⟩
    obtain ⟨P, hP⟩ := choose_ltL (α := LActM) (n := len) (p := fun i p => w.cells? base (ad.add (i * 7)) 7 = some [.string p.K, .int .i64 p.N, .int .i64 p.G, .int .i64 p.O, .int .i64 p.A, .int .i64 p.S, .bool p.W]) (fun i hi => by
      obtain ⟨cs', c1, c2⟩ := hx i (by omega)
      obtain ⟨p, rfl⟩ := lact_fields c2
      exact ⟨p, c1⟩)
    obtain ⟨ab, ao, spot⟩ := ad
    have cell : ∀ i, i < len → ∀ k, k < 7 → w.cell? (((⟨ab, ao, spot⟩ : Addr).add (i * 7)).add k) = [Value.string (P i).K, .int .i64 (P i).N, .int .i64 (P i).G, .int .i64 (P i).O, .int .i64 (P i).A, .int .i64 (P i).S, .bool (P i).W][k]? := fun i hi k hk => (World.cells?_some (hP i hi)).2.2 k hk
    have hspot : spot = none := by
      have := cell 0 h0 0 (by decide)
      simp [Addr.add] at this
      exact World.cell?_spot this
    subst hspot
    have hadd : ∀ i k, ((⟨ab, ao, none⟩ : Addr).add (i * 7)).add k = ⟨ab, ao + i * 7 + k, none⟩ := fun i k => by
      unfold Addr.add
      split <;> split <;> simp_all
    refine ⟨ab, ao, P, rfl, fun i hi => ?_⟩
    have c0 := cell i hi 0 (by decide)
    have c1 := cell i hi 1 (by decide)
    have c2 := cell i hi 2 (by decide)
    have c3 := cell i hi 3 (by decide)
    have c4 := cell i hi 4 (by decide)
    have c5 := cell i hi 5 (by decide)
    have c6 := cell i hi 6 (by decide)
    rw [hadd] at c0 c1 c2 c3 c4 c5 c6
    exact ⟨c0, c1, c2, c3, c4, c5, c6⟩
theorem one_lock {w : World} {base : Nat} {v : Value} {x : Lk} (h : Lks w base v [x]) : ∃ g cap, v = .slice (some ⟨g, 0, none⟩) 1 cap ∧ w.cell? ⟨g, 0, none⟩ = some (.int .i64 x.N) ∧ w.cell? ⟨g, 1, none⟩ = some (.int .i64 x.G) ∧ w.cell? ⟨g, 2, none⟩ = some (.int .i64 x.O) ∧ w.cell? ⟨g, 3, none⟩ = some (.int .i64 x.A) ∧ w.cell? ⟨g, 4, none⟩ = some (.int .i64 x.S) ∧ w.cell? ⟨g, 5, none⟩ = some (.bool x.W) := by
  rcases row_open h with ⟨_, e⟩ | ⟨g, cap, cur, rfl, _⟩
  · cases e
  · have := lk_cells (i := 0) h rfl (x := x) rfl
    exact ⟨g, cap, rfl, by simpa using this⟩
theorem first_lock {A : Nat → Addr} {l' : List Lk} {c : Nat} {r : Value} {res : Lk} (h : LockR A [] ⟨0, 0, 1, 5, 0, true⟩ c r res l') : r = .nilIface ∧ l' = [⟨0, 0, 1, 5, 0, true⟩] := by
  rcases h with ⟨hb, _⟩ | ⟨_, ⟨i, hx, _⟩, _⟩ | ⟨_, _, hb, _⟩ | ⟨_, _, _, _, hr, _, hp, _⟩
  · exact absurd hb (by decide)
  · cases hx
  · exact absurd hb (by decide)
  · exact ⟨hr, List.perm_singleton.1 hp⟩
set_option maxRecDepth 100000 in
set_option maxHeartbeats 2000000 in
theorem held_any (A : Nat → Addr) (w : World) (hE : Err3 w A) : Calls Tryd.prog 7 #[] w fun e w' => e = .returned (.bool true) ∧ Below w.heap.size w w' := by
  have h0 : LkW w (w.alloc (.cells #[.slice none 0 0] 27)) w.heap.size [] := LkW.fresh (Below.refl _ _)
  have hop := (h0.lock hE 0 0 1 5 0 true).mono (fun e w' hh => show ∃ res : Lk, e = .returned (.tuple #[.agg #[.int .i64 res.N, .int .i64 res.G, .int .i64 res.O, .int .i64 res.A, .int .i64 res.S, .bool res.W], .nilIface]) ∧ LkW w w' w.heap.size [⟨0, 0, 1, 5, 0, true⟩] from by
    obtain ⟨c, r, res, l', he, hr, hs, _⟩ := hh
    obtain ⟨rfl, rfl⟩ := first_lock hr
    exact ⟨res, he, hs⟩)
  clear h0 hE
  go_enter Tryd.func7, Tryd.ntmps7
  go_wp2_with (first
    | (go_at_call 8; refine hop.mono ?_; rintro e w2 ⟨res, rfl, hs2⟩; have HS2 : Hid (LkW w w2 w.heap.size [⟨0, 0, 1, 5, 0, true⟩]) := hs2; have HLI : Hid (∀ ob, Calls Tryd.prog 19 #[.pointer (some ⟨w.heap.size, 0, none⟩)] (w2.alloc ob) fun e w' => ∃ v', e = .returned v' ∧ Lks w' (w2.alloc ob).heap.size v' [⟨0, 0, 1, 5, 0, true⟩] ∧ Only [] (w2.alloc ob) w') := (fun ob => (hs2.only ((Only.refl [] w2).alloc ob)).list); clear hop hs2)
    | (go_at_call 19; refine (HLI.out _).mono ?_; rintro e w3 ⟨v3, rfl, hO3, ho3⟩; obtain ⟨g, cap, hv, c0, c1, c2, c3, c4, c5⟩ := one_lock hO3; subst hv; have HB : Hid (Below w.heap.size w w3) := (HS2.out.only (only_nil ((Only.refl [] w2).alloc _) ho3)).below; clear HLI hO3 ho3))
  go_ret
  exact ⟨rfl, HB.out⟩
end Go.Proofs.YtfnniphemlnanaaDoor
