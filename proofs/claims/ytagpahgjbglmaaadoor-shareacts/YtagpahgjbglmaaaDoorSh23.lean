/- Shares: acts that came in; a table that is new; the laws' closed fact. -/
import Derived.Test.YtagpahgjbglmaaaDoorSh22
import Derived.Deep.Strs
import Derived.Deep.Slices
import Derived.OpenShut
import Derived.Lib.SmallJoins
namespace Go.Proofs.YtagpahgjbglmaaaDoor
open Go Go.RowKit Go.Deep Go.WideShapes

structure SActM where
  K : ByteArray
  N : Int
  G : Int
  O : Int
  A : Int
  D : Int
/-- The acts lie in memory. -/
def SActsAt (w : World) (ab ao len : Nat) (P : Nat → SActM) : Prop :=
  ∀ i, i < len → w.cell? ⟨ab, ao + i * 6, none⟩ = some (.string (P i).K) ∧ w.cell? ⟨ab, ao + i * 6 + 1, none⟩ = some (.int .i64 (P i).N) ∧ w.cell? ⟨ab, ao + i * 6 + 2, none⟩ = some (.int .i64 (P i).G) ∧ w.cell? ⟨ab, ao + i * 6 + 3, none⟩ = some (.int .i64 (P i).O) ∧ w.cell? ⟨ab, ao + i * 6 + 4, none⟩ = some (.int .i64 (P i).A) ∧ w.cell? ⟨ab, ao + i * 6 + 5, none⟩ = some (.int .i64 (P i).D)
def IsSActs (w : World) (a : Option Addr) (len : Nat) : Prop := len = 0 ∨ ∃ ab ao P, a = some ⟨ab, ao, none⟩ ∧ SActsAt w ab ao len P
theorem choose_ltS {α : Type} [Inhabited α] {n : Nat} {p : Nat → α → Prop} (h : ∀ i, i < n → ∃ a, p i a) : ∃ f : Nat → α, ∀ i, i < n → p i (f i) :=
  ⟨fun i => if hi : i < n then (h i hi).choose else default, fun i hi => by simp only [hi, dite_true]; exact (h i hi).choose_spec⟩
theorem Tryd.cellsSAct : Tryd.prog.cellsOf 35 = 6 := by kernel_rfl
theorem Tryd.cellsIntS : Tryd.prog.cellsOf 3 = 1 := by kernel_rfl
theorem Tryd.cellsStrS : Tryd.prog.cellsOf 9 = 1 := by kernel_rfl
theorem Tryd.cellsHandleS : Tryd.prog.cellsOf 33 = 2 := by kernel_rfl
theorem six_ofS {l : List Value} (h : l.length = 6) : ∃ a b c d e f, l = [a, b, c, d, e, f] := by
  match l, h with
  | [a, b, c, d, e, f], _ => exact ⟨a, b, c, d, e, f, rfl⟩
theorem sact_fields {H : Type} {enc : TypeId × Value → H} {w : World} {base n : Nat} {sp : Nat → Bool} {held : Bool} {cs : List Value} {x : DataW H × List MemPlace} (h : DataW.trod enc Tryd.prog w base sp held n 35 cs = some x) :
    ∃ p : SActM, cs = [.string p.K, .int .i64 p.N, .int .i64 p.G, .int .i64 p.O, .int .i64 p.A, .int .i64 p.D] := by
  have hst := DataW.trod_struct Tryd.underlying35 h
  rw [Tryd.cellsSAct] at hst
  obtain ⟨xs, k, _, _, hcl, hlen, hx⟩ := hst
  obtain ⟨c0, c1, c2, c3, c4, c5, rfl⟩ := six_ofS (l := cs) (by simpa using hcl)
  have g : ∀ i (hi : i < xs.length), xs[i]? = some xs[i] := fun i hi => List.getElem?_eq_getElem hi
  have hl5 : xs.length = 5 := hlen
  have y0 := (hx 0 _ rfl).trans (g 0 (by omega))
  have y1 := (hx 1 _ rfl).trans (g 1 (by omega))
  have y2 := (hx 2 _ rfl).trans (g 2 (by omega))
  have y3 := (hx 3 _ rfl).trans (g 3 (by omega))
  have y4 := (hx 4 _ rfl).trans (g 4 (by omega))
  obtain ⟨s0, e0, _, _⟩ := DataW.trod_string Tryd.underlying9 y0
  obtain ⟨z0, z1, k2, _, _, h0, h1⟩ := ChangeShapes.trod_struct2 Tryd.underlying33 y1
  obtain ⟨n1, e1, _, _⟩ := DataW.trod_int Tryd.underlying3 h0
  obtain ⟨n2, e2, _, _⟩ := DataW.trod_int Tryd.underlying3 h1
  obtain ⟨n3, e3, _, _⟩ := DataW.trod_int Tryd.underlying3 y2
  obtain ⟨n4, e4, _, _⟩ := DataW.trod_int Tryd.underlying3 y3
  obtain ⟨n5, e5, _, _⟩ := DataW.trod_int Tryd.underlying3 y4
  simp [Tryd.cellsIntS, Tryd.cellsStrS, Tryd.cellsHandleS] at e0 e1 e2 e3 e4 e5
  subst e0 e1 e2 e3 e4 e5
  exact ⟨⟨s0, n1, n2, n3, n4, n5⟩, rfl⟩
theorem isSActs_of {H : Type} {enc : TypeId × Value → H} {w : World} {base n : Nat} {sp : Nat → Bool} {held : Bool} {a : Option Addr} {len cap : Nat} {x : DataW H × List MemPlace} (h : DataW.trod enc Tryd.prog w base sp held n 22 [.slice a len cap] = some x) : IsSActs w a len := by
  rcases open_slice Tryd.underlying22 h with ⟨e, _⟩ | ⟨ad, len', cap', m, n', D, Pl, e, _, hl, hm, hmm, _, hx⟩
  · simp at e
    exact Or.inl e.2.1
  · simp at e
    obtain ⟨rfl, rfl, rfl⟩ := e
    rcases Nat.eq_zero_or_pos len with h0 | h0
    · exact Or.inl h0
    right
    have hle : len ≤ m := by rw [hmm]; split <;> omega
    rw [Tryd.cellsSAct] at hx
    have inst : Inhabited SActM := ⟨⟨⟨#[]⟩, 0, 0, 0, 0, 0⟩⟩
    obtain ⟨P, hP⟩ := choose_ltS (α := SActM) (n := len) (p := fun i p => w.cells? base (ad.add (i * 6)) 6 = some [.string p.K, .int .i64 p.N, .int .i64 p.G, .int .i64 p.O, .int .i64 p.A, .int .i64 p.D]) (fun i hi => by
      obtain ⟨cs', c1, c2⟩ := hx i (by omega)
      obtain ⟨p, rfl⟩ := sact_fields c2
      exact ⟨p, c1⟩)
    obtain ⟨ab, ao, spot⟩ := ad
    have cell : ∀ i, i < len → ∀ k, k < 6 → w.cell? (((⟨ab, ao, spot⟩ : Addr).add (i * 6)).add k) = [Value.string (P i).K, .int .i64 (P i).N, .int .i64 (P i).G, .int .i64 (P i).O, .int .i64 (P i).A, .int .i64 (P i).D][k]? := fun i hi k hk => (World.cells?_some (hP i hi)).2.2 k hk
    have hspot : spot = none := by
      have := cell 0 h0 0 (by decide)
      simp [Addr.add] at this
      exact World.cell?_spot this
    subst hspot
    have hadd : ∀ i k, ((⟨ab, ao, none⟩ : Addr).add (i * 6)).add k = ⟨ab, ao + i * 6 + k, none⟩ := fun i k => by
      unfold Addr.add
      split <;> split <;> simp_all
    refine ⟨ab, ao, P, rfl, fun i hi => ?_⟩
    have c0 := cell i hi 0 (by decide)
    have c1 := cell i hi 1 (by decide)
    have c2 := cell i hi 2 (by decide)
    have c3 := cell i hi 3 (by decide)
    have c4 := cell i hi 4 (by decide)
    have c5 := cell i hi 5 (by decide)
    rw [hadd] at c0 c1 c2 c3 c4 c5
    exact ⟨c0, c1, c2, c3, c4, c5⟩
theorem one_open {w : World} {base : Nat} {v : Value} {x : Opn} (h : Opns w base v [x]) : ∃ g cap, v = .slice (some ⟨g, 0, none⟩) 1 cap ∧ w.cell? ⟨g, 0, none⟩ = some (.int .i64 x.N) ∧ w.cell? ⟨g, 1, none⟩ = some (.int .i64 x.G) ∧ w.cell? ⟨g, 2, none⟩ = some (.int .i64 x.O) ∧ w.cell? ⟨g, 3, none⟩ = some (.int .i64 x.A) ∧ w.cell? ⟨g, 4, none⟩ = some (.int .i64 x.D) := by
  rcases h.open with ⟨_, e⟩ | ⟨g, cap, cur, rfl, _⟩
  · cases e
  · have := opn_cellsM (m := 0) h rfl (x := x) rfl
    exact ⟨g, cap, rfl, by simpa using this⟩
/-- A new table. -/
theorem ShW.fresh {W w : World} (hb : Below W.heap.size W w) : ShW W (w.alloc (.cells #[.slice none 0 0] 27)) w.heap.size [] := by
  have hh := heap_alloc_last w (.cells #[.slice none 0 0] 27)
  exact ⟨⟨.slice none 0 0, cell_of_row _ _ 0 _ _ _ hh, frozen_of_row _ _ _ _ _ hh, Opns.nil _ _, (fun k hk => by cases hk)⟩, ⟨List.Pairwise.nil, (fun x hx => by cases hx), by decide⟩, hb.alloc hb.size _, hb.size⟩
theorem first_open {A : Nat → Addr} {l' : List Opn} {c : Nat} {r : Value} (h : OpenR A [] 3 0 1 1 2 c r l') : r = .nilIface ∧ l' = [⟨3, 0, 1, 1, 2⟩] := by
  rcases h with ⟨hb, _⟩ | ⟨_, hb, _⟩ | ⟨_, _, _, _, hx, _⟩ | ⟨_, _, _, h40, _⟩ | ⟨i, _, _, _, _, hsp, _, rfl, rfl⟩
  · exact absurd hb (by decide)
  · cases hb
  · cases hx
  · simp at h40
  · have : i = 0 := by have := hsp.le; simpa using this
    subst this
    exact ⟨rfl, rfl⟩
set_option maxRecDepth 100000 in
set_option maxHeartbeats 2000000 in
theorem shared_any (A : Nat → Addr) (w : World) (hE : Err5 w A) : Calls Tryd.prog 5 #[] w fun e w' => e = .returned (.bool true) ∧ Below w.heap.size w w' := by
  have h0 : ShW w (w.alloc (.cells #[.slice none 0 0] 27)) w.heap.size [] := ShW.fresh (Below.refl _ _)
  have hop := (h0.open hE 3 0 1 1 2).mono (fun e w' hh => show e = .returned .nilIface ∧ ShW w w' w.heap.size [⟨3, 0, 1, 1, 2⟩] from by
    obtain ⟨c, r, l', he, hr, hs⟩ := hh
    obtain ⟨rfl, rfl⟩ := first_open hr
    exact ⟨he, hs⟩)
  clear h0 hE
  go_enter Tryd.func5, Tryd.ntmps5
  go_wp2_with (first
    | (go_at_call 6; refine hop.mono ?_; rintro e w2 ⟨rfl, hs2⟩; have HS2 : Hid (ShW w w2 w.heap.size [⟨3, 0, 1, 1, 2⟩]) := hs2; have hli := hs2.list; clear hop hs2)
    | (go_at_call 21; refine hli.mono ?_; rintro e w3 ⟨v3, rfl, hO3, ho3⟩; obtain ⟨g, cap, hv, c0, c1, c2, c3, c4⟩ := one_open hO3; subst hv; have HB : Hid (Below w.heap.size w w3) := (HS2.out.only ho3).below; clear hli hO3 ho3)
    | go_in)
  go_ret
  exact ⟨rfl, HB.out⟩
end Go.Proofs.YtagpahgjbglmaaaDoor
