/- The laws of a log: records that came in, of so much at most. -/
import Derived.Test.YtlcloahkeamdkaaDoorG6
import Derived.Test.YtlcloahkeamdkaaDoorG8
namespace Go.Proofs.YtlcloahkeamdkaaDoor
open Go Go.RowKit Go.Deep Go.WideShapes

theorem Tryd.cellsRecL : Tryd.prog.cellsOf 37 = 2 := by kernel_rfl
theorem Tryd.cellsStrsL : Tryd.prog.cellsOf 34 = 1 := by kernel_rfl
theorem two_ofL {l : List Value} (h : l.length = 2) : ∃ a b, l = [a, b] := by
  match l, h with
  | [a, b], _ => exact ⟨a, b, rfl⟩
theorem add_noneL {b o j : Nat} : (⟨b, o, none⟩ : Addr).add j = ⟨b, o + j, none⟩ := by by_cases h : j = 0 <;> simp [Addr.add, h]
section
variable {H : Type} {enc : TypeId × Value → H} {w : World} {base n : Nat} {sp : Nat → Bool} {held : Bool} {cs : List Value} {x : DataW H × List MemPlace}
theorem texts_of {N : Nat} (h : DataW.trod enc Tryd.prog w base sp held n 34 cs = some x) (hN : Rows.uptoBulk x.1 ≤ N) : ∃ (a : Option Addr) (cap : Nat) (L : List (List UInt8)), cs = [.slice a L.length cap] ∧ L.length ≤ N ∧ (∀ s ∈ L, s.length ≤ N) ∧ Txs w a cap L := by
  rcases open_slice Tryd.underlying34 h with ⟨rfl, _⟩ | ⟨ad, len, cap, m, n', D, Pl, rfl, _, hl, hm, hmm, rfl, hx⟩
  · exact ⟨none, 0, [], rfl, Nat.zero_le _, (fun s hs => by cases hs), ⟨fun j s hs => (by cases hs), fun _ => ⟨rfl, rfl⟩⟩⟩
  · have hle : len ≤ m := by rw [hmm]; split <;> omega
    rcases Nat.eq_zero_or_pos len with h0 | h0
    · subst h0
      exact ⟨some ad, cap, [], rfl, Nat.zero_le _, (fun s hs => by cases hs), ⟨fun j s hs => (by cases hs), fun e => (by cases e)⟩⟩
    rw [Tryd.cellsStrD] at hx
    obtain ⟨P, hP⟩ := choose_ltD (α := List UInt8) (n := len) (p := fun i b => w.cell? (ad.add i) = some (txv b) ∧ b.length ≤ N) (fun i hi => by
      obtain ⟨cs', c1, c2⟩ := hx i (by omega)
      obtain ⟨b, e, d, _⟩ := DataW.trod_string Tryd.underlying9 c2
      have h1 := (World.cells?_some c1).2.2 0 (by decide)
      have hadd : (ad.add (i * 1)).add 0 = ad.add i := by
        rw [Nat.mul_one]
        unfold Addr.add
        split <;> split <;> simp_all
      have h2 := bulk_elem hi hN
      have h3 : Rows.uptoBulk (D i) = b.data.toList.length + 1 := by
        have := congrArg (fun q => Rows.uptoBulk q.1) d
        simpa [Rows.uptoBulk] using this
      rw [hadd, e] at h1
      have e2 : bs b.data.toList = b := data_inj (bs_data _)
      exact ⟨b.data.toList, by rw [txv, e2]; exact h1, by omega⟩)
    obtain ⟨ab, ao, spot⟩ := ad
    have hspot : spot = none := by
      have h1 := (hP 0 h0).1
      simp [Addr.add] at h1
      exact World.cell?_spot h1
    subst hspot
    have hBl : ((List.range len).map P).length = len := by simp
    refine ⟨some ⟨ab, ao, none⟩, cap, (List.range len).map P, by rw [hBl], by rw [hBl]; exact bulk_count hN, fun s hs => ?_, ⟨fun j s hs => ?_, fun e => (by cases e)⟩⟩
    · obtain ⟨i, hi, rfl⟩ := List.mem_map.1 hs
      exact (hP i (List.mem_range.1 hi)).2
    · rw [List.getElem?_map] at hs
      obtain ⟨i, hi, rfl⟩ := Option.map_eq_some_iff.1 hs
      obtain ⟨hlt, e⟩ := List.getElem?_eq_some_iff.1 hi
      rw [List.getElem_range] at e
      subst e
      have h1 := (hP j (by simpa using hlt)).1
      rw [add_noneL] at h1
      exact ⟨ab, ao, rfl, lt_of_cell h1, h1⟩
theorem rec_fields (h : DataW.trod enc Tryd.prog w base sp held n 37 cs = some x) (hN : Rows.uptoBulk x.1 ≤ 1048576) :
    ∃ p : Rc, cs = [.bool p.C, .slice p.ad p.L.length p.cap] ∧ Txs w p.ad p.cap p.L ∧ p.L.length ≤ 1048576 ∧ ∀ s ∈ p.L, s.length ≤ 1048576 := by
  have hst := DataW.trod_struct Tryd.underlying37 h
  rw [Tryd.cellsRecL] at hst
  obtain ⟨xs, k, _, hxx, hcl, hlen, hx⟩ := hst
  obtain ⟨c0, c1, rfl⟩ := two_ofL (l := cs) (by simpa using hcl)
  have g : ∀ i (hi : i < xs.length), xs[i]? = some xs[i] := fun i hi => List.getElem?_eq_getElem hi
  have hl4 : xs.length = 2 := hlen
  have y0 := (hx 0 _ rfl).trans (g 0 (by omega))
  have y1 := (hx 1 _ rfl).trans (g 1 (by omega))
  have hpart : ∀ i (hi : i < xs.length), Rows.uptoBulk (xs[i]'hi).1 ≤ 1048576 := fun i hi => by
    rw [hxx] at hN
    simp only [Rows.uptoBulk] at hN
    have hm := bulk_part (l := xs.map (·.1)) (d := (xs[i]'hi).1) (List.mem_map.2 ⟨xs[i], List.getElem_mem _, rfl⟩)
    omega
  obtain ⟨b0, e0, _⟩ := DataW.trod_bool Tryd.underlying4 y0
  obtain ⟨a, cap, L, e1, l1, s1, t1⟩ := texts_of y1 (hpart 1 (by omega))
  simp [Tryd.cellsBoolD, Tryd.cellsStrsL] at e0 e1
  subst e0 e1
  exact ⟨⟨b0, a, cap, L⟩, rfl, t1, l1, s1⟩
end
def IsRecs (w : World) (ad : Option Addr) (len : Nat) : Prop := len ≤ 1048576 ∧ ∃ L : List Rc, L.length = len ∧ RcsIn w ad L
theorem isRecs_of {H : Type} {enc : TypeId × Value → H} {w : World} {base n : Nat} {sp : Nat → Bool} {held : Bool} {a : Option Addr} {len cap : Nat} {x : DataW H × List MemPlace} (h : DataW.trod enc Tryd.prog w base sp held n 22 [.slice a len cap] = some x) (hN : Rows.uptoBulk x.1 ≤ 1048576) : IsRecs w a len := by
  rcases open_slice Tryd.underlying22 h with ⟨e, _⟩ | ⟨ad, len', cap', m, n', D, Pl, e, _, hl, hm, hmm, rfl, hx⟩
  · simp at e
    obtain ⟨rfl, rfl, rfl⟩ := e
    exact ⟨Nat.zero_le _, [], rfl, fun i x e => by cases e⟩
  · simp at e
    obtain ⟨rfl, rfl, rfl⟩ := e
    have hle : len ≤ m := by rw [hmm]; split <;> omega
    rcases Nat.eq_zero_or_pos len with h0 | h0
    · subst h0
      exact ⟨Nat.zero_le _, [], rfl, fun i x e => by cases e⟩
    rw [Tryd.cellsRecL] at hx
    have inst : Inhabited Rc := ⟨⟨false, none, 0, []⟩⟩
    obtain ⟨P, hP⟩ := choose_ltD (α := Rc) (n := len) (p := fun i p => w.cells? base (ad.add (i * 2)) 2 = some [.bool p.C, .slice p.ad p.L.length p.cap] ∧ Txs w p.ad p.cap p.L ∧ p.L.length ≤ 1048576 ∧ ∀ s ∈ p.L, s.length ≤ 1048576) (fun i hi => by
      obtain ⟨cs', c1, c2⟩ := hx i (by omega)
      obtain ⟨p, rfl, hq⟩ := rec_fields c2 (bulk_elem hi hN)
      exact ⟨p, c1, hq⟩)
    obtain ⟨ab, ao, spot⟩ := ad
    have cell : ∀ i, i < len → ∀ k, k < 2 → w.cell? (((⟨ab, ao, spot⟩ : Addr).add (i * 2)).add k) = [Value.bool (P i).C, .slice (P i).ad (P i).L.length (P i).cap][k]? := fun i hi k hk => (World.cells?_some (hP i hi).1).2.2 k hk
    have hspot : spot = none := by
      have h1 := cell 0 h0 0 (by decide)
      simp [Addr.add] at h1
      exact World.cell?_spot h1
    subst hspot
    have hadd : ∀ i j, ((⟨ab, ao, none⟩ : Addr).add (i * 2)).add j = ⟨ab, ao + i * 2 + j, none⟩ := fun i j => by
      unfold Addr.add
      split <;> split <;> simp_all
    refine ⟨bulk_count hN, (List.range len).map P, by simp, fun i y hy => ?_⟩
    rw [List.getElem?_map] at hy
    obtain ⟨i', hi', rfl⟩ := Option.map_eq_some_iff.1 hy
    obtain ⟨hlt, e⟩ := List.getElem?_eq_some_iff.1 hi'
    rw [List.getElem_range] at e
    subst e
    have hil : i < len := by simpa using hlt
    have q0 := cell i hil 0 (by decide)
    have q1 := cell i hil 1 (by decide)
    rw [hadd] at q0 q1
    exact ⟨ab, ao, rfl, lt_of_cell q0, q0, q1, (hP i hil).2.1, (hP i hil).2.2.1, (hP i hil).2.2.2⟩
end Go.Proofs.YtlcloahkeamdkaaDoor
