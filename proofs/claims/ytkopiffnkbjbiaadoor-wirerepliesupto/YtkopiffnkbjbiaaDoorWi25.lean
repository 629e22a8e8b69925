/- WireReplies: replies that came in. -/
import Derived.Test.YtkopiffnkbjbiaaDoorWi23
import Derived.Test.YtkopiffnkbjbiaaDoorRows
namespace Go.Proofs.YtkopiffnkbjbiaaDoor
open Go Go.RowKit Go.Deep Go.WideShapes

theorem bulk_part {H : Type} {d : DataW H} {l : List (DataW H)} (h : d ∈ l) : Rows.uptoBulk d ≤ Rows.uptoBulkAll l := by
  induction l with
  | nil => cases h
  | cons x r ih =>
    simp only [Rows.uptoBulkAll]
    rcases List.mem_cons.1 h with e | e
    · subst e; omega
    · have := ih e; omega
theorem bulk_one {H : Type} (d : DataW H) : 1 ≤ Rows.uptoBulk d := by
  cases d with
  | lit l => cases l <;> simp [Rows.uptoBulk]
  | nil => simp [Rows.uptoBulk]
  | ptr d => simp [Rows.uptoBulk]
  | slice elems spare => simp [Rows.uptoBulk]
  | agg parts => simp [Rows.uptoBulk]
  | iface t d => simp [Rows.uptoBulk]
  | map entries => simp [Rows.uptoBulk]
  | held h => simp [Rows.uptoBulk]
theorem bulk_len {H : Type} (l : List (DataW H)) : l.length ≤ Rows.uptoBulkAll l := by
  induction l with
  | nil => simp [Rows.uptoBulkAll]
  | cons x r ih => have := bulk_one x; simp only [Rows.uptoBulkAll, List.length_cons]; omega
theorem Tryd.cellsHdW : Tryd.prog.cellsOf 47 = 2 := by kernel_rfl
theorem Tryd.cellsEnW : Tryd.prog.cellsOf 52 = 3 := by kernel_rfl
theorem Tryd.cellsRpW : Tryd.prog.cellsOf 50 = 9 := by kernel_rfl
theorem Tryd.cellsBoW : Tryd.prog.cellsOf 4 = 1 := by kernel_rfl
theorem Tryd.cellsSlW : Tryd.prog.cellsOf 48 = 1 := by kernel_rfl
section
variable {H : Type} {enc : TypeId × Value → H} {w : World} {base n : Nat} {sp : Nat → Bool} {held : Bool} {cs : List Value} {x : DataW H × List MemPlace}
theorem handle_fieldsW (h : DataW.trod enc Tryd.prog w base sp held n 47 cs = some x) :
    ∃ a b : Int, cs = [.int .i64 a, .int .i64 b] ∧ I64 a ∧ I64 b := by
  have hst := DataW.trod_struct Tryd.underlying47 h
  rw [Tryd.cellsHdW] at hst
  obtain ⟨xs, k, _, hxx, hcl, hlen, hx⟩ := hst
  obtain ⟨c0, c1, rfl⟩ := two_ofW (l := cs) (by simpa using hcl)
  have g : ∀ i (hi : i < xs.length), xs[i]? = some xs[i] := fun i hi => List.getElem?_eq_getElem hi
  have hl2 : xs.length = 2 := hlen
  have y0 := (hx 0 _ rfl).trans (g 0 (by omega))
  have y1 := (hx 1 _ rfl).trans (g 1 (by omega))
  obtain ⟨n0, e0, _, r0⟩ := DataW.trod_int Tryd.underlying3 y0
  obtain ⟨n1, e1, _, r1⟩ := DataW.trod_int Tryd.underlying3 y1
  simp [Tryd.cellsIntW] at e0 e1
  subst e0 e1
  exact ⟨n0, n1, rfl, wf64 r0, wf64 r1⟩
theorem three_ofW {l : List Value} (h : l.length = 3) : ∃ a b c, l = [a, b, c] := by
  match l, h with
  | [a, b, c], _ => exact ⟨a, b, c, rfl⟩
/-- An entry of so much at most. -/
def EnV.fits (N : Nat) (e : EnV) : Prop := e.ok ∧ e.n.size ≤ N
theorem entry_fieldsW {N : Nat} (h : DataW.trod enc Tryd.prog w base sp held n 52 cs = some x) (hN : Rows.uptoBulk x.1 ≤ N) : ∃ p : EnV, cs = enC p ∧ p.fits N := by
  have hst := DataW.trod_struct Tryd.underlying52 h
  rw [Tryd.cellsEnW] at hst
  obtain ⟨xs, k, _, hxx, hcl, hlen, hx⟩ := hst
  obtain ⟨c0, c1, c2, rfl⟩ := three_ofW (l := cs) (by simpa using hcl)
  have g : ∀ i (hi : i < xs.length), xs[i]? = some xs[i] := fun i hi => List.getElem?_eq_getElem hi
  have hl2 : xs.length = 2 := hlen
  have y0 := (hx 0 _ rfl).trans (g 0 (by omega))
  have y1 := (hx 1 _ rfl).trans (g 1 (by omega))
  obtain ⟨s0, e0, d0, _⟩ := DataW.trod_string Tryd.underlying9 y0
  obtain ⟨a, b, e1, r1, r2⟩ := handle_fieldsW y1
  have hs : s0.size ≤ N := by
    rw [hxx] at hN
    simp only [Rows.uptoBulk] at hN
    have hm := bulk_part (l := xs.map (·.1)) (d := .lit (.string s0.data.toList)) (List.mem_map.2 ⟨xs[0], List.getElem_mem _, by rw [d0]⟩)
    simp only [Rows.uptoBulk] at hm
    have h3 : s0.data.toList.length = s0.size := by simp
    omega
  simp [Tryd.cellsStrW, Tryd.cellsHdW] at e0 e1
  obtain ⟨e1, e2⟩ := e1
  subst e0 e1 e2
  exact ⟨⟨s0, a, b⟩, rfl, ⟨r1, r2⟩, hs⟩
/-- A list that came in, each of its elements read. -/
theorem rows_of {α : Type} [Inhabited α] {c : α → List Value} {k : Nat} (hc : ∀ a, (c a).length = k) (hk : 0 < k) {ok : α → Prop} {ad : Addr} {len : Nat} (hlen : 0 < len) (hone : ∀ a, ∃ u, (c a)[0]? = some u) (hel : ∀ i, i < len → ∃ a, w.cells? base (ad.add (i * k)) k = some (c a) ∧ ok a) :
    ∃ l : List α, l.length = len ∧ RwA w c k (some ad) l ∧ ∀ a ∈ l, ok a := by
  obtain ⟨P, hP⟩ := choose_ltW (α := α) (n := len) (p := fun i a => w.cells? base (ad.add (i * k)) k = some (c a) ∧ ok a) hel
  obtain ⟨ab, ao, spot⟩ := ad
  have cell : ∀ i, i < len → ∀ j, j < k → w.cell? (((⟨ab, ao, spot⟩ : Addr).add (i * k)).add j) = (c (P i))[j]? := fun i hi j hj => (World.cells?_some (hP i hi).1).2.2 j hj
  have hspot : spot = none := by
    have h1 := cell 0 hlen 0 hk
    obtain ⟨u, hu⟩ := hone (P 0)
    rw [hu] at h1
    simp [Addr.add] at h1
    exact World.cell?_spot h1
  subst hspot
  have hadd : ∀ i j, ((⟨ab, ao, none⟩ : Addr).add (i * k)).add j = ⟨ab, ao + i * k + j, none⟩ := fun i j => by
    unfold Addr.add
    split <;> split <;> simp_all
  refine ⟨(List.range len).map P, by simp, ⟨fun i x hxi => ⟨ab, ao, rfl, fun j u hu => ?_⟩⟩, fun x hxm => ?_⟩
  · rw [List.getElem?_map] at hxi
    obtain ⟨i', hi', rfl⟩ := Option.map_eq_some_iff.1 hxi
    obtain ⟨hlt, e⟩ := List.getElem?_eq_some_iff.1 hi'
    rw [List.getElem_range] at e
    subst e
    have hj : j < k := by have := (List.getElem?_eq_some_iff.1 hu).1; rw [hc] at this; exact this
    have := cell i (by simpa using hlt) j hj
    rw [hadd] at this
    rw [this]
    exact hu
  · obtain ⟨i, hi, rfl⟩ := List.mem_map.1 hxm
    exact (hP i (List.mem_range.1 hi)).2
theorem bulk_elem {D : Nat → DataW H} {len m i N : Nat} (hi : i < len) (hN : Rows.uptoBulk (.slice ((List.range len).map D) ((List.range m).map fun j => D (len + j))) ≤ N) : Rows.uptoBulk (D i) ≤ N := by
  simp only [Rows.uptoBulk] at hN
  have := bulk_part (l := (List.range len).map D) (d := D i) (List.mem_map.2 ⟨i, List.mem_range.2 hi, rfl⟩)
  omega
theorem bulk_count {D : Nat → DataW H} {len m N : Nat} (hN : Rows.uptoBulk (.slice ((List.range len).map D) ((List.range m).map fun j => D (len + j))) ≤ N) : len ≤ N := by
  simp only [Rows.uptoBulk] at hN
  have := bulk_len ((List.range len).map D)
  simp only [List.length_map, List.length_range] at this
  omega
theorem ens_of {N : Nat} (h : DataW.trod enc Tryd.prog w base sp held n 48 cs = some x) (hN : Rows.uptoBulk x.1 ≤ N) : ∃ (a : Option Addr) (cap : Nat) (L : List EnV), cs = [.slice a L.length cap] ∧ L.length ≤ N ∧ (a = none → cap = 0) ∧ RwA w enC 3 a L ∧ ∀ e ∈ L, e.fits N := by
  rcases open_slice Tryd.underlying48 h with ⟨rfl, _⟩ | ⟨ad, len, cap, m, n', D, Pl, rfl, _, hl, hm, hmm, rfl, hx⟩
  · exact ⟨none, 0, [], rfl, Nat.zero_le _, fun _ => rfl, ⟨fun i x e => by cases e⟩, fun x hx => by cases hx⟩
  · have hle : len ≤ m := by rw [hmm]; split <;> omega
    rcases Nat.eq_zero_or_pos len with h0 | h0
    · subst h0
      exact ⟨some ad, cap, [], rfl, Nat.zero_le _, (fun e => by cases e), ⟨fun i x e => by cases e⟩, fun x hx => by cases hx⟩
    rw [Tryd.cellsEnW] at hx
    have inst : Inhabited EnV := ⟨⟨⟨#[]⟩, 0, 0⟩⟩
    obtain ⟨L, hL, hr, hok⟩ := rows_of (α := EnV) (c := enC) (k := 3) enC_len (by decide) (ok := EnV.fits N) (ad := ad) h0 (fun a => ⟨_, rfl⟩) (fun i hi => by
      obtain ⟨cs', c1, c2⟩ := hx i (by omega)
      obtain ⟨p, rfl, hok⟩ := entry_fieldsW c2 (bulk_elem hi hN)
      exact ⟨p, c1, hok⟩)
    subst hL
    exact ⟨some ad, cap, L, rfl, bulk_count hN, (fun e => by cases e), hr, hok⟩
/-- The entries of a reply that came in. -/
def RpN (w : World) (p : RpV × Value) : Prop := ∃ ad cap, p.2 = .slice ad p.1.L.length cap ∧ (ad = none → cap = 0) ∧ RwA w enC 3 ad p.1.L
theorem RpN.later {w w' : World} {p : RpV × Value} (h : RpN w p) (ho : Only [] w w') : RpN w' p := by
  obtain ⟨ad, cap, h1, h0, h2⟩ := h
  exact ⟨ad, cap, h1, h0, h2.later ho⟩
theorem RpN.rpA {w : World} {p : RpV × Value} (h : RpN w p) : RpA w p := by
  obtain ⟨ad, cap, h1, _, h2⟩ := h
  exact ⟨ad, cap, h1, h2⟩
/-- A reply of so much at most, its entries read. -/
def RpFit (w : World) (N : Nat) (q : RpV × Value) : Prop := RpN w q ∧ I64 q.1.c ∧ I64 q.1.x1 ∧ I64 q.1.x2 ∧ I64 q.1.x3 ∧ I64 q.1.x4 ∧ I64 q.1.n ∧ q.1.T.size ≤ N ∧ q.1.L.length ≤ N ∧ ∀ e ∈ q.1.L, e.fits N
theorem reply_fieldsW {N : Nat} (h : DataW.trod enc Tryd.prog w base sp held n 50 cs = some x) (hN : Rows.uptoBulk x.1 ≤ N) : ∃ q : RpV × Value, cs = rpC q ∧ RpFit w N q := by
  have hst := DataW.trod_struct Tryd.underlying50 h
  rw [Tryd.cellsRpW] at hst
  obtain ⟨xs, k, _, hxx, hcl, hlen, hx⟩ := hst
  obtain ⟨c0, c1, c2, c3, c4, c5, c6, c7, c8, rfl⟩ := nine_of (l := cs) (by simpa using hcl)
  have g : ∀ i (hi : i < xs.length), xs[i]? = some xs[i] := fun i hi => List.getElem?_eq_getElem hi
  have hl7 : xs.length = 7 := hlen
  have y0 := (hx 0 _ rfl).trans (g 0 (by omega))
  have y1 := (hx 1 _ rfl).trans (g 1 (by omega))
  have y2 := (hx 2 _ rfl).trans (g 2 (by omega))
  have y3 := (hx 3 _ rfl).trans (g 3 (by omega))
  have y4 := (hx 4 _ rfl).trans (g 4 (by omega))
  have y5 := (hx 5 _ rfl).trans (g 5 (by omega))
  have y6 := (hx 6 _ rfl).trans (g 6 (by omega))
  have hpart : ∀ i (hi : i < xs.length), Rows.uptoBulk (xs[i]'hi).1 ≤ N := fun i hi => by
    rw [hxx] at hN
    simp only [Rows.uptoBulk] at hN
    have hm := bulk_part (l := xs.map (·.1)) (d := (xs[i]'hi).1) (List.mem_map.2 ⟨xs[i], List.getElem_mem _, rfl⟩)
    omega
  obtain ⟨n0, e0, _, r0⟩ := DataW.trod_int Tryd.underlying3 y0
  obtain ⟨s1, e1, d1, _⟩ := DataW.trod_string Tryd.underlying9 y1
  obtain ⟨a2, b2, e2, r2, r2'⟩ := handle_fieldsW y2
  obtain ⟨a3, b3, e3, r3, r3'⟩ := state_fieldsW y3
  obtain ⟨ad, cp, L, e4, l4, z4, hr4, ok4⟩ := ens_of y4 (hpart 4 (by omega))
  obtain ⟨n5, e5, _, r5⟩ := DataW.trod_int Tryd.underlying3 y5
  obtain ⟨b6, e6, _⟩ := DataW.trod_bool Tryd.underlying4 y6
  have hs : s1.size ≤ N := by
    have := hpart 1 (by omega)
    rw [d1] at this
    simp only [Rows.uptoBulk] at this
    have h3 : s1.data.toList.length = s1.size := by simp
    omega
  simp [Tryd.cellsIntW, Tryd.cellsStrW, Tryd.cellsStW, Tryd.cellsHdW, Tryd.cellsSlW, Tryd.cellsBoW] at e0 e1 e2 e3 e4 e5 e6
  obtain ⟨e2, e2'⟩ := e2
  obtain ⟨e3, e3'⟩ := e3
  subst e0 e1 e2 e2' e3 e3' e4 e5 e6
  exact ⟨(⟨n0, s1, a2, b2, a3, b3, L, n5, b6⟩, .slice ad L.length cp), rfl, ⟨ad, cp, rfl, z4, hr4⟩, wf64 r0, r2, r2', r3, r3', wf64 r5, hs, l4, ok4⟩
end
def IsReps (w : World) (N : Nat) (ad : Option Addr) (len : Nat) : Prop := len ≤ N ∧ ∃ m : List (RpV × Value), m.length = len ∧ RwA w rpC 9 ad m ∧ ∀ q ∈ m, RpFit w N q
theorem isReps_of {H : Type} {enc : TypeId × Value → H} {w : World} {base n : Nat} {sp : Nat → Bool} {held : Bool} {a : Option Addr} {len cap N : Nat} {x : DataW H × List MemPlace} (h : DataW.trod enc Tryd.prog w base sp held n 45 [.slice a len cap] = some x) (hN : Rows.uptoBulk x.1 ≤ N) : IsReps w N a len := by
  rcases open_slice Tryd.underlying45 h with ⟨e, _⟩ | ⟨ad, len', cap', m, n', D, Pl, e, _, hl, hm, hmm, rfl, hx⟩
  · simp at e
    obtain ⟨rfl, rfl, rfl⟩ := e
    exact ⟨Nat.zero_le _, [], rfl, ⟨fun i x e => by cases e⟩, fun x hx => by cases hx⟩
  · simp at e
    obtain ⟨rfl, rfl, rfl⟩ := e
    have hle : len ≤ m := by rw [hmm]; split <;> omega
    rcases Nat.eq_zero_or_pos len with h0 | h0
    · subst h0
      exact ⟨Nat.zero_le _, [], rfl, ⟨fun i x e => by cases e⟩, fun x hx => by cases hx⟩
    rw [Tryd.cellsRpW] at hx
    have inst : Inhabited (RpV × Value) := ⟨(⟨0, ⟨#[]⟩, 0, 0, 0, 0, [], 0, false⟩, .nilIface)⟩
    obtain ⟨L, hL, hr, hok⟩ := rows_of (α := RpV × Value) (c := rpC) (k := 9) rpC_len (by decide) (ok := RpFit w N) (ad := ad) h0 (fun a => ⟨_, rfl⟩) (fun i hi => by
      obtain ⟨cs', c1, c2⟩ := hx i (by omega)
      obtain ⟨p, rfl, hok⟩ := reply_fieldsW c2 (bulk_elem hi hN)
      exact ⟨p, c1, hok⟩)
    subst hL
    exact ⟨bulk_count hN, L, rfl, hr, hok⟩
theorem RpFit.ok {w : World} {N : Nat} {q : RpV × Value} (h : RpFit w N q) (hN : N ≤ 4294967295) : q.1.ok := by
  obtain ⟨_, h1, h2, h3, h4, h5, h6, _, h8, h9⟩ := h
  exact ⟨h1, h2, h3, h4, h5, h6, by omega, fun e he => (h9 e he).1⟩
end Go.Proofs.YtkopiffnkbjbiaaDoor
