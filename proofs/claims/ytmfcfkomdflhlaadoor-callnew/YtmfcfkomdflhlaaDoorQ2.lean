/- Nodes: which places are free: isFree, slices.IndexFunc over it, Count. -/
import Derived.Test.YtmfcfkomdflhlaaDoorH2
import Derived.BigQuiet
import Derived.Deep.QuietTactic
/- Nodes: which places are free: isFree, slices.IndexFunc over it, Count. -/
namespace Go.Proofs.YtmfcfkomdflhlaaDoor
open Go Go.RowKit Go.Deep Go.Maps

theorem isFree_any (w : World) (z : Int) (a : Option Addr) : Calls Tryd.prog 48 #[.agg #[.int .i64 z, .pointer a]] w fun e w' => e = .returned (.bool a.isNone) ∧ Only [] w w' := by
  cases a with
  | none =>
    go_enter Tryd.func48, Tryd.ntmps48
    go_wp2
    go_ret
    exact ⟨rfl, (Only.refl _ _).alloc _⟩
  | some a =>
    go_enter Tryd.func48, Tryd.ntmps48
    go_wp2
    go_ret
    exact ⟨rfl, (Only.refl _ _).alloc _⟩
theorem ptr_none (nd : Nat → Option Nod) (i : Nat) : ((nd i).map (fun n => (⟨n.b, 0, none⟩ : Addr))).isNone = (nd i).isNone := by cases nd i <;> rfl
/-- The least number that is free. -/
def leastFree (most : Nat) (nd : Nat → Option Nod) (r : Int) : Prop :=
  (r = -1 ∧ ∀ j : Nat, j < most → (nd j).isSome = true) ∨ ∃ i : Nat, r = (i : Int) ∧ i < most ∧ nd i = none ∧ ∀ j : Nat, j < i → (nd j).isSome = true
theorem Row.open (p : Row) : ∃ ad, p.v = .slice ad p.N p.cap ∧ ∀ b, p.a = some b → ad = some ⟨b, 0, none⟩ := ⟨_, rfl, fun b hb => by rw [hb]; rfl⟩
set_option maxHeartbeats 1000000 in
theorem indexFree (w : World) (t : Nat) (p : Row) (most : Nat) (g : Nat → Nat) (nd : Nat → Option Nod) (h : TabAt w t p most g nd) (hm : p.N ≤ 1000) :
    Calls Tryd.prog 49 #[p.v, .func (.func 48) #[] #[]] w fun e w' => (∃ r, e = .returned (.int .i64 r) ∧ leastFree p.N nd r) ∧ Only [] w w' := by
  have H : Hid (TabAt w t p most g nd) := h
  clear h
  obtain ⟨ad, hv, had⟩ := p.open
  rw [hv]
  clear hv
  have HAD : Hid (∀ b, p.a = some b → ad = some ⟨b, 0, none⟩) := had
  clear had
  obtain ⟨N, hN⟩ : ∃ N, p.N = N := ⟨_, rfl⟩
  have HN : Hid (p.N = N) := hN
  rw [hN] at hm ⊢
  clear hN
  generalize p.cap = cap
  go_enter Tryd.func49, Tryd.ntmps49
  go_wp2
  go_loopw [5, 8] (fun _ i wr => ∃ j : Nat, i = .int .i64 j ∧ j ≤ N ∧ (∀ q, q < j → (nd q).isSome = true) ∧ Only [] w wr) (fun _ i _ => N - (intOf i).toNat)
  case atStart => exact ⟨0, rfl, Nat.zero_le _, fun q hq => by omega, Only.refl _ _⟩
  case round =>
    obtain ⟨j, rfl, hj, hall, ho⟩ := hrel
    have HA : Hid (∀ q, q < j → (nd q).isSome = true) := hall
    clear hall
    by_cases hlt : j < N
    · have hT := H.out.kept ho (fun _ _ => by simp)
      obtain ⟨b, hb, c0, c1, _, _⟩ := hT.place_at (by rw [HN.out]; exact hlt)
      obtain rfl := HAD.out b hb
      have hcall := isFree_any wr (g j) ((nd j).map (fun n => (⟨n.b, 0, none⟩ : Addr)))
      rw [ptr_none] at hcall
      clear hT hb
      cases hn : (nd j).isNone with
      | true =>
        rw [hn] at hcall
        go_wp2_with (go_at_call 48; go_must (refine hcall.mono ?_); rintro e w2 ⟨rfl, ho2⟩)
        go_ret
        exact ⟨⟨j, rfl, Or.inr ⟨j, rfl, hlt, by simpa using hn, HA.out⟩⟩, ho.trans ho2 (fun _ hk => by cases hk)⟩
      | false =>
        rw [hn] at hcall
        go_wp2_with (go_at_call 48; go_must (refine hcall.mono ?_); rintro e w2 ⟨rfl, ho2⟩)
        go_roundw
        case rel => exact ⟨j + 1, by go_num, by omega, fun q hq => by
                      rcases Nat.lt_or_ge q j with h1 | h1
                      · exact HA.out q h1
                      · obtain rfl : q = j := by omega
                        cases hh : nd q with
                        | none => rw [hh] at hn; cases hn
                        | some n => rfl, ho.trans ho2 (fun _ hk => by cases hk)⟩
        case measure => simp [intOf]; omega
    · obtain rfl : j = N := by omega
      go_wp2
      go_ret
      exact ⟨⟨-1, rfl, Or.inl ⟨rfl, HA.out⟩⟩, ho⟩
/-- How many are there among the first j. -/
def countTo (nd : Nat → Option Nod) (j : Nat) : Nat := ((List.range j).filter (fun i => (nd i).isSome)).length
theorem countTo_succ (nd : Nat → Option Nod) (j : Nat) : countTo nd (j + 1) = countTo nd j + if (nd j).isSome then 1 else 0 := by
  unfold countTo
  rw [List.range_succ, List.filter_append, List.length_append]
  cases h : nd j <;> simp [h]
theorem countTo_le (nd : Nat → Option Nod) (j : Nat) : countTo nd j ≤ j := by
  have := List.length_filter_le (fun i => (nd i).isSome) (List.range j)
  rw [List.length_range] at this
  exact this
set_option maxHeartbeats 1000000 in
theorem tcount (w : World) (t : Nat) (p : Row) (most : Nat) (g : Nat → Nat) (nd : Nat → Option Nod) (h : TabAt w t p most g nd) (hm : p.N ≤ 1000) :
    Calls Tryd.prog 44 #[.pointer (some ⟨t, 0, none⟩)] w fun e w' => e = .returned (.int .i64 (countTo nd p.N : Nat)) ∧ Only [] w w' := by
  have H : Hid (TabAt w t p most g nd) := h
  have ct := h.tab
  clear h
  obtain ⟨ad, hv, had⟩ := p.open
  rw [hv] at ct
  clear hv
  have HAD : Hid (∀ b, p.a = some b → ad = some ⟨b, 0, none⟩) := had
  clear had
  obtain ⟨N, hN⟩ : ∃ N, p.N = N := ⟨_, rfl⟩
  have HN : Hid (p.N = N) := hN
  rw [hN] at hm ct ⊢
  clear hN
  generalize p.cap = cap at ct
  go_enter Tryd.func44, Tryd.ntmps44
  go_wp2
  clear ct
  go_loopw [3, 5, 11] (fun c _ i wr => ∃ j : Nat, i = .int .i64 j ∧ j ≤ N ∧ c = .int .i64 (countTo nd j : Nat) ∧ Only [] w wr) (fun _ _ i _ => N - (intOf i).toNat)
  case atStart => exact ⟨0, rfl, Nat.zero_le _, rfl, Only.refl _ _⟩
  case round =>
    obtain ⟨j, rfl, hj, rfl, ho⟩ := hrel
    have hle := countTo_le nd j
    by_cases hlt : j < N
    · have hT := H.out.kept ho (fun _ _ => by simp)
      obtain ⟨b, hb, c0, c1, _, _⟩ := hT.place_at (by rw [HN.out]; exact hlt)
      obtain rfl := HAD.out b hb
      clear hb
      have hs := countTo_succ nd j
      have HC : Hid (countTo nd (j + 1) = countTo nd j + if (nd j).isSome then 1 else 0) := hs
      clear hT hs
      generalize hK : countTo nd j = K at hle HC ⊢
      generalize hpa : (nd j).map (fun n => (⟨n.b, 0, none⟩ : Addr)) = pa at c1
      have hcall := isFree_any (wr.alloc (.cells #[.int .i64 (g j : Nat), .pointer pa] 158)) (g j) pa
      have HN : Hid (pa.isNone = !(nd j).isSome) := by subst hpa; cases nd j <;> rfl
      clear hpa hK
      cases hn : pa.isNone with
      | true =>
        rw [hn] at hcall
        go_wp2_with (go_at_call 48; go_must (refine hcall.mono ?_); rintro e w2 ⟨rfl, ho2⟩)
        go_roundw
        case rel =>
          have h1 := HN.out
          rw [hn] at h1
          have h2 := HC.out
          rw [show (nd j).isSome = false by simpa using h1.symm] at h2
          exact ⟨j + 1, by go_num, by omega, by rw [h2]; simp, (ho.alloc _).trans ho2 (fun _ hk => by cases hk)⟩
        case measure => simp [intOf]; omega
      | false =>
        rw [hn] at hcall
        go_wp2_with (go_at_call 48; go_must (refine hcall.mono ?_); rintro e w2 ⟨rfl, ho2⟩)
        go_roundw
        case rel =>
          have h1 := HN.out
          rw [hn] at h1
          have h2 := HC.out
          rw [show (nd j).isSome = true by simpa using h1.symm] at h2
          exact ⟨j + 1, by go_num, by omega, by rw [h2]; simp, (ho.alloc _).trans ho2 (fun _ hk => by cases hk)⟩
        case measure => simp [intOf]; omega
    · obtain rfl : j = N := by omega
      go_wp2
      go_ret
      exact ⟨rfl, ho⟩
end Go.Proofs.YtmfcfkomdflhlaaDoor
/- Nodes: find. -/
namespace Go.Proofs.YtmfcfkomdflhlaaDoor
open Go Go.RowKit Go.Deep Go.Maps

theorem Only.drewN {L : List Nat} {a w : World} (h : Only L a w) (n : Nat) : Only L a (w.drewN n) := ⟨h.os, h.tape, h.output, h.size, h.block⟩
/-- A handle that stands for nothing. -/
def Stale (most : Nat) (g : Nat → Nat) (nd : Nat → Option Nod) (N G : Int) : Prop := ∀ i n, i < most → N = (i : Int) → nd i = some n → G ≠ (g i : Int)
def Stale0 (g : Nat → Nat) (nd : Nat → Option Nod) (N G : Int) : Prop := ∀ (i : Nat) n, N = (i : Int) → nd i = some n → G ≠ (g i : Int)
theorem Stale.all {w : World} {t : Nat} {p : Row} {most : Nat} {g : Nat → Nat} {nd : Nat → Option Nod} {N G : Int} (hs : Stale most g nd N G) (h : TabAt w t p most g nd) (hN : p.N ≤ most) : Stale0 g nd N G := fun i n e hn => hs i n (Nat.lt_of_lt_of_le (h.lt hn) hN) e hn
set_option maxHeartbeats 1000000 in
theorem find_beyond (w : World) (t most cap : Nat) (ad : Option Addr) (N G : Int) (E : Value) (ct : w.cell? ⟨t, 1, none⟩ = some (.slice ad most cap)) (hE : w.cell? ⟨9, 0, none⟩ = some E) (hs : N < 0 ∨ (most : Int) ≤ N) :
    Calls Tryd.prog 54 #[.pointer (some ⟨t, 0, none⟩), .agg #[.int .i64 N, .int .i64 G]] w fun e w' => e = .returned (.tuple #[.pointer none, E]) ∧ Only [] w w' := by
  have hEl : 9 < w.heap.size := lt_of_cell hE
  have htl : t < w.heap.size := lt_of_cell ct
  by_cases h1 : N < 0
  · have hd1 : decide (N < 0) = true := decide_eq_true h1
    go_enter Tryd.func54, Tryd.ntmps54
    go_wp2
    go_big_quiet (fail)
    go_wp2
    go_region
    go_wp2
    exact bodyPost_ret (v := .tuple #[.pointer none, E]) (by simp [results, Tryd.results54, go_sem]) rfl ⟨rfl, (((Only.refl _ _).alloc _).drewN _).drew⟩
  · have hd1 : decide (N < 0) = false := decide_eq_false h1
    have hd2 : decide ((most : Int) ≤ N) = true := decide_eq_true (by omega)
    go_enter Tryd.func54, Tryd.ntmps54
    go_wp2
    go_big_quiet (fail)
    go_wp2
    go_region
    go_wp2
    exact bodyPost_ret (v := .tuple #[.pointer none, E]) (by simp [results, Tryd.results54, go_sem]) rfl ⟨rfl, (((Only.refl _ _).alloc _).drewN _).drew⟩
def FoundAt (c : Prop) (E : Value) (pa : Option Addr) (e : Ending) : Prop := (c ∧ e = .returned (.tuple #[.pointer none, E])) ∨ (¬ c ∧ e = .returned (.tuple #[.pointer pa, .nilIface]))
set_option maxHeartbeats 1000000 in
theorem find_at (w : World) (t : Nat) (p : Row) (most i : Nat) (g : Nat → Nat) (nd : Nat → Option Nod) (G : Int) (E : Value) (h : TabAt w t p most g nd) (hi : i < p.N) (hE : w.cell? ⟨9, 0, none⟩ = some E) :
    Calls Tryd.prog 54 #[.pointer (some ⟨t, 0, none⟩), .agg #[.int .i64 i, .int .i64 G]] w fun e w' => FoundAt ((nd i).isNone = true ∨ (g i : Int) ≠ G) E ((nd i).map (fun n => ⟨n.b, 0, none⟩)) e ∧ Only [] w w' := by
  have ct := h.tab
  obtain ⟨b, hb, c0, c1, _, hlt⟩ := h.place_at hi
  have hpt : b ≠ t := fun e => h.pt (by rw [hb, e])
  clear h
  obtain ⟨a, most, cap⟩ := p
  simp only at hb hi
  subst hb
  simp only [Row.v, Option.map_some] at ct
  have htl : t < w.heap.size := lt_of_cell ct
  generalize hpa : (nd i).map (fun n => (⟨n.b, 0, none⟩ : Addr)) = pa at c1 ⊢
  have hn : (nd i).isNone = pa.isNone := by subst hpa; cases nd i <;> rfl
  rw [hn]
  clear hpa hn nd
  generalize g i = gi at c0 ⊢
  clear g
  have hd1 : decide ((i : Int) < 0) = false := decide_eq_false (by omega)
  have hd2 : decide ((most : Int) ≤ (i : Int)) = false := decide_eq_false (by omega)
  go_enter Tryd.func54, Tryd.ntmps54
  go_wp2
  go_big_quiet (fail)
  go_wp2
  go_region
  have hcall := isFree_any ((((w.alloc (.cells #[.int .i64 (i : Int), .int .i64 G] 76)).drewN (nq + 1)).alloc (.cells #[.int .i64 (gi : Nat), .pointer pa] 158))) gi pa
  have HO : Hid (Only [] w (((w.alloc (.cells #[.int .i64 (i : Int), .int .i64 G] 76)).drewN (nq + 1)).alloc (.cells #[.int .i64 (gi : Nat), .pointer pa] 158))) := (((Only.refl _ _).alloc _).drewN _).alloc _
  have e0 : (((w.alloc (.cells #[.int .i64 (i : Int), .int .i64 G] 76)).drewN (nq + 1)).alloc (.cells #[.int .i64 (gi : Nat), .pointer pa] 158)).cell? ⟨w.heap.size, 1, none⟩ = some (.int .i64 G) := by
    rw [World.cell?_alloc_lt _ _ _ (by simp)]
    exact cell_of_row _ _ 1 _ _ _ (heap_alloc_last w _)
  have e1 : (((w.alloc (.cells #[.int .i64 (i : Int), .int .i64 G] 76)).drewN (nq + 1)).alloc (.cells #[.int .i64 (gi : Nat), .pointer pa] 158)).cell? ⟨w.heap.size + 1, 0, none⟩ = some (.int .i64 gi) := by
    have := heap_alloc_last ((w.alloc (.cells #[.int .i64 (i : Int), .int .i64 G] 76)).drewN (nq + 1)) (.cells #[.int .i64 (gi : Nat), .pointer pa] 158)
    simp only [World.drewN, World.size_alloc] at this
    exact cell_of_row _ _ 0 _ _ _ this
  have e2 : (((w.alloc (.cells #[.int .i64 (i : Int), .int .i64 G] 76)).drewN (nq + 1)).alloc (.cells #[.int .i64 (gi : Nat), .pointer pa] 158)).cell? ⟨w.heap.size + 1, 1, none⟩ = some (.pointer pa) := by
    have := heap_alloc_last ((w.alloc (.cells #[.int .i64 (i : Int), .int .i64 G] 76)).drewN (nq + 1)) (.cells #[.int .i64 (gi : Nat), .pointer pa] 158)
    simp only [World.drewN, World.size_alloc] at this
    exact cell_of_row _ _ 1 _ _ _ this
  have HE : Hid (w.cell? ⟨9, 0, none⟩ = some E) := hE
  clear c0 c1 ct hE
  generalize (((w.alloc (.cells #[.int .i64 (i : Int), .int .i64 G] 76)).drewN (nq + 1)).alloc (.cells #[.int .i64 (gi : Nat), .pointer pa] 158)) = wb at hcall HO e0 e1 e2 ⊢
  have hl0 : w.heap.size < wb.heap.size := lt_of_cell e0
  have hl1 : w.heap.size + 1 < wb.heap.size := lt_of_cell e1
  have hEl : 9 < w.heap.size := lt_of_cell HE.out
  cases pa with
  | none =>
    go_wp2_with (go_at_call 48; go_must (refine hcall.mono ?_); rintro e w2 ⟨rfl, ho2⟩; have HO2 : Hid (Only [] w w2) := HO.out.trans ho2 (fun _ hk => by cases hk); have cE : w2.cell? ⟨9, 0, none⟩ = some E := (HO2.out.cell (p := ⟨9, 0, none⟩) hEl (by simp)).trans HE.out)
    go_region
    go_wp2
    exact bodyPost_ret (v := .tuple #[.pointer none, E]) (by simp [results, Tryd.results54, go_sem]) rfl ⟨Or.inl ⟨Or.inl rfl, rfl⟩, HO2.out.drew⟩
  | some a =>
    by_cases hG : (gi : Int) = G
    · subst hG
      go_wp2_with (go_at_call 48; go_must (refine hcall.mono ?_); rintro e w2 ⟨rfl, ho2⟩; have HO2 : Hid (Only [] w w2) := HO.out.trans ho2 (fun _ hk => by cases hk); have x0 := (ho2.cell (p := ⟨w.heap.size, 1, none⟩) hl0 (by simp)).trans e0; have x1 := (ho2.cell (p := ⟨w.heap.size + 1, 0, none⟩) hl1 (by simp)).trans e1; have x2 := (ho2.cell (p := ⟨w.heap.size + 1, 1, none⟩) hl1 (by simp)).trans e2)
      exact bodyPost_ret (v := .tuple #[.pointer (some a), .nilIface]) (by simp [results, Tryd.results54, go_sem]) rfl ⟨Or.inr ⟨by simp, rfl⟩, HO2.out⟩
    · go_wp2_with (go_at_call 48; go_must (refine hcall.mono ?_); rintro e w2 ⟨rfl, ho2⟩; have HO2 : Hid (Only [] w w2) := HO.out.trans ho2 (fun _ hk => by cases hk); have x0 := (ho2.cell (p := ⟨w.heap.size, 1, none⟩) hl0 (by simp)).trans e0; have x1 := (ho2.cell (p := ⟨w.heap.size + 1, 0, none⟩) hl1 (by simp)).trans e1; have cE : w2.cell? ⟨9, 0, none⟩ = some E := (HO2.out.cell (p := ⟨9, 0, none⟩) hEl (by simp)).trans HE.out)
      go_region
      go_wp2
      exact bodyPost_ret (v := .tuple #[.pointer none, E]) (by simp [results, Tryd.results54, go_sem]) rfl ⟨Or.inl ⟨Or.inr hG, rfl⟩, HO2.out.drew⟩
theorem find_stale (w : World) (t : Nat) (p : Row) (most : Nat) (g : Nat → Nat) (nd : Nat → Option Nod) (N G : Int) (E : Value) (h : TabAt w t p most g nd) (hE : w.cell? ⟨9, 0, none⟩ = some E) (hs : Stale0 g nd N G) :
    Calls Tryd.prog 54 #[.pointer (some ⟨t, 0, none⟩), .agg #[.int .i64 N, .int .i64 G]] w fun e w' => e = .returned (.tuple #[.pointer none, E]) ∧ Only [] w w' := by
  by_cases h1 : N < 0 ∨ (p.N : Int) ≤ N
  · exact find_beyond w t p.N p.cap _ N G E h.tab hE h1
  · obtain ⟨i, rfl⟩ : ∃ i : Nat, N = (i : Int) := ⟨N.toNat, by omega⟩
    refine (find_at w t p most i g nd G E h (by omega) hE).mono fun e w' ⟨he, ho⟩ => ⟨?_, ho⟩
    rcases he with ⟨_, he⟩ | ⟨hc, _⟩
    · exact he
    · refine absurd ?_ hc
      cases hn : nd i with
      | none => exact Or.inl rfl
      | some n => exact Or.inr (fun e => hs i n rfl hn e.symm)
set_option maxHeartbeats 1000000 in
theorem find_ok (w : World) (t : Nat) (p : Row) (most i : Nat) (g : Nat → Nat) (nd : Nat → Option Nod) (n : Nod) (h : TabAt w t p most g nd) (hn : nd i = some n) :
    Calls Tryd.prog 54 #[.pointer (some ⟨t, 0, none⟩), .agg #[.int .i64 i, .int .i64 (g i : Nat)]] w fun e w' => e = .returned (.tuple #[.pointer (some ⟨n.b, 0, none⟩), .nilIface]) ∧ Only [] w w' := by
  have hi := h.lt hn
  have ct := h.tab
  obtain ⟨b, hb, c0, c1, _, hlt⟩ := h.place_at hi
  have hpt : b ≠ t := fun e => h.pt (by rw [hb, e])
  clear h
  obtain ⟨a, most, cap⟩ := p
  simp only at hb hi
  subst hb
  simp only [Row.v, Option.map_some] at ct
  have htl : t < w.heap.size := lt_of_cell ct
  rw [hn, Option.map_some] at c1
  clear hn nd
  generalize n.b = nb at c1 ⊢
  obtain ⟨pa, hpa⟩ : ∃ pa : Option Addr, pa = some ⟨nb, 0, none⟩ := ⟨_, rfl⟩
  rw [← hpa] at c1
  have HPA : Hid (pa = some ⟨nb, 0, none⟩) := hpa
  clear hpa
  generalize g i = gi at c0 ⊢
  clear g
  have hd1 : decide ((i : Int) < 0) = false := decide_eq_false (by omega)
  have hd2 : decide ((most : Int) ≤ (i : Int)) = false := decide_eq_false (by omega)
  go_enter Tryd.func54, Tryd.ntmps54
  go_wp2
  go_big_quiet (fail)
  go_wp2
  go_region
  have hcall := isFree_any ((((w.alloc (.cells #[.int .i64 (i : Int), .int .i64 (gi : Nat)] 76)).drewN (nq + 1)).alloc (.cells #[.int .i64 (gi : Nat), .pointer pa] 158))) gi pa
  have HO : Hid (Only [] w (((w.alloc (.cells #[.int .i64 (i : Int), .int .i64 (gi : Nat)] 76)).drewN (nq + 1)).alloc (.cells #[.int .i64 (gi : Nat), .pointer pa] 158))) := (((Only.refl _ _).alloc _).drewN _).alloc _
  have e0 : (((w.alloc (.cells #[.int .i64 (i : Int), .int .i64 (gi : Nat)] 76)).drewN (nq + 1)).alloc (.cells #[.int .i64 (gi : Nat), .pointer pa] 158)).cell? ⟨w.heap.size, 1, none⟩ = some (.int .i64 (gi : Nat)) := by
    rw [World.cell?_alloc_lt _ _ _ (by simp)]
    exact cell_of_row _ _ 1 _ _ _ (heap_alloc_last w _)
  have e1 : (((w.alloc (.cells #[.int .i64 (i : Int), .int .i64 (gi : Nat)] 76)).drewN (nq + 1)).alloc (.cells #[.int .i64 (gi : Nat), .pointer pa] 158)).cell? ⟨w.heap.size + 1, 0, none⟩ = some (.int .i64 gi) := by
    have := heap_alloc_last ((w.alloc (.cells #[.int .i64 (i : Int), .int .i64 (gi : Nat)] 76)).drewN (nq + 1)) (.cells #[.int .i64 (gi : Nat), .pointer pa] 158)
    simp only [World.drewN, World.size_alloc] at this
    exact cell_of_row _ _ 0 _ _ _ this
  have e2 : (((w.alloc (.cells #[.int .i64 (i : Int), .int .i64 (gi : Nat)] 76)).drewN (nq + 1)).alloc (.cells #[.int .i64 (gi : Nat), .pointer pa] 158)).cell? ⟨w.heap.size + 1, 1, none⟩ = some (.pointer pa) := by
    have := heap_alloc_last ((w.alloc (.cells #[.int .i64 (i : Int), .int .i64 (gi : Nat)] 76)).drewN (nq + 1)) (.cells #[.int .i64 (gi : Nat), .pointer pa] 158)
    simp only [World.drewN, World.size_alloc] at this
    exact cell_of_row _ _ 1 _ _ _ this
  clear c0 c1 ct
  generalize (((w.alloc (.cells #[.int .i64 (i : Int), .int .i64 (gi : Nat)] 76)).drewN (nq + 1)).alloc (.cells #[.int .i64 (gi : Nat), .pointer pa] 158)) = wb at hcall HO e0 e1 e2 ⊢
  have hl0 : w.heap.size < wb.heap.size := lt_of_cell e0
  have hl1 : w.heap.size + 1 < wb.heap.size := lt_of_cell e1
  obtain rfl := HPA.out
  clear HPA
  go_wp2_with (go_at_call 48; go_must (refine hcall.mono ?_); rintro e w2 ⟨rfl, ho2⟩; have HO2 : Hid (Only [] w w2) := HO.out.trans ho2 (fun _ hk => by cases hk); have x0 := (ho2.cell (p := ⟨w.heap.size, 1, none⟩) hl0 (by simp)).trans e0; have x1 := (ho2.cell (p := ⟨w.heap.size + 1, 0, none⟩) hl1 (by simp)).trans e1; have x2 := (ho2.cell (p := ⟨w.heap.size + 1, 1, none⟩) hl1 (by simp)).trans e2)
  exact bodyPost_ret (v := .tuple #[.pointer (some ⟨nb, 0, none⟩), .nilIface]) (by simp [results, Tryd.results54, go_sem]) rfl ⟨rfl, HO2.out⟩
end Go.Proofs.YtmfcfkomdflhlaaDoor
