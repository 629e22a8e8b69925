/- A disk: a write that is done. -/
import Derived.Test.YtlcloahkeamdkaaDoorDk6
import Derived.Shelf.Spec.SlicesInsert
import Derived.Lib.AppendZerosOnto
import Derived.Lib.Overlaps
namespace Go.Proofs.YtlcloahkeamdkaaDoor
open Go Go.RowKit Go.Deep

set_option maxHeartbeats 2000000 in
set_option maxRecDepth 100000 in
theorem write_ok (A : Nat → Addr) {w : World} {base t : Nat} {pw : Option Nat} {vs vw : Value} {sec : List Sec} {wt : List Wr} (hE : Err3 w A) (h : DkAt w base t pw vs vw sec wt) (n : Nat) (s : ByteArray) (x0 : Sec) (hx0 : sec[n]? = some x0) (hs : s.size ≤ 64) (hp : pw ≠ some 0) (hq : ∀ k, pw = some k → k < 9223372036854775808) (hw : wt.length ≤ 100000) (hb0 : base ≤ w.heap.size) :
    Calls Tryd.prog 35 #[.pointer (some ⟨t, 0, none⟩), .int .i64 (n : Nat), .string s] w fun e w' => e = .returned .nilIface ∧ ∃ vw', DkAt w' base t (pw.map (· - 1)) vs vw' (sec.set n (padB s)) (wt ++ [⟨n, x0, padB s⟩]) ∧ Only (dkFoot t vs vw) w w' ∧ (∀ k, vw'.ownBlock = some k → vw.ownBlock = some k ∨ w.heap.size ≤ k) := by
  have hlt : n < sec.length := (List.getElem?_eq_some_iff.1 hx0).1
  have hm := h.most
  have hh := has_any h (n : Int)
  rw [decide_eq_true (by omega)] at hh
  have H : Hid (Calls Tryd.prog 53 #[.pointer (some ⟨t, 0, none⟩), .int .i64 (n : Nat)] w fun e w' => e = .returned (.bool true) ∧ w' = w) := hh
  obtain ⟨g, cap, cur0, rfl, _, hg0, hcap, hcs, _⟩ := h.row
  have H1 : Hid (Calls Tryd.prog 54 #[.pointer (some ⟨t, 0, none⟩)] w fun e w' => e = .returned .nilIface ∧ DkAt w' base t (pw.map (· - 1)) (.slice (some ⟨g, 0, none⟩) sec.length cap) vw sec wt ∧ Only [t] w w') := (spend_any A hE h hq).mono fun e w' q => by
    rcases q with q | q
    · exact absurd q.1 hp
    · exact q.2
  have d0 : decide ((64 : Int) < (s.size : Int)) = false := decide_eq_false (by omega)
  have ht := h.lt
  have hsl := fun W g o => slice_all W g o
  have HX : Hid (sec[n]? = some x0) := hx0
  clear hE h hh hx0
  go_enter Tryd.func35, Tryd.ntmps35
  go_upto_region 8 with (first
    | (go_at_call 53; refine H.out.mono ?_; rintro e w0 ⟨rfl, h0⟩; have h1 := h0.symm; subst h1; clear h0)
    | (go_at_call 54; refine H1.out.mono ?_; rintro e w1 ⟨rfl, hd, ho⟩
       have HD : Hid (DkAt w1 base t (pw.map (· - 1)) (.slice (some ⟨g, 0, none⟩) sec.length cap) vw sec wt) := hd
       have HO : Hid (Only [t] w w1) := ho
       have c2 := hd.cells.2.2.1
       have ht1 := hd.lt
       have hrg : Hid (w1.rangeAt g (n * 64) (secC x0)) := hd.range rfl HX.out
       clear hd ho)
    | go_in)
  clear H H1
  go_upto_region 9 with (first
    | (refine wpList_load_mid rfl 81 _ rfl g (n * 64) rfl (secC x0) _ hrg.out secUnd rfl (by rw [secC_len]; exact secSize) ?_)
    | (refine wpList_wrb rfl _ _ rfl n x0 rfl rfl ?_)
    | (refine wpList_newWr rfl rfl ?_; intro w2 r2 o2)
    | (refine wpList_store_row rfl 83 _ _ rfl w1.heap.size (wrC ⟨n, x0, zeroS⟩).toArray rfl rfl 83 _ r2 (by rw [wrSize]; simp [wrC_len]) (by simp [wrC_len]) (all_oneCell_toArray (wrC_one _)) ?_
       have r3 := setRow_heap w2 w1.heap.size _ (wrC ⟨n, x0, zeroS⟩).toArray 83 _ r2
       have o3 := (o2.mono (L' := [w1.heap.size]) (by simp)).trans (only_rowS w2 w1.heap.size (wrC ⟨n, x0, zeroS⟩).toArray) (fun _ h => Or.inl h)
       generalize w2.setRow w1.heap.size (wrC ⟨n, x0, zeroS⟩).toArray = w3 at r3 o3 ⊢
       have hcp := fun ty => run_copy_str (P := Tryd.prog) w3 101 9 ty 5 w1.heap.size 65 64 64 s (wrC ⟨n, x0, zeroS⟩).toArray 83 Tryd.underlying101 (by kernel_rfl) r3 hs (by simp [wrC_len]; omega)
       have r4 := setRow_heap w3 w1.heap.size _ (overV (wrC ⟨n, x0, zeroS⟩).toArray.toList 65 (Lib.byteCells s.data.toList)).toArray 83 _ r3
       have o4 := o3.trans (only_rowS w3 w1.heap.size (overV (wrC ⟨n, x0, zeroS⟩).toArray.toList 65 (Lib.byteCells s.data.toList)).toArray) (fun _ h => Or.inl h)
       generalize w3.setRow w1.heap.size (overV (wrC ⟨n, x0, zeroS⟩).toArray.toList 65 (Lib.byteCells s.data.toList)).toArray = w4 at r4 o4 hcp
       rw [show (wrC ⟨n, x0, zeroS⟩).toArray.toList = wrC ⟨n, x0, zeroS⟩ from rfl, wr_copied n x0 hs] at r4
       clear r2 o2 r3 o3)
    | go_in)
  go_upto_region 10 with (first
    | (refine wpList_copied2 rfl _ _ 101 9 rfl _ _ rfl rfl hcp ?_)
    | go_in)
  have o4' : Only [] w1 w4.drew := (o4.mono (fun i hi => Or.inr (by simp at hi; omega))).drew
  have D4 : Hid (DkAt w4.drew base t (pw.map (· - 1)) (.slice (some ⟨g, 0, none⟩) sec.length cap) vw sec wt) := HD.out.keep o4'
  have R4 : Hid (w4.drew.heap[w1.heap.size]? = some (.cells (wrC ⟨n, x0, padB s⟩).toArray 83 (0, 0))) := r4
  have r4d : w4.drew.heap[w1.heap.size]? = some (.cells (wrC ⟨n, x0, padB s⟩).toArray 83 (0, 0)) := r4
  have hrg4 : w4.drew.rangeAt w1.heap.size 65 (secC (padB s)) := fun j v hv => by
    rw [cell_of_row _ _ _ _ _ _ r4d]
    have hj := (List.getElem?_eq_some_iff.1 hv).1
    have e : wrC ⟨n, x0, padB s⟩ = (.int .i64 (n : Nat) :: secC x0) ++ secC (padB s) := rfl
    rw [e, List.getElem?_toArray, List.getElem?_append_right (by simp [secC_len]), ← hv]
    congr 1
    simp [secC_len]
  obtain ⟨g', cap', cur4, e4, _, hg4, hcap4, hcs4, _⟩ := D4.out.row
  cases e4
  have hfit : n * 64 + (secC (padB s)).length ≤ cur4.size := by rw [secC_len, hcs4]; omega
  have hth : w4.drew.there g (n * 64) 64 := fun j hj => ⟨by rw [cell_of_row _ _ _ _ _ _ hg4]; simp; omega, frozen_of_row _ _ _ _ _ hg4⟩
  have hsc := setCells_over (w := w4.drew) (off := n * 64) hg4 hfit (secC_one _)
  have D5 : Hid (DkAt (w4.drew.setCells g (n * 64) (secC (padB s))) base t (pw.map (· - 1)) (.slice (some ⟨g, 0, none⟩) sec.length cap) vw (sec.set n (padB s)) wt ∧ Only [g] w4.drew (w4.drew.setCells g (n * 64) (secC (padB s)))) := by
    have ho := only_rowS w4.drew g (overV cur4.toList (n * 64) (secC (padB s))).toArray
    rw [← hsc] at ho
    have hd := D4.out
    refine ⟨⟨(ho.block t hd.lt (by simpa using fun e => hd.ne1 (k := g) rfl e.symm)).trans hd.blk, hd.tb, ?_, ho.owns hd.wts (fun k hk => by simpa using fun e => hd.ne3 (k := g) rfl hk e.symm), by simpa using hd.ins, by simpa using hd.pos, by simpa using hd.most⟩, ho⟩
    rw [hsc]
    exact own_set secC_len hd.secs hg4 rfl hlt (padB s)
  have c4 := D4.out.cells.2.2.1
  have c5 := D5.out.1.cells.2.2.1
  have ht4 := D4.out.lt
  have hS4 : w4.drew.cell? ⟨t, 2, none⟩ = some (.slice (some ⟨g, 0, none⟩) sec.length cap) ∧ w4.drew.rangeAt w1.heap.size 65 (secC (padB s)) ∧ w4.drew.there g (n * 64) 64 := ⟨c4, hrg4, hth⟩
  have hS5 : (w4.drew.setCells g (n * 64) (secC (padB s))).cell? ⟨t, 2, none⟩ = some (.slice (some ⟨g, 0, none⟩) sec.length cap) ∧ (w4.drew.setCells g (n * 64) (secC (padB s))).rangeAt w1.heap.size 65 (secC (padB s)) ∧ (w4.drew.setCells g (n * 64) (secC (padB s))).there g (n * 64) 64 := by
    have hgb : w1.heap.size ≠ g := fun e => by
      have := own_blk HD.out.secs (b := g) rfl
      omega
    exact ⟨c5, World.rangeAt_setCells_apart hrg4 g (n * 64) _ (Or.inl hgb), World.there_setCells hth g (n * 64) _⟩
  have hu1 := secUnd
  have hl1 : (secC (padB s)).length = 64 := secC_len _
  have hi1 : (Tryd.prog.info? 81).map (·.size) = some (secC (padB s)).length := by rw [hl1]; exact secSize
  have hone := secC_one (padB s)
  have b0 : (0 : Int) ≤ (n : Int) := by omega
  have b1 : (n : Int) < (sec.length : Int) := by omega
  clear hcp hsl hrg r4 r4d o4 c2 hfit hsc hg4 hcs4 hcap4 hg0 hcs hcap HX
  go_region_held3 (fun W => W.cell? ⟨t, 2, none⟩ = some (.slice (some ⟨g, 0, none⟩) sec.length cap) ∧ W.rangeAt w1.heap.size 65 (secC (padB s)) ∧ W.there g (n * 64) 64) (first | exact hS4 | exact hS5) (fail)
  have R5 : Hid ((w4.drew.setCells g (n * 64) (secC (padB s))).heap[w1.heap.size]? = some (.cells (wrC ⟨n, x0, padB s⟩).toArray 83 (0, 0))) := by
    have hgb : w1.heap.size ≠ g := fun e => by
      have := own_blk HD.out.secs (b := g) rfl
      omega
    exact (D5.out.2.block w1.heap.size (Array.getElem?_eq_some_iff.1 R4.out).1 (by simpa using hgb)).trans R4.out
  have O5 : Hid (Only (dkFoot t (.slice (some ⟨g, 0, none⟩) sec.length cap) vw) w (w4.drew.setCells g (n * 64) (secC (padB s)))) :=
    (((HO.out.mono (fun k hk => Or.inl (mem_foot.2 (Or.inl (by simpa using hk))))).trans o4' (fun _ hk => by cases hk)).trans D5.out.2 (fun k hk => Or.inl (mem_foot.2 (Or.inr (Or.inl (by simp at hk; simp [Value.ownBlock, hk]))))))
  have HZ : Hid (w.heap.size ≤ w1.heap.size) := HO.out.size
  obtain ⟨D5, _⟩ := D5.out
  have D5 : Hid (DkAt (w4.drew.setCells g (n * 64) (secC (padB s))) base t (pw.map (· - 1)) (.slice (some ⟨g, 0, none⟩) sec.length cap) vw (sec.set n (padB s)) wt) := D5
  generalize w4.drew.setCells g (n * 64) (secC (padB s)) = w5 at *
  have hr5 : w5.drew.rangeAt w1.heap.size 0 (wrC ⟨n, x0, padB s⟩) := fun j v hv => by rw [Nat.zero_add]; exact (cell_of_row _ _ _ _ _ _ R5.out).trans (by simpa using hv)
  have hra : ∀ x : Wr, (w5.drew.alloc (.cells (wrC x).toArray 83)).cell? ⟨t, 3, none⟩ = w5.drew.cell? ⟨t, 3, none⟩ := fun x => World.cell?_alloc_lt _ _ _ D5.out.lt
  obtain ⟨x, hx⟩ : ∃ x : Wr, (⟨n, x0, padB s⟩ : Wr) = x := ⟨_, rfl⟩
  have HX1 : Hid (x.n = n) := by rw [← hx]; exact (rfl : n = n)
  have HXE : Hid ((⟨n, x0, padB s⟩ : Wr) = x) := hx
  rw [hx] at R5 hr5
  clear hx
  obtain ⟨ad, capw, hvw⟩ := own_slice D5.out.wts
  subst hvw
  obtain ⟨m, hmw⟩ : ∃ m, wt.length = m := ⟨_, rfl⟩
  rw [hmw] at D5 O5 hw
  have c3 := D5.out.cells.2.2.2.1
  have f3 := D5.out.cells.2.2.2.2 3
  have ht5 := D5.out.lt
  have HM : Hid (wt.length = m) := hmw
  have oa : Only [] w5 (w5.drew.alloc (.cells (wrC x).toArray 83)) := ((Only.refl [] w5).drew).alloc _
  have HNW : Hid (∀ (r1 : Nat) (q1 : Value), (wrC x)[r1]? = some q1 → (w5.drew.alloc (.cells (wrC x).toArray 83)).cell? ((⟨w5.heap.size, 0, none⟩ : Addr).add r1) = some q1) := World.news_of_block (w := (w5.drew.alloc (.cells (wrC x).toArray 83))) (heap_alloc_last w5.drew (.cells (wrC x).toArray 83))
  have HRA : Hid ((w5.drew.alloc (.cells (wrC x).toArray 83)).ownsRow base 83 129 (.slice ad m capw) m (rowOf wrC wt)) := by
    have := (D5.out.keep oa).wts
    rw [hmw] at this
    exact this
  have HB2 : Hid (base ≤ (w5.drew.alloc (.cells (wrC x).toArray 83)).heap.size) := Nat.le_trans hb0 (Nat.le_trans O5.out.size oa.size)
  have HSA : Hid ((w5.drew.alloc (.cells (wrC x).toArray 83)).heap.size = w5.heap.size + 1) := (by simp : (w5.drew.alloc (.cells (wrC x).toArray 83)).heap.size = w5.heap.size + 1)
  have HEND : Hid (∀ w6 g6 c6, (w5.drew.alloc (.cells (wrC x).toArray 83)).grownBy w6 (Value.slice ad m capw).ownBlock → w6.ownsRow base 83 129 (.slice (some ⟨g6, 0, none⟩) (m + 1) c6) (m + 1) (rowOf wrC wt ++ wrC x) → ((Value.slice ad m capw).ownBlock = some g6 ∨ g6 = w5.heap.size + 1) → w6.cell? ⟨t, 3, none⟩ = some (.slice ad m capw) ∧ w6.frozen? ⟨t, 3, none⟩ = false ∧ t < w6.heap.size ∧
      ∃ vw', DkAt (w6.setCell ⟨t, 3, none⟩ (.slice (some ⟨g6, 0, none⟩) (m + 1) c6)) base t (pw.map (· - 1)) (.slice (some ⟨g, 0, none⟩) sec.length cap) vw' (sec.set n (padB s)) (wt ++ [x]) ∧ Only (dkFoot t (.slice (some ⟨g, 0, none⟩) sec.length cap) (.slice ad m capw)) w (w6.setCell ⟨t, 3, none⟩ (.slice (some ⟨g6, 0, none⟩) (m + 1) c6)) ∧ (∀ k, vw'.ownBlock = some k → (Value.slice ad m capw).ownBlock = some k ∨ w.heap.size ≤ k)) := fun w6 g6 c6 hgr hrow hat => by
    have hd := D5.out
    have hq1 : Only (Value.slice ad m capw).ownBlock.toList w5 w6 := (oa.mono (fun _ hk => by cases hk)).grown hgr (fun k hk => Or.inl (by rw [hk]; simp))
    have hvt : ∀ k ∈ (Value.slice ad m capw).ownBlock.toList, k ≠ t := fun k hk => hd.ne2 (by simpa using hk)
    have hvg : ∀ k ∈ (Value.slice ad m capw).ownBlock.toList, k ≠ g := fun k hk e => hd.ne3 (k := g) rfl (by simpa using hk) e.symm
    have hb6 := (hq1.block t hd.lt (fun hm => hvt t hm rfl)).trans hd.blk
    have hos : Only [t] w6 (w6.setCell ⟨t, 3, none⟩ (.slice (some ⟨g6, 0, none⟩) (m + 1) c6)) := (Only.refl [t] w6).setCell (Or.inl (by simp)) _
    have hgt : g6 ≠ t := by
      rcases hat with e | e
      · exact hvt g6 (by rw [e]; simp)
      · have := hd.lt
        omega
    have hs6 := hq1.owns hd.secs (fun k hk => by
      cases hk
      intro hm
      exact hvg g hm rfl)
    refine ⟨cell_of_row _ _ 3 _ _ _ hb6, frozen_of_row _ _ _ _ _ hb6, (Array.getElem?_eq_some_iff.1 hb6).1, _, ⟨heap_setCell_same w6 t 3 _ _ _ hb6, hd.tb, hos.owns hs6 (fun k hk => by simpa using hd.ne1 hk), ?_, ?_, hd.pos, hd.most⟩, ?_, ?_⟩
    · have hr2 := hos.owns hrow (fun k hk => by cases hk; simpa using hgt)
      rw [List.length_append, List.length_singleton, HM.out, rowOf_append]
      simpa [rowOf] using hr2
    · intro y hy
      rcases List.mem_append.1 hy with hy | hy
      · exact hd.ins y hy
      · rw [List.mem_singleton.1 hy, HX1.out]
        simpa using hlt
    · exact (O5.out.trans hq1 (fun k hk => Or.inl (mem_foot.2 (Or.inr (Or.inr (by simpa using hk)))))).trans hos (fun k hk => Or.inl (mem_foot.2 (Or.inl (by simpa using hk))))
    · intro k hk
      have h9 : some g6 = some k := hk
      injection h9 with h9
      subst h9
      rcases hat with e | e
      · exact Or.inl e
      · exact Or.inr (by have := O5.out.size; rw [e]; omega)
  obtain ⟨i0, hi0, hz⟩ := Option.map_eq_some_iff.1 wrInfo
  simp only [Prod.mk.injEq] at hz
  obtain ⟨hz0, hz1, hz2⟩ := hz
  clear hmw oa hS4 hS5 c4 c5 hu1 hl1 hi1 hone hrg4 hth HD HO o4' D4 R4 R5 O5 D5 HX1
  have HC3 := hra x
  have c3d : w5.drew.cell? ⟨t, 3, none⟩ = some (.slice ad m capw) := c3
  rw [c3d] at HC3
  have HC4 : (w5.alloc (.cells (wrC x).toArray 83)).cell? ⟨t, 3, none⟩ = some (.slice ad m capw) := HC3
  have hrd : Hid (w5.drew.rangeAt w1.heap.size 0 (wrC x)) := hr5
  have hwu := Tryd.underlying83
  clear hra hr5 c3 f3
  go_upto_region 11 with (fail)
  refine wp_region_any (by kernel_rfl) ?_
  change wpAny _ _ _ _ _ _ _ (World.drew _)
  refine wpAny_take (i := 0) (v := ?_) rfl (by kernel_rfl) (by kernel_rfl) (by kernel_rfl) (fun _ _ _ h => h) (Or.inl ⟨by rfl, ?_⟩) ?_
  rotate_left
  · intro w; go_simp; try with_reducible rfl
  refine wpAny_take (i := 1) (v := ?_) rfl (by kernel_rfl) (by kernel_rfl) (by kernel_rfl) (fun _ _ _ h => h) (Or.inl ⟨by rfl, ?_⟩) ?_
  rotate_left
  · intro w; go_simp; try with_reducible rfl
  refine wpAny_take (i := 2) (v := ?_) rfl (by kernel_rfl) (by kernel_rfl) (by kernel_rfl) (fun _ _ _ h => h) (Or.inl ⟨by rfl, ?_⟩) ?_
  rotate_left
  · intro w; go_simp; try with_reducible rfl
  refine wpAny_take (i := 3) (v := ?_) rfl (by kernel_rfl) (by kernel_rfl) (by kernel_rfl) (fun _ _ _ h => h) (Or.inl ⟨by rfl, ?_⟩) ?_
  rotate_left
  · intro w; go_simp; try with_reducible rfl
  refine wpAny_ready (rs := [4, 5]) (by kernel_rfl) (by simp) ?_
  refine AllReady.cons rfl (fun K hK => ?_) (AllReady.cons rfl (fun K hK => ?_) AllReady.nil)
  rotate_left
  refine step_load_mid (by rfl) 83 _ (by rfl) w1.heap.size 0 (by rfl) (wrC x) _ hrd.out hwu rfl (by rw [wrC_len]; exact wrSize) ?_
  refine hK _ _ ?_
  clear hK K
  refine wpAny_ready (rs := [4, 6]) (by kernel_rfl) (by simp) ?_
  refine AllReady.cons rfl (fun K hK => ?_) (AllReady.cons rfl (fun K hK => ?_) AllReady.nil)
  rotate_left
  refine step_one (by rfl) _ (by rfl) x (by rfl) ?_
  refine hK _ _ ?_
  clear hK K
  refine wpAny_ready (rs := [4]) (by kernel_rfl) (by simp) ?_
  refine AllReady.cons rfl (fun K hK => ?_) AllReady.nil
  go_simp
  refine hK _ _ ?_
  clear hK K
  rotate_left
  go_simp
  refine hK _ _ ?_
  clear hK K
  refine wpAny_ready (rs := [5]) (by kernel_rfl) (by simp) ?_
  refine AllReady.cons rfl (fun K hK => ?_) AllReady.nil
  refine step_load_mid (by rfl) 83 _ (by rfl) w1.heap.size 0 (by rfl) (wrC x) _ hrd.out hwu rfl (by rw [wrC_len]; exact wrSize) ?_
  refine hK _ _ ?_
  clear hK K
  refine wpAny_ready (rs := [6]) (by kernel_rfl) (by simp) ?_
  refine AllReady.cons rfl (fun K hK => ?_) AllReady.nil
  refine step_one (by rfl) _ (by rfl) x (by rfl) ?_
  refine hK _ _ ?_
  clear hK K
  rotate_left
  go_simp
  refine hK _ _ ?_
  clear hK K
  refine wpAny_ready (rs := [6]) (by kernel_rfl) (by simp) ?_
  refine AllReady.cons rfl (fun K hK => ?_) AllReady.nil
  refine step_one (by rfl) _ (by rfl) x (by rfl) ?_
  refine hK _ _ ?_
  clear hK K
  all_goals
    refine wpAny_ready (rs := [7]) (by kernel_rfl) (by simp) ?_
    refine AllReady.cons rfl (fun K hK => ?_) AllReady.nil
    refine step_append_lies _ (by rfl) (.tmp 52) (.tmp 54) 58 (by rfl) base 83 i0 _ 129 136 wrsUnd hi0 hz0 hz1 hz2 (by rfl) (by decide) (.slice ad m capw) m (rowOf wrC wt) (by rfl) HRA.out ⟨w5.heap.size, 0, none⟩ 1 1 (wrC x) (by rfl) (by rw [wrC_len]) HNW.out (wrC_one _) (by decide) (by unfold maxLen; omega) (by omega) HB2.out (w5.heap.size + 1) HSA.out ?_
    intro g6 c6 w6 hown6 hgr6 hat6 hlt6
    obtain ⟨e0, e1, e2, hR⟩ := HEND.out w6 g6 c6 hgr6 hown6 hat6
    have HR : Hid (∃ vw', DkAt (w6.setCell ⟨t, 3, none⟩ (.slice (some ⟨g6, 0, none⟩) (m + 1) c6)) base t (pw.map (· - 1)) (.slice (some ⟨g, 0, none⟩) sec.length cap) vw' (sec.set n (padB s)) (wt ++ [x]) ∧ Only (dkFoot t (.slice (some ⟨g, 0, none⟩) sec.length cap) (.slice ad m capw)) w (w6.setCell ⟨t, 3, none⟩ (.slice (some ⟨g6, 0, none⟩) (m + 1) c6)) ∧ (∀ k, vw'.ownBlock = some k → (Value.slice ad m capw).ownBlock = some k ∨ w.heap.size ≤ k)) := hR
    clear hown6 hgr6 hat6 hlt6 hR
    refine hK _ _ ?_
    clear hK K
    refine wpAny_ready (rs := [8]) (by kernel_rfl) (by simp) ?_
    refine AllReady.cons rfl (fun K hK => ?_) AllReady.nil
    go_simp
    refine hK _ _ ?_
    clear hK K
    refine wpAny_ready (rs := [9]) (by kernel_rfl) (by simp) ?_
    refine AllReady.cons rfl (fun K hK => ?_) AllReady.nil
    go_simp
    refine hK _ _ ?_
    clear hK K
    refine wpAny_ready (rs := [10]) (by kernel_rfl) (by simp) ?_
    refine AllReady.cons rfl (fun K hK => ?_) AllReady.nil
    go_simp
    refine hK _ _ ?_
    clear hK K
    refine wpAny_done (by kernel_rfl) ?_ _
    go_wp2
    go_ret
    exact ⟨rfl, by rw [HXE.out, HM.out]; exact HR.out⟩
end Go.Proofs.YtlcloahkeamdkaaDoor
