/- A log in memory: its head, what it writes. -/
import Derived.Test.YtlcloahkeamdkaaDoorG2
/- A log in memory: its head, what it writes. -/
namespace Go.Proofs.YtlcloahkeamdkaaDoor
open Go Go.RowKit Go.Deep

/-- Whatever is no part of a disk, and no log, is as it was. -/
structure OthL (w w' : World) : Prop where
  size : w.heap.size ≤ w'.heap.size
  block : ∀ (k : Nat) (cs : Array Value) (ty : TypeId) (fr : Nat × Nat), w.heap[k]? = some (.cells cs ty fr) → ty ≠ 60 → ty ≠ 81 → ty ≠ 83 → ty ≠ 71 → w'.heap[k]? = some (.cells cs ty fr)
theorem OthL.refl (w : World) : OthL w w := ⟨Nat.le_refl _, fun _ _ _ _ h _ _ _ _ => h⟩
theorem OthL.trans {a b c : World} (h : OthL a b) (k : OthL b c) : OthL a c := ⟨Nat.le_trans h.size k.size, fun j cs ty fr hc h1 h2 h3 h4 => k.block j cs ty fr (h.block j cs ty fr hc h1 h2 h3 h4) h1 h2 h3 h4⟩
theorem Oth.toL {a b : World} (h : Oth a b) : OthL a b := ⟨h.size, fun j cs ty fr hc h1 h2 h3 _ => h.block j cs ty fr hc h1 h2 h3⟩
theorem OthL.of_only {a b : World} (h : Only [] a b) : OthL a b := (Oth.of_only h).toL
/-- A log in memory. -/
structure LogAt (w : World) (g : Dv) (l : Nat) (dark : Bool) : Prop where
  blk : w.heap[l]? = some (.cells #[.pointer (some ⟨g.t, 0, none⟩), .bool dark] 71 (0, 0))
  ge : g.W0.heap.size ≤ l
section
variable {g : Dv} {w w' : World} {s : DSt} {l : Nat} {dark : Bool}
theorem LogAt.keep (h : LogAt w g l dark) (ho : Oth w w') : LogAt w' g l dark := ⟨ho.block l _ _ _ h.blk (by decide) (by decide) (by decide), h.ge⟩
theorem LogAt.cells (h : LogAt w g l dark) : w.cell? ⟨l, 0, none⟩ = some (.pointer (some ⟨g.t, 0, none⟩)) ∧ w.cell? ⟨l, 1, none⟩ = some (.bool dark) ∧ l < w.heap.size ∧ (∀ o, w.frozen? ⟨l, o, none⟩ = false) :=
  ⟨cell_of_row _ _ 0 _ _ _ h.blk, cell_of_row _ _ 1 _ _ _ h.blk, (Array.getElem?_eq_some_iff.1 h.blk).1, fun _ => frozen_of_row _ _ _ _ _ h.blk⟩
theorem LogAt.set (h : LogAt w g l dark) (b : Bool) : LogAt (w.setCell ⟨l, 1, none⟩ (.bool b)) g l b := ⟨heap_setCell_same w l 1 _ _ _ h.blk, h.ge⟩
theorem LogAt.oth (h : LogAt w g l dark) (v : Value) (o : Nat) : OthL w (w.setCell ⟨l, o, none⟩ v) := by
  have ho : Only [l] w (w.setCell ⟨l, o, none⟩ v) := (Only.refl [l] w).setCell (Or.inl (by simp)) _
  refine ⟨ho.size, fun k cs ty fr hc h1 h2 h3 h4 => ?_⟩
  rw [ho.block k (Array.getElem?_eq_some_iff.1 hc).1 (fun hm => ?_)]
  · exact hc
  · rw [List.mem_singleton.1 hm, h.blk] at hc
    simp only [Option.some.injEq, Obj.cells.injEq] at hc
    exact h4 hc.2.1.symm
set_option maxRecDepth 100000 in
set_option maxHeartbeats 2000000 in
theorem lhead_dark (hd : Ds g w s) (hl : LogAt w g l true) :
    Calls Tryd.prog 37 #[.pointer (some ⟨l, 0, none⟩)] w fun e w' => e = .returned (.tuple #[hdV Hd.zero, .iface 154 (.pointer (some (g.A 14)))]) ∧ Only [] w w' := by
  obtain ⟨c0, c1, hlt, fz⟩ := hl.cells
  have ce : w.cell? ⟨14, 0, none⟩ = some (.iface 154 (.pointer (some (g.A 14)))) := hd.err 14 (by simp)
  have hg : 14 < w.heap.size := lt_of_cell ce
  clear hd hl fz
  go_enter Tryd.func37, Tryd.ntmps37
  go_upto_region 2 with (fail)
  go_region
  all_goals go_wp2
  all_goals exact bodyPost_ret (v := .tuple #[hdV Hd.zero, .iface 154 (.pointer (some (g.A 14)))]) (by simp [results, Tryd.results37, go_sem, Hd.zero]) rfl ⟨rfl, ((Only.refl _ _).alloc _).drew⟩
set_option maxRecDepth 100000 in
set_option maxHeartbeats 2000000 in
theorem lhead_lit (hd : Ds g w s) (hl : LogAt w g l false) (h : Hd) (hn : newestL s.sec = some h) :
    Calls Tryd.prog 37 #[.pointer (some ⟨l, 0, none⟩)] w fun e w' => e = .returned (.tuple #[hdV h, .nilIface]) ∧ Only [] w w' := by
  obtain ⟨c0, c1, hlt, fz⟩ := hl.cells
  have HN : Hid (∀ o, Calls Tryd.prog 22 #[.pointer (some ⟨g.t, 0, none⟩)] (w.alloc o) fun e w' => e = .returned (.tuple #[hdV h, .bool true]) ∧ Only [] (w.alloc o) w') := fun o => by
    have := (hd.keep ((Only.refl [] w).alloc o)).newest
    rw [hn] at this
    exact this
  clear hd hl fz hn
  go_enter Tryd.func37, Tryd.ntmps37
  go_upto_region 4 with (go_at_call 22; refine (HN.out _).mono ?_; rintro e w1 ⟨rfl, h1⟩; obtain ⟨k1, k2, k3, k5, k6, HO⟩ := res_kept h1; clear h1)
  have o1 : Only [] w (w1.alloc (hdO h)) := HO.out.alloc _
  have r1 : ∀ o v, w1.cell? ⟨w.heap.size, o, none⟩ = some v → (w1.alloc (hdO h)).cell? ⟨w.heap.size, o, none⟩ = some v := fun o v e => (((Only.refl [] w1).alloc (hdO h)).cell (p := ⟨w.heap.size, o, none⟩) (lt_of_cell e) (by simp)).trans e
  have f1 : ∀ o, (w1.alloc (hdO h)).frozen? ⟨w.heap.size, o, none⟩ = false := fun o => (((Only.refl [] w1).alloc (hdO h)).frozen (p := ⟨w.heap.size, o, none⟩) k6 (by simp)).trans (k5 o)
  have p0 := r1 0 _ k1
  have p1 := r1 1 _ k2
  have p2 := r1 2 _ k3
  have k7 : w.heap.size < (w1.alloc (hdO h)).heap.size := Nat.lt_of_lt_of_le k6 ((Only.refl [] w1).alloc (hdO h)).size
  obtain ⟨q0, q1, q2, q4, q5⟩ := cells3 (heap_alloc_last w1 (hdO h))
  have HO1 : Hid (Only [] w (w1.alloc (hdO h))) := o1
  clear r1 k1 k2 k3 k5 k6 HO o1 c0 c1 hlt
  generalize w1.heap.size = hb at q0 q1 q2 q4 q5 ⊢
  generalize w1.alloc (hdO h) = W1 at p0 p1 p2 f1 k7 q0 q1 q2 q4 q5 HO1 ⊢
  go_wp2
  refine bodyPost_ret (v := .tuple #[hdV h, .nilIface]) (by simp [results, Tryd.results37, go_sem, p0, p1, p2]) rfl ⟨rfl, set3 HO1.out (Nat.le_refl _) _ _ _⟩
end
end Go.Proofs.YtlcloahkeamdkaaDoor
/- A log: what it writes. -/
namespace Go.Proofs.YtlcloahkeamdkaaDoor
open Go Go.RowKit Go.Deep

def WrR (g : Dv) (w w' : World) (s : DSt) (l : Nat) (h : Hd) (L : List (List UInt8)) (e : Ending) : Prop :=
  ((s.sec.length - 2) / 2 < h.used + secsN (blkT L).length ∧ e = .returned (.iface 154 (.pointer (some (g.A 8)))) ∧ Ds g w' s ∧ LogAt w' g l false ∧ OthL w w') ∨
  (h.used + secsN (blkT L).length ≤ (s.sec.length - 2) / 2 ∧ ∃ c s', e = .returned (errN g.A c) ∧ CommP s h (blkT L) c s' ∧ Ds g w' s' ∧ LogAt w' g l (decide (c = 15)) ∧ OthL w w')
section
variable {g : Dv} {w w' : World} {s : DSt} {l : Nat}
theorem Ds.half (hd : Ds g w s) (h2 : 2 ≤ s.sec.length) : Calls Tryd.prog 57 #[.pointer (some ⟨g.t, 0, none⟩)] w fun e w' => e = .returned (.int .i64 ((s.sec.length - 2) / 2 : Nat)) ∧ w' = w := by
  obtain ⟨vw, hk⟩ := hd.dk
  exact half_ok hk h2
theorem half_room {h : Hd} {T : List UInt8} {N : Nat} (h0 : h.half ≤ 1) (hN : 8 ≤ N) (h2 : h.used + secsN T.length ≤ (N - 2) / 2) : h.first N + h.used + secsN T.length ≤ N := by
  have h6 : h.half = 0 ∨ h.half = 1 := by omega
  show (2 + h.half * ((N - 2) / 2)) + h.used + secsN T.length ≤ N
  rcases h6 with h6 | h6 <;> rw [h6] <;> omega
set_option maxRecDepth 100000 in
set_option maxHeartbeats 4000000 in
theorem lwrite_any (hd : Ds g w s) (hl : LogAt w g l false) (h : Hd) (hk : h.Ok) (h0 : h.half ≤ 1) (hN : 8 ≤ s.sec.length) (hw : s.wt = []) (ad : Option Addr) (cap : Nat) (L : List (List UInt8)) (hT : TxIn w ad L) (hL : L.length ≤ 2000000) (hW : wgt L < 4294967296) :
    Calls Tryd.prog 38 #[.pointer (some ⟨l, 0, none⟩), hdV h, .slice ad L.length cap] w fun e w' => WrR g w w' s l h L e := by
  obtain ⟨wb, hwb⟩ : ∃ wb, w.alloc (hdO h) = wb := ⟨_, rfl⟩
  have o0 : Only [] w wb := by rw [← hwb]; exact (Only.refl [] w).alloc _
  have e0 : wb.heap[w.heap.size]? = some (.cells #[.int .u32 (h.calls : Nat), .int .i64 (h.half : Nat), .int .i64 (h.used : Nat)] 64 (0, 0)) := by rw [← hwb]; exact heap_alloc_last w _
  have hmost := hd.most.2
  have HBK : Hid (Calls Tryd.prog 55 #[.slice ad L.length cap] wb fun e w' => e = .returned (.string (bs (blkT L))) ∧ Only [] wb w') := block_ok wb ad cap L (hT.only o0) hL (by omega)
  have hbl := blkT_len L
  have HSN : Hid (∀ W, Calls Tryd.prog 56 #[.string (bs (blkT L))] W fun e w' => e = .returned (.int .i64 (secsN (blkT L).length : Nat)) ∧ w' = W) := fun W => by
    have := sectorsOf_ok W (bs (blkT L)) (by rw [bs_size]; omega)
    rwa [bs_size] at this
  have HD0 : Hid (Ds g wb s) := hd.keep o0
  have HLG0 : Hid (LogAt wb g l false) := hl.keep (Oth.of_only o0)
  have HE0 : Hid (wb.heap[w.heap.size]? = some (.cells #[.int .u32 (h.calls : Nat), .int .i64 (h.half : Nat), .int .i64 (h.used : Nat)] 64 (0, 0))) := e0
  have HO0 : Hid (Only [] w wb) := o0
  have HOK : Hid h.Ok := hk
  have hus := hk.used
  have hsn : secsN (blkT L).length ≤ 4294967296 := by unfold secsN; omega
  obtain ⟨k, hkk⟩ : ∃ k, secsN (blkT L).length = k := ⟨_, rfl⟩
  have hadd : IntKind.i64.wrap ((h.used : Int) + (k : Int)) = ((h.used + k : Nat) : Int) := by rw [IntKind.wrap_i64]; omega
  have HKK : Hid (secsN (blkT L).length = k) := hkk
  have HRM : Hid (h.used + k ≤ (s.sec.length - 2) / 2 → h.first s.sec.length + h.used + secsN (blkT L).length ≤ s.sec.length) := fun e => half_room h0 hN (by omega)
  have HWS : Hid (s.wt = []) := hw
  have HHB : Hid (h.half ≤ 1) := h0
  have HN8 : Hid (8 ≤ s.sec.length) := hN
  have HBL : Hid (h.used + k ≤ (s.sec.length - 2) / 2 → (blkT L).length ≤ 1000000) := fun e => by rw [← hkk] at e; unfold secsN at e; omega
  rw [hkk] at HSN
  clear hd hl hk h0 hw hT o0 e0 hkk hbl hsn hus hW
  obtain ⟨BT, hBT⟩ : ∃ BT, bs (blkT L) = BT := ⟨_, rfl⟩
  rw [hBT] at HBK HSN
  have HBT : Hid (bs (blkT L) = BT) := hBT
  clear hBT
  go_enter Tryd.func38, Tryd.ntmps38
  go_upto_region 2 with (go_at_call 55; refine HBK.out.mono ?_; rintro e w1 ⟨rfl, h1⟩; have HO : Hid (Only [] wb w1) := h1; clear h1)
  clear hwb HBK
  have HD1 : Hid (Ds g w1 s) := HD0.out.keep HO.out
  have HLG1 : Hid (LogAt w1 g l false) := HLG0.out.keep (Oth.of_only HO.out)
  have HOT : Hid (Oth w w1) := (Oth.of_only HO0.out).trans (Oth.of_only HO.out)
  have HB1 : Hid (w1.heap[w.heap.size]? = some (.cells #[.int .u32 (h.calls : Nat), .int .i64 (h.half : Nat), .int .i64 (h.used : Nat)] 64 (0, 0))) := kept3 HE0.out HO.out
  clear HD0 HLG0 HE0 HO0 HO
  obtain ⟨hb, ehb⟩ : ∃ hb, w.heap.size = hb := ⟨_, rfl⟩
  rw [ehb] at HB1 ⊢
  clear ehb
  have HTH : Hid (∀ n, Calls Tryd.prog 57 #[.pointer (some ⟨g.t, 0, none⟩)] (w1.drewN n) fun e w' => e = .returned (.int .i64 ((s.sec.length - 2) / 2 : Nat)) ∧ w' = w1.drewN n) := fun n => (HD1.out.keep (drewsD (Only.refl [] _) n)).half (by have := HN8.out; omega)
  obtain ⟨z0, z1, z2, z4, z5⟩ := cells3 HB1.out
  obtain ⟨l0, l1, l2, l3⟩ := HLG1.out.cells
  have ce : w1.cell? ⟨1, 0, none⟩ = some (.iface 154 (.pointer (some (g.A 8)))) := HD1.out.err 8 (by simp)
  obtain ⟨M, hM⟩ : ∃ M, (s.sec.length - 2) / 2 = M := ⟨_, rfl⟩
  have HM : Hid ((s.sec.length - 2) / 2 = M) := hM
  rw [hM] at HTH HRM HBL
  clear hM
  obtain ⟨tk, htk⟩ : ∃ tk, h.used + k = tk := ⟨_, rfl⟩
  have HTK : Hid (h.used + k = tk) := htk
  rw [htk] at hadd HRM HBL
  clear htk
  by_cases hf : M < tk
  · have d0 : decide ((M : Int) < (tk : Int)) = true := decide_eq_true (by omega)
    go_quiet (first
      | (go_at_call 56; refine Calls.quiet_of_same (HSN.out _))
      | (go_at_call 57; refine Calls.quiet_of_same (HTH.out _)))
    have ho : Only [] w1 (w1.drewN nq) := drewsD (Only.refl [] _) nq
    go_wp2
    go_ret
    refine Or.inl ⟨by rw [HM.out, HKK.out, HTK.out]; exact hf, rfl, HD1.out.keep ho, HLG1.out.keep (Oth.of_only ho), (HOT.out.trans (Oth.of_only ho)).toL⟩
  · have d0 : decide ((M : Int) < (tk : Int)) = false := decide_eq_false (by omega)
    have hroom := HRM.out (by omega)
    have hlen := HBL.out (by omega)
    have HWf : Hid (h.used + secsN (blkT L).length ≤ (s.sec.length - 2) / 2) := by rw [HM.out, HKK.out, HTK.out]; show _ ≤ _; omega
    go_quiet (first
      | (go_at_call 56; refine Calls.quiet_of_same (HSN.out _))
      | (go_at_call 57; refine Calls.quiet_of_same (HTH.out _)))
    have ho : Only [] w1 (w1.drewN nq) := drewsD (Only.refl [] _) nq
    have HD2 : Hid (Ds g (w1.drewN nq) s) := HD1.out.keep ho
    have HB2 := kept3 HB1.out ho
    have HL2 : Hid (LogAt (w1.drewN nq) g l false) := HLG1.out.keep (Oth.of_only ho)
    have HOT2 : Hid (Oth w (w1.drewN nq)) := HOT.out.trans (Oth.of_only ho)
    clear HD1 HB1 HLG1 HOT HTH z0 z1 z2 z4 z5 l0 l1 l2 l3 ce HRM HBL ho d0
    generalize w1.drewN nq = W2 at HD2 HB2 HL2 HOT2 ⊢
    have HB3 : Hid (W2.heap[hb]? = some (.cells #[.int .u32 (h.calls : Nat), .int .i64 (h.half : Nat), .int .i64 (h.used : Nat)] 64 (0, 0))) := HB2
    clear HB2
    haveI : Nonempty (OnlyBy W2) := ⟨⟨_, Only.refl _ _⟩⟩
    have y0 : ∀ p : OnlyBy W2, p.w.cell? ⟨hb, 0, none⟩ = some (.int .u32 (h.calls : Nat)) := fun p => (cells3 (kept3 HB3.out p.ho)).1
    have y1 : ∀ p : OnlyBy W2, p.w.cell? ⟨hb, 1, none⟩ = some (.int .i64 (h.half : Nat)) := fun p => (cells3 (kept3 HB3.out p.ho)).2.1
    have y2 : ∀ p : OnlyBy W2, p.w.cell? ⟨hb, 2, none⟩ = some (.int .i64 (h.used : Nat)) := fun p => (cells3 (kept3 HB3.out p.ho)).2.2.1
    have y4 : ∀ p : OnlyBy W2, p.w.cell? ⟨l, 0, none⟩ = some (.pointer (some ⟨g.t, 0, none⟩)) := fun p => (HL2.out.keep (Oth.of_only p.ho)).cells.1
    have HCM : Hid (∀ p : OnlyBy W2, Calls Tryd.prog 58 #[hdV h, .pointer (some ⟨g.t, 0, none⟩), .string BT] p.w fun e w' => (e = .returned .nilIface ∧ ∃ s', CommP s h (blkT L) 0 s' ∧ Ds g w' s' ∧ Oth p.w w') ∨ (e = .returned (.iface 154 (.pointer (some (g.A 14)))) ∧ ∃ s', CommP s h (blkT L) 15 s' ∧ Ds g w' s' ∧ Oth p.w w')) := fun p => by
      have := commit_ok (HD2.out.keep p.ho) h HOK.out HHB.out (by have := HN8.out; omega) (blkT L) hlen hroom HWS.out
      rw [HBT.out] at this
      refine this.mono fun e w' q => ?_
      obtain ⟨c, s', he, hP, h1, h2⟩ := q
      rcases hP with hP | hP
      · obtain rfl := hP.1
        exact Or.inr ⟨he, s', Or.inl hP, h1, h2⟩
      · obtain rfl := hP.1
        exact Or.inl ⟨he, s', Or.inr hP, h1, h2⟩
    clear hroom hlen
    go_upto_region 4 with (fail)
    refine wp_region_any (by kernel_rfl) ?_
    change wpAny _ _ _ _ _ _ _ (World.drew _)
    refine wpAny_pre2 (w0 := W2) (k0 := 0) 6 2 _ rfl (by decide) (by kernel_rfl) (by kernel_rfl) (by kernel_rfl) (by kernel_rfl) (Only.refl [] _).drew ?_
    simp only [List.drop_zero, List.take_succ_cons, List.take_zero]
    repeat (first | go_big_quiet_skip | quiet_step (skip))
    refine wpQuiet_nil ?_
    intro _ hw'
    obtain ⟨p2, hw2⟩ := hw'
    subst hw2
    refine wpAny_ready (rs := [6]) (by kernel_rfl) (by simp) ?_
    refine AllReady.cons rfl (fun K hK => ?_) AllReady.nil
    go_simp
    refine (HCM.out p2).mono ?_
    rintro e w3 (⟨rfl, s', hP, h1, h2⟩ | ⟨rfl, s', hP, h1, h2⟩)
    · have HL3 : Hid (LogAt w3 g l false) := (HL2.out.keep (Oth.of_only p2.ho)).keep h2
      have HO3 : Hid (Oth w w3) := (HOT2.out.trans (Oth.of_only p2.ho)).trans h2
      have HD3 : Hid (Ds g w3 s') := h1
      have HP : Hid (CommP s h (blkT L) 0 s') := hP
      clear h1 h2 hP y0 y1 y2 y4
      refine hK _ _ ?_
      clear hK K
      refine wpAny_ready (rs := [7]) (by kernel_rfl) (by simp) ?_
      refine AllReady.cons rfl (fun K hK => ?_) AllReady.nil
      go_simp
      refine hK _ _ ?_
      clear hK K
      refine wpAny_done (by kernel_rfl) ?_ _
      obtain ⟨l0, l1, l2, l3⟩ := HL3.out.cells
      go_wp2
      go_ret
      exact Or.inr ⟨HWf.out, 0, s', rfl, HP.out, HD3.out.poke HL3.out.blk (by decide) (by decide) (by decide) HL3.out.ge _ _, HL3.out.set false, HO3.out.toL.trans (HL3.out.oth _ _)⟩
    · have HL3 : Hid (LogAt w3 g l false) := (HL2.out.keep (Oth.of_only p2.ho)).keep h2
      have HO3 : Hid (Oth w w3) := (HOT2.out.trans (Oth.of_only p2.ho)).trans h2
      have HD3 : Hid (Ds g w3 s') := h1
      have HP : Hid (CommP s h (blkT L) 15 s') := hP
      clear h1 h2 hP y0 y1 y2 y4
      refine hK _ _ ?_
      clear hK K
      refine wpAny_ready (rs := [7]) (by kernel_rfl) (by simp) ?_
      refine AllReady.cons rfl (fun K hK => ?_) AllReady.nil
      go_simp
      refine hK _ _ ?_
      clear hK K
      refine wpAny_done (by kernel_rfl) ?_ _
      obtain ⟨l0, l1, l2, l3⟩ := HL3.out.cells
      go_wp2
      go_ret
      exact Or.inr ⟨HWf.out, 15, s', rfl, HP.out, HD3.out.poke HL3.out.blk (by decide) (by decide) (by decide) HL3.out.ge _ _, HL3.out.set true, HO3.out.toL.trans (HL3.out.oth _ _)⟩
end
end Go.Proofs.YtlcloahkeamdkaaDoor
