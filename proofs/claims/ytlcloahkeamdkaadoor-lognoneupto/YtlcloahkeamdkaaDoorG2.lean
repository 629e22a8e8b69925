/- A log: a text is committed, and then its head. -/
import Derived.Test.YtlcloahkeamdkaaDoorLg10
/- A log: a text is committed, and then its head. -/
namespace Go.Proofs.YtlcloahkeamdkaaDoor
open Go Go.RowKit Go.Deep

def hdN (h : Hd) (T : List UInt8) : Hd := ⟨h.calls, h.half, h.used + secsN T.length⟩
def secA (sec : List Sec) (h : Hd) (T : List UInt8) : List Sec := putAt sec (h.first sec.length + h.used) (piecesS T (secsN T.length))
def secB (sec : List Sec) (h : Hd) (T : List UInt8) : List Sec := (secA sec h T).set (h.calls % 2) (padB (bs (hdT (hdN h T))))
/-- What the power's going leaves of it. -/
def Torn (sec : List Sec) (h : Hd) (T : List UInt8) (s' : DSt) : Prop := ∀ keep, Near sec (h.first sec.length + h.used) (secsN T.length) (redo keep s'.wt (undo s'.sec s'.wt) s'.wt.length) ∨ redo keep s'.wt (undo s'.sec s'.wt) s'.wt.length = secB sec h T
def CommP (s : DSt) (h : Hd) (T : List UInt8) (c : Nat) (s' : DSt) : Prop :=
  (c = 15 ∧ s.pw ≠ none ∧ s'.wt.length ≤ 5000 ∧ Torn s.sec h T s') ∨ (c = 0 ∧ s'.sec = secB s.sec h T ∧ s'.wt = [] ∧ (s.pw = none → s'.pw = none))
def CommR (g : Dv) (w w' : World) (s : DSt) (h : Hd) (T : List UInt8) (e : Ending) : Prop := ∃ c s', e = .returned (errN g.A c) ∧ CommP s h T c s' ∧ Ds g w' s' ∧ Oth w w'
/-- While the pieces are written. -/
structure Mid (s : DSt) (h : Hd) (T : List UInt8) (j : Nat) (q : DSt) : Prop where
  sec : q.sec = putAt s.sec (h.first s.sec.length + h.used) (piecesS T j)
  wt : ∀ x ∈ q.wt, h.first s.sec.length + h.used ≤ x.n ∧ x.n < h.first s.sec.length + h.used + secsN T.length
  len : q.wt.length = j
  pw : s.pw = none → q.pw = none
theorem piecesS_len (T : List UInt8) (j : Nat) : (piecesS T j).length = j := by simp [piecesS]
theorem piecesS_snoc (T : List UInt8) (j : Nat) : piecesS T (j + 1) = piecesS T j ++ [pieceS T j] := by simp [piecesS, List.range_succ]
theorem Mid.torn {s q : DSt} {h : Hd} {T : List UInt8} {j : Nat} (m : Mid s h T j q) (hj : j ≤ secsN T.length) : Torn s.sec h T q := fun keep => Or.inl (by
  have h1 : Near s.sec (h.first s.sec.length + h.used) (secsN T.length) q.sec := by rw [m.sec]; exact Near.put _ (by rw [piecesS_len]; exact hj)
  exact (h1.undo m.wt).redo m.wt keep _)
theorem Mid.start (s : DSt) (h : Hd) (T : List UInt8) (hw : s.wt = []) : Mid s h T 0 s := ⟨rfl, fun x hx => (by rw [hw] at hx; cases hx), by rw [hw]; rfl, id⟩
theorem Mid.next {s q : DSt} {h : Hd} {T : List UInt8} {j : Nat} (m : Mid s h T j q) (hj : j < secsN T.length) (x0 : Sec) : Mid s h T (j + 1) ⟨q.pw.map (· - 1), q.sec.set (h.first s.sec.length + h.used + j) (pieceS T j), q.wt ++ [⟨h.first s.sec.length + h.used + j, x0, pieceS T j⟩]⟩ := by
  refine ⟨?_, fun x hx => ?_, by simp [m.len], fun e => by simp [m.pw e]⟩
  · show q.sec.set _ _ = _
    rw [m.sec, piecesS_snoc, putAt_snoc, piecesS_len]
  · rcases List.mem_append.1 hx with hx | hx
    · exact m.wt x hx
    · obtain rfl := List.mem_singleton.1 hx
      exact ⟨by show _ ≤ _ + _ + j; omega, by show _ + _ + j < _; omega⟩
/-- All pieces last. -/
theorem torn_flushed {s q : DSt} {h : Hd} {T : List UInt8} (m : Mid s h T (secsN T.length) q) (pw : Option Nat) : Torn s.sec h T ⟨pw, q.sec, []⟩ := fun keep => Or.inl (by
  show Near _ _ _ q.sec
  rw [m.sec]
  exact Near.put _ (Nat.le_of_eq (piecesS_len _ _)))
theorem torn_head {s q r : DSt} {h : Hd} {T : List UInt8} (m : Mid s h T (secsN T.length) q) {x0 : Sec} (hx : q.sec[h.calls % 2]? = some x0) (h1 : r.sec = q.sec.set (h.calls % 2) (padB (bs (hdT (hdN h T))))) (h2 : r.wt = [] ++ [⟨h.calls % 2, x0, padB (bs (hdT (hdN h T)))⟩]) : Torn s.sec h T r := fun keep => by
  rw [h1, h2]
  have := one_crash q.sec hx (p := padB (bs (hdT (hdN h T)))) (keep 0)
  have e1 : redo keep ([] ++ [⟨h.calls % 2, x0, padB (bs (hdT (hdN h T)))⟩]) (undo (q.sec.set (h.calls % 2) (padB (bs (hdT (hdN h T))))) ([] ++ [⟨h.calls % 2, x0, padB (bs (hdT (hdN h T)))⟩])) ([] ++ [(⟨h.calls % 2, x0, padB (bs (hdT (hdN h T)))⟩ : Wr)]).length = if keep 0 then q.sec.set (h.calls % 2) (padB (bs (hdT (hdN h T)))) else q.sec := by
    rw [← this]
    simp [redo, keepB]
  rw [e1]
  cases keep 0 with
  | true =>
    refine Or.inr ?_
    simp only [if_true]
    rw [m.sec]
    rfl
  | false =>
    refine Or.inl ?_
    simp only [Bool.false_eq_true, if_false]
    rw [m.sec]
    exact Near.put _ (Nat.le_of_eq (piecesS_len _ _))
theorem piece_text (T : List UInt8) (j : Nat) (hj : j * 64 ≤ T.length) : (bs T).extract (j * 64) (min (j * 64 + 64) T.length) = bs ((T.drop (j * 64)).take 64) := by
  apply data_inj
  simp only [bs, ByteArray.data_extract, Array.toList_extract, List.extract_eq_take_drop]
  apply List.ext_getElem?
  intro i
  simp only [List.getElem?_take]
  split <;> split
  · rfl
  · omega
  · symm
    rw [List.getElem?_eq_none_iff, List.length_drop]
    omega
  · rfl
end Go.Proofs.YtlcloahkeamdkaaDoor
/- A log: commit. -/
namespace Go.Proofs.YtlcloahkeamdkaaDoor
open Go Go.RowKit Go.Deep

section
variable {g : Dv} {w : World} {s : DSt}
theorem Ds.first (hd : Ds g w s) (h : Hd) (h0 : h.half ≤ 1) (hN : 2 ≤ s.sec.length) : Calls Tryd.prog 47 #[hdV h, .pointer (some ⟨g.t, 0, none⟩)] w fun e w' => e = .returned (.int .i64 (h.first s.sec.length : Nat)) ∧ Only [] w w' := by
  obtain ⟨vw, hk⟩ := hd.dk
  exact hfirst_ok hk h h0 hN
theorem foot_type {base t : Nat} {pw : Option Nat} {vs vw : Value} {sec : List Sec} {wt : List Wr} (h : DkAt w base t pw vs vw sec wt) {b : Nat} {cs : Array Value} {ty : TypeId} {fr : Nat × Nat} (hb : w.heap[b]? = some (.cells cs ty fr)) (h1 : ty ≠ 60) (h2 : ty ≠ 81) (h3 : ty ≠ 83) : b ∉ dkFoot t vs vw := fun hm => by
  rcases mem_foot.1 hm with e | e | e
  · rw [e, h.blk] at hb
    simp only [Option.some.injEq, Obj.cells.injEq] at hb
    exact h1 hb.2.1.symm
  · obtain ⟨_, _, cur, hq⟩ := own_blk h.secs e
    rw [hq] at hb
    simp only [Option.some.injEq, Obj.cells.injEq] at hb
    exact h2 hb.2.1.symm
  · obtain ⟨_, _, cur, hq⟩ := own_blk h.wts e
    rw [hq] at hb
    simp only [Option.some.injEq, Obj.cells.injEq] at hb
    exact h3 hb.2.1.symm
/-- A cell of another block is written. -/
theorem Ds.poke (h : Ds g w s) {b : Nat} {cs : Array Value} {ty : TypeId} {fr : Nat × Nat} (hb : w.heap[b]? = some (.cells cs ty fr)) (h1 : ty ≠ 60) (h2 : ty ≠ 81) (h3 : ty ≠ 83) (hge : g.W0.heap.size ≤ b) (o : Nat) (v : Value) : Ds g (w.setCell ⟨b, o, none⟩ v) s := by
  obtain ⟨vw, hd⟩ := h.dk
  have ho : Only [b] w (w.setCell ⟨b, o, none⟩ v) := (Only.refl [b] w).setCell (Or.inl (by simp)) _
  exact ⟨⟨vw, hd.only ho (fun k hk hm => foot_type hd hb h1 h2 h3 (by rw [← List.mem_singleton.1 hm]; exact hk))⟩, h.er, h.bel.trans (ho.to_below h.bel.size (fun k hk => by rw [List.mem_singleton.1 hk]; exact hge)), h.ge, Nat.le_trans h.bs ho.size, h.pl⟩
theorem Oth.poke {a w : World} (h : Oth a w) {b : Nat} (hb : a.heap.size ≤ b) (o : Nat) (v : Value) : Oth a (w.setCell ⟨b, o, none⟩ v) := by
  have ho : Only [b] w (w.setCell ⟨b, o, none⟩ v) := (Only.refl [b] w).setCell (Or.inl (by simp)) _
  refine ⟨Nat.le_trans h.size ho.size, fun k cs ty fr hc h1 h2 h3 => ?_⟩
  have hk := h.block k cs ty fr hc h1 h2 h3
  rw [ho.block k (Array.getElem?_eq_some_iff.1 hk).1 (by have := (Array.getElem?_eq_some_iff.1 hc).1; simp; omega)]
  exact hk
set_option maxRecDepth 100000 in
set_option maxHeartbeats 8000000 in
theorem commit_ok (hd : Ds g w s) (h : Hd) (hk : h.Ok) (h0 : h.half ≤ 1) (hN : 2 ≤ s.sec.length) (T : List UInt8) (hT : T.length ≤ 1000000) (hfit : h.first s.sec.length + h.used + secsN T.length ≤ s.sec.length) (hw : s.wt = []) :
    Calls Tryd.prog 58 #[hdV h, .pointer (some ⟨g.t, 0, none⟩), .string (bs T)] w fun e w' => CommR g w w' s h T e := by
  obtain ⟨wb, hwb⟩ : ∃ wb, w.alloc (hdO h) = wb := ⟨_, rfl⟩
  have o0 : Only [] w wb := by rw [← hwb]; exact (Only.refl [] w).alloc _
  have e0 : wb.heap[w.heap.size]? = some (.cells #[.int .u32 (h.calls : Nat), .int .i64 (h.half : Nat), .int .i64 (h.used : Nat)] 64 (0, 0)) := by rw [← hwb]; exact heap_alloc_last w _
  have hmost := hd.most.2
  have HSE : Hid (Calls Tryd.prog 31 #[.pointer (some ⟨g.t, 0, none⟩)] wb fun e w' => e = .returned .nilIface ∧ w' = wb) := (hd.keep o0).settle hw
  have HSN : Hid (∀ W, Calls Tryd.prog 56 #[.string (bs T)] W fun e w' => e = .returned (.int .i64 (secsN T.length : Nat)) ∧ w' = W) := fun W => by
    have := sectorsOf_ok W (bs T) (by rw [bs_size]; omega)
    rwa [bs_size] at this
  have HFI : Hid (∀ W s' (u : Nat), Ds g W s' → s'.sec.length = s.sec.length → Calls Tryd.prog 47 #[hdV ⟨h.calls, h.half, u⟩, .pointer (some ⟨g.t, 0, none⟩)] W fun e w' => e = .returned (.int .i64 (h.first s.sec.length : Nat)) ∧ Only [] W w') := fun W s' u hW hl => by
    have := hW.first ⟨h.calls, h.half, u⟩ h0 (by omega)
    rw [hl] at this
    exact this
  have HSV : Hid (∀ W s', Ds g W s' → s'.sec.length = s.sec.length → s'.wt = [] → Calls Tryd.prog 24 #[hdV (hdN h T), .pointer (some ⟨g.t, 0, none⟩)] W fun e w' => SaveR g W w' s' (h.calls % 2) (padB (bs (hdT (hdN h T)))) e) := fun W s' hW hl hw' => save_any hW (hdN h T) ⟨hk.calls, hk.half, by show h.used + secsN T.length < _; omega⟩ (by omega) (by rw [hw']; decide)
  have HD0 : Hid (Ds g wb s) := hd.keep o0
  have HO0 : Hid (Oth w wb) := Oth.of_only o0
  have HB0 : Hid (wb.heap[w.heap.size]? = some (.cells #[.int .u32 (h.calls : Nat), .int .i64 (h.half : Nat), .int .i64 (h.used + 0 : Nat)] 64 (0, 0))) := e0
  have HM0 : Hid (Mid s h T 0 s) := Mid.start s h T hw
  have hsz : (bs T).size = T.length := bs_size T
  have hkb : secsN T.length * 64 < T.length + 64 := by unfold secsN; omega
  have hus := hk.used
  have HPT : Hid (∀ j, j < secsN T.length → (bs T).extract (j * 64) (min (j * 64 + 64) T.length) = bs ((T.drop (j * 64)).take 64)) := fun j hj => piece_text T j (by unfold secsN at hj; omega)
  have HZ : Hid (g.W0.heap.size ≤ w.heap.size) := hd.bel.size
  have HZ2 : Hid (w.heap.size ≤ w.heap.size) := Nat.le_refl _
  clear hd o0 e0 hk hw
  generalize hkk : secsN T.length = k at *
  have HKK : Hid (secsN T.length = k) := hkk
  clear hkk
  go_enter Tryd.func58, Tryd.ntmps58
  go_upto_region 5 with (first
    | (go_at_call 31; refine HSE.out.mono ?_; rintro e w1 ⟨rfl, h0⟩; have h1 := h0.symm; subst h1; clear h0)
    | (go_at_call 56; refine (HSN.out _).mono ?_; rintro e w1 ⟨rfl, h0⟩; have h1 := h0.symm; subst h1; clear h0))
  clear hwb HSE HSN
  obtain ⟨hb, ehb⟩ : ∃ hb, w.heap.size = hb := ⟨_, rfl⟩
  rw [ehb] at HB0 HZ ⊢
  replace HZ2 : Hid (w.heap.size ≤ hb) := Nat.le_of_eq ehb
  clear ehb
  go_loopw [20] (fun i wr => ∃ (j : Nat) (q : DSt), i = .int .i64 (j : Nat) ∧ j ≤ k ∧ Ds g wr q ∧ Mid s h T j q ∧ Oth w wr ∧ wr.heap[hb]? = some (.cells #[.int .u32 (h.calls : Nat), .int .i64 (h.half : Nat), .int .i64 (h.used + j : Nat)] 64 (0, 0))) (fun i _ => k - (intOf i).toNat)
  case atStart => exact ⟨0, s, rfl, Nat.zero_le _, HD0.out, HM0.out, HO0.out, HB0.out⟩
  case round =>
    clear HD0 HM0 HO0 HB0
    obtain ⟨j, q, rfl, hj, hD, hM, hO, hB⟩ := hrel
    have HD : Hid (Ds g wr q) := hD
    have HM : Hid (Mid s h T j q) := hM
    have HO : Hid (Oth w wr) := hO
    have HBK : Hid (wr.heap[hb]? = some (.cells #[.int .u32 (h.calls : Nat), .int .i64 (h.half : Nat), .int .i64 (h.used + j : Nat)] 64 (0, 0))) := hB
    have hql : q.sec.length = s.sec.length := by rw [hM.sec, putAt_len]
    have HQL : Hid (q.sec.length = s.sec.length) := hql
    by_cases hlt : j < k
    · have hl : decide ((j : Int) < (k : Int)) = true := decide_eq_true (by omega)
      have hpt := HPT.out j hlt
      have hmn : min ((j : Int) * 64 + 64) (T.length : Int) = ((min (j * 64 + 64) T.length : Nat) : Int) := by omega
      obtain ⟨m, hm⟩ : ∃ m, min (j * 64 + 64) T.length = m := ⟨_, rfl⟩
      have hm1 : j * 64 ≤ m := by omega
      have hm2 : m ≤ T.length := by omega
      rw [hm] at hmn hpt
      clear hD hM hO hB hql
      clear hm
      go_upto_region 9 with (fail)
      haveI : Nonempty (OnlyBy wr) := ⟨⟨_, Only.refl _ _⟩⟩
      have HXP : Hid (padB ((bs T).extract (j * 64) m) = pieceS T j ∧ ((bs T).extract (j * 64) m).size ≤ 64) := by
        rw [hpt]
        exact ⟨rfl, by rw [bs_size, List.length_take]; omega⟩
      clear hpt
      generalize (bs T).extract (j * 64) m = X at HXP ⊢
      obtain ⟨u, hu⟩ : ∃ u, h.used + j = u := ⟨_, rfl⟩
      have HF1 : Hid (∀ p : OnlyBy wr, Calls Tryd.prog 47 #[hdV ⟨h.calls, h.half, u⟩, .pointer (some ⟨g.t, 0, none⟩)] p.w fun e w' => e = .returned (.int .i64 (h.first s.sec.length : Nat)) ∧ Only [] p.w w') := fun p => HFI.out p.w q u (HD.out.keep p.ho) HQL.out
      have HU : Hid (h.used + j = u) := hu
      have hBK := HBK.out
      rw [hu] at hBK
      have y0 : ∀ p : OnlyBy wr, p.w.cell? ⟨hb, 0, none⟩ = some (.int .u32 (h.calls : Nat)) := fun p => (cells3 (kept3 hBK p.ho)).1
      have y1 : ∀ p : OnlyBy wr, p.w.cell? ⟨hb, 1, none⟩ = some (.int .i64 (h.half : Nat)) := fun p => (cells3 (kept3 hBK p.ho)).2.1
      have y2 : ∀ p : OnlyBy wr, p.w.cell? ⟨hb, 2, none⟩ = some (.int .i64 (u : Nat)) := fun p => (cells3 (kept3 hBK p.ho)).2.2.1
      have hn1 : h.first s.sec.length + u < s.sec.length := by omega
      have HPL : Hid (h.first s.sec.length + h.used + j = h.first s.sec.length + u) := by show _ = _; omega
      obtain ⟨F, hF⟩ : ∃ F, h.first s.sec.length = F := ⟨_, rfl⟩
      have HFF : Hid (h.first s.sec.length = F) := hF
      rw [hF] at HF1 hn1 HPL
      have hwr1 : IntKind.i64.wrap ((F : Int) + (u : Int)) = ((F + u : Nat) : Int) := by rw [IntKind.wrap_i64]; omega
      obtain ⟨n, hn⟩ : ∃ n, F + u = n := ⟨_, rfl⟩
      rw [hn] at hwr1 hn1 HPL
      clear hu hF hn hm1 hm2 hmn hsz hkb
      have HBU : Hid (wr.heap[hb]? = some (.cells #[.int .u32 (h.calls : Nat), .int .i64 (h.half : Nat), .int .i64 (u : Nat)] 64 (0, 0))) := hBK
      clear hBK
      by_cases hp : q.pw = some 0
      · have HWR : Hid (∀ p : OnlyBy wr, Calls Tryd.prog 35 #[.pointer (some ⟨g.t, 0, none⟩), .int .i64 (n : Nat), .string X] p.w fun e w' => e = .returned (.iface 154 (.pointer (some (g.A 14)))) ∧ w' = p.w) := fun p => (HD.out.keep p.ho).write_dark n X (by rw [HQL.out]; exact hn1) HXP.out.2 hp
        have HF : Hid (∀ p : OnlyBy wr, CommR g w p.w s h T (.returned (.iface 154 (.pointer (some (g.A 14)))))) := fun p => ⟨15, q, rfl, Or.inl ⟨rfl, fun e => (by have := HM.out.pw e; rw [hp] at this; cases this), by rw [HM.out.len]; omega, HM.out.torn (by rw [HKK.out]; omega)⟩, HD.out.keep p.ho, HO.out.trans (Oth.of_only p.ho)⟩
        clear hp
        refine wp_region_any (by kernel_rfl) ?_
        change wpAny _ _ _ _ _ _ _ (World.drew _)
        refine wpAny_pre2 (w0 := wr) (k0 := 0) 8 2 _ rfl (by decide) (by kernel_rfl) (by kernel_rfl) (by kernel_rfl) (by kernel_rfl) (Only.refl [] _).drew ?_
        simp only [List.drop_zero, List.take_succ_cons, List.take_zero]
        repeat (first | go_big_quiet_skip | quiet_step ((go_at_call 47; refine Calls.only_of (HF1.out _))))
        refine wpQuiet_nil ?_
        intro _ hw'
        obtain ⟨p, hw2⟩ := hw'
        subst hw2
        refine wpAny_ready (rs := [8]) (by kernel_rfl) (by simp) ?_
        refine AllReady.cons rfl (fun K hK => ?_) AllReady.nil
        go_simp
        refine (HWR.out p).mono ?_
        rintro e w1 ⟨rfl, hr0⟩
        have hr1 := hr0.symm
        subst hr1
        clear hr0
        refine hK _ _ ?_
        clear hK K
        refine wpAny_ready (rs := [9]) (by kernel_rfl) (by simp) ?_
        refine AllReady.cons rfl (fun K hK => ?_) AllReady.nil
        go_simp
        refine hK _ _ ?_
        clear hK K
        refine wpAny_done (by kernel_rfl) ?_ _
        go_wp2
        go_ret
        exact HF.out p
      · obtain ⟨x0, hx0⟩ : ∃ x0, q.sec[n]? = some x0 := ⟨q.sec[n]'(by rw [HQL.out]; exact hn1), List.getElem?_eq_getElem _⟩
        have HWR : Hid (∀ p : OnlyBy wr, Calls Tryd.prog 35 #[.pointer (some ⟨g.t, 0, none⟩), .int .i64 (n : Nat), .string X] p.w fun e w' => e = .returned .nilIface ∧ Ds g w' ⟨q.pw.map (· - 1), q.sec.set n (pieceS T j), q.wt ++ [⟨n, x0, pieceS T j⟩]⟩ ∧ Oth wr w') := fun p => ((HD.out.keep p.ho).write_lit n X x0 hx0 HXP.out.2 hp (by rw [HM.out.len]; omega)).mono fun e w' r => ⟨r.1, by rw [← HXP.out.1]; exact r.2.1, (Oth.of_only p.ho).trans r.2.2⟩
        have HNX : Hid (Mid s h T (j + 1) ⟨q.pw.map (· - 1), q.sec.set n (pieceS T j), q.wt ++ [⟨n, x0, pieceS T j⟩]⟩) := by
          have := HM.out.next (by rw [HKK.out]; exact hlt) x0
          rw [HFF.out, HPL.out] at this
          exact this
        clear hp hx0
        refine wp_region_any (by kernel_rfl) ?_
        change wpAny _ _ _ _ _ _ _ (World.drew _)
        refine wpAny_pre2 (w0 := wr) (k0 := 0) 8 2 _ rfl (by decide) (by kernel_rfl) (by kernel_rfl) (by kernel_rfl) (by kernel_rfl) (Only.refl [] _).drew ?_
        simp only [List.drop_zero, List.take_succ_cons, List.take_zero]
        repeat (first | go_big_quiet_skip | quiet_step ((go_at_call 47; refine Calls.only_of (HF1.out _))))
        refine wpQuiet_nil ?_
        intro _ hw'
        obtain ⟨p, hw2⟩ := hw'
        subst hw2
        refine wpAny_ready (rs := [8]) (by kernel_rfl) (by simp) ?_
        refine AllReady.cons rfl (fun K hK => ?_) AllReady.nil
        go_simp
        refine (HWR.out p).mono ?_
        rintro e w1 ⟨rfl, hr0, hr1⟩
        have HD1 : Hid (Ds g w1 ⟨q.pw.map (· - 1), q.sec.set n (pieceS T j), q.wt ++ [⟨n, x0, pieceS T j⟩]⟩ ∧ Oth wr w1) := ⟨hr0, hr1⟩
        clear hr0 hr1
        refine hK _ _ ?_
        clear hK K
        refine wpAny_ready (rs := [9]) (by kernel_rfl) (by simp) ?_
        refine AllReady.cons rfl (fun K hK => ?_) AllReady.nil
        go_simp
        refine hK _ _ ?_
        clear hK K
        refine wpAny_done (by kernel_rfl) ?_ _
        obtain ⟨z0, z1, z2, z4, z5⟩ := cells3 (Oth.kept3 HBU.out HD1.out.2)
        clear y0 y1 y2
        go_wp2
        go_roundw
        case rel =>
          have hk4 := Oth.kept3 HBU.out HD1.out.2
          refine ⟨j + 1, _, by go_num, by omega, HD1.out.1.poke hk4 (by decide) (by decide) (by decide) HZ.out _ _, HNX.out, (HO.out.trans HD1.out.2).poke HZ2.out _ _, ?_⟩
          rw [heap_setCell_same w1 hb 2 _ _ _ hk4]
          have := HU.out
          have e1 : wrap64 ((u : Int) + 1) = ((h.used + (j + 1) : Nat) : Int) := by unfold wrap64; omega
          rw [e1]
          rfl
        case measure => simp [intOf]; omega
    · have hl : decide ((j : Int) < (k : Int)) = false := decide_eq_false (by omega)
      obtain rfl : k = j := by omega
      have hMk : Mid s h T (secsN T.length) q := by rw [HKK.out]; exact hM
      have HMK : Hid (Mid s h T (secsN T.length) q) := hMk
      clear hD hM hO hB hql hMk
      by_cases hp : q.pw = some 0
      · have HFL : Hid (Calls Tryd.prog 36 #[.pointer (some ⟨g.t, 0, none⟩)] wr fun e w' => e = .returned (.iface 154 (.pointer (some (g.A 14)))) ∧ w' = wr) := HD.out.flush_dark hp
        have HF : Hid (CommR g w wr s h T (.returned (.iface 154 (.pointer (some (g.A 14)))))) := ⟨15, q, rfl, Or.inl ⟨rfl, fun e => (by have := HM.out.pw e; rw [hp] at this; cases this), by rw [HM.out.len]; omega, HMK.out.torn (Nat.le_refl _)⟩, HD.out, HO.out⟩
        clear hp
        go_wp2_with (go_at_call 36; refine HFL.out.mono ?_; rintro e w1 ⟨rfl, hr0⟩; have hr1 := hr0.symm; subst hr1; clear hr0)
        go_ret
        exact HF.out
      · have HFL : Hid (Calls Tryd.prog 36 #[.pointer (some ⟨g.t, 0, none⟩)] wr fun e w' => e = .returned .nilIface ∧ Ds g w' ⟨q.pw.map (· - 1), q.sec, []⟩ ∧ Oth wr w') := HD.out.flush_lit hp
        have HS1 : Hid (∀ W, Ds g W ⟨q.pw.map (· - 1), q.sec, []⟩ → Oth w W → Calls Tryd.prog 24 #[.agg #[.int .u32 (h.calls : Nat), .int .i64 (h.half : Nat), .int .i64 (h.used + k : Nat)], .pointer (some ⟨g.t, 0, none⟩)] W fun e w' => ∃ v, e = .returned v ∧ CommR g w w' s h T (.returned v)) := fun W hW hOW => by
          have := HSV.out W _ hW HQL.out rfl
          have e1 : hdN h T = ⟨h.calls, h.half, h.used + k⟩ := by unfold hdN; rw [HKK.out]
          rw [e1] at this
          refine this.mono fun e w' r => ?_
          rw [← e1] at r
          obtain ⟨c, s', he, hS, h1, h2⟩ := r
          refine ⟨_, he, c, s', rfl, ?_, h1, hOW.trans h2⟩
          rcases hS with ⟨c1, c2, c3⟩ | ⟨c1, c2, x0, c3, c4, c5⟩ | ⟨c1, c2, c3, c4⟩
          · refine Or.inl ⟨c1, fun e => c2 (by show q.pw.map _ = none; rw [HM.out.pw e]; rfl), by rw [c3]; exact Nat.zero_le _, by rw [c3]; exact torn_flushed HMK.out _⟩
          · refine Or.inl ⟨c1, fun e => c2 (by show q.pw.map _ = none; rw [HM.out.pw e]; rfl), by rw [c5]; show 1 ≤ 5000; decide, torn_head HMK.out c3 c4 c5⟩
          · refine Or.inr ⟨c1, ?_, c3, fun e => c4 (by show q.pw.map _ = none; rw [HM.out.pw e]; rfl)⟩
            rw [c2]
            show q.sec.set _ _ = _
            rw [HMK.out.sec]
            rfl
        have hkb : k ≤ 4000 := by omega
        clear hp
        go_wp2_with (first
          | (go_at_call 36; refine HFL.out.mono ?_; rintro e w1 ⟨rfl, hr0, hr1⟩; obtain ⟨z0, z1, z2, z4, z5⟩ := cells3 (Oth.kept3 HBK.out hr1); have HD1 : Hid (Ds g w1 ⟨q.pw.map (· - 1), q.sec, []⟩ ∧ Oth w w1) := ⟨hr0, HO.out.trans hr1⟩; clear hr0 hr1)
          | (go_at_call 24; refine (HS1.out _ HD1.out.1 HD1.out.2).mono ?_; rintro e w2 ⟨v, rfl, hr⟩; have HR : Hid (CommR g w w2 s h T (.returned v)) := hr; clear hr))
        go_ret
        exact HR.out
end
end Go.Proofs.YtlcloahkeamdkaaDoor
