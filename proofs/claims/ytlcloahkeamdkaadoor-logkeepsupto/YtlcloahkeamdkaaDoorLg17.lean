/- A log: Open, Format. -/
import Derived.Test.YtlcloahkeamdkaaDoorG4
namespace Go.Proofs.YtlcloahkeamdkaaDoor
open Go Go.RowKit Go.Deep

def openL (sec : List Sec) : Option (List (List UInt8)) := (newestL sec).bind fun h => recsOf h sec
theorem LogOk.opens {sec : List Sec} {R : List (List UInt8)} {n : Nat} (h : LogOk sec R n) : openL sec = some R := by
  obtain ⟨h, h1, h2⟩ := h.recs
  unfold openL
  rw [h1, Option.bind_some, h2]
def OpenR (g : Dv) (w w' : World) (s : DSt) (e : Ending) : Prop := Only [] w w' ∧ ((openL s.sec = none ∧ e = .returned (.tuple #[.pointer none, .slice none 0 0, .iface 154 (.pointer (some (g.A 0)))])) ∨ ∃ R l v, openL s.sec = some R ∧ e = .returned (.tuple #[.pointer (some ⟨l, 0, none⟩), v, .nilIface]) ∧ LogAt w' g l false ∧ w'.ownsRow w.heap.size 9 1 v R.length (R.map txv) ∧ w.heap.size ≤ l)
section
variable {g : Dv} {w w' : World} {s : DSt} {l : Nat}
set_option maxRecDepth 100000 in
set_option maxHeartbeats 2000000 in
theorem open_none (hd : Ds g w s) (hn : newestL s.sec = none) :
    Calls Tryd.prog 14 #[.pointer (some ⟨g.t, 0, none⟩)] w fun e w' => e = .returned (.tuple #[.pointer none, .slice none 0 0, .iface 154 (.pointer (some (g.A 0)))]) ∧ Only [] w w' := by
  have H : Hid (Calls Tryd.prog 22 #[.pointer (some ⟨g.t, 0, none⟩)] w fun e w' => e = .returned (.tuple #[hdV Hd.zero, .bool false]) ∧ Only [] w w') := by
    have := hd.newest
    rw [hn] at this
    exact this
  have HC : Hid (∀ W, Only [] w W → W.cell? ⟨2, 0, none⟩ = some (.iface 154 (.pointer (some (g.A 0))))) := fun W ho => (hd.keep ho).err 0 (by simp)
  clear hd hn
  go_enter Tryd.func14, Tryd.ntmps14
  go_upto_region 2 with (go_at_call 22; refine H.out.mono ?_; rintro e w1 ⟨rfl, h1⟩; have HO : Hid (Only [] w (w1.alloc (hdO Hd.zero))) := h1.alloc _; clear h1)
  have ce := HC.out _ HO.out
  have hlt := lt_of_cell ce
  generalize w1.alloc (hdO Hd.zero) = W1 at ce hlt HO ⊢
  generalize w1.heap.size = hb
  go_upto_region 3 with (fail)
  go_quiet (fail)
  go_wp2
  go_ret3
  exact ⟨rfl, drewsD HO.out nq⟩
set_option maxRecDepth 100000 in
set_option maxHeartbeats 2000000 in
theorem open_bad (hd : Ds g w s) (h : Hd) (hn : newestL s.sec = some h) (hr : recsOf h s.sec = none) :
    Calls Tryd.prog 14 #[.pointer (some ⟨g.t, 0, none⟩)] w fun e w' => e = .returned (.tuple #[.pointer none, .slice none 0 0, .iface 154 (.pointer (some (g.A 0)))]) ∧ Only [] w w' := by
  have H : Hid (Calls Tryd.prog 22 #[.pointer (some ⟨g.t, 0, none⟩)] w fun e w' => e = .returned (.tuple #[hdV h, .bool true]) ∧ Only [] w w') := by
    have := hd.newest
    rw [hn] at this
    exact this
  have HR : Hid (∀ W, Only [] w W → Calls Tryd.prog 30 #[hdV h, .pointer (some ⟨g.t, 0, none⟩)] W fun e w' => e = .returned (.tuple #[.slice none 0 0, .bool false]) ∧ Only [] w w') := fun W ho => by
    obtain ⟨vw, hk⟩ := (hd.keep ho).dk
    refine (records_ok hk h (newest_read hn).2.1).mono fun e w' q => ?_
    obtain ⟨q1, q2⟩ := q
    rcases q2 with ⟨_, q2⟩ | ⟨R, v, q2, _⟩
    · exact ⟨q2, ho.trans q1 (fun _ h => by cases h)⟩
    · exact absurd (hr.symm.trans q2) (by simp)
  have HC : Hid (∀ W, Only [] w W → W.cell? ⟨2, 0, none⟩ = some (.iface 154 (.pointer (some (g.A 0))))) := fun W ho => (hd.keep ho).err 0 (by simp)
  clear hd hn hr
  go_enter Tryd.func14, Tryd.ntmps14
  go_upto_region 2 with (go_at_call 22; refine H.out.mono ?_; rintro e w1 ⟨rfl, h1⟩; have HO : Hid (Only [] w (w1.alloc (hdO h))) := h1.alloc _; clear h1)
  obtain ⟨q0, q1, q2, q4, q5⟩ := cells3 (heap_alloc_last w1 (hdO h))
  generalize w1.heap.size = hb at q0 q1 q2 q4 q5 ⊢
  generalize w1.alloc (hdO h) = W1 at HO q0 q1 q2 q4 q5 ⊢
  go_upto_region 6 with (go_at_call 30; refine (HR.out _ HO.out).mono ?_; rintro e w2 ⟨rfl, h1⟩; have HO2 : Hid (Only [] w w2) := h1; clear h1)
  have ce := HC.out _ HO2.out
  have hlt := lt_of_cell ce
  go_quiet (fail)
  go_wp2
  go_ret3
  exact ⟨rfl, drewsD HO2.out nq⟩
set_option maxRecDepth 100000 in
set_option maxHeartbeats 2000000 in
theorem open_good (hd : Ds g w s) (hw : s.wt = []) (h : Hd) (hn : newestL s.sec = some h) (R : List (List UInt8)) (hr : recsOf h s.sec = some R) :
    Calls Tryd.prog 14 #[.pointer (some ⟨g.t, 0, none⟩)] w fun e w' => ∃ l v, e = .returned (.tuple #[.pointer (some ⟨l, 0, none⟩), v, .nilIface]) ∧ LogAt w' g l false ∧ w'.ownsRow w.heap.size 9 1 v R.length (R.map txv) ∧ w.heap.size ≤ l ∧ Only [] w w' := by
  have H : Hid (Calls Tryd.prog 22 #[.pointer (some ⟨g.t, 0, none⟩)] w fun e w' => e = .returned (.tuple #[hdV h, .bool true]) ∧ Only [] w w') := by
    have := hd.newest
    rw [hn] at this
    exact this
  have HR : Hid (∀ W, Only [] w W → Calls Tryd.prog 30 #[hdV h, .pointer (some ⟨g.t, 0, none⟩)] W fun e w' => ∃ v, e = .returned (.tuple #[v, .bool true]) ∧ Only [] w w' ∧ w'.ownsRow w.heap.size 9 1 v R.length (R.map txv)) := fun W ho => by
    obtain ⟨vw, hk⟩ := (hd.keep ho).dk
    refine (records_ok hk h (newest_read hn).2.1).mono fun e w' q => ?_
    obtain ⟨q1, q2⟩ := q
    rcases q2 with ⟨q2, _⟩ | ⟨R', v, q2, q3, q4⟩
    · exact absurd (hr.symm.trans q2) (by simp)
    · obtain rfl : R = R' := Option.some.inj (hr.symm.trans q2)
      exact ⟨v, q3, ho.trans q1 (fun _ h => by cases h), own_base q4 ho.size⟩
  have HS : Hid (∀ W, Only [] w W → Calls Tryd.prog 31 #[.pointer (some ⟨g.t, 0, none⟩)] W fun e w' => e = .returned .nilIface ∧ w' = W) := fun W ho => (hd.keep ho).settle hw
  have HZ : Hid (g.W0.heap.size ≤ w.heap.size) := hd.bel.size
  clear hd hn hr hw
  go_enter Tryd.func14, Tryd.ntmps14
  go_upto_region 2 with (go_at_call 22; refine H.out.mono ?_; rintro e w1 ⟨rfl, h1⟩; have HO : Hid (Only [] w (w1.alloc (hdO h))) := h1.alloc _; clear h1)
  obtain ⟨q0, q1, q2, q4, q5⟩ := cells3 (heap_alloc_last w1 (hdO h))
  generalize w1.heap.size = hb at q0 q1 q2 q4 q5 ⊢
  generalize w1.alloc (hdO h) = W1 at HO q0 q1 q2 q4 q5 ⊢
  go_wp2_with (first
    | (go_at_call 30; refine (HR.out _ HO.out).mono ?_; rintro e w2 ⟨v, rfl, h1, h2⟩; have HO2 : Hid (Only [] w w2 ∧ w2.ownsRow w.heap.size 9 1 v R.length (R.map txv)) := ⟨h1, h2⟩; clear h1 h2)
    | (go_at_call 31; refine (HS.out _ HO2.out.1).mono ?_; rintro e w3 ⟨rfl, h0⟩; have h1 := h0.symm; subst h1; clear h0))
  go_ret3
  have ho : Only [] w2 (w2.alloc (.cells #[.pointer (some ⟨g.t, 0, none⟩), .bool false] 71)) := (Only.refl [] w2).alloc _
  exact ⟨w2.heap.size, v, rfl, ⟨heap_alloc_last w2 _, Nat.le_trans HZ.out HO2.out.1.size⟩, ho.owns HO2.out.2 (fun _ _ => by simp), HO2.out.1.size, HO2.out.1.trans ho (fun _ h => by cases h)⟩
theorem open_any (hd : Ds g w s) (hw : s.wt = []) : Calls Tryd.prog 14 #[.pointer (some ⟨g.t, 0, none⟩)] w fun e w' => OpenR g w w' s e := by
  cases hn : newestL s.sec with
  | none => exact (open_none hd hn).mono fun e w' q => ⟨q.2, Or.inl ⟨by unfold openL; rw [hn]; rfl, q.1⟩⟩
  | some h =>
    cases hr : recsOf h s.sec with
    | none => exact (open_bad hd h hn hr).mono fun e w' q => ⟨q.2, Or.inl ⟨by unfold openL; rw [hn, Option.bind_some, hr], q.1⟩⟩
    | some R =>
      exact (open_good hd hw h hn R hr).mono fun e w' q => by
        obtain ⟨l, v, a, b, c, d, e⟩ := q
        exact ⟨e, Or.inr ⟨R, l, v, by unfold openL; rw [hn, Option.bind_some, hr], a, b, c, d⟩⟩
/-! ### Format -/
theorem zeroS_byte (x : ByteArray) (hx : bs zeroS.1 = x) (j : Nat) (h : j < x.size) : x[j].toNat = 0 := by
  subst hx
  have : (bs zeroS.1)[j] = 0 := by
    have h1 : (bs zeroS.1)[j] = (List.replicate 64 (0 : UInt8))[j]'(by rw [bs_size, zeroS.2] at h; simpa using h) := rfl
    rw [h1, List.getElem_replicate]
  rw [this]
  rfl
set_option maxRecDepth 100000 in
set_option maxHeartbeats 2000000 in
theorem blank_ok (hd : Ds g w s) (n : Nat) (hn : s.sec[n]? = some zeroS) : Calls Tryd.prog 43 #[.pointer (some ⟨g.t, 0, none⟩), .int .i64 (n : Nat)] w fun e w' => e = .returned (.bool true) ∧ w' = w := by
  obtain ⟨vw, hk⟩ := hd.dk
  have H : Hid (Calls Tryd.prog 46 #[.pointer (some ⟨g.t, 0, none⟩), .int .i64 (n : Nat)] w fun e w' => e = .returned (.tuple #[.string (bs zeroS.1), .nilIface]) ∧ w' = w) := read_ok hk n zeroS hn
  have hz := fun x hx => zeroS_byte x hx
  have hsz : (bs zeroS.1).size = 64 := by rw [bs_size, zeroS.2]
  obtain ⟨x, hx⟩ : ∃ x, bs zeroS.1 = x := ⟨_, rfl⟩
  have HZ : Hid (∀ j (h : j < x.size), x[j].toNat = 0) := hz x hx
  rw [hx] at H hsz
  clear hx hz hk hd hn
  go_enter Tryd.func43, Tryd.ntmps43
  go_wp2_with (go_at_call 46; refine H.out.mono ?_; rintro e w1 ⟨rfl, h0⟩; have h1 := h0.symm; subst h1; clear h0)
  go_loopw [16] (fun i wr => ∃ j : Nat, i = .int .i64 (j : Nat) ∧ j ≤ 64 ∧ wr = w) (fun i _ => 64 - (intOf i).toNat)
  case atStart => exact ⟨0, rfl, Nat.zero_le _, rfl⟩
  case round =>
    obtain ⟨j, rfl, hj, hw⟩ := hrel
    subst hw
    by_cases hlt : j < 64
    · have hl : decide ((j : Int) < 64) = true := decide_eq_true (by omega)
      have hb := HZ.out j (by omega)
      go_wp2
      exact ⟨⟨j + 1, by go_num, by omega, trivial⟩, by simp only [intOf]; omega⟩
    · have hl : decide ((j : Int) < 64) = false := decide_eq_false (by omega)
      go_wp2
      go_ret
      exact ⟨rfl, rfl⟩
set_option maxRecDepth 100000 in
set_option maxHeartbeats 2000000 in
theorem wipe_ok (hd : Ds g w s) (hw : s.wt = []) (n : Nat) (hz : ∀ i, i < s.sec.length → i ≠ n → s.sec[i]? = some zeroS) : Calls Tryd.prog 25 #[.pointer (some ⟨g.t, 0, none⟩), .int .i64 (n : Nat)] w fun e w' => e = .returned .nilIface ∧ w' = w := by
  have HS : Hid (Calls Tryd.prog 21 #[.pointer (some ⟨g.t, 0, none⟩)] w fun e w' => e = .returned (.int .i64 (s.sec.length : Nat)) ∧ w' = w) := hd.sectors
  have HT : Hid (Calls Tryd.prog 31 #[.pointer (some ⟨g.t, 0, none⟩)] w fun e w' => e = .returned .nilIface ∧ w' = w) := hd.settle hw
  have HB : Hid (∀ i, i < s.sec.length → i ≠ n → Calls Tryd.prog 43 #[.pointer (some ⟨g.t, 0, none⟩), .int .i64 (i : Nat)] w fun e w' => e = .returned (.bool true) ∧ w' = w) := fun i h1 h2 => blank_ok hd i (hz i h1 h2)
  have hm := hd.most.2
  generalize s.sec.length = N at HS HB hm
  clear hd hw hz
  go_enter Tryd.func25, Tryd.ntmps25
  go_wp2_with (go_at_call 21; refine HS.out.mono ?_; rintro e w1 ⟨rfl, h0⟩; have h1 := h0.symm; subst h1; clear h0)
  go_loopw [9] (fun i wr => ∃ j : Nat, i = .int .i64 (j : Nat) ∧ j ≤ N ∧ wr = w) (fun i _ => N - (intOf i).toNat)
  case atStart => exact ⟨0, rfl, Nat.zero_le _, rfl⟩
  case round =>
    obtain ⟨j, rfl, hj, hw⟩ := hrel
    subst hw
    by_cases hlt : j < N
    · have hl : decide ((j : Int) < (N : Int)) = true := decide_eq_true (by omega)
      by_cases hjn : j = n
      · have hb : ((j : Int) == (n : Int)) = true := by rw [hjn]; simp
        clear hjn
        go_wp2
        go_roundw
        case rel => exact ⟨j + 1, by go_num, by omega, trivial⟩
        case measure => simp [intOf]; omega
      · have hb : ((j : Int) == (n : Int)) = false := by simp; omega
        have HB1 : Hid (Calls Tryd.prog 43 #[.pointer (some ⟨g.t, 0, none⟩), .int .i64 (j : Nat)] wr fun e w' => e = .returned (.bool true) ∧ w' = wr) := HB.out j hlt hjn
        clear hjn
        go_wp2_with (go_at_call 43; refine HB1.out.mono ?_; rintro e w1 ⟨rfl, h0⟩; have h1 := h0.symm; subst h1; clear h0)
        go_roundw
        case rel => exact ⟨j + 1, by go_num, by omega, trivial⟩
        case measure => simp [intOf]; omega
    · have hl : decide ((j : Int) < (N : Int)) = false := decide_eq_false (by omega)
      go_wp2_with (go_at_call 31; refine HT.out.mono ?_; rintro e w1 ⟨rfl, h0⟩; have h1 := h0.symm; subst h1; clear h0)
      go_ret
      exact ⟨rfl, rfl⟩
set_option maxRecDepth 100000 in
set_option maxHeartbeats 2000000 in
theorem format_full (hd : Ds g w s) (hN : s.sec.length < 8) : Calls Tryd.prog 9 #[.pointer (some ⟨g.t, 0, none⟩)] w fun e w' => e = .returned (.tuple #[.pointer none, .iface 154 (.pointer (some (g.A 8)))]) ∧ Only [] w w' := by
  have HS : Hid (Calls Tryd.prog 21 #[.pointer (some ⟨g.t, 0, none⟩)] w fun e w' => e = .returned (.int .i64 (s.sec.length : Nat)) ∧ w' = w) := hd.sectors
  have ce : w.cell? ⟨1, 0, none⟩ = some (.iface 154 (.pointer (some (g.A 8)))) := hd.err 8 (by simp)
  have d0 : decide ((s.sec.length : Int) < 8) = true := decide_eq_true (by omega)
  have hlt := lt_of_cell ce
  generalize s.sec.length = N at HS d0 hN
  clear hd
  go_enter Tryd.func9, Tryd.ntmps9
  go_upto_region 2 with (go_at_call 21; refine HS.out.mono ?_; rintro e w1 ⟨rfl, h0⟩; have h1 := h0.symm; subst h1; clear h0)
  go_quiet (fail)
  go_wp2
  go_ret2
  exact ⟨rfl, drewsD (Only.refl [] _) nq⟩
theorem set3_heap {W : World} {b : Nat} {c0 c1 c2 : Value} {ty : TypeId} (hb : W.heap[b]? = some (.cells #[c0, c1, c2] ty (0, 0))) (v0 v1 v2 : Value) : (((W.setCell ⟨b, 0, none⟩ v0).setCell ⟨b, 1, none⟩ v1).setCell ⟨b, 2, none⟩ v2).heap[b]? = some (.cells #[v0, v1, v2] ty (0, 0)) := by
  rw [heap_setCell_same _ b 2 _ _ _ (heap_setCell_same _ b 1 _ _ _ (heap_setCell_same W b 0 _ _ _ hb))]
  rfl
def newHead : Hd := Hd.zero.emptied
def newSec (N : Nat) : List Sec := (List.replicate N zeroS).set 1 (padB (bs (hdT newHead)))
set_option maxRecDepth 100000 in
set_option maxHeartbeats 2000000 in
theorem format_new (hd : Ds g w s) {N : Nat} (hs : s.sec = List.replicate N zeroS) (hN : 8 ≤ N) (hw : s.wt = []) (hp : s.pw = none) : Calls Tryd.prog 9 #[.pointer (some ⟨g.t, 0, none⟩)] w fun e w' => ∃ l, e = .returned (.tuple #[.pointer (some ⟨l, 0, none⟩), .nilIface]) ∧ Ds g w' ⟨none, newSec N, []⟩ ∧ LogAt w' g l false ∧ OthL w w' ∧ w.heap.size ≤ l := by
  have hl : s.sec.length = N := by rw [hs]; simp
  have HS : Hid (Calls Tryd.prog 21 #[.pointer (some ⟨g.t, 0, none⟩)] w fun e w' => e = .returned (.int .i64 (N : Nat)) ∧ w' = w) := by rw [← hl]; exact hd.sectors
  have HNW : Hid (Calls Tryd.prog 22 #[.pointer (some ⟨g.t, 0, none⟩)] w fun e w' => e = .returned (.tuple #[hdV Hd.zero, .bool false]) ∧ Only [] w w') := by
    have := hd.newest
    rw [hs, newest_zero] at this
    exact this
  have d0 : decide ((N : Int) < 8) = false := decide_eq_false (by omega)
  have HEM : Hid (∀ W, Calls Tryd.prog 23 #[hdV Hd.zero] W fun e w' => e = .returned (hdV newHead) ∧ Only [] W w') := fun W => emptied_ok W Hd.zero ⟨by decide, by decide, by decide⟩ (by decide)
  have hok : newHead.Ok := ⟨by decide, by decide, by decide⟩
  have HSV : Hid (∀ W, Ds g W s → Calls Tryd.prog 24 #[hdV newHead, .pointer (some ⟨g.t, 0, none⟩)] W fun e w' => e = .returned .nilIface ∧ Ds g w' ⟨none, newSec N, []⟩ ∧ Oth W w') := fun W hW => (save_any hW newHead hok (by omega) (by rw [hw]; exact Nat.zero_le _)).mono fun e w' q => by
    obtain ⟨c, s', he, hP, h1, h2⟩ := q
    rcases hP with ⟨_, p1, _⟩ | ⟨_, p1, _⟩ | ⟨rfl, p1, p2, p3⟩
    · exact absurd hp p1
    · exact absurd hp p1
    · have e1 : s' = ⟨none, newSec N, []⟩ := by
        obtain ⟨a, b, c⟩ := s'
        have p4 := p3 hp
        simp only at p1 p2 p4
        rw [hs] at p1
        subst p1 p2 p4
        rfl
      rw [← e1]
      exact ⟨he, h1, h2⟩
  have HSL : Hid (∀ W, Calls Tryd.prog 26 #[hdV newHead] W fun e w' => e = .returned (.int .i64 (1 : Nat)) ∧ Only [] W w') := fun W => slot_ok W newHead hok
  have HWP : Hid (∀ W, Ds g W ⟨none, newSec N, []⟩ → Calls Tryd.prog 25 #[.pointer (some ⟨g.t, 0, none⟩), .int .i64 (1 : Nat)] W fun e w' => e = .returned .nilIface ∧ w' = W) := fun W hW => wipe_ok hW rfl 1 (fun i h1 h2 => by
    have h3 : i < N := by simpa [newSec] using h1
    show (newSec N)[i]? = _
    unfold newSec
    rw [List.getElem?_set_ne (by omega), List.getElem?_replicate, if_pos h3])
  have HD : Hid (Ds g w s) := hd
  have HZ : Hid (g.W0.heap.size ≤ w.heap.size) := hd.bel.size
  generalize newHead = nh at HEM HSV HSL
  clear hd hl hs hw hp hok
  go_enter Tryd.func9, Tryd.ntmps9
  go_upto_region 4 with (first
    | (go_at_call 21; refine HS.out.mono ?_; rintro e w1 ⟨rfl, h0⟩; have h1 := h0.symm; subst h1; clear h0)
    | (go_at_call 22; refine HNW.out.mono ?_; rintro e w1 ⟨rfl, h1⟩; have HO : Hid (Only [] w (w1.alloc (hdO Hd.zero))) := h1.alloc _; have HGE : Hid (w.heap.size ≤ w1.heap.size) := h1.size; clear h1))
  have b1 := heap_alloc_last w1 (hdO Hd.zero)
  generalize w1.heap.size = hb at b1 HGE ⊢
  generalize w1.alloc (hdO Hd.zero) = W1 at HO b1 ⊢
  obtain ⟨q0, q1, q2, q4, q5⟩ := cells3 b1
  have HB1 : Hid (W1.heap[hb]? = some (.cells #[.int .u32 (Hd.zero.calls : Nat), .int .i64 (Hd.zero.half : Nat), .int .i64 (Hd.zero.used : Nat)] 64 (0, 0))) := b1
  clear b1
  go_upto_region 5 with (go_at_call 23; refine (HEM.out _).mono ?_; rintro e w2 ⟨rfl, h1⟩; obtain ⟨q0, q1, q2, q4, q5⟩ := cells3 (kept3 HB1.out h1); have HO2 : Hid (Only [] W1 w2) := h1; clear h1)
  have o2 : Only [] w w2 := HO.out.trans HO2.out (fun _ h => by cases h)
  have o3 := set3 o2 HGE.out (.int .u32 (nh.calls : Nat)) (.int .i64 (nh.half : Nat)) (.int .i64 (nh.used : Nat))
  have b3 := set3_heap (kept3 HB1.out HO2.out) (.int .u32 (nh.calls : Nat)) (.int .i64 (nh.half : Nat)) (.int .i64 (nh.used : Nat))
  clear o2 q0 q1 q2 q4 q5 HO HO2 HB1
  generalize ((w2.setCell ⟨hb, 0, none⟩ (.int .u32 (nh.calls : Nat))).setCell ⟨hb, 1, none⟩ (.int .i64 (nh.half : Nat))).setCell ⟨hb, 2, none⟩ (.int .i64 (nh.used : Nat)) = W3 at o3 b3 ⊢
  have HO3 : Hid (Only [] w W3) := o3
  have HD3 : Hid (Ds g W3 s) := HD.out.keep o3
  have HB3 : Hid (W3.heap[hb]? = some (.cells #[.int .u32 (nh.calls : Nat), .int .i64 (nh.half : Nat), .int .i64 (nh.used : Nat)] 64 (0, 0))) := b3
  obtain ⟨q0, q1, q2, q4, q5⟩ := cells3 b3
  clear o3 b3
  go_wp2_with (first
    | (go_at_call 24; refine (HSV.out _ HD3.out).mono ?_; rintro e w4 ⟨rfl, h1, h2⟩; obtain ⟨q0, q1, q2, q4, q5⟩ := cells3 (Oth.kept3 HB3.out h2); have HD4 : Hid (Ds g w4 ⟨none, newSec N, []⟩ ∧ Oth w w4) := ⟨h1, (Oth.of_only HO3.out).trans h2⟩; clear h1 h2)
    | (go_at_call 26; refine (HSL.out _).mono ?_; rintro e w5 ⟨rfl, h1⟩; have HD5 : Hid (Ds g w5 ⟨none, newSec N, []⟩ ∧ Oth w w5) := ⟨HD4.out.1.keep h1, HD4.out.2.trans (Oth.of_only h1)⟩; clear h1)
    | (go_at_call 25; refine (HWP.out _ HD5.out.1).mono ?_; rintro e w6 ⟨rfl, h0⟩; have h1 := h0.symm; subst h1; clear h0))
  go_ret2
  have ho : Only [] w5 (w5.alloc (.cells #[.pointer (some ⟨g.t, 0, none⟩), .bool false] 71)) := (Only.refl [] w5).alloc _
  exact ⟨w5.heap.size, rfl, HD5.out.1.keep ho, ⟨heap_alloc_last w5 _, HD5.out.1.bel.size⟩, (HD5.out.2.trans (Oth.of_only ho)).toL, HD5.out.2.size⟩
theorem newSec_log {N : Nat} (h1 : 8 ≤ N) (h2 : N ≤ 4000) : LogOk (newSec N) [] 0 := new_log h1 h2
end
end Go.Proofs.YtlcloahkeamdkaaDoor
