/- A log on a disk, plain: what is there, and what each call makes of it. -/
import Derived.Test.YtlcloahkeamdkaaDoorG3
/- A log on a disk, plain: what is there, and what each call makes of it. -/
namespace Go.Proofs.YtlcloahkeamdkaaDoor
open Go Go.RowKit Go.Deep

/-- On these sectors is a log of these records, so many Adds behind its last Clear. -/
def LogOk (sec : List Sec) (R : List (List UInt8)) (n : Nat) : Prop := ∃ (h : Hd) (Ls : List (List (List UInt8))), newestL sec = some h ∧ textOf h sec = (Ls.map fun L => fillT (blkT L)).flatten ∧ R = Ls.flatten ∧ (∀ L ∈ Ls, BkOk L) ∧ h.used * 64 ≤ 64 + 64 * n + wgt R
theorem LogOk.recs {sec : List Sec} {R : List (List UInt8)} {n : Nat} (h : LogOk sec R n) : ∃ h, newestL sec = some h ∧ recsOf h sec = some R := by
  obtain ⟨h, Ls, h1, h2, rfl, h4, _⟩ := h
  refine ⟨h, h1, ?_⟩
  unfold recsOf rAll
  rw [h2, rBlks_read h4 [] _ (Nat.le_refl _)]
  simp
theorem padB_take (l : List UInt8) (h : l.length ≤ 64) (k : Nat) (hk : k ≤ l.length) : (padB (bs l)).1.take k = l.take k := by
  simp only [padB, bs]
  rw [List.take_take, Nat.min_eq_left (by omega), List.take_append_of_le_length (by simpa using hk)]
theorem padB_part (l : List UInt8) (h : l.length ≤ 64) (j k : Nat) (hk : j + k ≤ l.length) : ((padB (bs l)).1.drop j).take k = (l.drop j).take k := by
  have e : ∀ m : List UInt8, (m.drop j).take k = (m.take (j + k)).drop j := fun m => by rw [List.drop_take]; congr 1; omega
  rw [e, e, padB_take l h (j + k) hk]
theorem mark_len : markL.length = 16 := rfl
theorem hdRead_hdT {h : Hd} (hk : h.Ok) : hdRead (padB (bs (hdT h))) = h ∧ isMark (padB (bs (hdT h))) = true := by
  have hl := hdT_len h
  have p := fun j k (hk : j + k ≤ 28) => padB_part (hdT h) (by omega) j k (by omega)
  have e1 : ((hdT h).drop 16).take 4 = wd h.calls := by simp [hdT, markL, wd]
  have e2 : ((hdT h).drop 20).take 4 = wd h.half := by simp [hdT, markL, wd]
  have e3 : ((hdT h).drop 24).take 4 = wd h.used := by simp [hdT, markL, wd]
  refine ⟨?_, ?_⟩
  · unfold hdRead
    rw [p 16 4 (by decide), p 20 4 (by decide), p 24 4 (by decide), e1, e2, e3, unwd_wd hk.calls, unwd_wd hk.half, unwd_wd hk.used]
  · unfold isMark
    rw [padB_take (hdT h) (by omega) 16 (by omega)]
    simp [hdT, markL]
theorem headAt_set {sec : List Sec} {h : Hd} (hk : h.Ok) (hf : h.fits sec.length = true) (hN : 2 ≤ sec.length) : headAt (sec.set (h.calls % 2) (padB (bs (hdT h)))) (h.calls % 2) = some h := by
  obtain ⟨r1, r2⟩ := hdRead_hdT hk
  unfold headAt
  rw [List.getElem?_set_self (by omega), List.length_set, Option.bind_some]
  unfold hdOf
  rw [r1, r2, hf]
  simp
theorem headAt_same {sec sec' : List Sec} {i : Nat} (h : sec'[i]? = sec[i]?) (hl : sec'.length = sec.length) : headAt sec' i = headAt sec i := by
  unfold headAt
  rw [h, hl]
theorem newest_pick {sec : List Sec} {h h' : Hd} (h1 : headAt sec (h.calls % 2) = some h) (h2 : headAt sec (h'.calls % 2) = some h') (hc : h'.calls = (h.calls + 1) % 4294967296) (hb : h.calls < 4294967296) : newestL sec = some h' := by
  have hp : h.calls % 2 = 0 ∧ h'.calls % 2 = 1 ∨ h.calls % 2 = 1 ∧ h'.calls % 2 = 0 := by omega
  unfold newestL
  rcases hp with ⟨e1, e2⟩ | ⟨e1, e2⟩
  · rw [e1] at h1
    rw [e2] at h2
    have hbh : h'.behind h = true := by unfold Hd.behind; apply decide_eq_true; omega
    simp [h1, h2, hbh]
  · rw [e1] at h1
    rw [e2] at h2
    have hbh : h.behind h' = false := by unfold Hd.behind; apply decide_eq_false; omega
    simp [h1, h2, hbh]
theorem newest_near {sec s : List Sec} {a k : Nat} (hn : Near sec a k s) (ha : 2 ≤ a) : newestL s = newestL sec := by
  unfold newestL
  rw [headAt_same (hn.2 0 (by omega)) hn.1, headAt_same (hn.2 1 (by omega)) hn.1]
theorem text_near {sec s : List Sec} {a k : Nat} {h : Hd} (hn : Near sec a k s) (hd : h.first sec.length + h.used ≤ a ∨ a + k ≤ h.first sec.length) : textOf h s = textOf h sec := by
  unfold textOf
  rw [hn.1]
  congr 1
  apply List.ext_getElem?
  intro i
  simp only [List.getElem?_take, List.getElem?_drop]
  split
  · exact hn.2 _ (by omega)
  · rfl
theorem LogOk.near {sec s : List Sec} {R : List (List UInt8)} {n a k : Nat} {h : Hd} (hl : LogOk sec R n) (hh : newestL sec = some h) (hn : Near sec a k s) (ha : 2 ≤ a) (hd : h.first sec.length + h.used ≤ a ∨ a + k ≤ h.first sec.length) : LogOk s R n := by
  obtain ⟨h', Ls, h1, h2, h3, h4, h5⟩ := hl
  obtain rfl : h = h' := Option.some.inj (hh.symm.trans h1)
  exact ⟨h, Ls, (newest_near hn ha).trans h1, (text_near hn hd).trans h2, h3, h4, h5⟩
/-- The text of the records, once a block is behind it. -/
theorem text_put {sec : List Sec} {h : Hd} {T : List UInt8} (hN : 2 ≤ h.first sec.length) (hfit : h.first sec.length + h.used + secsN T.length ≤ sec.length) : textOf (hdN h T) (secB sec h T) = textOf h sec ++ fillT T := by
  have hlen : (secB sec h T).length = sec.length := by unfold secB secA; rw [List.length_set, putAt_len]
  have hF : (hdN h T).first (secB sec h T).length = h.first sec.length := by rw [hlen]; rfl
  unfold textOf
  rw [hF, ← pieces_fill, ← concatS_app]
  congr 1
  show ((secB sec h T).drop _).take (h.used + secsN T.length) = _
  apply List.ext_getElem?
  intro i
  have hl2 : ((sec.drop (h.first sec.length)).take h.used).length = h.used := by simp; omega
  have hs : ∀ j, (secB sec h T)[h.first sec.length + j]? = (secA sec h T)[h.first sec.length + j]? := fun j => by
    unfold secB
    rw [List.getElem?_set_ne (by omega)]
  rw [List.getElem?_append, hl2, List.getElem?_take, List.getElem?_drop, hs]
  unfold secA
  by_cases hi : i < h.used
  · rw [if_pos hi, if_pos (by omega), putAt_other _ _ _ _ (by omega), List.getElem?_take, if_pos hi, List.getElem?_drop]
  · rw [if_neg hi]
    by_cases hi2 : i < h.used + secsN T.length
    · rw [if_pos hi2]
      have := putAt_in sec (h.first sec.length + h.used) (piecesS T (secsN T.length)) (i - h.used) (by rw [piecesS_len]; omega) (by rw [piecesS_len]; omega)
      rw [← this]
      congr 1
      omega
    · rw [if_neg hi2]
      symm
      rw [List.getElem?_eq_none_iff, piecesS_len]
      omega
theorem wgt_len (L : List (List UInt8)) : 16 * L.length ≤ wgt L ∧ ∀ s ∈ L, s.length ≤ wgt L := by
  induction L with
  | nil => exact ⟨Nat.zero_le _, fun s hs => by cases hs⟩
  | cons s L ih =>
    have e : wgt (s :: L) = 16 + s.length + wgt L := by simp [wgt]
    refine ⟨by rw [e, List.length_cons]; omega, fun x hx => ?_⟩
    rcases List.mem_cons.1 hx with rfl | hx
    · omega
    · have := ih.2 x hx
      omega
theorem wgt_app (A B : List (List UInt8)) : wgt (A ++ B) = wgt A + wgt B := by simp [wgt]
/-- Whatever head comes next, with a block behind its text. -/
theorem next_log {sec : List Sec} {h h1 : Hd} {L : List (List UInt8)} {Ls : List (List (List UInt8))} {n : Nat} (hm : sec.length ≤ 4000) (hh : newestL sec = some h) (hc : h1.calls = (h.calls + 1) % 4294967296) (hh1 : h1.half ≤ 1) (hu : h1.used + secsN (blkT L).length ≤ (sec.length - 2) / 2)
    (hx : textOf h1 sec = (Ls.map fun L => fillT (blkT L)).flatten) (hb : ∀ L ∈ Ls, BkOk L) (htk : (h1.used + secsN (blkT L).length) * 64 ≤ 64 + 64 * n + wgt (Ls.flatten ++ L)) : LogOk (secB sec h1 (blkT L)) (Ls.flatten ++ L) n := by
  obtain ⟨k1, k2, k3⟩ := newest_read hh
  obtain ⟨f1, f2, f3⟩ := Hd.fits_iff k2
  have hroom : h1.first sec.length + h1.used + secsN (blkT L).length ≤ sec.length := half_room hh1 f1 hu
  have hlenA : (secA sec h1 (blkT L)).length = sec.length := by unfold secA; rw [putAt_len]
  have hF2 : 2 ≤ h1.first sec.length := by unfold Hd.first; omega
  have hfit : (hdN h1 (blkT L)).fits sec.length = true := by
    unfold Hd.fits hdN
    exact decide_eq_true ⟨f1, hh1, hu⟩
  have hok : (hdN h1 (blkT L)).Ok := ⟨by show h1.calls < _; omega, by show h1.half < _; omega, by show h1.used + secsN (blkT L).length < _; omega⟩
  have hA : ∀ i, i < 2 → (secA sec h1 (blkT L))[i]? = sec[i]? := fun i hi => by unfold secA; exact putAt_other _ _ _ _ (by omega)
  have hnew : newestL (secB sec h1 (blkT L)) = some (hdN h1 (blkT L)) := by
    refine newest_pick (h := h) ?_ ?_ hc k1.calls
    · unfold secB
      rw [headAt_same (sec := sec) ?_ (by rw [List.length_set, hlenA]), k3]
      rw [List.getElem?_set_ne (by omega), hA _ (by omega)]
    · have := headAt_set (sec := secA sec h1 (blkT L)) hok (by rw [hlenA]; exact hfit) (by omega)
      exact this
  refine ⟨hdN h1 (blkT L), Ls ++ [L], hnew, ?_, by simp, fun M hM => ?_, htk⟩
  · rw [text_put hF2 hroom, hx]
    simp
  · rcases List.mem_append.1 hM with hM | hM
    · exact hb M hM
    · obtain rfl := List.mem_singleton.1 hM
      have h7 := wgt_len M
      have h8 := blkT_len M
      have h9 : (blkT M).length ≤ 128000 := by unfold secsN at hu; omega
      exact ⟨by omega, fun s hs => by have := h7.2 s hs; omega⟩
/-- Add, plain. -/
theorem add_log {sec : List Sec} {R L : List (List UInt8)} {n : Nat} {h : Hd} (hm : sec.length ≤ 4000) (hl : LogOk sec R n) (hh : newestL sec = some h) (ht : h.used + secsN (blkT L).length ≤ (sec.length - 2) / 2) :
    LogOk (secB sec h.cont (blkT L)) (R ++ L) (n + 1) ∧ ∀ s, Near sec (h.cont.first sec.length + h.cont.used) (secsN (blkT L).length) s → LogOk s R n := by
  have hl0 := hl
  obtain ⟨h', Ls, h1, h2, rfl, h4, h5⟩ := hl
  obtain rfl : h = h' := Option.some.inj (hh.symm.trans h1)
  obtain ⟨k1, k2, k3⟩ := newest_read hh
  obtain ⟨f1, f2, f3⟩ := Hd.fits_iff k2
  have hsf := secs_fit L
  refine ⟨next_log (n := n + 1) hm hh rfl f2 ht h2 h4 (by show (h.used + secsN (blkT L).length) * 64 ≤ _; rw [wgt_app]; omega), fun s hn => hl0.near hh hn ?_ (Or.inl (Nat.le_refl _))⟩
  show 2 ≤ 2 + h.half * ((sec.length - 2) / 2) + h.used
  omega
/-- Clear, plain. -/
theorem clear_log {sec : List Sec} {R L : List (List UInt8)} {n : Nat} {h : Hd} (hm : sec.length ≤ 4000) (hl : LogOk sec R n) (hh : newestL sec = some h) (ht : secsN (blkT L).length ≤ (sec.length - 2) / 2) :
    LogOk (secB sec h.emptied (blkT L)) L 0 ∧ ∀ s, Near sec (h.emptied.first sec.length + h.emptied.used) (secsN (blkT L).length) s → LogOk s R n := by
  obtain ⟨k1, k2, k3⟩ := newest_read hh
  obtain ⟨f1, f2, f3⟩ := Hd.fits_iff k2
  have hsf := secs_fit L
  have h0 : h.emptied.used = 0 := rfl
  refine ⟨?_, fun s hn => hl.near hh hn ?_ ?_⟩
  · have := next_log (h1 := h.emptied) (L := L) (Ls := []) (n := 0) hm hh rfl (by show 1 - h.half ≤ 1; omega) (by rw [h0]; omega) (by unfold textOf; rw [h0]; rfl) (fun L hL => by cases hL) (by rw [h0]; simpa using hsf)
    simpa using this
  · show 2 ≤ 2 + (1 - h.half) * ((sec.length - 2) / 2) + 0
    omega
  · show 2 + h.half * ((sec.length - 2) / 2) + h.used ≤ 2 + (1 - h.half) * ((sec.length - 2) / 2) + 0 ∨ 2 + (1 - h.half) * ((sec.length - 2) / 2) + 0 + secsN (blkT L).length ≤ 2 + h.half * ((sec.length - 2) / 2)
    have h6 : h.half = 0 ∨ h.half = 1 := by omega
    rcases h6 with h6 | h6 <;> rw [h6] <;> omega
/-- Is there room for these records, behind those that are there (or in their place)? -/
def roomS (sec : List Sec) (c : Bool) (L : List (List UInt8)) : Prop := (if c then 0 else ((newestL sec).getD Hd.zero).used) + secsN (blkT L).length ≤ (sec.length - 2) / 2
theorem LogOk.full {sec : List Sec} {R L : List (List UInt8)} {n : Nat} {c : Bool} (hl : LogOk sec R n) (h : ¬ roomS sec c L) : sec.length * 64 / 3 < 64 + 64 * (if c then 0 else n + 1) + wgt ((if c then [] else R) ++ L) := by
  obtain ⟨h', Ls, h1, h2, h3, h4, h5⟩ := hl
  obtain ⟨k1, k2, k3⟩ := newest_read h1
  obtain ⟨f1, f2, f3⟩ := Hd.fits_iff k2
  have hsf := secs_fit L
  unfold roomS at h
  rw [h1, Option.getD_some] at h
  rw [wgt_app]
  cases c with
  | true =>
    simp only [if_true] at h ⊢
    omega
  | false =>
    simp only [Bool.false_eq_true, if_false] at h ⊢
    omega
/-- A new log. -/
theorem new_log {N : Nat} (h1 : 8 ≤ N) (h2 : N ≤ 4000) : LogOk ((List.replicate N zeroS).set (Hd.zero.emptied.calls % 2) (padB (bs (hdT Hd.zero.emptied)))) [] 0 := by
  have e1 : Hd.zero.emptied = ⟨1, 1, 0⟩ := rfl
  have hok : Hd.zero.emptied.Ok := ⟨by decide, by decide, by decide⟩
  have hlen : (List.replicate N zeroS).length = N := by simp
  have hfit : Hd.zero.emptied.fits (List.replicate N zeroS).length = true := by
    rw [hlen, e1]
    unfold Hd.fits
    apply decide_eq_true
    exact ⟨h1, by decide, Nat.zero_le _⟩
  have hs := headAt_set (sec := List.replicate N zeroS) hok hfit (by omega)
  have hz : headAt ((List.replicate N zeroS).set (Hd.zero.emptied.calls % 2) (padB (bs (hdT Hd.zero.emptied)))) 0 = none := by
    have e2 : Hd.zero.emptied.calls % 2 = 1 := rfl
    rw [e2]
    unfold headAt
    rw [List.getElem?_set_ne (by decide), List.getElem?_replicate, if_pos (by omega), Option.bind_some]
    unfold hdOf
    have : isMark zeroS = false := by decide
    rw [this]
    rfl
  refine ⟨Hd.zero.emptied, [], ?_, ?_, rfl, (fun L hL => by cases hL), by decide⟩
  · have e2 : Hd.zero.emptied.calls % 2 = 1 := rfl
    unfold newestL
    rw [hz]
    rw [e2] at hs ⊢
    rw [hs]
  · unfold textOf
    rfl
theorem newest_zero (N : Nat) : newestL (List.replicate N zeroS) = none := by
  have : ∀ i, headAt (List.replicate N zeroS) i = none := fun i => by
    unfold headAt
    rw [List.getElem?_replicate]
    split
    · unfold hdOf
      have : isMark zeroS = false := by decide
      rw [Option.bind_some, this]
      rfl
    · rfl
  unfold newestL
  rw [this 0, this 1]
end Go.Proofs.YtlcloahkeamdkaaDoor
/- A log: Add, Clear. -/
namespace Go.Proofs.YtlcloahkeamdkaaDoor
open Go Go.RowKit Go.Deep

def crashS (keep : Nat → Bool) (s : DSt) : List Sec := redo keep s.wt (undo s.sec s.wt) s.wt.length
/-- What an act of a log leaves: the records are R, so many Adds n; behind it R', n'. -/
def ActP (s : DSt) (R R' : List (List UInt8)) (n n' : Nat) (r : Prop) (c : Nat) (dark' : Bool) (s' : DSt) : Prop :=
  (c = 9 ∧ dark' = false ∧ s' = s ∧ ¬ r) ∨
  (c = 0 ∧ dark' = false ∧ s'.wt = [] ∧ LogOk s'.sec R' n' ∧ s'.sec.length = s.sec.length ∧ (s.pw = none → s'.pw = none) ∧ r) ∨
  (c = 15 ∧ dark' = true ∧ s.pw ≠ none ∧ s'.wt.length ≤ 5000 ∧ s'.sec.length = s.sec.length ∧ ∀ keep, LogOk (crashS keep s') R n ∨ LogOk (crashS keep s') R' n')
def ActR (g : Dv) (w w' : World) (l : Nat) (s : DSt) (R R' : List (List UInt8)) (n n' : Nat) (r : Prop) (e : Ending) : Prop :=
  ∃ c dark' s', e = .returned (errN g.A c) ∧ ActP s R R' n n' r c dark' s' ∧ Ds g w' s' ∧ LogAt w' g l dark' ∧ OthL w w'
theorem secB_len (sec : List Sec) (h : Hd) (T : List UInt8) : (secB sec h T).length = sec.length := by unfold secB secA; rw [List.length_set, putAt_len]
theorem crash_len {s' : DSt} {N : Nat} (keep : Nat → Bool) (h : (crashS keep s').length = N) : s'.sec.length = N := by rw [← h, crashS, redo_len, undo_len]
section
variable {g : Dv} {w w' : World} {s : DSt} {l : Nat}
/-- What write leaves, as an act. -/
theorem act_of_write {h1 : Hd} {L R R' : List (List UInt8)} {n n' : Nat} {r : Prop} {w0 : World} {e : Ending} (ho : Only [] w w0) (hr : WrR g w0 w' s l h1 L e) (hrr : r ↔ h1.used + secsN (blkT L).length ≤ (s.sec.length - 2) / 2)
    (hn : h1.used + secsN (blkT L).length ≤ (s.sec.length - 2) / 2 → LogOk (secB s.sec h1 (blkT L)) R' n' ∧ ∀ q, Near s.sec (h1.first s.sec.length + h1.used) (secsN (blkT L).length) q → LogOk q R n) : ∃ v, e = .returned v ∧ ActR g w w' l s R R' n n' r (.returned v) := by
  rcases hr with ⟨a, rfl, b, c, d⟩ | ⟨a, c, s', rfl, hP, h2, h3, h4⟩
  · exact ⟨_, rfl, 9, false, s, rfl, Or.inl ⟨rfl, rfl, rfl, fun e => by have := hrr.1 e; omega⟩, b, c, (OthL.of_only ho).trans d⟩
  · obtain ⟨q1, q2⟩ := hn a
    refine ⟨_, rfl, c, _, s', rfl, ?_, h2, h3, (OthL.of_only ho).trans h4⟩
    rcases hP with ⟨rfl, p1, p2, p3⟩ | ⟨rfl, p1, p2, p3⟩
    · refine Or.inr (Or.inr ⟨rfl, rfl, p1, p2, ?_, fun keep => ?_⟩)
      · rcases p3 (fun _ => false) with p3 | p3
        · exact crash_len (fun _ => false) p3.1
        · exact crash_len (fun _ => false) ((congrArg List.length p3).trans (secB_len _ _ _))
      · rcases p3 keep with p3 | p3
        · exact Or.inl (q2 _ p3)
        · refine Or.inr ?_
          show LogOk (redo keep s'.wt (undo s'.sec s'.wt) s'.wt.length) R' n'
          rw [p3]
          exact q1
    · exact Or.inr (Or.inl ⟨rfl, rfl, p2, by rw [p1]; exact q1, by rw [p1, secB_len], p3, hrr.2 a⟩)
set_option maxRecDepth 100000 in
set_option maxHeartbeats 2000000 in
theorem ladd_dark (hd : Ds g w s) (hl : LogAt w g l true) (v : Value) :
    Calls Tryd.prog 20 #[.pointer (some ⟨l, 0, none⟩), v] w fun e w' => e = .returned (.iface 154 (.pointer (some (g.A 14)))) ∧ Only [] w w' := by
  have H : Hid (Calls Tryd.prog 37 #[.pointer (some ⟨l, 0, none⟩)] w fun e w' => e = .returned (.tuple #[hdV Hd.zero, .iface 154 (.pointer (some (g.A 14)))]) ∧ Only [] w w') := lhead_dark hd hl
  clear hd hl
  go_enter Tryd.func20, Tryd.ntmps20
  go_wp2_with (go_at_call 37; refine H.out.mono ?_; rintro e w1 ⟨rfl, h1⟩; have HO : Hid (Only [] w w1) := h1; clear h1)
  go_ret
  exact ⟨rfl, HO.out.alloc _⟩
set_option maxRecDepth 100000 in
set_option maxHeartbeats 2000000 in
theorem ladd_lit (hd : Ds g w s) (hl : LogAt w g l false) (hw : s.wt = []) {R : List (List UInt8)} {n : Nat} (hlog : LogOk s.sec R n) (ad : Option Addr) (cap : Nat) (L : List (List UInt8)) (hT : TxIn w ad L) (hL : L.length ≤ 2000000) (hW : wgt L < 4000000000) :
    Calls Tryd.prog 20 #[.pointer (some ⟨l, 0, none⟩), .slice ad L.length cap] w fun e w' => ActR g w w' l s R (R ++ L) n (n + 1) (roomS s.sec false L) e := by
  have hlog0 := hlog
  have hmost := hd.most.2
  obtain ⟨h, Ls, e1, e2, e3, e4, e5⟩ := hlog
  obtain ⟨k1, k2, k3⟩ := newest_read e1
  obtain ⟨f1, f2, f3⟩ := Hd.fits_iff k2
  have hrs : ∀ c, roomS s.sec c L ↔ (if c then 0 else h.used) + secsN (blkT L).length ≤ (s.sec.length - 2) / 2 := fun c => by unfold roomS; rw [e1, Option.getD_some]
  have H : Hid (Calls Tryd.prog 37 #[.pointer (some ⟨l, 0, none⟩)] w fun e w' => e = .returned (.tuple #[hdV h, .nilIface]) ∧ Only [] w w') := lhead_lit hd hl h e1
  have HC : Hid (∀ W, Only [] w W → Calls Tryd.prog 39 #[hdV h] W fun e w' => e = .returned (hdV h.cont) ∧ Only [] w w') := fun W ho => (continued_ok W h k1).mono fun e w' q => ⟨q.1, ho.trans q.2 (fun _ h => by cases h)⟩
  have HW : Hid (∀ W, Only [] w W → Calls Tryd.prog 38 #[.pointer (some ⟨l, 0, none⟩), hdV h.cont, .slice ad L.length cap] W fun e w' => ∃ v, e = .returned v ∧ ActR g w w' l s R (R ++ L) n (n + 1) (roomS s.sec false L) (.returned v)) := fun W ho => (lwrite_any (hd.keep ho) (hl.keep (Oth.of_only ho)) h.cont ⟨Nat.mod_lt _ (by decide), by show h.half < 4294967296; omega, by show h.used < 4294967296; omega⟩ (by show h.half ≤ 1; omega) f1 hw ad cap L (hT.only ho) hL (by omega)).mono fun e w' q => act_of_write ho q (hrs false) (fun ht => add_log hmost hlog0 e1 ht)
  clear hd hl hw hlog0 hT k1 k2 k3 e1 e2 e3 e4 e5 hrs
  go_enter Tryd.func20, Tryd.ntmps20
  go_upto_region 4 with (go_at_call 37; refine H.out.mono ?_; rintro e w1 ⟨rfl, h1⟩; have HO : Hid (Only [] w (w1.alloc (hdO h))) := h1.alloc _; clear h1)
  obtain ⟨q0, q1, q2, q4, q5⟩ := cells3 (heap_alloc_last w1 (hdO h))
  generalize w1.heap.size = hb at q0 q1 q2 q4 q5 ⊢
  generalize w1.alloc (hdO h) = W1 at q0 q1 q2 q4 q5 HO ⊢
  go_wp2_with (first
    | (go_at_call 39; refine (HC.out _ HO.out).mono ?_; rintro e w2 ⟨rfl, h1⟩; have HO2 : Hid (Only [] w w2) := h1; clear h1)
    | (go_at_call 38; refine (HW.out _ HO2.out).mono ?_; rintro e w3 ⟨v, rfl, h1⟩; have HR : Hid (ActR g w w3 l s R (R ++ L) n (n + 1) (roomS s.sec false L) (.returned v)) := h1; clear h1))
  go_ret
  exact HR.out
set_option maxRecDepth 100000 in
set_option maxHeartbeats 2000000 in
theorem lclear_dark (hd : Ds g w s) (hl : LogAt w g l true) (v : Value) :
    Calls Tryd.prog 28 #[.pointer (some ⟨l, 0, none⟩), v] w fun e w' => e = .returned (.iface 154 (.pointer (some (g.A 14)))) ∧ Only [] w w' := by
  have H : Hid (Calls Tryd.prog 37 #[.pointer (some ⟨l, 0, none⟩)] w fun e w' => e = .returned (.tuple #[hdV Hd.zero, .iface 154 (.pointer (some (g.A 14)))]) ∧ Only [] w w') := lhead_dark hd hl
  clear hd hl
  go_enter Tryd.func28, Tryd.ntmps28
  go_wp2_with (go_at_call 37; refine H.out.mono ?_; rintro e w1 ⟨rfl, h1⟩; have HO : Hid (Only [] w w1) := h1; clear h1)
  go_ret
  exact ⟨rfl, HO.out.alloc _⟩
set_option maxRecDepth 100000 in
set_option maxHeartbeats 2000000 in
theorem lclear_lit (hd : Ds g w s) (hl : LogAt w g l false) (hw : s.wt = []) {R : List (List UInt8)} {n : Nat} (hlog : LogOk s.sec R n) (ad : Option Addr) (cap : Nat) (L : List (List UInt8)) (hT : TxIn w ad L) (hL : L.length ≤ 2000000) (hW : wgt L < 4000000000) :
    Calls Tryd.prog 28 #[.pointer (some ⟨l, 0, none⟩), .slice ad L.length cap] w fun e w' => ActR g w w' l s R (L) n (0) (roomS s.sec true L) e := by
  have hlog0 := hlog
  have hmost := hd.most.2
  obtain ⟨h, Ls, e1, e2, e3, e4, e5⟩ := hlog
  obtain ⟨k1, k2, k3⟩ := newest_read e1
  obtain ⟨f1, f2, f3⟩ := Hd.fits_iff k2
  have hrs : ∀ c, roomS s.sec c L ↔ (if c then 0 else h.used) + secsN (blkT L).length ≤ (s.sec.length - 2) / 2 := fun c => by unfold roomS; rw [e1, Option.getD_some]
  have H : Hid (Calls Tryd.prog 37 #[.pointer (some ⟨l, 0, none⟩)] w fun e w' => e = .returned (.tuple #[hdV h, .nilIface]) ∧ Only [] w w') := lhead_lit hd hl h e1
  have HC : Hid (∀ W, Only [] w W → Calls Tryd.prog 23 #[hdV h] W fun e w' => e = .returned (hdV h.emptied) ∧ Only [] w w') := fun W ho => (emptied_ok W h k1 f2).mono fun e w' q => ⟨q.1, ho.trans q.2 (fun _ h => by cases h)⟩
  have HW : Hid (∀ W, Only [] w W → Calls Tryd.prog 38 #[.pointer (some ⟨l, 0, none⟩), hdV h.emptied, .slice ad L.length cap] W fun e w' => ∃ v, e = .returned v ∧ ActR g w w' l s R (L) n (0) (roomS s.sec true L) (.returned v)) := fun W ho => (lwrite_any (hd.keep ho) (hl.keep (Oth.of_only ho)) h.emptied ⟨Nat.mod_lt _ (by decide), by show 1 - h.half < 4294967296; omega, by show 0 < 4294967296; omega⟩ (by show 1 - h.half ≤ 1; omega) f1 hw ad cap L (hT.only ho) hL (by omega)).mono fun e w' q => act_of_write ho q (hrs true) (fun ht => clear_log hmost hlog0 e1 (by have e0 : h.emptied.used = 0 := rfl; omega))
  clear hd hl hw hlog0 hT k1 k2 k3 e1 e2 e3 e4 e5 hrs
  go_enter Tryd.func28, Tryd.ntmps28
  go_upto_region 4 with (go_at_call 37; refine H.out.mono ?_; rintro e w1 ⟨rfl, h1⟩; have HO : Hid (Only [] w (w1.alloc (hdO h))) := h1.alloc _; clear h1)
  obtain ⟨q0, q1, q2, q4, q5⟩ := cells3 (heap_alloc_last w1 (hdO h))
  generalize w1.heap.size = hb at q0 q1 q2 q4 q5 ⊢
  generalize w1.alloc (hdO h) = W1 at q0 q1 q2 q4 q5 HO ⊢
  go_wp2_with (first
    | (go_at_call 23; refine (HC.out _ HO.out).mono ?_; rintro e w2 ⟨rfl, h1⟩; have HO2 : Hid (Only [] w w2) := h1; clear h1)
    | (go_at_call 38; refine (HW.out _ HO2.out).mono ?_; rintro e w3 ⟨v, rfl, h1⟩; have HR : Hid (ActR g w w3 l s R (L) n (0) (roomS s.sec true L) (.returned v)) := h1; clear h1))
  go_ret
  exact HR.out
end
end Go.Proofs.YtlcloahkeamdkaaDoor
