/- A log, plain: words of four bytes, who reads them, blocks of records; sectors that are written one behind the other. -/
import Derived.Test.YtlcloahkeamdkaaDoorDk1
namespace Go.Proofs.YtlcloahkeamdkaaDoor
open Go Go.RowKit Go.Deep

/-! ### words, and who reads them -/
/-- A number as four bytes. -/
def wd (n : Nat) : List UInt8 := [UInt8.ofNat (n / 16777216), UInt8.ofNat (n / 65536), UInt8.ofNat (n / 256), UInt8.ofNat n]
def unwd (l : List UInt8) : Nat := l.foldl (fun n b => n * 256 + b.toNat) 0
theorem wd_len (n : Nat) : (wd n).length = 4 := rfl
theorem unwd_wd {n : Nat} (h : n < 4294967296) : unwd (wd n) = n := by
  simp [unwd, wd]
  omega
theorem unwd_lt4 {l : List UInt8} (h : l.length ≤ 4) : unwd l < 4294967296 := by
  match l, h with
  | [], _ => simp [unwd]
  | [a], _ => have := a.toNat_lt; simp [unwd]; omega
  | [a, b], _ => have := a.toNat_lt; have := b.toNat_lt; simp [unwd]; omega
  | [a, b, c], _ => have := a.toNat_lt; have := b.toNat_lt; have := c.toNat_lt; simp [unwd]; omega
  | [a, b, c, d], _ => have := a.toNat_lt; have := b.toNat_lt; have := c.toNat_lt; have := d.toNat_lt; simp [unwd]; omega
theorem unwd_lt3 {l : List UInt8} (h : l.length ≤ 3) : unwd l < 16777216 := by
  match l, h with
  | [], _ => simp [unwd]
  | [a], _ => have := a.toNat_lt; simp [unwd]; omega
  | [a, b], _ => have := a.toNat_lt; have := b.toNat_lt; simp [unwd]; omega
  | [a, b, c], _ => have := a.toNat_lt; have := b.toNat_lt; have := c.toNat_lt; simp [unwd]; omega
/-- A reader: what is left, or none: it is bad. -/
abbrev Rst := Option (List UInt8)
def leftR (r : Rst) : List UInt8 := r.getD []
def rB (k : Nat) (r : Rst) : List UInt8 × Rst := match r with
  | none => ([], none)
  | some l => if l.length < k then ([], none) else (l.take k, some (l.drop k))
def rW (r : Rst) : Nat × Rst := (unwd (rB 4 r).1, (rB 4 r).2)
theorem rB_len (k : Nat) (r : Rst) : (rB k r).1.length ≤ k := by
  unfold rB
  split
  · simp
  · split
    · simp
    · simp; omega
theorem rW_lt (r : Rst) : (rW r).1 < 4294967296 := unwd_lt4 (rB_len 4 r)
theorem rB_left (k : Nat) (r : Rst) : (leftR (rB k r).2).length ≤ (leftR r).length - k := by
  unfold rB
  split
  · simp [leftR]
  · split
    · simp [leftR]
    · simp [leftR]
theorem rB_app (a b : List UInt8) : rB a.length (some (a ++ b)) = (a, some b) := by
  simp [rB]
theorem rW_wd {n : Nat} (h : n < 4294967296) (b : List UInt8) : rW (some (wd n ++ b)) = (n, some b) := by
  have := rB_app (wd n) b
  rw [wd_len] at this
  simp only [rW, this, unwd_wd h]
/-- So many records. -/
def rRecs : Nat → Rst → List (List UInt8) → Option (List (List UInt8) × Rst)
  | 0, r, acc => some (acc, r)
  | k + 1, r, acc => match (rB (rW r).1 (rW r).2).2 with
    | none => none
    | some l => rRecs k (some l) (acc ++ [(rB (rW r).1 (rW r).2).1])
/-- Blocks, each of which begins with a sector. -/
def rBlks : Nat → Rst → List (List UInt8) → Option (List (List UInt8))
  | 0, _, acc => some acc
  | f + 1, r, acc => if leftR r = [] then some acc else
    match rRecs (rW r).1 (rW r).2 acc with
    | none => none
    | some (a, q) => rBlks f (rB ((leftR q).length % 64) q).2 a
def rAll (t : List UInt8) : Option (List (List UInt8)) := rBlks t.length (some t) []
theorem rRecs_left {k : Nat} {r q : Rst} {acc a : List (List UInt8)} (h : rRecs k r acc = some (a, q)) : (leftR q).length ≤ (leftR r).length := by
  induction k generalizing r acc with
  | zero => simp only [rRecs, Option.some.injEq, Prod.mk.injEq] at h; rw [h.2]; exact Nat.le_refl _
  | succ k ih =>
    simp only [rRecs] at h
    split at h
    · cases h
    · rename_i l hl
      have h1 := ih h
      have h2 := rB_left (rW r).1 (rW r).2
      have h3 := rB_left 4 r
      rw [hl] at h2
      have h4 : (leftR (rW r).2).length = (leftR (rB 4 r).2).length := rfl
      omega
/-- More fuel does not matter. -/
theorem rBlks_fuel {f g : Nat} {r : Rst} {acc : List (List UInt8)} (hf : (leftR r).length ≤ f) (hg : (leftR r).length ≤ g) : rBlks f r acc = rBlks g r acc := by
  induction f generalizing g r acc with
  | zero =>
    have h0 : leftR r = [] := List.length_eq_zero_iff.1 (by omega)
    cases g with
    | zero => rfl
    | succ g => simp [rBlks, h0]
  | succ f ih =>
    cases g with
    | zero =>
      have h0 : leftR r = [] := List.length_eq_zero_iff.1 (by omega)
      simp [rBlks, h0]
    | succ g =>
      simp only [rBlks]
      by_cases h0 : leftR r = []
      · simp [h0]
      · simp only [h0, if_false]
        have hpos : 0 < (leftR r).length := List.length_pos_iff.2 h0
        split
        · rfl
        · rename_i a q hq
          have h1 := rRecs_left hq
          have h2 := rB_left ((leftR q).length % 64) q
          have h3 := rB_left 4 r
          have h4 : (leftR (rW r).2).length = (leftR (rB 4 r).2).length := rfl
          apply ih <;> omega
/-! ### blocks -/
def recT (s : List UInt8) : List UInt8 := wd s.length ++ s
def blkT (L : List (List UInt8)) : List UInt8 := wd L.length ++ (L.map recT).flatten
def wgt (L : List (List UInt8)) : Nat := (L.map fun s => 16 + s.length).sum
def secsN (n : Nat) : Nat := (n + 63) / 64
theorem flat_len (L : List (List UInt8)) : (L.map recT).flatten.length + 12 * L.length = wgt L := by
  induction L with
  | nil => rfl
  | cons s L ih =>
    simp only [wgt, List.map_cons, List.flatten_cons, List.length_append, List.sum_cons, List.length_cons] at ih ⊢
    simp only [recT, List.length_append, wd_len]
    omega
theorem blkT_len (L : List (List UInt8)) : (blkT L).length + 12 * L.length = 4 + wgt L := by
  have := flat_len L
  simp only [blkT, List.length_append, wd_len]
  omega
/-- What a block takes is within what is reckoned. -/
theorem secs_fit (L : List (List UInt8)) : secsN (blkT L).length * 64 ≤ 64 + wgt L := by
  have h := blkT_len L
  cases L with
  | nil => decide
  | cons s L =>
    simp only [List.length_cons] at h
    simp only [secsN]
    omega
theorem secs_pos (L : List (List UInt8)) : 1 ≤ secsN (blkT L).length := by
  have : 4 ≤ (blkT L).length := by simp [blkT, wd_len]
  simp only [secsN]
  omega
theorem rRecs_read {L : List (List UInt8)} (hs : ∀ s ∈ L, s.length < 4294967296) (b : List UInt8) (acc : List (List UInt8)) : rRecs L.length (some ((L.map recT).flatten ++ b)) acc = some (acc ++ L, some b) := by
  induction L generalizing acc with
  | nil => simp [rRecs]
  | cons s L ih =>
    have e : ((s :: L).map recT).flatten ++ b = wd s.length ++ (s ++ ((L.map recT).flatten ++ b)) := by simp [recT]
    have hw := rW_wd (hs s (by simp)) (s ++ ((L.map recT).flatten ++ b))
    have hb := rB_app s ((L.map recT).flatten ++ b)
    rw [List.length_cons, e]
    simp only [rRecs, hw, hb]
    rw [ih (fun x hx => hs x (by simp [hx]))]
    simp
/-- A text, filled up to whole sectors. -/
def fillT (t : List UInt8) : List UInt8 := t ++ List.replicate (secsN t.length * 64 - t.length) 0
theorem fillT_len (t : List UInt8) : (fillT t).length = secsN t.length * 64 := by
  simp only [fillT, List.length_append, List.length_replicate, secsN]
  omega
def BkOk (L : List (List UInt8)) : Prop := L.length < 4294967296 ∧ ∀ s ∈ L, s.length < 4294967296
theorem rBlks_read {Ls : List (List (List UInt8))} (hs : ∀ L ∈ Ls, BkOk L) (acc : List (List UInt8)) (f : Nat) (hf : ((Ls.map fun L => fillT (blkT L)).flatten).length ≤ f) : rBlks f (some (Ls.map fun L => fillT (blkT L)).flatten) acc = some (acc ++ Ls.flatten) := by
  induction Ls generalizing acc f with
  | nil => cases f <;> simp [rBlks, leftR]
  | cons L Ls ih =>
    obtain ⟨h1, h2⟩ := hs L (by simp)
    generalize hq : (Ls.map fun L => fillT (blkT L)).flatten = q at ih
    have hm : q.length % 64 = 0 := by
      rw [← hq]
      clear ih hq hf hs
      induction Ls with
      | nil => rfl
      | cons L Ls ih => simp only [List.map_cons, List.flatten_cons, List.length_append, fillT_len]; omega
    have e : ((L :: Ls).map fun L => fillT (blkT L)).flatten = wd L.length ++ ((L.map recT).flatten ++ (List.replicate (secsN (blkT L).length * 64 - (blkT L).length) 0 ++ q)) := by
      simp [fillT, ← hq]
      simp [blkT]
    rw [e] at hf ⊢
    have hl : 4 ≤ f := by simp only [List.length_append, wd_len] at hf; omega
    obtain ⟨f, rfl⟩ : ∃ g, f = g + 1 := ⟨f - 1, by omega⟩
    have hw := rW_wd h1 ((L.map recT).flatten ++ (List.replicate (secsN (blkT L).length * 64 - (blkT L).length) 0 ++ q))
    have hr := rRecs_read h2 (List.replicate (secsN (blkT L).length * 64 - (blkT L).length) 0 ++ q) acc
    have hn : leftR (some (wd L.length ++ ((L.map recT).flatten ++ (List.replicate (secsN (blkT L).length * 64 - (blkT L).length) 0 ++ q)))) ≠ [] := by simp [leftR, wd]
    simp only [rBlks, hn, if_false, hw, hr]
    generalize hz : secsN (blkT L).length * 64 - (blkT L).length = z
    have hz2 : z < 64 := by rw [← hz]; simp only [secsN]; omega
    have hmod : (leftR (some (List.replicate z 0 ++ q))).length % 64 = (List.replicate z (0 : UInt8)).length := by
      simp only [leftR, Option.getD_some, List.length_append, List.length_replicate]
      omega
    have hb := rB_app (List.replicate z (0 : UInt8)) q
    rw [hmod, hb]
    have := ih (fun M hM => hs M (by simp [hM])) (acc ++ L) f (by simp only [List.length_append, wd_len] at hf; omega)
    rw [this]
    simp
/-! ### sectors -/
def concatS (l : List Sec) : List UInt8 := (l.map (·.1)).flatten
theorem concatS_len (l : List Sec) : (concatS l).length = l.length * 64 := by
  induction l with
  | nil => rfl
  | cons s l ih => simp only [concatS, List.map_cons, List.flatten_cons, List.length_append, s.2, List.length_cons] at ih ⊢; omega
theorem concatS_app (a b : List Sec) : concatS (a ++ b) = concatS a ++ concatS b := by simp [concatS]
/-- A text, as sectors. -/
def pieceS (t : List UInt8) (i : Nat) : Sec := padB (bs ((t.drop (i * 64)).take 64))
def piecesS (t : List UInt8) (k : Nat) : List Sec := (List.range k).map (pieceS t)
theorem pieceS_val (t : List UInt8) (i : Nat) : (pieceS t i).1 = ((t.drop (i * 64)).take 64 ++ List.replicate 64 0).take 64 := by simp [pieceS, padB, bs]
theorem pieces_text (t : List UInt8) (k : Nat) : concatS (piecesS t k) = (t ++ List.replicate (k * 64) 0).take (k * 64) := by
  induction k with
  | zero => simp [piecesS, concatS]
  | succ k ih =>
    have e : piecesS t (k + 1) = piecesS t k ++ [pieceS t k] := by simp [piecesS, List.range_succ]
    rw [e, concatS_app, ih]
    have e2 : concatS [pieceS t k] = (pieceS t k).1 := by simp [concatS]
    rw [e2, pieceS_val]
    apply List.ext_getElem?
    intro i
    simp only [List.getElem?_append, List.getElem?_take, List.length_take, List.length_append, List.length_replicate, List.getElem?_replicate, List.getElem?_drop, List.length_drop]
    repeat' split
    all_goals first
      | rfl
      | omega
      | (congr 1; omega)
      | skip
    all_goals grind
theorem pieces_fill (t : List UInt8) : concatS (piecesS t (secsN t.length)) = fillT t := by
  rw [pieces_text, fillT]
  have h : t.length ≤ secsN t.length * 64 := by simp only [secsN]; omega
  rw [List.take_append, List.take_of_length_le h, List.take_replicate]
  congr 2
  omega
/-- Sectors that are written one behind the other. -/
def putAt (sec : List Sec) (a : Nat) : List Sec → List Sec
  | [] => sec
  | p :: ps => putAt (sec.set a p) (a + 1) ps
theorem putAt_len (sec : List Sec) (a : Nat) (ps : List Sec) : (putAt sec a ps).length = sec.length := by
  induction ps generalizing sec a with
  | nil => rfl
  | cons p ps ih => simp [putAt, ih]
theorem putAt_other (sec : List Sec) (a : Nat) (ps : List Sec) (i : Nat) (h : i < a ∨ a + ps.length ≤ i) : (putAt sec a ps)[i]? = sec[i]? := by
  induction ps generalizing sec a with
  | nil => rfl
  | cons p ps ih =>
    simp only [List.length_cons] at h
    rw [putAt, ih _ _ (by omega), List.getElem?_set_ne (by omega)]
theorem putAt_in (sec : List Sec) (a : Nat) (ps : List Sec) (i : Nat) (hi : i < ps.length) (h : a + ps.length ≤ sec.length) : (putAt sec a ps)[a + i]? = ps[i]? := by
  induction ps generalizing sec a i with
  | nil => simp at hi
  | cons p ps ih =>
    simp only [List.length_cons] at h hi
    cases i with
    | zero => rw [putAt, putAt_other _ _ _ _ (by omega), Nat.add_zero, List.getElem?_set_self (by omega)]; rfl
    | succ i =>
      have := ih (sec.set a p) (a + 1) i (by omega) (by simp; omega)
      rw [putAt, show a + (i + 1) = a + 1 + i by omega, this]
      simp
theorem putAt_snoc (sec : List Sec) (a : Nat) (ps : List Sec) (p : Sec) : putAt sec a (ps ++ [p]) = (putAt sec a ps).set (a + ps.length) p := by
  induction ps generalizing sec a with
  | nil => simp [putAt]
  | cons q ps ih => simp only [List.cons_append, putAt, ih, List.length_cons]; congr 1; omega
/-- As it was, but for some sectors. -/
def Near (sec : List Sec) (a k : Nat) (s : List Sec) : Prop := s.length = sec.length ∧ ∀ i, (i < a ∨ a + k ≤ i) → s[i]? = sec[i]?
theorem Near.refl (sec : List Sec) (a k : Nat) : Near sec a k sec := ⟨rfl, fun _ _ => rfl⟩
theorem Near.set {sec s : List Sec} {a k : Nat} (h : Near sec a k s) {n : Nat} (hn : a ≤ n ∧ n < a + k) (p : Sec) : Near sec a k (s.set n p) := ⟨by simp [h.1], fun i hi => by
  rw [List.getElem?_set_ne (by omega)]
  exact h.2 i hi⟩
theorem Near.undo {sec s : List Sec} {a k : Nat} (h : Near sec a k s) {wt : List Wr} (hw : ∀ x ∈ wt, a ≤ x.n ∧ x.n < a + k) : Near sec a k (undo s wt) := by
  induction wt with
  | nil => exact h
  | cons x l ih => exact (ih (fun y hy => hw y (by simp [hy]))).set (hw x (by simp)) x.was
theorem Near.redo {sec s : List Sec} {a k : Nat} (h : Near sec a k s) {wt : List Wr} (hw : ∀ x ∈ wt, a ≤ x.n ∧ x.n < a + k) (keep : Nat → Bool) (m : Nat) : Near sec a k (redo keep wt s m) := by
  induction m with
  | zero => exact h
  | succ m ih =>
    simp only [Go.Proofs.YtlcloahkeamdkaaDoor.redo]
    split
    · rename_i x hx
      split
      · exact ih.set (hw x (List.mem_of_getElem? hx)) x.now
      · exact ih
    · exact ih
theorem Near.put {sec : List Sec} {a k : Nat} (ps : List Sec) (h : ps.length ≤ k) : Near sec a k (putAt sec a ps) := ⟨putAt_len _ _ _, fun i hi => putAt_other _ _ _ _ (by omega)⟩
end Go.Proofs.YtlcloahkeamdkaaDoor
