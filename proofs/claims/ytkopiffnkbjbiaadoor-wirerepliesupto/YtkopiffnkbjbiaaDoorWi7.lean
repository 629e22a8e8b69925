/- Compounds on the wire: what is read of a text: plain; the reader's small functions. -/
import Derived.Test.YtkopiffnkbjbiaaDoorWi4
import Derived.Test.YtkopiffnkbjbiaaDoorB2
namespace Go.Proofs.YtkopiffnkbjbiaaDoor
open Go Go.RowKit Go.Deep

/-! ### plain -/
/-- What can be read at a text's head, and what is left. -/
abbrev Par (α : Type) := ByteArray → Option (α × ByteArray)
def bindP {α β : Type} (p : Par α) (f : α → Par β) : Par β := fun t => match p t with
  | none => none
  | some (a, t') => f a t'
def retP {α : Type} (a : α) : Par α := fun t => some (a, t)
theorem bindP_some {α β : Type} {p : Par α} {f : α → Par β} {t t' : ByteArray} {a : α} (h : p t = some (a, t')) : bindP p f t = f a t' := by simp [bindP, h]
theorem bindP_none {α β : Type} {p : Par α} {f : α → Par β} {t : ByteArray} (h : p t = none) : bindP p f t = none := by simp [bindP, h]
def pInt : Par Nat := fun t => if 4 ≤ t.size then some (numAt t 4, cutAt t 4) else none
def pLong : Par Nat := fun t => if 8 ≤ t.size ∧ numAt t 8 ≤ 9223372036854775807 then some (numAt t 8, cutAt t 8) else none
def pFlag : Par Bool := fun t => if 4 ≤ t.size ∧ numAt t 4 ≤ 1 then some ((numAt t 4 : Int) == 1, cutAt t 4) else none
def itemB (s : ByteArray) : Bool := decide (4 ≤ s.size) && (decide ((numAt s 4 : Int) ≤ 4000) && (decide (4 + numAt s 4 + fillN (numAt s 4) ≤ s.size) && zerosB (s.extract (4 + numAt s 4) (4 + numAt s 4 + fillN (numAt s 4)))))
theorem itemB_iff (s : ByteArray) : itemB s = true ↔ ItemOk s 4000 := by simp [itemB, ItemOk]
def pBytes : Par ByteArray := fun t => if itemB t = true then some (t.extract 4 (4 + numAt t 4), cutAt t (4 + numAt t 4 + fillN (numAt t 4))) else none
def pNumber : Par Int := bindP pFlag fun f => bindP pLong fun n => fun t => if (f && n == 0) = true then none else some (if f = true then -(n : Int) else (n : Int), t)
def pTwo : Par (Int × Int) := bindP pNumber fun x => bindP pNumber fun y => retP (x, y)
def pEntry : Par EnV := bindP pBytes fun n => bindP pTwo fun p => retP ⟨n, p.1, p.2⟩
def pOp : Par OpV := bindP pBytes fun K => bindP pBytes fun N => bindP pBytes fun T => bindP pNumber fun x1 => bindP pNumber fun x2 => bindP pNumber fun x3 => bindP pNumber fun x4 => bindP pTwo fun p => retP ⟨K, N, T, x1, x2, x3, x4, p.1, p.2⟩
def pTimes {α : Type} (p : Par α) : Nat → Par (List α)
  | 0 => retP []
  | n + 1 => bindP p fun a => bindP (pTimes p n) fun l => retP (a :: l)
def pList {α : Type} (p : Par α) : Par (List α) := bindP pInt (pTimes p)
def pReply : Par RpV := bindP pNumber fun c => bindP pBytes fun T => bindP pTwo fun h => bindP pTwo fun s => bindP (pList pEntry) fun L => bindP pNumber fun n => bindP pFlag fun e => retP ⟨c, T, h.1, h.2, s.1, s.2, L, n, e⟩
/-- What is left is no longer. -/
def Short {α : Type} (p : Par α) : Prop := ∀ t a t', p t = some (a, t') → t'.size ≤ t.size
theorem short_bind {α β : Type} {p : Par α} {f : α → Par β} (hp : Short p) (hf : ∀ a, Short (f a)) : Short (bindP p f) := by
  intro t b t' h
  unfold bindP at h
  split at h
  · cases h
  · exact Nat.le_trans (hf _ _ _ _ h) (hp _ _ _ (by assumption))
theorem short_ret {α : Type} (a : α) : Short (retP a) := by
  intro t b t' h
  cases h
  exact Nat.le_refl _
theorem cut_le (t : ByteArray) (k : Nat) : (cutAt t k).size ≤ t.size := by rw [cutAt_size]; omega
theorem pInt_short : Short pInt := by
  intro t a t' h
  unfold pInt at h
  split at h <;> simp at h
  rw [← h.2]; exact cut_le _ _
theorem pLong_short : Short pLong := by
  intro t a t' h
  unfold pLong at h
  split at h <;> simp at h
  rw [← h.2]; exact cut_le _ _
theorem pFlag_short : Short pFlag := by
  intro t a t' h
  unfold pFlag at h
  split at h <;> simp at h
  rw [← h.2]; exact cut_le _ _
theorem pBytes_short : Short pBytes := by
  intro t a t' h
  unfold pBytes at h
  split at h <;> simp at h
  rw [← h.2]; exact cut_le _ _
theorem pNumber_short : Short pNumber := short_bind pFlag_short fun f => short_bind pLong_short fun n => by
  intro t a t' h
  simp only at h
  split at h <;> simp at h
  rw [← h.2]; exact Nat.le_refl _

/-! ### memory -/
/-- A text that is being read. -/
structure RS (w : World) (A : Nat → Addr) (rb xb : Nat) (t : ByteArray) : Prop where
  ptr : w.cell? ⟨rb, 0, none⟩ = some (P0 xb)
  cell : w.cell? ⟨xb, 0, none⟩ = some (.string t)
  frz : w.frozen? ⟨xb, 0, none⟩ = false
  le : t.size ≤ 5000
  err : Er3 w A
theorem RS.lt {w : World} {A : Nat → Addr} {rb xb : Nat} {t : ByteArray} (h : RS w A rb xb t) : xb < w.heap.size := lt_of_cell h.cell
theorem RS.ltr {w : World} {A : Nat → Addr} {rb xb : Nat} {t : ByteArray} (h : RS w A rb xb t) : rb < w.heap.size := lt_of_cell h.ptr
theorem RS.ne {w : World} {A : Nat → Addr} {rb xb : Nat} {t : ByteArray} (h : RS w A rb xb t) (k : Nat) (hk : k = 0 ∨ k = 1 ∨ k = 8) : gOf k ≠ xb := by
  intro e
  have h1 := h.err.cell k hk
  rw [e, h.cell] at h1
  cases h1
theorem RS.nr {w : World} {A : Nat → Addr} {rb xb : Nat} {t : ByteArray} (h : RS w A rb xb t) : rb ≠ xb := by
  intro e
  have h1 := h.ptr
  rw [e, h.cell] at h1
  cases h1
theorem RS.only {w w' : World} {A : Nat → Addr} {rb xb : Nat} {t : ByteArray} {L : List Nat} (h : RS w A rb xb t) (ho : Only L w w') (hL : ∀ k, k < w.heap.size → k ∉ L) : RS w' A rb xb t :=
  ⟨(ho.cell (p := ⟨rb, 0, none⟩) h.ltr (hL _ h.ltr)).trans h.ptr, (ho.cell (p := ⟨xb, 0, none⟩) h.lt (hL _ h.lt)).trans h.cell, (ho.frozen (p := ⟨xb, 0, none⟩) h.lt (hL _ h.lt)).trans h.frz, h.le, h.err.only ho (fun k hk => hL _ (lt_of_cell (h.err.cell k hk)))⟩
theorem RS.later {w w' : World} {A : Nat → Addr} {rb xb : Nat} {t : ByteArray} (h : RS w A rb xb t) (ho : Only [] w w') : RS w' A rb xb t := h.only ho (fun _ _ => by simp)
theorem RS.put {w : World} {A : Nat → Addr} {rb xb : Nat} {t t' : ByteArray} (h : RS w A rb xb t) (hl : t'.size ≤ t.size) : RS (w.setCell ⟨xb, 0, none⟩ (.string t')) A rb xb t' := by
  have o := onlySet w xb (.string t')
  exact ⟨(o.cell (p := ⟨rb, 0, none⟩) h.ltr (by simpa using h.nr)).trans h.ptr, World.cell?_setCell_same _ _ _ h.cell, by simpa using h.frz, Nat.le_trans hl h.le, h.err.only o (fun k hk => by simpa using h.ne k hk)⟩
/-- How a function of package xdr that reads ends. -/
def YEnd {α : Type} (A : Nat → Addr) (rb xb : Nat) (w : World) (t : ByteArray) (p : Par α) (v : α → Value) (z : Value) (e : Ending) (w' : World) : Prop :=
  (∃ a t', p t = some (a, t') ∧ e = .returned (.tuple #[v a, .nilIface]) ∧ Only [xb] w w' ∧ RS w' A rb xb t') ∨ (p t = none ∧ e = .returned (.tuple #[z, eV A 0]) ∧ Only [xb] w w')
/-- How a function that reads or throws ends. -/
def REnd {α : Type} (A : Nat → Addr) (rb xb : Nat) (w : World) (t : ByteArray) (p : Par α) (v : α → Value) (e : Ending) (w' : World) : Prop :=
  (∃ a t', p t = some (a, t') ∧ e = .returned (v a) ∧ Only [xb] w w' ∧ RS w' A rb xb t') ∨ (p t = none ∧ e = .panicked (thr (eV A 0)) ∧ Only [xb] w w')

theorem yInt (A : Nat → Addr) (rb xb : Nat) (t : ByteArray) (w : World) (h : RS w A rb xb t) : Calls Tryd.prog 87 #[P0 xb] w (YEnd A rb xb w t pInt (fun n => .int .i64 (n : Nat)) (.int .i64 0)) := by
  by_cases h4 : 4 ≤ t.size
  · refine (rInt_ok xb t w h.cell h.frz h4 (by have := h.le; omega)).mono fun e w' q => ?_
    obtain ⟨rfl, rfl⟩ := q
    exact Or.inl ⟨_, _, if_pos h4, rfl, onlySet _ _ _, h.put (cut_le _ _)⟩
  · refine (rInt_short xb t _ _ w h.cell (h.err.cell 0 (by decide)) (by omega)).mono fun e w' q => ?_
    obtain ⟨rfl, hb⟩ := q
    exact Or.inr ⟨if_neg h4, rfl, Only.of_below hb _⟩
theorem yLong (A : Nat → Addr) (rb xb : Nat) (t : ByteArray) (w : World) (h : RS w A rb xb t) : Calls Tryd.prog 89 #[P0 xb] w (YEnd A rb xb w t pLong (fun n => .int .i64 (n : Nat)) (.int .i64 0)) := by
  by_cases h4 : 8 ≤ t.size
  · by_cases hg : numAt t 8 ≤ 9223372036854775807
    · refine (rLong_ok xb t w h.cell h.frz h4 (by have := h.le; omega) hg).mono fun e w' q => ?_
      obtain ⟨rfl, rfl⟩ := q
      exact Or.inl ⟨_, _, if_pos ⟨h4, hg⟩, rfl, onlySet _ _ _, h.put (cut_le _ _)⟩
    · refine (rLong_great xb t _ _ w h.cell (h.err.cell 0 (by decide)) h4 (by have := h.le; omega) (by omega)).mono fun e w' q => ?_
      obtain ⟨rfl, hb⟩ := q
      exact Or.inr ⟨if_neg (fun k => hg k.2), rfl, Only.of_below hb _⟩
  · refine (rLong_short xb t _ _ w h.cell (h.err.cell 0 (by decide)) (by omega)).mono fun e w' q => ?_
    obtain ⟨rfl, hb⟩ := q
    exact Or.inr ⟨if_neg (fun k => h4 k.1), rfl, Only.of_below hb _⟩
theorem yBool (A : Nat → Addr) (rb xb : Nat) (t : ByteArray) (w : World) (h : RS w A rb xb t) : Calls Tryd.prog 90 #[P0 xb] w (YEnd A rb xb w t pFlag (fun b => .bool b) (.bool false)) := by
  by_cases h4 : 4 ≤ t.size
  · by_cases hg : numAt t 4 ≤ 1
    · refine (rBool_ok xb t w h.cell h.frz h4 (by have := h.le; omega) hg).mono fun e w' q => ?_
      obtain ⟨rfl, rfl⟩ := q
      exact Or.inl ⟨_, _, if_pos ⟨h4, hg⟩, rfl, onlySet _ _ _, h.put (cut_le _ _)⟩
    · refine (rBool_great xb t _ _ w h.cell (h.err.cell 0 (by decide)) h4 (by have := h.le; omega) (by omega)).mono fun e w' q => ?_
      obtain ⟨rfl, hb⟩ := q
      exact Or.inr ⟨if_neg (fun k => hg k.2), rfl, Only.of_below hb _⟩
  · refine (rBool_short xb t _ _ w h.cell (h.err.cell 0 (by decide)) (by omega)).mono fun e w' q => ?_
    obtain ⟨rfl, hb⟩ := q
    exact Or.inr ⟨if_neg (fun k => h4 k.1), rfl, Only.of_below hb _⟩
theorem yBytes (A : Nat → Addr) (rb xb : Nat) (t : ByteArray) (w : World) (h : RS w A rb xb t) : Calls Tryd.prog 88 #[P0 xb, .int .i64 4000] w (YEnd A rb xb w t pBytes (fun b => .string b) (.string (bs []))) := by
  refine (rBytes_ends xb t 4000 _ _ w h.cell h.frz (h.err.cell 0 (by decide)) h.le).mono fun e w' q => ?_
  rcases q with ⟨hi, rfl, rfl⟩ | ⟨hi, rfl, hb⟩
  · exact Or.inl ⟨_, _, if_pos ((itemB_iff t).2 hi), rfl, onlySet _ _ _, h.put (cut_le _ _)⟩
  · exact Or.inr ⟨if_neg (fun k => hi ((itemB_iff t).1 k)), rfl, Only.of_below hb _⟩
theorem rFlag (A : Nat → Addr) (rb xb : Nat) (t : ByteArray) (w : World) (h : RS w A rb xb t) : Calls Tryd.prog 74 #[P0 rb] w (REnd A rb xb w t pFlag (fun b => .bool b)) := by
  have H : Hid (∀ _u : Unit, _) := fun _ => yBool A rb xb t w h
  have c0 := h.ptr
  clear h
  go_enter Tryd.func74, Tryd.ntmps74
  go_wp2_with fail
  refine (H.out ()).mono ?_
  rintro e w1 (⟨a, t1, r, rfl, o, s⟩ | ⟨r, rfl, o⟩)
  · go_wp2_with (go_at_call 56; refine (must_nil _).mono ?_; rintro e w2 ⟨rfl, rfl⟩)
    go_ret
    exact Or.inl ⟨_, _, r, rfl, o, s⟩
  · go_wp2_with (go_at_call 56; refine (must_err _ _ _).mono ?_; rintro e w2 ⟨rfl, rfl⟩)
    exact ⟨rfl, Or.inr ⟨r, rfl, o⟩⟩
theorem rText (A : Nat → Addr) (rb xb : Nat) (t : ByteArray) (w : World) (h : RS w A rb xb t) : Calls Tryd.prog 58 #[P0 rb] w (REnd A rb xb w t pBytes (fun b => .string b)) := by
  have H : Hid (∀ _u : Unit, _) := fun _ => yBytes A rb xb t w h
  have c0 := h.ptr
  clear h
  go_enter Tryd.func58, Tryd.ntmps58
  go_wp2_with fail
  refine (H.out ()).mono ?_
  rintro e w1 (⟨a, t1, r, rfl, o, s⟩ | ⟨r, rfl, o⟩)
  · go_wp2_with (go_at_call 56; refine (must_nil _).mono ?_; rintro e w2 ⟨rfl, rfl⟩)
    go_ret
    exact Or.inl ⟨_, _, r, rfl, o, s⟩
  · go_wp2_with (go_at_call 56; refine (must_err _ _ _).mono ?_; rintro e w2 ⟨rfl, rfl⟩)
    exact ⟨rfl, Or.inr ⟨r, rfl, o⟩⟩
set_option maxHeartbeats 400000 in
theorem rNumber (A : Nat → Addr) (rb xb : Nat) (t : ByteArray) (w : World) (h : RS w A rb xb t) : Calls Tryd.prog 59 #[P0 rb] w (REnd A rb xb w t pNumber (fun n => .int .i64 n)) := by
  have H : Hid (∀ _u : Unit, _) := fun _ => rFlag A rb xb t w h
  have H2 : Hid (∀ t1 w1, RS w1 A rb xb t1 → _) := fun t1 w1 k => yLong A rb xb t1 w1 k
  clear h
  go_enter Tryd.func59, Tryd.ntmps59
  go_wp2_with fail
  refine (H.out ()).mono ?_
  rintro e w1 (⟨f, t1, r1, rfl, o1, s1⟩ | ⟨r1, rfl, o1⟩)
  rotate_left
  · exact ⟨rfl, Or.inr ⟨bindP_none r1, rfl, o1⟩⟩
  have c1 := s1.ptr
  have R1 : Hid (pFlag t = some (f, t1)) := r1
  have O1 : Hid (Only [xb] w w1) := o1
  have S1 : Hid (RS w1 A rb xb t1) := s1
  clear r1 o1 s1
  go_wp2_with fail
  clear c1
  refine (H2.out _ _ S1.out).mono ?_
  rintro e w2 (⟨n, t2, r2, rfl, o2, s2⟩ | ⟨r2, rfl, o2⟩)
  rotate_left
  · go_wp2_with (go_at_call 56; refine (must_err _ _ _).mono ?_; rintro e w3 ⟨rfl, rfl⟩)
    exact ⟨rfl, Or.inr ⟨(bindP_some R1.out).trans (bindP_none r2), rfl, O1.out.seq o2⟩⟩
  have hn : n ≤ 9223372036854775807 := by
    unfold pLong at r2
    split at r2
    · rename_i hh
      cases r2
      exact hh.2
    · cases r2
  have R2 : Hid (pNumber t = if (f && n == 0) = true then none else some (if f = true then -(n : Int) else (n : Int), t2)) := (bindP_some R1.out).trans (bindP_some r2)
  have O2 : Hid (Only [xb] w w2) := O1.out.seq o2
  have S2 : Hid (RS w2 A rb xb t2) := s2
  have hE : w2.cell? ⟨1, 0, none⟩ = some (eV A 0) := s2.err.cell 0 (by decide)
  clear r2 o2 s2 H H2 R1 O1 S1
  cases f
  · go_wp2_with (go_at_call 56; refine (must_nil _).mono ?_; rintro e w3 ⟨rfl, rfl⟩)
    go_ret
    exact Or.inl ⟨_, _, R2.out, rfl, O2.out, S2.out⟩
  · by_cases h0 : n = 0
    · subst h0
      go_wp2_with (first | (go_at_call 56; refine (must_nil _).mono ?_; rintro e w3 ⟨rfl, rfl⟩) | (go_at_call 78; refine (throw_any _ _ _).mono ?_; rintro e w3 ⟨rfl, rfl⟩))
      exact ⟨rfl, Or.inr ⟨R2.out, rfl, O2.out⟩⟩
    · have hb : ((n : Int) == 0) = false := beq_eq_false_iff_ne.2 (by omega)
      have hn0 : 0 < n := by omega
      have R3 : Hid (pNumber t = some (-(n : Int), t2)) := by
        have := R2.out
        rw [if_neg (by simp [h0]), if_pos rfl] at this
        exact this
      clear R2 h0
      go_wp2_with (go_at_call 56; refine (must_nil _).mono ?_; rintro e w3 ⟨rfl, rfl⟩)
      go_ret
      exact Or.inl ⟨_, _, R3.out, rfl, O2.out, S2.out⟩
end Go.Proofs.YtkopiffnkbjbiaaDoor
