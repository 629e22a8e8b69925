/- Compounds on the wire, the document's side: what it reads. -/
import Derived.Test.YtkopiffnkbjbiaaDoorWi9
import Derived.Test.YtkopiffnkbjbiaaDoorB3
namespace Go.Proofs.YtkopiffnkbjbiaaDoor
open Go Go.RowKit Go.Deep

/-! ### plain: a text that is read, or bad -/
/-- One step: what was read; behind what can't be read all is bad. -/
def Stp {α : Type} (p : Par α) (q : Option ByteArray) (x : α) (q' : Option ByteArray) : Prop := (∃ s', q.bind p = some (x, s') ∧ q' = some s') ∨ (q.bind p = none ∧ q' = none)
theorem Stp.bind {α β : Type} {p : Par α} {f : α → Par β} {q q1 q2 : Option ByteArray} {a : α} {b : β} (h1 : Stp p q a q1) (h2 : Stp (f a) q1 b q2) : Stp (bindP p f) q b q2 := by
  cases q with
  | none =>
    rcases h1 with ⟨s', h, _⟩ | ⟨_, rfl⟩
    · cases h
    · rcases h2 with ⟨s', h, _⟩ | ⟨_, rfl⟩
      · cases h
      · exact Or.inr ⟨rfl, rfl⟩
  | some s =>
    rcases h1 with ⟨s', h, rfl⟩ | ⟨h, rfl⟩
    · have h' : p s = some (a, s') := h
      rcases h2 with ⟨s2, k, rfl⟩ | ⟨k, rfl⟩
      · exact Or.inl ⟨s2, (bindP_some h').trans k, rfl⟩
      · exact Or.inr ⟨(bindP_some h').trans k, rfl⟩
    · have h' : p s = none := h
      rcases h2 with ⟨s', k, _⟩ | ⟨_, rfl⟩
      · cases k
      · exact Or.inr ⟨bindP_none h', rfl⟩
theorem Stp.ret {α : Type} (x : α) (q : Option ByteArray) : Stp (retP x) q x q := by
  cases q with
  | none => exact Or.inr ⟨rfl, rfl⟩
  | some s => exact Or.inl ⟨s, rfl, rfl⟩
theorem Stp.bad {α : Type} {p : Par α} {x : α} {q' : Option ByteArray} (h : Stp p none x q') : q' = none := by
  rcases h with ⟨_, h, _⟩ | ⟨_, h⟩
  · cases h
  · exact h

/-! ### memory -/
structure DS (w : World) (m : Nat) (q : Option ByteArray) : Prop where
  ex : ∃ s : ByteArray, w.cell? ⟨m, 0, none⟩ = some (.string s) ∧ w.cell? ⟨m, 1, none⟩ = some (.bool q.isNone) ∧ s.size ≤ 5000 ∧ ∀ s', q = some s' → s = s'
  frz : ∀ j, w.frozen? ⟨m, j, none⟩ = false
theorem DS.lt {w : World} {m : Nat} {q : Option ByteArray} (h : DS w m q) : m < w.heap.size := by
  obtain ⟨s, h1, _⟩ := h.ex
  exact lt_of_cell h1
theorem DS.only {w w' : World} {m : Nat} {q : Option ByteArray} {L : List Nat} (h : DS w m q) (ho : Only L w w') (hn : m ∉ L) : DS w' m q := by
  obtain ⟨s, h1, h2, h3⟩ := h.ex
  exact ⟨⟨s, (ho.cell (p := ⟨m, 0, none⟩) h.lt hn).trans h1, (ho.cell (p := ⟨m, 1, none⟩) h.lt hn).trans h2, h3⟩, fun j => (ho.frozen (p := ⟨m, j, none⟩) h.lt hn).trans (h.frz j)⟩
theorem DS.later {w w' : World} {m : Nat} {q : Option ByteArray} (h : DS w m q) (ho : Only [] w w') : DS w' m q := h.only ho (by simp)
theorem DS.good {w : World} {m : Nat} {s : ByteArray} (h : DS w m (some s)) : w.cell? ⟨m, 0, none⟩ = some (.string s) ∧ w.cell? ⟨m, 1, none⟩ = some (.bool false) ∧ s.size ≤ 5000 := by
  obtain ⟨s', h1, h2, h3, h4⟩ := h.ex
  cases h4 s rfl
  exact ⟨h1, h2, h3⟩
theorem DS.bads {w : World} {m : Nat} (h : DS w m none) : ∃ s : ByteArray, w.cell? ⟨m, 0, none⟩ = some (.string s) ∧ w.cell? ⟨m, 1, none⟩ = some (.bool true) ∧ s.size ≤ 5000 := by
  obtain ⟨s', h1, h2, h3, h4⟩ := h.ex
  exact ⟨s', h1, h2, h3⟩
theorem setO (w : World) (m j : Nat) (v : Value) : Only [m] w (w.setCell ⟨m, j, none⟩ v) := (Only.refl [m] w).setCell (p := ⟨m, j, none⟩) (Or.inl (List.mem_cons_self ..)) v
theorem set_off {w : World} {m i j : Nat} {u : Value} (v : Value) (h : w.cell? ⟨m, i, none⟩ = some u) (hne : i ≠ j) : (w.setCell ⟨m, j, none⟩ v).cell? ⟨m, i, none⟩ = some u := by
  rw [World.cell?_setCell_other _ _ _ _ (by intro e; have := congrArg Addr.off e; simp at this; omega)]
  exact h
/-- It turns bad. -/
theorem DS.spoil {w : World} {m : Nat} {q : Option ByteArray} (h : DS w m q) : DS (w.setCell ⟨m, 1, none⟩ (.bool true)) m none := by
  obtain ⟨s, h1, h2, h3, h4⟩ := h.ex
  exact ⟨⟨s, set_off _ h1 (by decide), World.cell?_setCell_same _ _ _ h2, h3, fun s' e => by cases e⟩, fun j => by simpa using h.frz j⟩
/-- It goes on. -/
theorem DS.put {w : World} {m : Nat} {s s' : ByteArray} (h : DS w m (some s)) (hl : s'.size ≤ s.size) : DS (w.setCell ⟨m, 0, none⟩ (.string s')) m (some s') := by
  obtain ⟨h1, h2, h3⟩ := h.good
  exact ⟨⟨s', World.cell?_setCell_same _ _ _ h1, set_off _ h2 (by decide), Nat.le_trans hl h3, fun x e => by cases e; rfl⟩, fun j => by simpa using h.frz j⟩
theorem DS.keep {w : World} {m : Nat} (h : DS w m none) (s' : ByteArray) (hl : s'.size ≤ 5000) : DS (w.setCell ⟨m, 0, none⟩ (.string s')) m none := by
  obtain ⟨s, h1, h2, h3⟩ := h.bads
  exact ⟨⟨s', World.cell?_setCell_same _ _ _ h1, set_off _ h2 (by decide), hl, fun x e => by cases e⟩, fun j => by simpa using h.frz j⟩
/-- How a function that reads for the document ends. -/
def DEnd {α : Type} (m : Nat) (w : World) (q : Option ByteArray) (p : Par α) (v : α → Value) (ok : α → Prop) (e : Ending) (w' : World) : Prop := ∃ x q', Stp p q x q' ∧ ok x ∧ e = .returned (v x) ∧ Only [m] w w' ∧ DS w' m q'
/-- Cut, by what can be read. -/
def CutR (p : Par Nat) (s : ByteArray) (w : World) (e : Ending) (w' : World) : Prop := ((∃ n s', p s = some (n, s') ∧ e = .returned (.tuple #[.int .i64 (n : Nat), .string s'])) ∨ (p s = none ∧ e = .returned (.tuple #[.int .i64 (-1), .string s]))) ∧ Only [] w w'
theorem cutI (s : ByteArray) (w : World) (hs : s.size ≤ 5000) : Calls Tryd.prog 61 #[.string s, .int .i64 4] w (CutR pInt s w) := by
  by_cases h : 4 ≤ s.size
  · refine (cut4_ok s w h hs).mono fun e w' q => ?_
    exact ⟨Or.inl ⟨_, _, if_pos h, q.1⟩, Only.of_below q.2 _⟩
  · refine (cut4_short s w (by omega)).mono fun e w' q => ?_
    obtain ⟨q1, rfl⟩ := q
    exact ⟨Or.inr ⟨if_neg h, q1⟩, Only.refl _ _⟩
theorem cutL (s : ByteArray) (w : World) (hs : s.size ≤ 5000) : Calls Tryd.prog 61 #[.string s, .int .i64 8] w (CutR pLong s w) := by
  by_cases h : 8 ≤ s.size
  · by_cases hg : numAt s 8 ≤ 9223372036854775807
    · refine (cut8_ok s w h hs hg).mono fun e w' q => ?_
      exact ⟨Or.inl ⟨_, _, if_pos ⟨h, hg⟩, q.1⟩, Only.of_below q.2 _⟩
    · refine (cut8_great s w h hs (by omega)).mono fun e w' q => ?_
      obtain ⟨q1, rfl⟩ := q
      exact ⟨Or.inr ⟨if_neg (fun k => hg k.2), q1⟩, Only.refl _ _⟩
  · refine (cut8_short s w (by omega)).mono fun e w' q => ?_
    obtain ⟨q1, rfl⟩ := q
    exact ⟨Or.inr ⟨if_neg (fun k => h k.1), q1⟩, Only.refl _ _⟩
theorem pInt_le {s s' : ByteArray} {n : Nat} (h : pInt s = some (n, s')) : n ≤ 4294967295 := by
  unfold pInt at h
  split at h
  · cases h
    have := numAt_lt s 4
    omega
  · cases h
theorem pLong_le {s s' : ByteArray} {n : Nat} (h : pLong s = some (n, s')) : n ≤ 9223372036854775807 := by
  unfold pLong at h
  split at h
  · rename_i hh
    cases h
    exact hh.2
  · cases h
theorem dNum4 (m : Nat) (q : Option ByteArray) (w : World) (h : DS w m q) : Calls Tryd.prog 33 #[P0 m, .int .i64 4] w (DEnd m w q pInt (fun n => .int .i64 (n : Nat)) (fun n => n ≤ 4294967295)) := by
  have HH : Hid (DS w m q) := h
  cases q with
  | none =>
    obtain ⟨s, c0, c1, hs⟩ := h.bads
    have K : Hid (∀ _u : Unit, _) := fun _ => cutI s w hs
    clear h hs
    go_enter Tryd.func33, Tryd.ntmps33
    go_wp2_with fail
    refine (K.out ()).mono ?_
    rintro e w1 ⟨hr, ho⟩
    have d1 := HH.out.later ho
    obtain ⟨s1, k0, k1, _⟩ := d1.bads
    have kf := d1.frz 1
    have D1 : Hid (DS w1 m none) := d1
    have O1 : Hid (Only [] w w1) := ho
    clear c0 c1 d1 ho
    have FIN : Hid (DEnd m w none pInt (fun n => .int .i64 (n : Nat)) (fun n => n ≤ 4294967295) (.returned (.int .i64 0)) (w1.setCell ⟨m, 1, none⟩ (.bool true))) := ⟨0, none, Or.inr ⟨rfl, rfl⟩, by decide, rfl, O1.out.more.seq (setO _ _ _ _), D1.out.spoil⟩
    rcases hr with ⟨n, s', hp, rfl⟩ | ⟨hp, rfl⟩
    · go_wp2
      go_ret
      exact FIN.out
    · go_wp2
      go_ret
      exact FIN.out
  | some s =>
    obtain ⟨c0, c1, hs⟩ := h.good
    have K : Hid (∀ _u : Unit, _) := fun _ => cutI s w hs
    clear h hs
    go_enter Tryd.func33, Tryd.ntmps33
    go_wp2_with fail
    refine (K.out ()).mono ?_
    rintro e w1 ⟨hr, ho⟩
    have d1 := HH.out.later ho
    obtain ⟨k0, k1, _⟩ := d1.good
    have kf := d1.frz 1
    have kf0 := d1.frz 0
    have D1 : Hid (DS w1 m (some s)) := d1
    have O1 : Hid (Only [] w w1) := ho
    clear c0 c1 d1 ho
    rcases hr with ⟨n, s', hp, rfl⟩ | ⟨hp, rfl⟩
    · have hn := pInt_le hp
      have FIN : Hid (DEnd m w (some s) pInt (fun n => .int .i64 (n : Nat)) (fun n => n ≤ 4294967295) (.returned (.int .i64 (n : Nat))) (w1.setCell ⟨m, 0, none⟩ (.string s'))) := ⟨n, some s', Or.inl ⟨s', hp, rfl⟩, hn, rfl, O1.out.more.seq (setO _ _ _ _), D1.out.put (pInt_short _ _ _ hp)⟩
      clear hp
      go_wp2
      go_ret
      exact FIN.out
    · have FIN : Hid (DEnd m w (some s) pInt (fun n => .int .i64 (n : Nat)) (fun n => n ≤ 4294967295) (.returned (.int .i64 0)) (w1.setCell ⟨m, 1, none⟩ (.bool true))) := ⟨0, none, Or.inr ⟨hp, rfl⟩, by decide, rfl, O1.out.more.seq (setO _ _ _ _), D1.out.spoil⟩
      clear hp
      go_wp2
      go_ret
      exact FIN.out
theorem dNum8 (m : Nat) (q : Option ByteArray) (w : World) (h : DS w m q) : Calls Tryd.prog 33 #[P0 m, .int .i64 8] w (DEnd m w q pLong (fun n => .int .i64 (n : Nat)) (fun n => n ≤ 9223372036854775807)) := by
  have HH : Hid (DS w m q) := h
  cases q with
  | none =>
    obtain ⟨s, c0, c1, hs⟩ := h.bads
    have K : Hid (∀ _u : Unit, _) := fun _ => cutL s w hs
    clear h hs
    go_enter Tryd.func33, Tryd.ntmps33
    go_wp2_with fail
    refine (K.out ()).mono ?_
    rintro e w1 ⟨hr, ho⟩
    have d1 := HH.out.later ho
    obtain ⟨s1, k0, k1, _⟩ := d1.bads
    have kf := d1.frz 1
    have D1 : Hid (DS w1 m none) := d1
    have O1 : Hid (Only [] w w1) := ho
    clear c0 c1 d1 ho
    have FIN : Hid (DEnd m w none pLong (fun n => .int .i64 (n : Nat)) (fun n => n ≤ 9223372036854775807) (.returned (.int .i64 0)) (w1.setCell ⟨m, 1, none⟩ (.bool true))) := ⟨0, none, Or.inr ⟨rfl, rfl⟩, by decide, rfl, O1.out.more.seq (setO _ _ _ _), D1.out.spoil⟩
    rcases hr with ⟨n, s', hp, rfl⟩ | ⟨hp, rfl⟩
    · go_wp2
      go_ret
      exact FIN.out
    · go_wp2
      go_ret
      exact FIN.out
  | some s =>
    obtain ⟨c0, c1, hs⟩ := h.good
    have K : Hid (∀ _u : Unit, _) := fun _ => cutL s w hs
    clear h hs
    go_enter Tryd.func33, Tryd.ntmps33
    go_wp2_with fail
    refine (K.out ()).mono ?_
    rintro e w1 ⟨hr, ho⟩
    have d1 := HH.out.later ho
    obtain ⟨k0, k1, _⟩ := d1.good
    have kf := d1.frz 1
    have kf0 := d1.frz 0
    have D1 : Hid (DS w1 m (some s)) := d1
    have O1 : Hid (Only [] w w1) := ho
    clear c0 c1 d1 ho
    rcases hr with ⟨n, s', hp, rfl⟩ | ⟨hp, rfl⟩
    · have hn := pLong_le hp
      have FIN : Hid (DEnd m w (some s) pLong (fun n => .int .i64 (n : Nat)) (fun n => n ≤ 9223372036854775807) (.returned (.int .i64 (n : Nat))) (w1.setCell ⟨m, 0, none⟩ (.string s'))) := ⟨n, some s', Or.inl ⟨s', hp, rfl⟩, hn, rfl, O1.out.more.seq (setO _ _ _ _), D1.out.put (pLong_short _ _ _ hp)⟩
      clear hp
      go_wp2
      go_ret
      exact FIN.out
    · have FIN : Hid (DEnd m w (some s) pLong (fun n => .int .i64 (n : Nat)) (fun n => n ≤ 9223372036854775807) (.returned (.int .i64 0)) (w1.setCell ⟨m, 1, none⟩ (.bool true))) := ⟨0, none, Or.inr ⟨hp, rfl⟩, by decide, rfl, O1.out.more.seq (setO _ _ _ _), D1.out.spoil⟩
      clear hp
      go_wp2
      go_ret
      exact FIN.out
theorem flag_of {q q' : Option ByteArray} {n : Nat} (h : Stp pInt q n q') : Stp pFlag q ((n : Int) == 1) (if n ≤ 1 then q' else none) := by
  cases q with
  | none =>
    rw [h.bad]
    exact Or.inr ⟨rfl, by split <;> rfl⟩
  | some s =>
    rcases h with ⟨s', h, rfl⟩ | ⟨h, rfl⟩
    · have h' : pInt s = some (n, s') := h
      unfold pInt at h'
      split at h'
      · rename_i h4
        cases h'
        by_cases h1 : numAt s 4 ≤ 1
        · exact Or.inl ⟨_, if_pos ⟨h4, h1⟩, if_pos h1⟩
        · exact Or.inr ⟨if_neg (fun k => h1 k.2), if_neg h1⟩
      · cases h'
    · have h' : pInt s = none := h
      unfold pInt at h'
      split at h'
      · cases h'
      · rename_i h4
        exact Or.inr ⟨if_neg (fun k => h4 k.1), by split <;> rfl⟩
theorem dFlag (m : Nat) (q : Option ByteArray) (w : World) (h : DS w m q) : Calls Tryd.prog 41 #[P0 m] w (DEnd m w q pFlag (fun b => .bool b) (fun _ => True)) := by
  have K : Hid (∀ _u : Unit, _) := fun _ => dNum4 m q w h
  clear h
  go_enter Tryd.func41, Tryd.ntmps41
  go_wp2_with fail
  refine (K.out ()).mono ?_
  rintro e w1 ⟨n, q', hst, hn, rfl, ho, hd⟩
  have H1 := flag_of hst
  by_cases h1 : n ≤ 1
  · rw [if_pos h1] at H1
    have FIN : Hid (DEnd m w q pFlag (fun b => .bool b) (fun _ => True) (.returned (.bool ((n : Int) == 1))) w1) := ⟨_, _, H1, trivial, rfl, ho, hd⟩
    clear H1 hst ho hd
    go_wp2
    go_ret
    exact FIN.out
  · rw [if_neg h1] at H1
    obtain ⟨s, k0, k1, _⟩ := hd.ex
    have kf := hd.frz 1
    have FIN : Hid (DEnd m w q pFlag (fun b => .bool b) (fun _ => True) (.returned (.bool ((n : Int) == 1))) (w1.setCell ⟨m, 1, none⟩ (.bool true))) := ⟨_, _, H1, trivial, rfl, ho.seq (setO _ _ _ _), hd.spoil⟩
    have h2 : 1 < n := by omega
    clear H1 hst ho hd h1
    go_wp2
    go_ret
    exact FIN.out
theorem signed_of {q q1 q2 : Option ByteArray} {f : Bool} {n : Nat} (h1 : Stp pFlag q f q1) (h2 : Stp pLong q1 n q2) : Stp pNumber q (if f = true then -(n : Int) else (n : Int)) (if (f && n == 0) = true then none else q2) := by
  refine Stp.bind h1 (Stp.bind h2 ?_)
  cases q2 with
  | none => exact Or.inr ⟨rfl, by split <;> rfl⟩
  | some s =>
    by_cases hc : (f && n == 0) = true
    · exact Or.inr ⟨if_pos hc, if_pos hc⟩
    · exact Or.inl ⟨s, if_neg hc, if_neg hc⟩
theorem dSigned (m : Nat) (q : Option ByteArray) (w : World) (h : DS w m q) : Calls Tryd.prog 35 #[P0 m] w (DEnd m w q pNumber (fun n => .int .i64 n) I64) := by
  have K : Hid (∀ _u : Unit, _) := fun _ => dFlag m q w h
  have K2 : Hid (∀ q1 w1, DS w1 m q1 → _) := fun q1 w1 k => dNum8 m q1 w1 k
  clear h
  go_enter Tryd.func35, Tryd.ntmps35
  go_wp2_with fail
  refine (K.out ()).mono ?_
  rintro e w1 ⟨f, q1, hst, _, rfl, ho, hd⟩
  have H1 : Hid (Stp pFlag q f q1) := hst
  have O1 : Hid (Only [m] w w1) := ho
  have D1 : Hid (DS w1 m q1) := hd
  clear hst ho hd
  go_wp2_with fail
  refine (K2.out _ _ D1.out).mono ?_
  rintro e w2 ⟨n, q2, hst, hn, rfl, ho, hd⟩
  have H2 := signed_of H1.out hst
  have ho2 := O1.out.seq ho
  clear hst ho D1 O1 H1 K K2
  cases f
  · have FIN : Hid (DEnd m w q pNumber (fun n => .int .i64 n) I64 (.returned (.int .i64 (n : Nat))) w2) := ⟨_, _, H2, ⟨by show _ ≤ (n : Int); omega, by show (n : Int) ≤ _; omega⟩, rfl, ho2, hd⟩
    clear H2 ho2 hd
    go_wp2
    go_ret
    exact FIN.out
  · by_cases h0 : n = 0
    · subst h0
      obtain ⟨s, k0, k1, _⟩ := hd.ex
      have kf := hd.frz 1
      have FIN : Hid (DEnd m w q pNumber (fun n => .int .i64 n) I64 (.returned (.int .i64 0)) (w2.setCell ⟨m, 1, none⟩ (.bool true))) := ⟨_, _, H2, ⟨by decide, by decide⟩, rfl, ho2.seq (setO _ _ _ _), hd.spoil⟩
      clear H2 ho2 hd
      go_wp2
      go_ret
      exact FIN.out
    · have H3 : Stp pNumber q (-(n : Int)) q2 := by
        rw [if_pos rfl, if_neg (by simp [h0])] at H2
        exact H2
      have FIN : Hid (DEnd m w q pNumber (fun n => .int .i64 n) I64 (.returned (.int .i64 (-(n : Int)))) w2) := ⟨_, _, H3, ⟨by omega, by omega⟩, rfl, ho2, hd⟩
      have hb : ((n : Int) == 0) = false := beq_eq_false_iff_ne.2 (by omega)
      have hn0 : 0 < n := by omega
      clear H2 H3 ho2 hd h0
      go_wp2
      go_ret
      exact FIN.out
theorem dText (m : Nat) (q : Option ByteArray) (w : World) (h : DS w m q) : Calls Tryd.prog 34 #[P0 m] w (DEnd m w q pBytes (fun b => .string b) (fun _ => True)) := by
  have HH : Hid (DS w m q) := h
  cases q with
  | none =>
    obtain ⟨s, c0, c1, hs⟩ := h.bads
    clear h hs
    go_enter Tryd.func34, Tryd.ntmps34
    go_wp2
    go_ret
    exact ⟨_, none, Or.inr ⟨rfl, rfl⟩, trivial, rfl, Only.refl _ _, HH.out⟩
  | some s =>
    obtain ⟨c0, c1, hs⟩ := h.good
    have K : Hid (∀ _u : Unit, _) := fun _ => cutItem_ends s 4000 w hs
    have HS : Hid (s.size ≤ 5000) := hs
    clear h hs
    go_enter Tryd.func34, Tryd.ntmps34
    go_wp2_with fail
    refine (K.out ()).mono ?_
    rintro e w1 ⟨hr, hb⟩
    have ho : Only [] w w1 := Only.of_below hb _
    have d1 := HH.out.later ho
    obtain ⟨k0, k1, _⟩ := d1.good
    have kf := d1.frz 1
    have kf0 := d1.frz 0
    clear c0 c1 hb
    rcases hr with ⟨hi, rfl⟩ | ⟨hi, rfl⟩
    · have hp : pBytes s = some (s.extract 4 (4 + numAt s 4), cutAt s (4 + numAt s 4 + fillN (numAt s 4))) := if_pos ((itemB_iff s).2 hi)
      have FIN : Hid (DEnd m w (some s) pBytes (fun b => .string b) (fun _ => True) (.returned (.string (s.extract 4 (4 + numAt s 4)))) (w1.setCell ⟨m, 0, none⟩ (.string (cutAt s (4 + numAt s 4 + fillN (numAt s 4)))))) := ⟨_, _, Or.inl ⟨_, hp, rfl⟩, trivial, rfl, ho.more.seq (setO _ _ _ _), d1.put (cut_le _ _)⟩
      clear hp hi ho d1
      go_wp2
      go_ret
      exact FIN.out
    · have hp : pBytes s = none := if_neg (fun k => hi ((itemB_iff s).1 k))
      have FIN : Hid (DEnd m w (some s) pBytes (fun b => .string b) (fun _ => True) (.returned (.string (bs []))) ((w1.setCell ⟨m, 1, none⟩ (.bool true)).setCell ⟨m, 0, none⟩ (.string s))) := ⟨_, none, Or.inr ⟨hp, rfl⟩, trivial, rfl, ho.more.seq ((setO _ _ _ _).seq (setO _ _ _ _)), d1.spoil.keep s HS.out⟩
      clear hp hi ho d1
      go_wp2
      go_ret
      exact FIN.out
end Go.Proofs.YtkopiffnkbjbiaaDoor
