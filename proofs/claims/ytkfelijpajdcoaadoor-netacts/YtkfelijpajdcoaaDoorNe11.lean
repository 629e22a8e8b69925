/- A net: the program's Drop, Twice, For, List, Send. -/
import Derived.Test.YtkfelijpajdcoaaDoorNe10
import Derived.Test.YtkfelijpajdcoaaDoorS2
namespace Go.Proofs.YtkfelijpajdcoaaDoor
open Go Go.RowKit Go.Deep

theorem times_any (w : World) (k : Int) : Calls Tryd.prog 23 #[.int .i64 k] w fun e w' => e = .returned (.func (.func 31) #[] #[.pointer (some ⟨w.heap.size, 0, none⟩)]) ∧ w.alloc (.cells #[.int .i64 k] 3) = w' := by
  go_enter Tryd.func23, Tryd.ntmps23
  go_wp2
  go_ret
  exact ⟨rfl, rfl⟩
theorem box_int (w : World) (k : Int) : (w.alloc (.cells #[.int .i64 k] 3)).cell? ⟨w.heap.size, 0, none⟩ = some (.int .i64 k) := by rw [World.cell?_alloc_new]; rfl
/-- What a Drop, a Twice leaves. -/
def DropR (A : Nat → Addr) (w w' : World) (base t : Nat) (v : Value) (l : List Msg) (i : Int) (e : Ending) : Prop :=
  (¬ inN l i ∧ e = .returned (sErr A 4) ∧ Only [] w w') ∨ (inN l i ∧ e = .returned .nilIface ∧ ∃ v', PNet w' base t v' (l.take i.toNat ++ l.drop (i.toNat + 1)) ∧ Only (t :: v.ownBlock.toList) w w')
def TwiceR (A : Nat → Addr) (w w' : World) (base t : Nat) (v : Value) (l : List Msg) (i : Int) (e : Ending) : Prop :=
  (¬ inN l i ∧ e = .returned (sErr A 4) ∧ Only [] w w') ∨ (inN l i ∧ l.length = 100 ∧ e = .returned (sErr A 8) ∧ Only [] w w') ∨ (l.length < 100 ∧ ∃ x, 0 ≤ i ∧ l[i.toNat]? = some x ∧ e = .returned .nilIface ∧ ∃ v', PNet w' base t v' (l.take i.toNat ++ [x, x] ++ l.drop (i.toNat + 1)) ∧ Only (t :: v.ownBlock.toList) w w')
theorem inN_get {l : List Msg} {i : Int} (h : inN l i) : ∃ x, l[i.toNat]? = some x ∧ ((i.toNat : Nat) : Int) = i := by
  obtain ⟨h0, h1⟩ := h
  exact ⟨l[i.toNat]'(by omega), List.getElem?_eq_getElem _, by omega⟩
set_option maxHeartbeats 2000000 in
theorem drop_any (A : Nat → Addr) (w : World) (base t : Nat) (v : Value) (l : List Msg) (i : Int) (hE : Errs w A) (h : PNet w base t v l) (hl : l.length ≤ 100) : Calls Tryd.prog 12 #[.pointer (some ⟨t, 0, none⟩), .int .i64 i] w fun e w' => DropR A w w' base t v l i e := by
  have o1 : Only [] w (w.alloc (.cells #[.int .i64 0] 3)) := (Only.refl [] w).alloc _
  have hE1 := hE.below (o1.to_below (Nat.le_refl _) (fun k hk => by cases hk)) (Nat.le_refl _)
  have h1 := h.only o1 (by simp) (fun _ _ => by simp)
  have hb := box_int w 0
  have hr : Calls Tryd.prog 21 #[.pointer (some ⟨t, 0, none⟩), .int .i64 i, .func (.func 31) #[] #[.pointer (some ⟨w.heap.size, 0, none⟩)]] (w.alloc (.cells #[.int .i64 0] 3)) fun e w' => ∃ c, e = .returned (errN A c) ∧ DropR A w w' base t v l i e := by
    by_cases hi : inN l i
    · obtain ⟨x, hx, he⟩ := inN_get hi
      have := replace_drop _ base t w.heap.size v l i.toNat x h1 hx hl hb
      rw [he] at this
      refine this.mono ?_
      rintro e w' ⟨rfl, v', hp, ho⟩
      exact ⟨0, rfl, Or.inr ⟨hi, rfl, v', hp, (o1.mono (fun _ hk => by cases hk)).trans ho (fun k hk => Or.inl hk)⟩⟩
    · refine (replace_none A _ base t v _ l i hE1 h1 (by unfold inN at hi; omega)).mono ?_
      rintro e w' ⟨rfl, ho⟩
      exact ⟨5, rfl, Or.inl ⟨hi, rfl, only_nil o1 ho⟩⟩
  clear hE h o1 hE1 h1 hb
  have ht := times_any w 0
  go_enter Tryd.func12, Tryd.ntmps12
  go_wp2_with (first
    | (go_at_call 23; refine ht.mono ?_; rintro e w1 ⟨rfl, rfl⟩)
    | (go_at_call 21; refine hr.mono ?_; rintro e w2 ⟨c, rfl, hd⟩; have HD : Hid (DropR A w w2 base t v l i (.returned (errN A c))) := hd; clear hd hr ht))
  go_ret
  exact HD.out
set_option maxHeartbeats 2000000 in
theorem twice_any (A : Nat → Addr) (w : World) (base t : Nat) (v : Value) (l : List Msg) (i : Int) (hE : Errs w A) (h : PNet w base t v l) (hl : l.length ≤ 100) (hbs : base ≤ w.heap.size) : Calls Tryd.prog 13 #[.pointer (some ⟨t, 0, none⟩), .int .i64 i] w fun e w' => TwiceR A w w' base t v l i e := by
  have o1 : Only [] w (w.alloc (.cells #[.int .i64 2] 3)) := (Only.refl [] w).alloc _
  have hE1 := hE.below (o1.to_below (Nat.le_refl _) (fun k hk => by cases hk)) (Nat.le_refl _)
  have h1 := h.only o1 (by simp) (fun _ _ => by simp)
  have hb := box_int w 2
  have hr : Calls Tryd.prog 21 #[.pointer (some ⟨t, 0, none⟩), .int .i64 i, .func (.func 31) #[] #[.pointer (some ⟨w.heap.size, 0, none⟩)]] (w.alloc (.cells #[.int .i64 2] 3)) fun e w' => ∃ c, e = .returned (errN A c) ∧ TwiceR A w w' base t v l i e := by
    by_cases hi : inN l i
    · obtain ⟨x, hx, he⟩ := inN_get hi
      have := replace_twice A _ base t w.heap.size v l i.toNat x hE1 h1 hx hl hb (Nat.le_trans hbs o1.size)
      rw [he] at this
      refine this.mono ?_
      rintro e w' (⟨hl1, rfl, v', hp, ho⟩ | ⟨hl1, rfl, ho⟩)
      · exact ⟨0, rfl, Or.inr (Or.inr ⟨hl1, x, hi.1, hx, rfl, v', hp, (o1.mono (fun _ hk => by cases hk)).trans ho (fun k hk => Or.inl hk)⟩)⟩
      · exact ⟨9, rfl, Or.inr (Or.inl ⟨hi, hl1, rfl, only_nil o1 ho⟩)⟩
    · refine (replace_none A _ base t v _ l i hE1 h1 (by unfold inN at hi; omega)).mono ?_
      rintro e w' ⟨rfl, ho⟩
      exact ⟨5, rfl, Or.inl ⟨hi, rfl, only_nil o1 ho⟩⟩
  clear hE h o1 hE1 h1 hb
  have ht := times_any w 2
  go_enter Tryd.func13, Tryd.ntmps13
  go_wp2_with (first
    | (go_at_call 23; refine ht.mono ?_; rintro e w1 ⟨rfl, rfl⟩)
    | (go_at_call 21; refine hr.mono ?_; rintro e w2 ⟨c, rfl, hd⟩; have HD : Hid (TwiceR A w w2 base t v l i (.returned (errN A c))) := hd; clear hd hr ht))
  go_ret
  exact HD.out
/-! ### For, List -/
theorem isTo_any (w : World) (s : ByteArray) : Calls Tryd.prog 25 #[.string s] w fun e w' => e = .returned (.func (.func 33) #[] #[.pointer (some ⟨w.heap.size, 0, none⟩)]) ∧ w.alloc (.cells #[.string s] 9) = w' := by
  go_enter Tryd.func25, Tryd.ntmps25
  go_wp2
  go_ret
  exact ⟨rfl, rfl⟩
set_option maxHeartbeats 2000000 in
theorem for_any (w : World) (base t : Nat) (v : Value) (l : List Msg) (s : ByteArray) (h : PNet w base t v l) (hl : l.length ≤ 100) : Calls Tryd.prog 15 #[.pointer (some ⟨t, 0, none⟩), .string s] w fun e w' => ∃ r, e = .returned (.int .i64 r) ∧ firstI (isToB s) l r ∧ Only [] w w' := by
  have HI : Hid (∀ W, Only [] w W → Calls Tryd.prog 25 #[.string s] W fun e w' => ∃ q, e = .returned (.func (.func 33) #[] #[.pointer (some ⟨q, 0, none⟩)]) ∧ Only [] w w' ∧ Calls Tryd.prog 24 #[v, .func (.func 33) #[] #[.pointer (some ⟨q, 0, none⟩)]] w' fun e w2 => ∃ r, e = .returned (.int .i64 r) ∧ firstI (isToB s) l r ∧ Only [] w w2) := fun W ho => by
    refine (isTo_any W s).mono ?_
    rintro e w' ⟨rfl, rfl⟩
    have ho2 : Only [] w (W.alloc (.cells #[.string s] 9)) := ho.alloc _
    refine ⟨W.heap.size, rfl, ho2, ?_⟩
    refine (index_to _ base _ (isToB s) v l (h.only ho2 (by simp) (fun _ _ => by simp)).own (by omega) (isTo1_any _ W.heap.size s (by rw [World.cell?_alloc_new]; rfl))).mono ?_
    rintro e w2 ⟨r, rfl, hf, ho3⟩
    exact ⟨r, rfl, hf, only_nil ho2 ho3⟩
  have HS : Hid (∀ W, Only [] w W → W.cell? ⟨t, 0, none⟩ = some v) := fun W ho => (h.only ho (by simp) (fun _ _ => by simp)).c0
  have c0 := h.c0
  have htl := lt_of_cell c0
  have HS0 : Hid (w.drew.cell? ⟨t, 0, none⟩ = some v) := h.c0
  have HD0 : Hid (Only [] w w.drew) := (Only.refl [] w).drew
  clear h
  go_enter Tryd.func15, Tryd.ntmps15
  go_wp2
  go_region_held3 (fun W => W.cell? ⟨t, 0, none⟩ = some v) (with_reducible first | exact HS0.out | exact HS5.out | exact HS6.out)
    (first
      | (go_at_call 25; refine (HI.out _ HD0.out).mono ?_; rintro e w5 ⟨q5, rfl, ho5, hc5⟩; have HS5 : Hid (w5.cell? ⟨t, 0, none⟩ = some v) := HS.out w5 ho5; have HC5 : Hid (∀ _u : Unit, Calls Tryd.prog 24 #[v, .func (.func 33) #[] #[.pointer (some ⟨q5, 0, none⟩)]] w5 fun e w2 => ∃ r, e = .returned (.int .i64 r) ∧ firstI (isToB s) l r ∧ Only [] w w2) := (fun _u => hc5); clear ho5 hc5)
      | (go_at_call 24; refine (HC5.out ()).mono ?_; rintro e w6 ⟨r, rfl, hf6, ho6⟩; have HS6 : Hid (w6.cell? ⟨t, 0, none⟩ = some v) := HS.out w6 ho6; have HF : Hid (firstI (isToB s) l r ∧ Only [] w w6) := ⟨hf6, ho6⟩; clear hf6 ho6))
  go_wp2
  go_ret
  exact ⟨r, rfl, HF.out⟩
theorem list_any (w : World) (base t : Nat) (v : Value) (l : List Msg) (h : PNet w base t v l) (hl : l.length ≤ 100) : Calls Tryd.prog 17 #[.pointer (some ⟨t, 0, none⟩)] w fun e w' => ∃ v', e = .returned v' ∧ Msgs w' w.heap.size v' l ∧ Only [] w w' := by
  have c0 := h.c0
  have htl := lt_of_cell c0
  have hc := clone_any w base v l h.own (by omega)
  clear h
  go_enter Tryd.func17, Tryd.ntmps17
  go_wp2_with (go_at_call 26; refine hc.mono ?_; rintro e w2 ⟨v2, rfl, hm, ho⟩; have HF : Hid (Msgs w2 w.heap.size v2 l ∧ Only [] w w2) := ⟨hm, ho⟩; clear hm ho hc)
  go_ret
  exact ⟨v2, rfl, HF.out⟩
end Go.Proofs.YtkfelijpajdcoaaDoor
