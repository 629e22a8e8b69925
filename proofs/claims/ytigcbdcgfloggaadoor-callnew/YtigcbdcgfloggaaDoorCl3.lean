/- Calls: Decode by its contract. -/
import Derived.Test.YtigcbdcgfloggaaDoorCl1
namespace Go.Proofs.YtigcbdcgfloggaaDoor
open Go Go.RowKit Go.Deep

abbrev decW (w : World) (s : ByteArray) : World := (w.alloc (.cells #[.int .i64 0, .string ⟨#[]⟩] 28)).alloc (.cells #[.string s] 108)
/-- A result that is empty as yet lies behind what was there. -/
structure DecAt (w W : World) : Prop where
  k0 : W.cell? ⟨w.heap.size, 0, none⟩ = some (.int .i64 0)
  k1 : W.cell? ⟨w.heap.size, 1, none⟩ = some (.string ⟨#[]⟩)
  f0 : W.frozen? ⟨w.heap.size, 0, none⟩ = false
  f1 : W.frozen? ⟨w.heap.size, 1, none⟩ = false
  below : Below w.heap.size w W
  size : w.heap.size + 2 ≤ W.heap.size
theorem decW_at (w : World) (s : ByteArray) : DecAt w (decW w s) := ⟨by simp, by simp, by simp, by simp, ((Below.refl _ _).alloc (Nat.le_refl _) _).alloc (by simp) _, by simp⟩
theorem DecAt.later {w W W' : World} (h : DecAt w W) (hb : Below W.heap.size W W') : DecAt w W' := by
  have hz := h.size
  exact ⟨(hb.cell (p := ⟨w.heap.size, 0, none⟩) (by show w.heap.size < _; omega)).trans h.k0, (hb.cell (p := ⟨w.heap.size, 1, none⟩) (by show w.heap.size < _; omega)).trans h.k1, (hb.frozen (p := ⟨w.heap.size, 0, none⟩) (by show w.heap.size < _; omega)).trans h.f0, (hb.frozen (p := ⟨w.heap.size, 1, none⟩) (by show w.heap.size < _; omega)).trans h.f1, h.below.trans (hb.mono (by omega)), by have := hb.size; omega⟩
theorem DecAt.put {w W : World} (h : DecAt w W) (v : Value) : DecAt w (W.setCell ⟨w.heap.size + 1, 0, none⟩ v) := by
  refine ⟨?_, ?_, (World.frozen?_setCell _ _ _ _).trans h.f0, (World.frozen?_setCell _ _ _ _).trans h.f1, h.below.setCell (p := ⟨w.heap.size + 1, 0, none⟩) (Nat.le_succ _) v, by simpa using h.size⟩
  · rw [World.cell?_setCell_other _ _ _ _ (by intro e; have := congrArg Addr.block e; simp at this)]
    exact h.k0
  · rw [World.cell?_setCell_other _ _ _ _ (by intro e; have := congrArg Addr.block e; simp at this)]
    exact h.k1
theorem DecAt.done {w W : World} (h : DecAt w W) (u v : Value) : Below w.heap.size w ((W.setCell ⟨w.heap.size, 0, none⟩ u).setCell ⟨w.heap.size, 1, none⟩ v) := (h.below.setCell (p := ⟨w.heap.size, 0, none⟩) (Nat.le_refl _) u).setCell (p := ⟨w.heap.size, 1, none⟩) (Nat.le_refl _) v
def DecR (A : Nat → Addr) (s : ByteArray) (r : Value) : Prop :=
  (ReqOk s ∧ r = .tuple #[.agg #[.int .i64 (numAt s 8 : Nat), .string (reqX s)], .nilIface]) ∨ (¬ ReqOk s ∧ r = .tuple #[.agg #[.int .i64 0, .string ⟨#[]⟩], erV A 0])
theorem decode_long (A : Nat → Addr) (s : ByteArray) (w : World) (hE : Errs w A) (hs : s.size ≤ 15000) (h : s.size < 8 ∨ 8 ≤ s.size ∧ 9223372036854775807 < numAt s 8) :
    Calls Tryd.prog 9 #[.string s] w fun e w' => e = .returned (.tuple #[.agg #[.int .i64 0, .string ⟨#[]⟩], erV A 0]) ∧ Below w.heap.size w w' := by
  have HD : Hid (DecAt w (decW w s)) := decW_at w s
  have ce : (decW w s).cell? ⟨3, 0, none⟩ = some (erV A 0) := (hE.below (decW_at w s).below (Nat.le_refl _)).cell 0 (by decide)
  have cu : (decW w s).cell? ⟨w.heap.size + 1, 0, none⟩ = some (.string s) := by simp
  have HL : Hid (Calls Tryd.prog 22 #[.pointer (some ⟨w.heap.size + 1, 0, none⟩)] (decW w s) fun e w' => e = .returned (.tuple #[.int .i64 0, erV A 0]) ∧ Below (decW w s).heap.size (decW w s) w') := by
    rcases h with h | ⟨h, h'⟩
    · exact rLong_short _ s _ _ _ cu ce h
    · exact rLong_great _ s _ _ _ cu ce h (by omega) h'
  clear hE ce cu h hs
  go_enter Tryd.func9, Tryd.ntmps9
  go_wp2_with (first
    | (go_at_call 21; go_must (refine (newReader_any s _).mono ?_); rintro e w2 ⟨rfl, rfl⟩)
    | (go_at_call 22; go_must (refine HL.out.mono ?_); rintro e w3 ⟨rfl, hb⟩; obtain ⟨k0, k1, k2, k3, kb, kz⟩ := HD.out.later hb; have HD2 : Hid (DecAt w w3) := ⟨k0, k1, k2, k3, kb, kz⟩; clear hb kb kz))
  refine bodyPost_ret (v := .tuple #[.agg #[.int .i64 0, .string ⟨#[]⟩], erV A 0]) (by simp [results, Tryd.results9, go_sem, k0, k1]) rfl ?_
  exact ⟨rfl, HD2.out.done _ _⟩
/-- Behind the number. -/
theorem dec_pre (s : ByteArray) (w : World) (hs : s.size ≤ 15000) (h8 : 8 ≤ s.size) (hg : numAt s 8 ≤ 9223372036854775807) :
    ∃ W2, Hid (Calls Tryd.prog 22 #[.pointer (some ⟨w.heap.size + 1, 0, none⟩)] (decW w s) fun e w' => e = .returned (.tuple #[.int .i64 (numAt s 8), .nilIface]) ∧ w' = W2) ∧ W2.cell? ⟨w.heap.size + 1, 0, none⟩ = some (.string (cutAt s 8)) ∧ W2.frozen? ⟨w.heap.size + 1, 0, none⟩ = false ∧ DecAt w W2 := by
  have cu : (decW w s).cell? ⟨w.heap.size + 1, 0, none⟩ = some (.string s) := by simp
  have cf : (decW w s).frozen? ⟨w.heap.size + 1, 0, none⟩ = false := World.frozen?_alloc_at _ _ _ _ (by simp)
  exact ⟨_, (rLong_ok _ s _ cu cf h8 (by omega) hg).mono fun e w' q => ⟨q.1, q.2.symm⟩, World.cell?_setCell_same _ _ _ cu, (World.frozen?_setCell _ _ _ _).trans cf, (decW_at w s).put _⟩
theorem decode_item (A : Nat → Addr) (s : ByteArray) (w : World) (hE : Errs w A) (hs : s.size ≤ 15000) (h8 : 8 ≤ s.size) (hg : numAt s 8 ≤ 9223372036854775807) (h : ¬ ItemOk (cutAt s 8) 4000) :
    Calls Tryd.prog 9 #[.string s] w fun e w' => e = .returned (.tuple #[.agg #[.int .i64 0, .string ⟨#[]⟩], erV A 0]) ∧ Below w.heap.size w w' := by
  obtain ⟨W2, HL, c2, f2, hd2⟩ := dec_pre s w hs h8 hg
  have HD : Hid (DecAt w W2) := hd2
  have HI : Hid (Calls Tryd.prog 23 #[.pointer (some ⟨w.heap.size + 1, 0, none⟩), .int .i64 4000] W2 fun e w' => e = .returned (.tuple #[.string (bs []), erV A 0]) ∧ Below W2.heap.size W2 w') :=
    (rBytes_ends (w.heap.size + 1) (cutAt s 8) 4000 _ _ _ c2 f2 ((hE.below hd2.below (Nat.le_refl _)).cell 0 (by decide)) (by rw [cutAt_size]; omega)).mono fun e w' q => by
      rcases q with ⟨q, _⟩ | ⟨_, q1, q2⟩
      · exact absurd q h
      · exact ⟨q1, q2⟩
  clear hE hs h8 hg h hd2 c2 f2
  go_enter Tryd.func9, Tryd.ntmps9
  go_wp2_with (first
    | (go_at_call 21; refine (newReader_any s _).mono ?_; rintro e w2 ⟨rfl, rfl⟩)
    | (go_at_call 22; refine HL.out.mono ?_; rintro e w3 ⟨rfl, rfl⟩)
    | (go_at_call 23; go_must (refine HI.out.mono ?_); rintro e w4 ⟨rfl, hb⟩; obtain ⟨k0, k1, k2, k3, kb, kz⟩ := HD.out.later hb; have HD2 : Hid (DecAt w w4) := ⟨k0, k1, k2, k3, kb, kz⟩; clear hb kb kz))
  refine bodyPost_ret (v := .tuple #[.agg #[.int .i64 0, .string ⟨#[]⟩], erV A 0]) (by simp [results, Tryd.results9, go_sem, k0, k1]) rfl ?_
  exact ⟨rfl, HD2.out.done _ _⟩
theorem decode_tail (A : Nat → Addr) (s : ByteArray) (w : World) (hE : Errs w A) (hs : s.size ≤ 15000) (h8 : 8 ≤ s.size) (hg : numAt s 8 ≤ 9223372036854775807) (h : ItemOk (cutAt s 8) 4000) :
    Calls Tryd.prog 9 #[.string s] w fun e w' => (∃ r, e = .returned r ∧ DecR A s r) ∧ Below w.heap.size w w' := by
  obtain ⟨W2, HL, c2, f2, hd2⟩ := dec_pre s w hs h8 hg
  have hd3 := hd2.put (.string (reqR s))
  obtain ⟨W3, eW3⟩ : ∃ W3, W3 = W2.setCell ⟨w.heap.size + 1, 0, none⟩ (.string (reqR s)) := ⟨_, rfl⟩
  have HI : Hid (Calls Tryd.prog 23 #[.pointer (some ⟨w.heap.size + 1, 0, none⟩), .int .i64 4000] W2 fun e w' => e = .returned (.tuple #[.string (reqX s), .nilIface]) ∧ w' = W3) :=
    (rBytes_ends (w.heap.size + 1) (cutAt s 8) 4000 _ _ _ c2 f2 ((hE.below hd2.below (Nat.le_refl _)).cell 0 (by decide)) (by rw [cutAt_size]; omega)).mono fun e w' q => by
      rcases q with ⟨_, q1, q2⟩ | ⟨q, _⟩
      · exact ⟨q1, by rw [eW3]; exact q2.symm⟩
      · exact absurd h q
  have c3 : W3.cell? ⟨w.heap.size + 1, 0, none⟩ = some (.string (reqR s)) := by rw [eW3]; exact World.cell?_setCell_same _ _ _ c2
  rw [← eW3] at hd3
  clear eW3
  have ce : W3.cell? ⟨3, 0, none⟩ = some (erV A 0) := (hE.below hd3.below (Nat.le_refl _)).cell 0 (by decide)
  obtain ⟨k0, k1, k2, k3, kb, kz⟩ := hd3
  have HD : Hid (DecAt w W3) := ⟨k0, k1, k2, k3, kb, kz⟩
  have HF : Hid ((0 < (reqR s).size ∧ Hid (Calls Tryd.prog 24 #[.pointer (some ⟨w.heap.size + 1, 0, none⟩)] W3 fun e w' => e = .returned (erV A 0) ∧ w' = W3)) ∨ ((reqR s).size = 0 ∧ Hid (Calls Tryd.prog 24 #[.pointer (some ⟨w.heap.size + 1, 0, none⟩)] W3 fun e w' => e = .returned .nilIface ∧ w' = W3))) := by
    rcases Nat.eq_zero_or_pos (reqR s).size with z | z
    · refine Or.inr ⟨z, ?_⟩
      have e : reqR s = bs [] := by
        apply data_inj
        exact List.eq_nil_of_length_eq_zero (by rw [data_length]; exact z)
      rw [e] at c3
      exact (rEnd_none _ _ c3).mono fun e w' q => ⟨q.1, q.2.symm⟩
    · exact Or.inl ⟨z, (rEnd_some _ _ _ _ c3 ce z).mono fun e w' q => ⟨q.1, q.2.symm⟩⟩
  have HO : Hid (8 ≤ s.size ∧ numAt s 8 ≤ 9223372036854775807 ∧ ItemOk (cutAt s 8) 4000) := ⟨h8, hg, h⟩
  clear hE hs h8 hg h hd2 c2 f2 c3 ce kb kz
  rcases HF.out with ⟨z, HF'⟩ | ⟨z, HF'⟩
  · have HZ : Hid (0 < (reqR s).size) := z
    clear z HF
    go_enter Tryd.func9, Tryd.ntmps9
    go_wp2_with (first
      | (go_at_call 21; refine (newReader_any s _).mono ?_; rintro e w2 ⟨rfl, rfl⟩)
      | (go_at_call 22; refine HL.out.mono ?_; rintro e w3 ⟨rfl, rfl⟩)
      | (go_at_call 23; refine HI.out.mono ?_; rintro e w4 ⟨rfl, rfl⟩)
      | (go_at_call 24; go_must (refine HF'.out.mono ?_); rintro e w5 ⟨rfl, rfl⟩))
    refine bodyPost_ret (v := .tuple #[.agg #[.int .i64 0, .string ⟨#[]⟩], erV A 0]) (by simp [results, Tryd.results9, go_sem, k0, k1]) rfl ?_
    exact ⟨⟨_, rfl, Or.inr ⟨fun q => by have := q.2.2.2; have := HZ.out; omega, rfl⟩⟩, HD.out.done _ _⟩
  · have HZ : Hid ((reqR s).size = 0) := z
    clear z HF
    go_enter Tryd.func9, Tryd.ntmps9
    go_wp2_with (first
      | (go_at_call 21; refine (newReader_any s _).mono ?_; rintro e w2 ⟨rfl, rfl⟩)
      | (go_at_call 22; refine HL.out.mono ?_; rintro e w3 ⟨rfl, rfl⟩)
      | (go_at_call 23; refine HI.out.mono ?_; rintro e w4 ⟨rfl, rfl⟩)
      | (go_at_call 24; go_must (refine HF'.out.mono ?_); rintro e w5 ⟨rfl, rfl⟩))
    refine bodyPost_ret (v := .tuple #[.agg #[.int .i64 (numAt s 8 : Nat), .string (reqX s)], .nilIface]) (by simp [results, Tryd.results9, go_sem, k0, k1]) rfl ?_
    exact ⟨⟨_, rfl, Or.inl ⟨⟨HO.out.1, HO.out.2.1, HO.out.2.2, HZ.out⟩, rfl⟩⟩, HD.out.done _ _⟩
theorem decode_any (A : Nat → Addr) (s : ByteArray) (w : World) (hE : Errs w A) (hs : s.size ≤ 15000) :
    Calls Tryd.prog 9 #[.string s] w fun e w' => (∃ r, e = .returned r ∧ DecR A s r) ∧ Below w.heap.size w w' := by
  have bad : ∀ (hn : ¬ ReqOk s) (e : Ending) (w' : World), (e = .returned (.tuple #[.agg #[.int .i64 0, .string ⟨#[]⟩], erV A 0]) ∧ Below w.heap.size w w') → (∃ r, e = .returned r ∧ DecR A s r) ∧ Below w.heap.size w w' :=
    fun hn e w' q => ⟨⟨_, q.1, Or.inr ⟨hn, rfl⟩⟩, q.2⟩
  by_cases h8 : 8 ≤ s.size
  · by_cases hg : numAt s 8 ≤ 9223372036854775807
    · by_cases h : ItemOk (cutAt s 8) 4000
      · exact decode_tail A s w hE hs h8 hg h
      · exact (decode_item A s w hE hs h8 hg h).mono (bad (fun q => h q.2.2.1))
    · exact (decode_long A s w hE hs (Or.inr ⟨h8, by omega⟩)).mono (bad (fun q => hg q.2.1))
  · exact (decode_long A s w hE hs (Or.inl (by omega))).mono (bad (fun q => h8 q.1))
end Go.Proofs.YtigcbdcgfloggaaDoor
