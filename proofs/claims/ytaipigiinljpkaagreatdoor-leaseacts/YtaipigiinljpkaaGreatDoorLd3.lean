/- Clients, the document's side: Renew, Name, List. -/
import Derived.Test.YtaipigiinljpkaaGreatDoorLd2
namespace Go.Proofs.YtaipigiinljpkaaGreatDoor
open Go Go.RowKit Go.Deep

theorem get_lt {α : Type} {L : List α} {n j : Nat} (hn : L.length = n) (h : j < n) : ∃ x, L[j]? = some x := ⟨L[j]'(by omega), List.getElem?_eq_getElem _⟩
/-- One cell of one client is set. -/
theorem Rcs.set1 {w : World} {base g cap n k j : Nat} {L : List Rc} {y z : Rc} {u : Value} (h : Rcs w base (.slice (some ⟨g, 0, none⟩) n cap) L) (hn : L.length = n) (hy : L[k]? = some y) (hj : j < 4) (hz : rcC z = (rcC y).set j u) : Rcs (w.setCell ⟨g, k * 4 + j, none⟩ u) base (.slice (some ⟨g, 0, none⟩) n cap) (L.set k z) := by
  subst hn
  have e := rowOf_set rcC_len L k j y z u hj hy hz
  have h3 := (World.ownsRow.stored h (k * 4 + j) u).1
  rw [e] at h3
  unfold Rcs
  rw [List.length_set]
  exact h3
theorem Rcs.frozen {w : World} {base g cap n : Nat} {L : List Rc} (h : Rcs w base (.slice (some ⟨g, 0, none⟩) n cap) L) (hn : L.length = n) (o : Nat) : w.frozen? ⟨g, o, none⟩ = false := by
  subst hn
  exact World.ownsRow.frozenAt h o
def RRenR (w w' : World) (base m : Nat) (v : Value) (last now : Nat) (L : List Rc) (id : Int) (e : Ending) : Prop :=
  (∃ (k : Nat) (x : Rc), L[k]? = some x ∧ (x.I : Int) = id ∧ x.c = true ∧ e = .returned (.int .i64 0) ∧ RlsAt w' base m v last now (L.set k ⟨x.I, now, x.s, x.c⟩) ∧ Only v.ownBlock.toList w w') ∨
  ((∀ x ∈ L, ¬ ((x.I : Int) = id ∧ x.c = true)) ∧ e = .returned (.int .i64 5) ∧ Only [] w w')
set_option maxRecDepth 100000 in
set_option maxHeartbeats 4000000 in
theorem rren_any (w : World) (base m : Nat) (v : Value) (last now : Nat) (L : List Rc) (id : Int) (h : RlsAt w base m v last now L) (hl : L.length ≤ 100) :
    Calls Tryz.prog 12 #[.pointer (some ⟨m, 0, none⟩), .int .i64 id] w fun e w' => RRenR w w' base m v last now L id e := by
  have hat := rat_any w base m v last now L id h hl
  have H : Hid (RlsAt w base m v last now L) := h
  have c0 := h.c0
  have c2 := h.c2
  clear h
  go_enter Tryz.func12, Tryz.ntmps12
  go_wp2_with fail
  refine hat.mono ?_
  rintro e w2 ⟨⟨k, x, hk, hi, hc, rfl⟩ | ⟨hno, rfl⟩, rfl⟩
  · obtain ⟨ad, cap, rfl, hf⟩ := H.out.own.form
    obtain ⟨g, rfl, hg1, hg2, q0, q1, q2, q3⟩ := hf k x hk
    have hfz : w.frozen? ⟨g, k * 4 + 1, none⟩ = false := Rcs.frozen H.out.own rfl _
    have hkl : k < L.length := (List.getElem?_eq_some_iff.1 hk).1
    have HW : Hid (RlsAt (w.drew.setCell ⟨g, k * 4 + 1, none⟩ (.int .i64 (now : Nat))) base m (.slice (some ⟨g, 0, none⟩) L.length cap) last now (L.set k ⟨x.I, now, x.s, x.c⟩)) := by
      have hd := H.out.only ((Only.refl [] w).drew)
      refine ⟨?_, ?_⟩
      · exact (heap_setCell_other w.drew ⟨g, k * 4 + 1, none⟩ m _ (H.out.ne (k := g) rfl).symm).trans hd.tab
      · have := Rcs.set1 (w := w.drew) (j := 1) (z := ⟨x.I, now, x.s, x.c⟩) (u := .int .i64 (now : Nat)) hd.own rfl hk (by decide) rfl
        exact this
    have HO : Hid (Only [g] w (w.drew.setCell ⟨g, k * 4 + 1, none⟩ (.int .i64 (now : Nat)))) := ((Only.refl [g] w).drew).setCell (Or.inl (by simp)) _
    have HX : Hid (L[k]? = some x ∧ (x.I : Int) = id ∧ x.c = true) := ⟨hk, hi, hc⟩
    clear hf hk hi hc hat
    go_wp2
    go_region
    all_goals go_wp2
    all_goals go_ret
    all_goals exact Or.inl ⟨k, x, HX.out.1, HX.out.2.1, HX.out.2.2, rfl, HW.out, HO.out⟩
  · have HD : Hid (∀ x ∈ L, ¬ ((x.I : Int) = id ∧ x.c = true)) := hno
    clear hno hat
    go_wp2
    go_ret
    exact Or.inr ⟨HD.out, rfl, Only.refl _ _⟩
def RNameR (w w' : World) (L : List Rc) (id : Int) (e : Ending) : Prop :=
  ((∃ x ∈ L, (x.I : Int) = id ∧ x.c = true ∧ e = .returned (.tuple #[.string (bs x.s), .int .i64 0])) ∨ ((∀ x ∈ L, ¬ ((x.I : Int) = id ∧ x.c = true)) ∧ e = .returned (.tuple #[.string ⟨#[]⟩, .int .i64 5]))) ∧ w = w'
set_option maxRecDepth 100000 in
set_option maxHeartbeats 4000000 in
theorem rname_any (w : World) (base m : Nat) (v : Value) (last now : Nat) (L : List Rc) (id : Int) (h : RlsAt w base m v last now L) (hl : L.length ≤ 100) :
    Calls Tryz.prog 17 #[.pointer (some ⟨m, 0, none⟩), .int .i64 id] w fun e w' => RNameR w w' L id e := by
  have hat := rat_any w base m v last now L id h hl
  have H : Hid (RlsAt w base m v last now L) := h
  have c0 := h.c0
  clear h
  go_enter Tryz.func17, Tryz.ntmps17
  go_wp2_with fail
  refine hat.mono ?_
  rintro e w2 ⟨⟨k, x, hk, hi, hc, rfl⟩ | ⟨hno, rfl⟩, rfl⟩
  · obtain ⟨ad, cap, rfl, hf⟩ := H.out.own.form
    obtain ⟨g, rfl, hg1, hg2, q0, q1, q2, q3⟩ := hf k x hk
    have hkl : k < L.length := (List.getElem?_eq_some_iff.1 hk).1
    have HX : Hid (x ∈ L ∧ (x.I : Int) = id ∧ x.c = true) := ⟨List.mem_of_getElem? hk, hi, hc⟩
    obtain ⟨n, hn⟩ : ∃ n, L.length = n := ⟨_, rfl⟩
    rw [hn] at c0 hkl
    clear hf hk hi hc hn hat
    go_wp2
    go_ret2
    exact ⟨Or.inl ⟨x, HX.out.1, HX.out.2.1, HX.out.2.2, rfl⟩, rfl⟩
  · have HD : Hid (∀ x ∈ L, ¬ ((x.I : Int) = id ∧ x.c = true)) := hno
    clear hno hat
    go_wp2
    go_ret2
    exact ⟨Or.inr ⟨HD.out, rfl⟩, rfl⟩
/-! ### List -/
theorem ids_take {p : Rc → Bool} {L : List Rc} {j : Nat} {x : Rc} (h : L[j]? = some x) : idsD ((L.take (j + 1)).filter p) = if p x then idsD ((L.take j).filter p) ++ [(x.I : Int)] else idsD ((L.take j).filter p) := by
  rw [List.take_add_one, h, List.filter_append]
  unfold idsD
  rw [List.map_append]
  cases hp : p x <;> simp [hp]
theorem ids_len (p : Rc → Bool) (L : List Rc) (j : Nat) : (idsD ((L.take j).filter p)).length ≤ j := by
  unfold idsD
  rw [List.length_map]
  have h1 := List.length_filter_le p (L.take j)
  rw [List.length_take] at h1
  omega
set_option maxRecDepth 100000 in
set_option maxHeartbeats 4000000 in
theorem rlist_any (w : World) (base m : Nat) (v : Value) (last now : Nat) (L : List Rc) (h : RlsAt w base m v last now L) (hl : L.length ≤ 100) :
    Calls Tryz.prog 19 #[.pointer (some ⟨m, 0, none⟩)] w fun e w' => ∃ u, e = .returned u ∧ Nums w' w.heap.size u (idsD (L.filter (·.c))) ∧ Only [] w w' := by
  obtain ⟨i0, hi0, hz0, hz1, hz2⟩ := infoInt'
  obtain ⟨ad, cap, rfl, hf⟩ := h.own.form
  have htl := h.lt
  have HF : Hid (∀ W, Only [] w W → W.cell? ⟨m, 0, none⟩ = some (.slice ad L.length cap) ∧ ∀ j x, L[j]? = some x → ∃ g, ad = some ⟨g, 0, none⟩ ∧ RcIn W g j x) := fun W ho => ⟨(h.only ho).c0, fun j x hx => by
    obtain ⟨g, hg, _, _, hc⟩ := hf j x hx
    exact ⟨g, hg, hc.only ho (by simp)⟩⟩
  obtain ⟨n, hn⟩ : ∃ n, L.length = n := ⟨_, rfl⟩
  have HN : Hid (L.length = n) := hn
  rw [hn] at HF hl
  have c0 := (HF.out w (Only.refl _ _)).1
  clear hf hn h
  go_enter Tryz.func19, Tryz.ntmps19
  go_wp2
  clear c0
  go_loopw [3, 4] (fun o i wr => ∃ j : Nat, i = .int .i64 (j : Nat) ∧ j ≤ n ∧ Nums wr w.heap.size o (idsD ((L.take j).filter (·.c))) ∧ Only [] w wr) (fun _ i _ => n - (intOf i).toNat)
  case atStart => exact ⟨0, rfl, Nat.zero_le _, Nums.nil _ _, Only.refl _ _⟩
  case round =>
    obtain ⟨j, rfl, hj, hnum, hO⟩ := hrel
    obtain ⟨c0, hce⟩ := HF.out wr hO
    have HNM : Hid (Nums wr w.heap.size u3 (idsD ((L.take j).filter (·.c)))) := hnum
    have HO : Hid (Only [] w wr) := hO
    have hml : m < wr.heap.size := lt_of_cell c0
    by_cases hlt : j < n
    · obtain ⟨x, hx⟩ := get_lt HN.out hlt
      obtain ⟨g, rfl, q0, _, _, q3⟩ := hce j x hx
      have HTK : Hid (idsD ((L.take (j + 1)).filter (·.c)) = if x.c then idsD ((L.take j).filter (·.c)) ++ [(x.I : Int)] else idsD ((L.take j).filter (·.c))) := ids_take hx
      clear hnum hO hce hx
      cases hc : x.c with
      | false =>
        rw [hc] at q3 HTK
        clear hc
        go_wp2
        go_roundw
        case rel => exact ⟨j + 1, by go_num, by omega, by rw [HTK.out]; exact HNM.out, HO.out⟩
        case measure => simp [intOf]; omega
      | true =>
        rw [hc] at q3 HTK
        obtain ⟨dn, hdn⟩ : ∃ dn, (idsD ((L.take j).filter (·.c))).length = dn := ⟨_, rfl⟩
        have HDN : Hid ((idsD ((L.take j).filter (·.c))).length = dn) := hdn
        have hdb : dn ≤ 100 := by have := ids_len (·.c) L j; omega
        have HROW : Hid (wr.ownsRow w.heap.size 3 1 u3 dn ((idsD ((L.take j).filter (·.c))).map (Value.int .i64))) := Nums.own HDN.out HNM.out
        clear hc hdn
        go_wp2_with (first
          | (at_builtin; refine wpList_append_lies _ rfl (.tmp 22) (.tmp 31) 44 rfl w.heap.size 3 i0 _ 1 8 undInts hi0 hz0 hz1 hz2 rfl (by decide) u3 dn _ rfl (World.ownsRow.alloc HROW.out _) ⟨wr.heap.size, 0, none⟩ 1 1 [.int .i64 (x.I : Nat)] rfl rfl (one_news _ _) (by intro u hu; rw [List.mem_singleton.1 hu]; rfl) (by decide) (by unfold maxLen; omega) (by omega) (by rw [World.size_alloc]; have := HO.out.size; omega) (wr.heap.size + 1) (by simp) ?_; intro g5 c5 w5 hown5 hgr5 hat5 hlt5; have HV5 : Hid (Nums w5 w.heap.size (.slice (some ⟨g5, 0, none⟩) (dn + 1) c5) (idsD ((L.take j).filter (·.c)) ++ [(x.I : Int)])) := Nums.snoc HDN.out hown5; have HG5 : Hid ((wr.alloc (.cells #[.int .i64 (x.I : Nat)] 3)).grownBy w5 u3.ownBlock) := hgr5; clear hown5 hgr5 hat5 hlt5)
          | go_in)
        go_roundw
        case rel => exact ⟨j + 1, by go_num, by omega, by rw [HTK.out]; exact HV5.out, (HO.out.alloc _).grown HG5.out (fun k hk => Or.inr (own_block HNM.out hk).1)⟩
        case measure => simp [intOf]; omega
    · obtain rfl : j = n := by omega
      have hj2 : decide ((j : Int) < j) = false := decide_eq_false (by omega)
      have HE : Hid (Nums wr w.heap.size u3 (idsD (L.filter (·.c)))) := by
        have := HNM.out
        rw [← HN.out, List.take_length] at this
        exact this
      clear hnum hO hce
      go_wp2
      go_ret
      exact ⟨u3, rfl, HE.out, HO.out⟩
end Go.Proofs.YtaipigiinljpkaaGreatDoor
