/- Clients, the document's side: Tick. -/
import Derived.Test.YtaipigiinljpkaaGreatDoorLd3
import Derived.Deep.DeepCutAuto
import Derived.Deep.CutBlock
namespace Go.Proofs.YtaipigiinljpkaaGreatDoor
open Go Go.RowKit Go.Deep

theorem only_nil {a b c : World} (h : Only [] a b) (k : Only [] b c) : Only [] a c := h.trans k (fun _ hk => by cases hk)
theorem rtick_bad (w : World) (m : Nat) (n : Int) (hn : n < 0 ∨ 1099511627776 < n) :
    Calls Tryz.prog 14 #[.pointer (some ⟨m, 0, none⟩), .int .i64 n] w fun e w' => e = .returned (.tuple #[.slice none 0 0, .int .i64 2]) ∧ w = w' := by
  by_cases h0 : n < 0
  · clear hn
    go_enter Tryz.func14, Tryz.ntmps14
    go_wp2
    go_ret2
    exact ⟨rfl, rfl⟩
  · have h2 : 1099511627776 < n := by omega
    clear hn
    go_enter Tryz.func14, Tryz.ntmps14
    go_wp2
    go_ret2
    exact ⟨rfl, rfl⟩
theorem rcs_take {p : Rc → Bool} {L : List Rc} {j : Nat} {x : Rc} (h : L[j]? = some x) : (L.take (j + 1)).filter p = if p x then (L.take j).filter p ++ [x] else (L.take j).filter p := by
  rw [List.take_add_one, h, List.filter_append]
  cases hp : p x <;> simp [hp]
theorem rcs_len (p : Rc → Bool) (L : List Rc) (j : Nat) : ((L.take j).filter p).length ≤ j := by
  have h1 := List.length_filter_le p (L.take j)
  rw [List.length_take] at h1
  omega
theorem four_of {W : World} {b : Nat} {x y z t : Value} {ty : TypeId} (h : W.heap[b]? = some (.cells #[x, y, z, t] ty (0, 0))) : W.cell? ⟨b, 0, none⟩ = some x ∧ W.cell? ⟨b, 1, none⟩ = some y ∧ W.cell? ⟨b, 2, none⟩ = some z ∧ W.cell? ⟨b, 3, none⟩ = some t :=
  ⟨cell_of_row _ _ 0 _ _ _ h, cell_of_row _ _ 1 _ _ _ h, cell_of_row _ _ 2 _ _ _ h, cell_of_row _ _ 3 _ _ _ h⟩
def RTickR (w w' : World) (base m last now k : Nat) (L : List Rc) (e : Ending) : Prop :=
  ∃ u v', e = .returned (.tuple #[u, .int .i64 0]) ∧ Nums w' w.heap.size u (idsD (L.filter (lateB (now + k)))) ∧ RlsAt w' base m v' last (now + k) (L.filter (fun x => !lateB (now + k) x)) ∧ Only [m] w w' ∧ ∀ b, v'.ownBlock = some b → w.heap.size ≤ b
set_option maxRecDepth 100000 in
set_option maxHeartbeats 8000000 in
theorem rtick_ok (w : World) (base m : Nat) (v : Value) (last now k : Nat) (L : List Rc) (h : RlsAt w base m v last now L) (hl : L.length ≤ 100) (hk : k ≤ 1099511627776) (hnow : now ≤ 2251799813685248) (hS : ∀ x ∈ L, x.S ≤ now) (hb : base ≤ w.heap.size) :
    Calls Tryz.prog 14 #[.pointer (some ⟨m, 0, none⟩), .int .i64 (k : Nat)] w fun e w' => RTickR w w' base m last now k L e := by
  obtain ⟨i0, hi0, hz0, hz1, hz2⟩ := infoInt'
  obtain ⟨r0, hr0, hy0, hy1, hy2⟩ := infoRc'
  obtain ⟨ad, cap, rfl, hf⟩ := h.own.form
  have htl := h.lt
  have c2 := h.c2
  have f2 := h.fr 2
  have hd1 : decide ((k : Int) < 0) = false := decide_eq_false (by omega)
  have hd2 : decide ((1099511627776 : Int) < k) = false := decide_eq_false (by omega)
  have hT1 : RlsAt (w.setCell ⟨m, 2, none⟩ (.int .i64 ((now : Int) + (k : Int)))) base m (.slice ad L.length cap) last (now + k) L := ⟨heap_setCell_same w m 2 _ _ _ h.tab, h.own.only ((Only.refl [m] w).setCell (Or.inl (by simp)) _) (fun b hb' => by simpa using h.ne hb')⟩
  have HO1 : Hid (Only [m] w (w.setCell ⟨m, 2, none⟩ (.int .i64 ((now : Int) + (k : Int))))) := (Only.refl [m] w).setCell (Or.inl (by simp)) _
  have hz1' : (w.setCell ⟨m, 2, none⟩ (.int .i64 ((now : Int) + (k : Int)))).heap.size = w.heap.size := by simp
  have HNE : Hid (∀ g, ad = some ⟨g, 0, none⟩ → g ≠ m) := fun g e => h.ne (k := g) (by rw [e]; rfl)
  have HF0 : Hid (∀ j x, L[j]? = some x → ∃ g, ad = some ⟨g, 0, none⟩ ∧ g < w.heap.size ∧ RcIn w g j x) := fun j x hx => by
    obtain ⟨g, hg, _, h2, hc⟩ := hf j x hx
    exact ⟨g, hg, h2, hc⟩
  have HS : Hid (∀ x ∈ L, x.S ≤ now) := hS
  have HB : Hid (base ≤ w.heap.size) := hb
  clear hf h hS hb
  go_enter Tryz.func14, Tryz.ntmps14
  go_wp2
  generalize w.setCell ⟨m, 2, none⟩ (.int .i64 ((now : Int) + (k : Int))) = w1 at hT1 HO1 hz1' ⊢
  have HF : Hid (∀ W, Only [] w1 W → W.cell? ⟨m, 0, none⟩ = some (.slice ad L.length cap) ∧ W.cell? ⟨m, 2, none⟩ = some (.int .i64 ((now : Int) + (k : Int))) ∧ m < W.heap.size ∧ ∀ j x, L[j]? = some x → ∃ g, ad = some ⟨g, 0, none⟩ ∧ RcIn W g j x) := fun W ho => ⟨(hT1.only ho).c0, (hT1.only ho).c2, (hT1.only ho).lt, fun j x hx => by
    obtain ⟨g, hg, h2, hc⟩ := HF0.out j x hx
    exact ⟨g, hg, (hc.only HO1.out (by simpa using HNE.out g hg)).only ho (by simp)⟩⟩
  have HT1 : Hid (RlsAt w1 base m (.slice ad L.length cap) last (now + k) L) := hT1
  have HZ : Hid (w1.heap.size = w.heap.size) := hz1'
  obtain ⟨n, hn⟩ : ∃ n, L.length = n := ⟨_, rfl⟩
  have HN : Hid (L.length = n) := hn
  rw [hn] at HF hl
  have HTL : Hid (m < w.heap.size) := htl
  clear hn hT1 hz1' c2 f2 htl
  go_loopw [6, 7, 8] (fun gv ov i wr => ∃ j : Nat, i = .int .i64 (j : Nat) ∧ j ≤ n ∧ Nums wr w1.heap.size gv (idsD ((L.take j).filter (lateB (now + k)))) ∧ Rcs wr w1.heap.size ov ((L.take j).filter (fun x => !lateB (now + k) x)) ∧ Only [] w1 wr) (fun _ _ i _ => n - (intOf i).toNat)
  case atStart => exact ⟨0, rfl, Nat.zero_le _, Nums.nil _ _, Rcs.nil _ _, Only.refl _ _⟩
  case round =>
    obtain ⟨j, rfl, hj, hnum, hrcs, hO⟩ := hrel
    obtain ⟨c0, c2, hml, hce⟩ := HF.out wr hO
    have HNM : Hid (Nums wr w1.heap.size u6 (idsD ((L.take j).filter (lateB (now + k))))) := hnum
    have HRC : Hid (Rcs wr w1.heap.size u7 ((L.take j).filter (fun x => !lateB (now + k) x))) := hrcs
    have HO : Hid (Only [] w1 wr) := hO
    by_cases hlt : j < n
    · obtain ⟨x, hx⟩ := get_lt HN.out hlt
      obtain ⟨g, rfl, q0, q1, q2, q3⟩ := hce j x hx
      have hxs : x.S ≤ now := HS.out x (List.mem_of_getElem? hx)
      have HTK : Hid (idsD ((L.take (j + 1)).filter (lateB (now + k))) = if lateB (now + k) x then idsD ((L.take j).filter (lateB (now + k))) ++ [(x.I : Int)] else idsD ((L.take j).filter (lateB (now + k)))) := ids_take hx
      have HTR : Hid ((L.take (j + 1)).filter (fun x => !lateB (now + k) x) = if (!lateB (now + k) x) then (L.take j).filter (fun x => !lateB (now + k) x) ++ [x] else (L.take j).filter (fun x => !lateB (now + k) x)) := rcs_take (p := fun x => !lateB (now + k) x) hx
      clear hnum hrcs hO hce hx
      go_upto_region 10 with fail
      go_cut [52] from 25 to 61 (fun c wx => c = .bool (lateB (now + k) x) ∧ Only [] (wr.alloc (.cells #[.int .i64 (x.I : Nat), .int .i64 (x.S : Nat), .string (bs x.s), .bool x.c] 67)) wx)
      case first =>
        clear q0 q1 q2 q3
        cases hc : x.c with
        | false =>
          have HG : Hid (lateB (now + k) x = false) := by show _ = _; unfold lateB; rw [hc]; rfl
          have HC : Hid (x.c = false) := hc
          clear hc
          go_big_quiet (fail)
          go_wp2
          go_meet
          exact ⟨by rw [HG.out], by rw [HC.out]; exact (Only.refl [] _).drewsN _⟩
        | true =>
          have HG : Hid (lateB (now + k) x = decide (60 ≤ (now : Int) + (k : Int) - (x.S : Int))) := by
            show _ = _
            unfold lateB
            rw [hc, Bool.true_and]
            congr 1
          have HC : Hid (x.c = true) := hc
          clear hc
          go_big_quiet (fail)
          go_wp2
          go_meet
          exact ⟨by rw [HG.out], by rw [HC.out]; exact (Only.refl [] _).drewsN _⟩
      case rest =>
        obtain ⟨rfl, hoc⟩ := hcut
        have HWC : Hid (Only [] wr wc) := only_nil ((Only.refl [] wr).alloc _) hoc
        have hb5 := (hoc.block wr.heap.size (by simp) (by simp)).trans (heap_alloc_last wr _)
        clear hoc c0 c2 hml q0 q1 q2 q3
        generalize wc = wt at HWC hb5 ⊢
        obtain ⟨b0, b1, b2, b3⟩ := four_of hb5
        obtain ⟨c0, c2, hml, _⟩ := HF.out wt (only_nil HO.out HWC.out)
        clear hb5
        cases hb : lateB (now + k) x with
        | true =>
          rw [hb] at HTK HTR
          obtain ⟨dn, hdn⟩ : ∃ dn, (idsD ((L.take j).filter (lateB (now + k)))).length = dn := ⟨_, rfl⟩
          have HDN : Hid ((idsD ((L.take j).filter (lateB (now + k)))).length = dn) := hdn
          have hdb : dn ≤ 100 := by have := ids_len (lateB (now + k)) L j; omega
          have HROW : Hid (wt.ownsRow w1.heap.size 3 1 u6 dn ((idsD ((L.take j).filter (lateB (now + k)))).map (Value.int .i64))) := Nums.own HDN.out (HNM.out.only HWC.out (fun _ _ => by simp))
          clear hb hdn
          go_wp2_with (first
            | (at_builtin; refine wpList_append_lies _ rfl (.tmp 53) (.tmp 56) 44 rfl w1.heap.size 3 i0 _ 1 8 undInts hi0 hz0 hz1 hz2 rfl (by decide) u6 dn _ rfl (World.ownsRow.alloc HROW.out _) ⟨wt.heap.size, 0, none⟩ 1 1 [.int .i64 (x.I : Nat)] rfl rfl (one_news _ _) (by intro u hu; rw [List.mem_singleton.1 hu]; rfl) (by decide) (by unfold maxLen; omega) (by omega) (by rw [World.size_alloc]; have := HO.out.size; have := HWC.out.size; omega) (wt.heap.size + 1) (by simp) ?_; intro g5 c5 w5 hown5 hgr5 hat5 hlt5; have HV5 : Hid (Nums w5 w1.heap.size (.slice (some ⟨g5, 0, none⟩) (dn + 1) c5) (idsD ((L.take j).filter (lateB (now + k))) ++ [(x.I : Int)])) := Nums.snoc HDN.out hown5; have HG5 : Hid ((wt.alloc (.cells #[.int .i64 (x.I : Nat)] 3)).grownBy w5 u6.ownBlock) := hgr5; clear hown5 hgr5 hat5 hlt5)
            | go_in)
          go_roundw
          case rel =>
            have hG : Only u6.ownBlock.toList wt w5 := ((Only.refl _ wt).alloc _).grown HG5.out (fun b hb => Or.inl (by simp [hb]))
            have hR := (HRC.out.only HWC.out (fun _ _ => by simp)).only hG (fun b hb hm => by
              obtain ⟨_, _, cur, h1⟩ := own_block HRC.out hb
              obtain ⟨_, _, cur2, h2⟩ := own_block HNM.out (by simpa using hm)
              rw [h1] at h2
              simp at h2)
            refine ⟨j + 1, by go_num, by omega, by rw [HTK.out]; exact HV5.out, by rw [HTR.out]; exact hR, (only_nil HO.out HWC.out).trans hG (fun b hb => Or.inr (own_block HNM.out (by simpa using hb)).1)⟩
          case measure => simp [intOf]; omega
        | false =>
          rw [hb] at HTK HTR
          obtain ⟨dn, hdn⟩ : ∃ dn, ((L.take j).filter (fun x => !lateB (now + k) x)).length = dn := ⟨_, rfl⟩
          have HDN : Hid (((L.take j).filter (fun x => !lateB (now + k) x)).length = dn) := hdn
          have hdb : dn ≤ 100 := by have := rcs_len (fun x => !lateB (now + k) x) L j; omega
          have HROW : Hid (wt.ownsRow w1.heap.size 67 4 u7 dn (rowOf rcC ((L.take j).filter (fun x => !lateB (now + k) x)))) := Rcs.own HDN.out (HRC.out.only HWC.out (fun _ _ => by simp))
          clear hb hdn
          go_wp2_with (first
            | (at_builtin; refine wpList_append_lies _ rfl (.tmp 58) (.tmp 60) 27 rfl w1.heap.size 67 r0 _ 4 40 undRcs hr0 hy0 hy1 hy2 rfl (by decide) u7 dn _ rfl (World.ownsRow.alloc HROW.out _) ⟨wt.heap.size, 0, none⟩ 1 1 (rcC x) rfl rfl (rc_news _ _) (rcC_one x) (by decide) (by unfold maxLen; omega) (by omega) (by rw [World.size_alloc]; have := HO.out.size; have := HWC.out.size; omega) (wt.heap.size + 1) (by simp) ?_; intro g5 c5 w5 hown5 hgr5 hat5 hlt5; have HV5 : Hid (Rcs w5 w1.heap.size (.slice (some ⟨g5, 0, none⟩) (dn + 1) c5) ((L.take j).filter (fun x => !lateB (now + k) x) ++ [x])) := Rcs.snoc HDN.out hown5; have HG5 : Hid ((wt.alloc (.cells #[.int .i64 (x.I : Nat), .int .i64 (x.S : Nat), .string (bs x.s), .bool x.c] 67)).grownBy w5 u7.ownBlock) := hgr5; clear hown5 hgr5 hat5 hlt5)
            | go_in)
          go_roundw
          case rel =>
            have hG : Only u7.ownBlock.toList wt w5 := ((Only.refl _ wt).alloc _).grown HG5.out (fun b hb => Or.inl (by simp [hb]))
            have hR := (HNM.out.only HWC.out (fun _ _ => by simp)).only hG (fun b hb hm => by
              obtain ⟨_, _, cur, h1⟩ := own_block HNM.out hb
              obtain ⟨_, _, cur2, h2⟩ := own_block HRC.out (by simpa using hm)
              rw [h1] at h2
              simp at h2)
            refine ⟨j + 1, by go_num, by omega, by rw [HTK.out]; exact hR, by rw [HTR.out]; exact HV5.out, (only_nil HO.out HWC.out).trans hG (fun b hb => Or.inr (own_block HRC.out (by simpa using hb)).1)⟩
          case measure => simp [intOf]; omega
    · obtain rfl : j = n := by omega
      have hj2 : decide ((j : Int) < j) = false := decide_eq_false (by omega)
      have HE1 : Hid (Nums wr w1.heap.size u6 (idsD (L.filter (lateB (now + k))))) := by
        have := HNM.out
        rw [← HN.out, List.take_length] at this
        exact this
      have HE2 : Hid (Rcs wr w1.heap.size u7 (L.filter (fun x => !lateB (now + k) x))) := by
        have := HRC.out
        rw [← HN.out, List.take_length] at this
        exact this
      have fz := (HT1.out.only HO.out).fr 0
      obtain ⟨ad2, cp2, rfl, _⟩ := HE2.out.form
      generalize hln : (L.filter (fun x => !lateB (now + k) x)).length = ln at HRC HE2 ⊢
      clear hnum hrcs hO hce
      go_wp2
      go_ret2
      have hT := HT1.out.only HO.out
      have hnm : ∀ b, (Value.slice ad2 ln cp2).ownBlock = some b → b ≠ m := fun b hb e => by
        obtain ⟨h1, _⟩ := own_block HE2.out hb
        have h2 := HTL.out
        have h3 := HZ.out
        omega
      have hS : Only [m] wr (wr.setCell ⟨m, 0, none⟩ (.slice ad2 ln cp2)) := (Only.refl [m] wr).setCell (Or.inl (by simp)) _
      have hzz := HZ.out
      refine ⟨u6, .slice ad2 ln cp2, rfl, ?_, ⟨heap_setCell_same wr m 0 _ _ _ hT.tab, ?_⟩, ?_, fun b hb => ?_⟩
      · rw [← hzz]
        exact HE1.out.only hS (fun b hb => by
          obtain ⟨h1, _⟩ := own_block HE1.out hb
          have h2 := HTL.out
          simp
          omega)
      · exact (HE2.out.only hS (fun b hb => by simpa using hnm b hb)).low (by have := HB.out; omega)
      · exact (HO1.out.trans HO.out (fun _ hb => by cases hb)).trans hS (fun b hb => Or.inl hb)
      · have := (own_block HE2.out hb).1
        omega
end Go.Proofs.YtaipigiinljpkaaGreatDoor
