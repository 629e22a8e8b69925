/- NetActs: the walk. -/
import Derived.Test.YtkfelijpajdcoaaDoorNe17
namespace Go.Proofs.YtkfelijpajdcoaaDoor
open Go Go.RowKit Go.Deep

theorem sendOut_tot (l : List Msg) (x : Msg) : ∃ c l', SendOut l x c l' := by
  by_cases h : OkN x.F ∧ OkN x.T
  · by_cases h1 : 4000 < x.X.size
    · exact ⟨2, l, Or.inr (Or.inl ⟨h, h1, rfl, rfl⟩)⟩
    · by_cases h2 : 100 ≤ l.length
      · exact ⟨9, l, Or.inr (Or.inr (Or.inl ⟨h, by omega, h2, rfl, rfl⟩))⟩
      · exact ⟨0, _, Or.inr (Or.inr (Or.inr ⟨h, by omega, by omega, rfl, rfl⟩))⟩
  · exact ⟨4, l, Or.inl ⟨h, rfl, rfl⟩⟩
theorem takeOut_tot (l : List Msg) (i : Int) : ∃ x is l', TakeOut l i x is l' := by
  by_cases h : inN l i
  · obtain ⟨x, hx, _⟩ := inN_get h
    exact ⟨x, true, _, Or.inr ⟨h.1, hx, rfl, rfl⟩⟩
  · exact ⟨_, false, l, Or.inl ⟨h, rfl, rfl, rfl⟩⟩
theorem twiceOut_tot (l : List Msg) (i : Int) (hl : l.length ≤ 100) : ∃ c l', TwiceOut l i c l' := by
  by_cases h : inN l i
  · by_cases h1 : l.length = 100
    · exact ⟨9, l, Or.inr (Or.inl ⟨h, h1, rfl, rfl⟩)⟩
    · obtain ⟨x, hx, _⟩ := inN_get h
      exact ⟨0, _, Or.inr (Or.inr ⟨by omega, x, h.1, hx, rfl, rfl⟩)⟩
  · exact ⟨5, l, Or.inl ⟨h, rfl, rfl⟩⟩
def NActsAt (w : World) (ab ao len : Nat) (P : Nat → NAct) : Prop :=
  ∀ i, i < len → w.cell? ⟨ab, ao + i * 5, none⟩ = some (.string (P i).K) ∧ w.cell? ⟨ab, ao + i * 5 + 1, none⟩ = some (.string (P i).M.F) ∧ w.cell? ⟨ab, ao + i * 5 + 2, none⟩ = some (.string (P i).M.T) ∧ w.cell? ⟨ab, ao + i * 5 + 3, none⟩ = some (.string (P i).M.X) ∧ w.cell? ⟨ab, ao + i * 5 + 4, none⟩ = some (.int .i64 (P i).I)
def IsEActs (w : World) (a : Option Addr) (len : Nat) : Prop := len = 0 ∨ ∃ ab ao P, a = some ⟨ab, ao, none⟩ ∧ NActsAt w ab ao len P
def Good14 (W w : World) (t m : Nat) : Prop := ∃ l, M2 W w t m l l ∧ l.length ≤ 100
set_option maxRecDepth 100000 in
set_option maxHeartbeats 16000000 in
theorem eacts_walk (ad0 : Option Addr) (len cap : Nat) (A : Nat → Addr) (w : World) (hP : IsEActs w ad0 len) (hE : Errs w A) (hl : len ≤ 150) : Calls Tryd.prog 3 #[.slice ad0 len cap] w fun e w' => e = .returned (.bool true) ∧ Below w.heap.size w w' := by
  have HP : Hid (IsEActs w ad0 len) := hP
  have HE : Hid (Errs w A) := hE
  have hh := sent_any A w hE
  have g1 : decide (150 < (len : Int)) = false := decide_eq_false (by omega)
  clear hP hE
  go_enter Tryd.func3, Tryd.ntmps3
  go_wp2_with (first
    | (go_at_call 4; refine hh.mono ?_; rintro e w1 ⟨rfl, hb1⟩; have HB1 : Hid (Below w.heap.size w w1) := hb1; clear hh hb1)
    | go_in)
  have HG0 : Hid (Good14 w ((w1.alloc (.cells #[.slice none 0 0] 27)).alloc (.cells #[.slice none 0 0] 31)) w1.heap.size (w1.heap.size + 1)) := by
    obtain ⟨v, u, h⟩ := new_net w1
    refine ⟨[], ⟨v, u, ⟨h.p.blk, ?_, h.p.ne⟩, ⟨h.d.blk, ?_, h.d.ne⟩, HB1.out.trans (h.below.mono HB1.out.size), Nat.le_trans HB1.out.size h.ht, Nat.le_trans HB1.out.size h.hm⟩, by simp⟩
    · exact ⟨h.p.own.1, h.p.own.2.imp id (fun ⟨g, cap, cur, a, b, c⟩ => ⟨g, cap, cur, a, Nat.le_trans HB1.out.size b, c⟩)⟩
    · exact ⟨h.d.own.1, h.d.own.2.imp id (fun ⟨g, cap, cur, a, b, c⟩ => ⟨g, cap, cur, a, Nat.le_trans HB1.out.size b, c⟩)⟩
  generalize (w1.alloc (.cells #[.slice none 0 0] 27)).alloc (.cells #[.slice none 0 0] 31) = w0 at HG0 ⊢
  generalize w1.heap.size + 1 = m at HG0 ⊢
  generalize w1.heap.size = t at HG0 ⊢
  clear g1
  go_loopw [6] (fun i wr => ∃ j : Nat, i = .int .i64 (j : Nat) ∧ j ≤ len ∧ Good14 w wr t m) (fun i _ => len - (intOf i).toNat)
  case atStart => exact ⟨0, rfl, Nat.zero_le _, HG0.out⟩
  case round =>
    obtain ⟨j, rfl, hj, l, hM, hll⟩ := hrel
    clear HG0
    have HBE : Hid (Below w.heap.size w wr) := hM.below
    have HLL : Hid (l.length ≤ 100) := hll
    have HM0 : Hid (M2 w wr t m l l) := hM
    clear hll
    by_cases hlt : j < len
    · have hj2 : (j : Int) < len := by omega
      obtain ⟨ab, ao, Q, rfl, hPP⟩ := HP.out.resolve_left (by omega)
      obtain ⟨x, hx⟩ : ∃ x, Q j = x := ⟨_, rfl⟩
      obtain ⟨p0, p1, p2, p3, p4⟩ := hPP j hlt
      rw [hx] at p0 p1 p2 p3 p4
      have k : ∀ (o : Nat) (u : Value), w.cell? ⟨ab, o, none⟩ = some u → wr.cell? ⟨ab, o, none⟩ = some u := fun o u hc => (hM.below.cell (p := ⟨ab, o, none⟩) (lt_of_cell hc)).trans hc
      have c0 := k _ _ p0
      have c1 := k _ _ p1
      have c2 := k _ _ p2
      have c3 := k _ _ p3
      have c4 := k _ _ p4
      clear p0 p1 p2 p3 p4 k hPP hx hM
      by_cases hX : 5000 < x.M.X.size
      · have hbd : decide ((5000 : Int) < (x.M.X.size : Int)) = true := decide_eq_true (by omega)
        go_wp2
        go_ret
        exact ⟨rfl, HBE.out.alloc HBE.out.size _⟩
      have hbX : decide ((5000 : Int) < (x.M.X.size : Int)) = false := decide_eq_false (by omega)
      by_cases hbg : (200 : Int) < wrap64 ((x.M.F.size : Int) + (x.M.T.size : Int))
      · have hbd : decide ((200 : Int) < wrap64 ((x.M.F.size : Int) + (x.M.T.size : Int))) = true := decide_eq_true hbg
        go_wp2
        go_ret
        exact ⟨rfl, HBE.out.alloc HBE.out.size _⟩
      · have hbd : decide ((200 : Int) < wrap64 ((x.M.F.size : Int) + (x.M.T.size : Int))) = false := decide_eq_false hbg
        go_upto_region 12 with fail
        have HM1 : Hid (M2 w (wr.alloc (.cells #[.string x.K, .string x.M.F, .string x.M.T, .string x.M.X, .int .i64 x.I] 35)) t m l l) := HM0.out.only ((Only.refl [] wr).alloc _)
        have HBX : Hid (BxN (wr.alloc (.cells #[.string x.K, .string x.M.F, .string x.M.T, .string x.M.X, .int .i64 x.I] 35)) wr.heap.size x) := heap_alloc_last wr _
        clear c0 c1 c2 c3 c4 hbX hbg hbd HM0 HBE hX
        generalize wr.alloc (.cells #[.string x.K, .string x.M.F, .string x.M.T, .string x.M.X, .int .i64 x.I] 35) = wb at HM1 HBX ⊢
        generalize wr.heap.size = b at HBX ⊢
        have HCOD : Hid (∀ W c, Below w.heap.size w W → c ≤ 15 → Calls Tryd.prog 5 #[errN A c, .int .i64 ((c : Nat) : Int)] W fun e w' => e = .returned (.bool true) ∧ Only [] W w') := fun W c hb hc => (coded3_any A c _ W (HE.out.below hb (Nat.le_refl _)) (told_errN A hc)).mono fun e w' hh => ⟨hh.1, Only.of_below hh.2 []⟩
        have HCO5 : Hid (∀ W, Below w.heap.size w W → Calls Tryd.prog 5 #[.iface 121 (.pointer (some (A 4))), .int .i64 5] W fun e w' => e = .returned (.bool true) ∧ Only [] W w') := fun W hb => HCOD.out W 5 hb (by omega)
        obtain ⟨y0, y1, y2, y3, y4⟩ := bxN_cells HBX.out
        cases hk1 : (x.K.toList == [115, 101, 110, 100]) with
        | true =>
          go_upto_region 16 with fail
          obtain ⟨c, l', hso⟩ := sendOut_tot l x.M
          have HMD : Hid (M2 w wb.drew t m l l) := HM1.out.only (Only.refl [] wb).drew
          have HXD : Hid (BxN wb.drew b x) := bxN_only HBX.out (Only.refl [] wb).drew
          have HS0 : Hid (wb.drew.cell? ⟨b, 1, none⟩ = some (.string x.M.F) ∧ wb.drew.cell? ⟨b, 2, none⟩ = some (.string x.M.T) ∧ wb.drew.cell? ⟨b, 3, none⟩ = some (.string x.M.X)) := ⟨(bxN_cells HXD.out).2.1, (bxN_cells HXD.out).2.2.1, (bxN_cells HXD.out).2.2.2.1⟩
          have HEP : Hid (∀ W, M2 w W t m l l → Calls Tryd.prog 6 #[.pointer (some ⟨t, 0, none⟩), .agg #[.string x.M.F, .string x.M.T, .string x.M.X]] W fun e w' => e = .returned (errN A c) ∧ M2 w w' t m l' l ∧ ∀ d y, BxN W d y → BxN w' d y) := fun W h => (h.sendP HE.out HLL.out x.M).mono fun e w' hh => by
            obtain ⟨c', l'', rfl, hs, h1, h2⟩ := hh
            obtain ⟨rfl, rfl⟩ := hso.one hs
            exact ⟨rfl, h1, h2⟩
          have HED : Hid (∀ W, M2 w W t m l' l → Calls Tryd.prog 8 #[.pointer (some ⟨m, 0, none⟩), .agg #[.string x.M.F, .string x.M.T, .string x.M.X]] W fun e w' => e = .returned (.int .i64 ((c : Nat) : Int)) ∧ M2 w w' t m l' l' ∧ ∀ d y, BxN W d y → BxN w' d y) := fun W h => (h.sendD HLL.out x.M).mono fun e w' hh => by
            obtain ⟨c', l'', rfl, hs, h1, h2⟩ := hh
            obtain ⟨rfl, rfl⟩ := hso.one hs
            exact ⟨rfl, h1, h2⟩
          have HC15 : Hid (l'.length ≤ 100 ∧ c ≤ 15) := sendOut_len hso HLL.out
          clear y0 y1 y2 y3 y4 hso hk1
          go_region_held3 (fun W => W.cell? ⟨b, 1, none⟩ = some (.string x.M.F) ∧ W.cell? ⟨b, 2, none⟩ = some (.string x.M.T) ∧ W.cell? ⟨b, 3, none⟩ = some (.string x.M.X)) (with_reducible first | exact HS0.out | exact HS2.out | exact HS3.out | exact HS4.out | exact HS5.out)
            (first
              | (go_at_call 7; refine (message_any x.M _).mono ?_; rintro e w2 ⟨rfl, ho2⟩; have HN2 : Hid (M2 w w2 t m l l) := HMD.out.only ho2; have HB2 : Hid (BxN w2 b x) := bxN_only HXD.out ho2; have HS2 : Hid (w2.cell? ⟨b, 1, none⟩ = some (.string x.M.F) ∧ w2.cell? ⟨b, 2, none⟩ = some (.string x.M.T) ∧ w2.cell? ⟨b, 3, none⟩ = some (.string x.M.X)) := ⟨(bxN_cells HB2.out).2.1, (bxN_cells HB2.out).2.2.1, (bxN_cells HB2.out).2.2.2.1⟩; clear ho2)
              | (go_at_call 6; refine (HEP.out w2 HN2.out).mono ?_; rintro e w3 ⟨rfl, hT, hB⟩; have HN3 : Hid (M2 w w3 t m l' l) := hT; have HB3 : Hid (BxN w3 b x) := hB b x HB2.out; have HS3 : Hid (w3.cell? ⟨b, 1, none⟩ = some (.string x.M.F) ∧ w3.cell? ⟨b, 2, none⟩ = some (.string x.M.T) ∧ w3.cell? ⟨b, 3, none⟩ = some (.string x.M.X)) := ⟨(bxN_cells HB3.out).2.1, (bxN_cells HB3.out).2.2.1, (bxN_cells HB3.out).2.2.2.1⟩; clear hT hB)
              | (go_at_call 8; refine (HED.out w3 HN3.out).mono ?_; rintro e w4 ⟨rfl, hT2, hB2⟩; have HB4 : Hid (BxN w4 b x) := hB2 b x HB3.out; have HS4 : Hid (w4.cell? ⟨b, 1, none⟩ = some (.string x.M.F) ∧ w4.cell? ⟨b, 2, none⟩ = some (.string x.M.T) ∧ w4.cell? ⟨b, 3, none⟩ = some (.string x.M.X)) := ⟨(bxN_cells HB4.out).2.1, (bxN_cells HB4.out).2.2.1, (bxN_cells HB4.out).2.2.2.1⟩; have HN4 : Hid (M2 w w4 t m l' l') := hT2; clear hT2 hB2)
              | (go_at_call 5; refine (HCOD.out w4 c HN4.out.below HC15.out.2).mono ?_; rintro e w5 ⟨rfl, ho5⟩; have HN5 : Hid (M2 w w5 t m l' l') := HN4.out.only ho5; have HB5 : Hid (BxN w5 b x) := bxN_only HB4.out ho5; have HS5 : Hid (w5.cell? ⟨b, 1, none⟩ = some (.string x.M.F) ∧ w5.cell? ⟨b, 2, none⟩ = some (.string x.M.T) ∧ w5.cell? ⟨b, 3, none⟩ = some (.string x.M.X)) := ⟨(bxN_cells HB5.out).2.1, (bxN_cells HB5.out).2.2.1, (bxN_cells HB5.out).2.2.2.1⟩; clear ho5))
          have HG9 : Hid (Good14 w w5 t m) := ⟨l', HN5.out, HC15.out.1⟩
          go_wp2
          go_roundw
          case rel => exact ⟨j + 1, by go_num, by omega, HG9.out⟩
          case measure => simp [intOf]; omega
        | false =>
        cases hk2 : (x.K.toList == [116, 97, 107, 101]) with
        | true =>
          obtain ⟨xx, is, l', hto⟩ := takeOut_tot l x.I
          have HEP : Hid (∀ W, M2 w W t m l l → Calls Tryd.prog 9 #[.pointer (some ⟨t, 0, none⟩), .int .i64 x.I] W fun e w' => e = .returned (.tuple #[.agg #[.string xx.F, .string xx.T, .string xx.X], if is = true then .nilIface else sErr A 4]) ∧ M2 w w' t m l' l ∧ ∀ d y, BxN W d y → BxN w' d y) := fun W h => (h.takeP HE.out HLL.out x.I).mono fun e w' hh => by
            obtain ⟨x', is', l'', rfl, hs, h1, h2⟩ := hh
            obtain ⟨rfl, rfl, rfl⟩ := hto.one hs
            exact ⟨rfl, h1, h2⟩
          have HED : Hid (∀ W, M2 w W t m l' l → Calls Tryd.prog 10 #[.pointer (some ⟨m, 0, none⟩), .int .i64 x.I] W fun e w' => e = .returned (.tuple #[.agg #[.string xx.F, .string xx.T, .string xx.X], .bool is]) ∧ M2 w w' t m l' l' ∧ ∀ (d : Nat) (cs : Array Value) (ty : TypeId), ty ≠ 31 → ty ≠ 33 → W.heap[d]? = some (.cells cs ty (0, 0)) → w'.heap[d]? = some (.cells cs ty (0, 0))) := fun W h => (h.takeD HLL.out x.I).mono fun e w' hh => by
            obtain ⟨x', is', l'', rfl, hs, h1, h2⟩ := hh
            obtain ⟨rfl, rfl, rfl⟩ := hto.one hs
            exact ⟨rfl, h1, h2⟩
          have HLN : Hid (l'.length ≤ 100) := takeOut_len hto HLL.out
          have HZ : Hid (is = false → xx = ⟨⟨#[]⟩, ⟨#[]⟩, ⟨#[]⟩⟩) := fun h => by
            rcases hto with ⟨_, h1, _⟩ | ⟨_, _, h1, _⟩
            · exact h1
            · rw [h] at h1; cases h1
          clear hto
          unfold sErr at HEP
          cases is with
          | false =>
            obtain rfl := HZ.out rfl
            simp only [Bool.false_eq_true, if_false] at HEP
            have hep := HEP.out wb HM1.out
            clear HEP HZ
            go_upto_region 20 with (go_at_call 9; refine hep.mono ?_; rintro e w3 ⟨rfl, hT, hB⟩; have HN3 : Hid (M2 w w3 t m l' l) := hT; have HB3 : Hid (BxN w3 b x) := hB b x HBX.out; clear hT hB hep y0 y1 y2 y3 y4)
            have HN3a : Hid (M2 w (w3.alloc (.cells #[.string ⟨#[]⟩, .string ⟨#[]⟩, .string ⟨#[]⟩] 40)) t m l' l) := HN3.out.only ((Only.refl [] w3).alloc _)
            have HB3a : Hid (BxN (w3.alloc (.cells #[.string ⟨#[]⟩, .string ⟨#[]⟩, .string ⟨#[]⟩] 40)) b x) := bxN_only HB3.out ((Only.refl [] w3).alloc _)
            have HM3a : Hid (MBox 40 (w3.alloc (.cells #[.string ⟨#[]⟩, .string ⟨#[]⟩, .string ⟨#[]⟩] 40)) w3.heap.size ⟨⟨#[]⟩, ⟨#[]⟩, ⟨#[]⟩⟩) := heap_alloc_last w3 _
            clear HN3 HB3
            generalize w3.alloc (.cells #[.string ⟨#[]⟩, .string ⟨#[]⟩, .string ⟨#[]⟩] 40) = w3a at HN3a HB3a HM3a ⊢
            generalize w3.heap.size = b8 at HM3a ⊢
            have y4 := (bxN_cells HB3a.out).2.2.2.2
            have hbl := lt_of_cell y4
            have hed := HED.out w3a HN3a.out
            go_upto_region 21 with (go_at_call 10; refine hed.mono ?_; rintro e w4 ⟨rfl, hT, hB⟩; have HN4 : Hid (M2 w w4 t m l' l') := hT; have HM4 : Hid (MBox 40 w4 b8 ⟨⟨#[]⟩, ⟨#[]⟩, ⟨#[]⟩⟩) := hB b8 _ _ (by decide) (by decide) HM3a.out; clear hT hB hed y4 hbl HED)
            have HN4a : Hid (M2 w (w4.alloc (.cells #[.string ⟨#[]⟩, .string ⟨#[]⟩, .string ⟨#[]⟩] 33)) t m l' l') := HN4.out.only ((Only.refl [] w4).alloc _)
            have HM4a : Hid (MBox 40 (w4.alloc (.cells #[.string ⟨#[]⟩, .string ⟨#[]⟩, .string ⟨#[]⟩] 33)) b8 ⟨⟨#[]⟩, ⟨#[]⟩, ⟨#[]⟩⟩) := MBox.kept HM4.out ((Only.refl [] w4).alloc _) (by simp)
            clear HN4 HM4
            generalize w4.alloc (.cells #[.string ⟨#[]⟩, .string ⟨#[]⟩, .string ⟨#[]⟩] 33) = w4a at HN4a HM4a ⊢
            generalize w4.heap.size = b10
            have hcod := HCO5.out w4a HN4a.out.below
            have hsp : ∀ w, (binOp .neq 40 (.agg #[.string ⟨#[]⟩, .string ⟨#[]⟩, .string ⟨#[]⟩]) (.agg #[.string ⟨#[]⟩, .string ⟨#[]⟩, .string ⟨#[]⟩])).run Tryd.prog w = .ok (.bool false) w := fun w => sameP ⟨⟨#[]⟩, ⟨#[]⟩, ⟨#[]⟩⟩ w
            go_wp2_with (go_at_call 5; refine hcod.mono ?_; rintro e w5 ⟨rfl, ho5⟩; obtain ⟨k0, k1, k2⟩ := MBox.cells (HM4a.out.kept ho5 (by simp)); have hbl := lt_of_cell k0; have HG9 : Hid (Good14 w w5 t m) := ⟨l', HN4a.out.only ho5, HLN.out⟩; clear ho5 hcod)
            go_roundw
            case rel => exact ⟨j + 1, by go_num, by omega, HG9.out⟩
            case measure => simp [intOf]; omega
          | true =>
            simp only [if_true] at HEP
            have hep := HEP.out wb HM1.out
            clear HEP HZ
            go_upto_region 20 with (go_at_call 9; refine hep.mono ?_; rintro e w3 ⟨rfl, hT, hB⟩; have HN3 : Hid (M2 w w3 t m l' l) := hT; have HB3 : Hid (BxN w3 b x) := hB b x HBX.out; clear hT hB hep y0 y1 y2 y3 y4)
            have HN3a : Hid (M2 w (w3.alloc (.cells #[.string xx.F, .string xx.T, .string xx.X] 40)) t m l' l) := HN3.out.only ((Only.refl [] w3).alloc _)
            have HB3a : Hid (BxN (w3.alloc (.cells #[.string xx.F, .string xx.T, .string xx.X] 40)) b x) := bxN_only HB3.out ((Only.refl [] w3).alloc _)
            have HM3a : Hid (MBox 40 (w3.alloc (.cells #[.string xx.F, .string xx.T, .string xx.X] 40)) w3.heap.size xx) := heap_alloc_last w3 _
            clear HN3 HB3
            generalize w3.alloc (.cells #[.string xx.F, .string xx.T, .string xx.X] 40) = w3a at HN3a HB3a HM3a ⊢
            generalize w3.heap.size = b8 at HM3a ⊢
            have y4 := (bxN_cells HB3a.out).2.2.2.2
            have hbl := lt_of_cell y4
            have hed := HED.out w3a HN3a.out
            go_upto_region 21 with (go_at_call 10; refine hed.mono ?_; rintro e w4 ⟨rfl, hT, hB⟩; have HN4 : Hid (M2 w w4 t m l' l') := hT; have HM4 : Hid (MBox 40 w4 b8 xx) := hB b8 _ _ (by decide) (by decide) HM3a.out; clear hT hB hed y4 hbl HED)
            have HN4a : Hid (M2 w (w4.alloc (.cells #[.string xx.F, .string xx.T, .string xx.X] 33)) t m l' l') := HN4.out.only ((Only.refl [] w4).alloc _)
            have HM4a : Hid (MBox 40 (w4.alloc (.cells #[.string xx.F, .string xx.T, .string xx.X] 33)) b8 xx) := MBox.kept HM4.out ((Only.refl [] w4).alloc _) (by simp)
            have HD4a : Hid (MBox 33 (w4.alloc (.cells #[.string xx.F, .string xx.T, .string xx.X] 33)) w4.heap.size xx) := heap_alloc_last w4 _
            clear HN4 HM4
            generalize w4.alloc (.cells #[.string xx.F, .string xx.T, .string xx.X] 33) = w4a at HN4a HM4a HD4a ⊢
            generalize w4.heap.size = b10 at HD4a ⊢
            go_upto_region 24 with fail
            have hsd := sameD xx
            have HNS : Hid (M2 w w4a.drew t m l' l') := HN4a.out.only (Only.refl [] w4a).drew
            have HBK : Hid (∀ W, Only [] w4a W → (W.cell? ⟨b8, 0, none⟩ = some (.string xx.F) ∧ W.cell? ⟨b8, 1, none⟩ = some (.string xx.T) ∧ W.cell? ⟨b8, 2, none⟩ = some (.string xx.X) ∧ W.cell? ⟨b10, 0, none⟩ = some (.string xx.F) ∧ W.cell? ⟨b10, 1, none⟩ = some (.string xx.T) ∧ W.cell? ⟨b10, 2, none⟩ = some (.string xx.X))) := fun W ho => by
              obtain ⟨a0, a1, a2⟩ := MBox.cells (HM4a.out.kept ho (by simp))
              obtain ⟨e0, e1, e2⟩ := MBox.cells (HD4a.out.kept ho (by simp))
              exact ⟨a0, a1, a2, e0, e1, e2⟩
            have HS0 : Hid (w4a.drew.cell? ⟨b8, 0, none⟩ = some (.string xx.F) ∧ w4a.drew.cell? ⟨b8, 1, none⟩ = some (.string xx.T) ∧ w4a.drew.cell? ⟨b8, 2, none⟩ = some (.string xx.X) ∧ w4a.drew.cell? ⟨b10, 0, none⟩ = some (.string xx.F) ∧ w4a.drew.cell? ⟨b10, 1, none⟩ = some (.string xx.T) ∧ w4a.drew.cell? ⟨b10, 2, none⟩ = some (.string xx.X)) := HBK.out _ (Only.refl [] w4a).drew
            go_region_held3 (fun W => W.cell? ⟨b8, 0, none⟩ = some (.string xx.F) ∧ W.cell? ⟨b8, 1, none⟩ = some (.string xx.T) ∧ W.cell? ⟨b8, 2, none⟩ = some (.string xx.X) ∧ W.cell? ⟨b10, 0, none⟩ = some (.string xx.F) ∧ W.cell? ⟨b10, 1, none⟩ = some (.string xx.T) ∧ W.cell? ⟨b10, 2, none⟩ = some (.string xx.X)) (with_reducible first | exact HS0.out | exact HS5.out)
              (first | (go_at_call 11; refine (back_any xx _).mono ?_; rintro e w5 ⟨rfl, ho5⟩; have HG9 : Hid (Good14 w w5 t m) := ⟨l', HNS.out.only ho5, HLN.out⟩; have HS5 : Hid (w5.cell? ⟨b8, 0, none⟩ = some (.string xx.F) ∧ w5.cell? ⟨b8, 1, none⟩ = some (.string xx.T) ∧ w5.cell? ⟨b8, 2, none⟩ = some (.string xx.X) ∧ w5.cell? ⟨b10, 0, none⟩ = some (.string xx.F) ∧ w5.cell? ⟨b10, 1, none⟩ = some (.string xx.T) ∧ w5.cell? ⟨b10, 2, none⟩ = some (.string xx.X)) := HBK.out _ (only_nil (Only.refl [] w4a).drew ho5); clear ho5))
            go_wp2
            go_roundw
            case rel => exact ⟨j + 1, by go_num, by omega, HG9.out⟩
            case measure => simp [intOf]; omega
        | false =>
        cases hk3 : (x.K.toList == [100, 114, 111, 112]) with
        | true =>
          obtain ⟨xx, is, l', hto⟩ := takeOut_tot l x.I
          have HEP : Hid (∀ W, M2 w W t m l l → Calls Tryd.prog 12 #[.pointer (some ⟨t, 0, none⟩), .int .i64 x.I] W fun e w' => e = .returned (if is = true then .nilIface else sErr A 4) ∧ M2 w w' t m l' l ∧ ∀ d y, BxN W d y → BxN w' d y) := fun W h => (h.dropP HE.out HLL.out x.I).mono fun e w' hh => by
            obtain ⟨x', is', l'', rfl, hs, h1, h2⟩ := hh
            obtain ⟨rfl, rfl, rfl⟩ := hto.one hs
            exact ⟨rfl, h1, h2⟩
          have HED : Hid (∀ W, M2 w W t m l' l → Calls Tryd.prog 10 #[.pointer (some ⟨m, 0, none⟩), .int .i64 x.I] W fun e w' => e = .returned (.tuple #[.agg #[.string xx.F, .string xx.T, .string xx.X], .bool is]) ∧ M2 w w' t m l' l' ∧ ∀ (d : Nat) (cs : Array Value) (ty : TypeId), ty ≠ 31 → ty ≠ 33 → W.heap[d]? = some (.cells cs ty (0, 0)) → w'.heap[d]? = some (.cells cs ty (0, 0))) := fun W h => (h.takeD HLL.out x.I).mono fun e w' hh => by
            obtain ⟨x', is', l'', rfl, hs, h1, h2⟩ := hh
            obtain ⟨rfl, rfl, rfl⟩ := hto.one hs
            exact ⟨rfl, h1, h2⟩
          have HLN : Hid (l'.length ≤ 100) := takeOut_len hto HLL.out
          have HZ : Hid (is = false → xx = ⟨⟨#[]⟩, ⟨#[]⟩, ⟨#[]⟩⟩) := fun h => by
            rcases hto with ⟨_, h1, _⟩ | ⟨_, _, h1, _⟩
            · exact h1
            · rw [h] at h1; cases h1
          clear hto
          unfold sErr at HEP
          clear HZ
          cases is with
          | false =>
            simp only [Bool.false_eq_true, if_false] at HEP
            have hep := HEP.out wb HM1.out
            clear HEP
            go_upto_region 28 with (go_at_call 12; refine hep.mono ?_; rintro e w3 ⟨rfl, hT, hB⟩; have HN3 : Hid (M2 w w3 t m l' l) := hT; have HB3 : Hid (BxN w3 b x) := hB b x HBX.out; clear hT hB hep y0 y1 y2 y3 y4)
            have y4 := (bxN_cells HB3.out).2.2.2.2
            have hbl := lt_of_cell y4
            have hed := HED.out w3 HN3.out
            have HDE : Hid (∀ w4, M2 w w4 t m l' l' → Calls Tryd.prog 5 #[.iface 121 (.pointer (some (A 4))), .int .i64 5] (w4.alloc (.cells #[.string xx.F, .string xx.T, .string xx.X] 33)) fun e w' => e = .returned (.bool true) ∧ Good14 w w' t m) := fun w4 h4 => (HCO5.out _ (h4.only ((Only.refl [] w4).alloc _)).below).mono fun e w' hh => ⟨hh.1, l', (h4.only ((Only.refl [] w4).alloc _)).only hh.2, HLN.out⟩
            go_wp2_with (first
              | (go_at_call 10; refine hed.mono ?_; rintro e w4 ⟨rfl, hT, hB⟩; have hcod := HDE.out w4 hT; clear hT hB hed y4 hbl)
              | (go_at_call 5; refine hcod.mono ?_; rintro e w5 ⟨rfl, hg5⟩; have HG9 : Hid (Good14 w w5 t m) := hg5; clear hg5 hcod))
            go_roundw
            case rel => exact ⟨j + 1, by go_num, by omega, HG9.out⟩
            case measure => simp [intOf]; omega
          | true =>
            simp only [if_true] at HEP
            have hep := HEP.out wb HM1.out
            clear HEP
            go_upto_region 28 with (go_at_call 12; refine hep.mono ?_; rintro e w3 ⟨rfl, hT, hB⟩; have HN3 : Hid (M2 w w3 t m l' l) := hT; have HB3 : Hid (BxN w3 b x) := hB b x HBX.out; clear hT hB hep y0 y1 y2 y3 y4)
            have y4 := (bxN_cells HB3.out).2.2.2.2
            have hbl := lt_of_cell y4
            have hed := HED.out w3 HN3.out
            go_wp2_with (go_at_call 10; refine hed.mono ?_; rintro e w4 ⟨rfl, hT, hB⟩; have HG9 : Hid (Good14 w (w4.alloc (.cells #[.string xx.F, .string xx.T, .string xx.X] 33)) t m) := ⟨l', hT.only ((Only.refl [] w4).alloc _), HLN.out⟩; clear hT hB hed y4 hbl)
            go_roundw
            case rel => exact ⟨j + 1, by go_num, by omega, HG9.out⟩
            case measure => simp [intOf]; omega
        | false =>
        cases hk4 : (x.K.toList == [116, 119, 105, 99, 101]) with
        | true =>
          go_upto_region 32 with fail
          obtain ⟨c, l', hso⟩ := twiceOut_tot l x.I HLL.out
          have HMD : Hid (M2 w wb.drew t m l l) := HM1.out.only (Only.refl [] wb).drew
          have HXD : Hid (BxN wb.drew b x) := bxN_only HBX.out (Only.refl [] wb).drew
          have HS0 : Hid (wb.drew.cell? ⟨b, 4, none⟩ = some (.int .i64 x.I)) := (bxN_cells HXD.out).2.2.2.2
          have HEP : Hid (∀ _u : Unit, Calls Tryd.prog 13 #[.pointer (some ⟨t, 0, none⟩), .int .i64 x.I] wb.drew fun e w' => e = .returned (errN A c) ∧ M2 w w' t m l' l ∧ ∀ d y, BxN wb.drew d y → BxN w' d y) := fun _ => (HMD.out.twiceP HE.out HLL.out x.I).mono fun e w' hh => by
            obtain ⟨c', l'', rfl, hs, h1, h2⟩ := hh
            obtain ⟨rfl, rfl⟩ := hso.one hs
            exact ⟨rfl, h1, h2⟩
          have HED : Hid (∀ W, M2 w W t m l' l → Calls Tryd.prog 14 #[.pointer (some ⟨m, 0, none⟩), .int .i64 x.I] W fun e w' => e = .returned (.int .i64 ((c : Nat) : Int)) ∧ M2 w w' t m l' l' ∧ ∀ d y, BxN W d y → BxN w' d y) := fun W h => (h.twiceD HLL.out x.I).mono fun e w' hh => by
            obtain ⟨c', l'', rfl, hs, h1, h2⟩ := hh
            obtain ⟨rfl, rfl⟩ := hso.one hs
            exact ⟨rfl, h1, h2⟩
          have HC15 : Hid (l'.length ≤ 100 ∧ c ≤ 15) := twiceOut_len hso HLL.out
          clear y0 y1 y2 y3 y4 hso
          go_region_held3 (fun W => W.cell? ⟨b, 4, none⟩ = some (.int .i64 x.I)) (with_reducible first | exact HS0.out | exact HS3.out | exact HS4.out | exact HS5.out)
            (first
              | (go_at_call 13; refine (HEP.out ()).mono ?_; rintro e w3 ⟨rfl, hT, hB⟩; have HN3 : Hid (M2 w w3 t m l' l) := hT; have HB3 : Hid (BxN w3 b x) := hB b x HXD.out; have HS3 : Hid (w3.cell? ⟨b, 4, none⟩ = some (.int .i64 x.I)) := (bxN_cells HB3.out).2.2.2.2; clear hT hB)
              | (go_at_call 14; refine (HED.out w3 HN3.out).mono ?_; rintro e w4 ⟨rfl, hT2, hB2⟩; have HB4 : Hid (BxN w4 b x) := hB2 b x HB3.out; have HS4 : Hid (w4.cell? ⟨b, 4, none⟩ = some (.int .i64 x.I)) := (bxN_cells HB4.out).2.2.2.2; have HN4 : Hid (M2 w w4 t m l' l') := hT2; clear hT2 hB2)
              | (go_at_call 5; refine (HCOD.out w4 c HN4.out.below HC15.out.2).mono ?_; rintro e w5 ⟨rfl, ho5⟩; have HN5 : Hid (M2 w w5 t m l' l') := HN4.out.only ho5; have HS5 : Hid (w5.cell? ⟨b, 4, none⟩ = some (.int .i64 x.I)) := (bxN_cells (bxN_only HB4.out ho5)).2.2.2.2; clear ho5))
          have HG9 : Hid (Good14 w w5 t m) := ⟨l', HN5.out, HC15.out.1⟩
          go_wp2
          go_roundw
          case rel => exact ⟨j + 1, by go_num, by omega, HG9.out⟩
          case measure => simp [intOf]; omega
        | false =>
          go_upto_region 13 with fail
          have HMD : Hid (M2 w wb.drew t m l l) := HM1.out.only (Only.refl [] wb).drew
          have HXD : Hid (BxN wb.drew b x) := bxN_only HBX.out (Only.refl [] wb).drew
          have HS0 : Hid (wb.drew.cell? ⟨b, 2, none⟩ = some (.string x.M.T)) := (bxN_cells HXD.out).2.2.1
          have HEP : Hid (∀ _u : Unit, Calls Tryd.prog 15 #[.pointer (some ⟨t, 0, none⟩), .string x.M.T] wb.drew fun e w' => ∃ r, e = .returned (.int .i64 r) ∧ firstI (isToB x.M.T) l r ∧ Only [] wb.drew w') := fun _ => HMD.out.forP HLL.out x.M.T
          have HED : Hid (∀ W, M2 w W t m l l → Calls Tryd.prog 16 #[.pointer (some ⟨m, 0, none⟩), .string x.M.T] W fun e w' => ∃ r, e = .returned (.int .i64 r) ∧ firstI (isToB x.M.T) l r ∧ W = w') := fun W h => h.forD HLL.out x.M.T
          clear y0 y1 y2 y3 y4
          go_region_held3 (fun W => W.cell? ⟨b, 2, none⟩ = some (.string x.M.T)) (with_reducible first | exact HS0.out | exact HS3.out)
            (first
              | (go_at_call 15; refine (HEP.out ()).mono ?_; rintro e w3 ⟨r, rfl, hf, ho3⟩; have HF : Hid (firstI (isToB x.M.T) l r) := hf; have HN3 : Hid (M2 w w3 t m l l) := HMD.out.only ho3; have HS3 : Hid (w3.cell? ⟨b, 2, none⟩ = some (.string x.M.T)) := (bxN_cells (bxN_only HXD.out ho3)).2.2.1; clear hf ho3)
              | (go_at_call 16; refine (HED.out w3 HN3.out).mono ?_; rintro e w4 ⟨r', rfl, hf', rfl⟩; obtain rfl := HF.out.one hf'; clear hf'))
          have HG9 : Hid (Good14 w w3 t m) := ⟨l, HN3.out, HLL.out⟩
          go_wp2
          go_roundw
          case rel => exact ⟨j + 1, by go_num, by omega, HG9.out⟩
          case measure => simp [intOf]; omega
    · obtain rfl : j = len := by omega
      have hj2 : decide ((j : Int) < j) = false := decide_eq_false (by omega)
      clear hM
      have hli := HM0.out.listP HLL.out
      obtain ⟨n, hn⟩ : ∃ n, l.length = n := ⟨_, rfl⟩
      have HNL : Hid (l.length = n) := hn
      go_upto_region 35 with (go_at_call 17; refine hli.mono ?_; rintro e w9 ⟨v9, rfl, hm9, hM9⟩; have HM9 : Hid (M2 w w9 t m l l) := hM9; have HL9 : Hid (Msgs w9 wr.heap.size v9 l) := hm9; clear hm9 hM9 hli)
      obtain ⟨v1, u1, hN9⟩ := HM9.out
      obtain ⟨ad8, cap8, hu8⟩ := dat_none hN9.d
      subst hu8
      obtain ⟨ad9, cap9, hv9⟩ : ∃ ad cap, v9 = .slice ad l.length cap := by
        rcases RowM.open HL9.out with ⟨h1, h2⟩ | ⟨g, cap, cur, h1, _⟩
        · exact ⟨none, 0, by rw [h1, h2]; rfl⟩
        · exact ⟨_, _, h1⟩
      subst hv9
      have HD9 : Hid (∀ W, Only [] w9 W → DNet W w.heap.size m (.slice ad8 l.length cap8) l) := fun W ho => hN9.d.only ho (by simp) (fun _ _ => by simp)
      have HP9 : Hid (∀ W, Only [] w9 W → Msgs W wr.heap.size (.slice ad9 l.length cap9) l) := fun W ho => RowM.only HL9.out ho (fun _ _ => by simp)
      have cd := hN9.d.c0
      have hcl := lt_of_cell cd
      have HBL : Hid (∀ W, Only [] w9 W → Below w.heap.size w W) := fun W ho => HM9.out.below.trans (ho.to_below HM9.out.below.size (fun k hk => by cases hk))
      have hn100 : n ≤ 100 := by have := HLL.out; omega
      rw [hn] at cd ⊢
      clear hN9 hn
      go_wp2
      clear cd hcl
      go_loopw [16] (fun i wq => ∃ q : Nat, i = .int .i64 (q : Nat) ∧ q ≤ n ∧ Only [] w9 wq) (fun i _ => n - (intOf i).toNat)
      case atStart => exact ⟨0, rfl, Nat.zero_le _, Only.refl _ _⟩
      case round =>
        obtain ⟨q, rfl, hq, ho⟩ := hrel
        have HO : Hid (Only [] w9 wr) := ho
        clear ho
        by_cases hql : q < n
        · obtain ⟨y, hy⟩ : ∃ y, l[q]? = some y := ⟨_, List.getElem?_eq_getElem (by rw [HNL.out]; exact hql)⟩
          obtain ⟨g8, c8, h8, -⟩ := dnet_open (HD9.out w9 (Only.refl _ _)) (i := q) (by rw [HNL.out]; exact hql)
          obtain ⟨rfl, -⟩ : ad8 = some ⟨g8, 0, none⟩ ∧ True := by simp only [Value.slice.injEq] at h8; exact ⟨h8.1, trivial⟩
          obtain ⟨g9, rfl⟩ : ∃ g9, ad9 = some ⟨g9, 0, none⟩ := by
            rcases RowM.open (HP9.out w9 (Only.refl _ _)) with ⟨_, h2⟩ | ⟨g, cap, cur, h1, _⟩
            · rw [h2] at hy; cases hy
            · simp only [Value.slice.injEq] at h1; exact ⟨g, h1.1⟩
          have HCE : Hid (∀ W, Only [] w9 W → W.cell? ⟨m, 0, none⟩ = some (.slice (some ⟨g8, 0, none⟩) n cap8) ∧ W.cell? ⟨g9, q * 3, none⟩ = some (.string y.F) ∧ W.cell? ⟨g9, q * 3 + 1, none⟩ = some (.string y.T) ∧ W.cell? ⟨g9, q * 3 + 2, none⟩ = some (.string y.X) ∧ W.cell? ⟨g8, q * 3, none⟩ = some (.string y.F) ∧ W.cell? ⟨g8, q * 3 + 1, none⟩ = some (.string y.T) ∧ W.cell? ⟨g8, q * 3 + 2, none⟩ = some (.string y.X)) := fun W ho => by
            obtain ⟨a0, a1, a2, -⟩ := RowM.cells (HP9.out W ho) hy
            obtain ⟨e0, e1, e2, -⟩ := RowM.cells (HD9.out W ho).own hy
            have e3 := (HD9.out W ho).c0
            rw [HNL.out] at e3
            exact ⟨e3, a0, a1, a2, e0, e1, e2⟩
          have hsd := sameD y
          have HOD : Hid (Only [] w9 wr.drew) := HO.out.drew
          obtain ⟨x0, x1, x2, x3, x4, x5, x6⟩ := HCE.out wr HO.out
          have xl0 := lt_of_cell x0
          have xl1 := lt_of_cell x1
          have xl4 := lt_of_cell x4
          have hq2 : (q : Int) < n := by omega
          have HS0 : Hid (wr.drew.cell? ⟨m, 0, none⟩ = some (.slice (some ⟨g8, 0, none⟩) n cap8) ∧ wr.drew.cell? ⟨g9, q * 3, none⟩ = some (.string y.F) ∧ wr.drew.cell? ⟨g9, q * 3 + 1, none⟩ = some (.string y.T) ∧ wr.drew.cell? ⟨g9, q * 3 + 2, none⟩ = some (.string y.X) ∧ wr.drew.cell? ⟨g8, q * 3, none⟩ = some (.string y.F) ∧ wr.drew.cell? ⟨g8, q * 3 + 1, none⟩ = some (.string y.T) ∧ wr.drew.cell? ⟨g8, q * 3 + 2, none⟩ = some (.string y.X)) := HCE.out _ HOD.out
          clear hy h8
          go_upto_region 40 with fail
          clear x0 x1 x2 x3 x4 x5 x6
          go_region_held3 (fun W => W.cell? ⟨m, 0, none⟩ = some (.slice (some ⟨g8, 0, none⟩) n cap8) ∧ W.cell? ⟨g9, q * 3, none⟩ = some (.string y.F) ∧ W.cell? ⟨g9, q * 3 + 1, none⟩ = some (.string y.T) ∧ W.cell? ⟨g9, q * 3 + 2, none⟩ = some (.string y.X) ∧ W.cell? ⟨g8, q * 3, none⟩ = some (.string y.F) ∧ W.cell? ⟨g8, q * 3 + 1, none⟩ = some (.string y.T) ∧ W.cell? ⟨g8, q * 3 + 2, none⟩ = some (.string y.X)) (with_reducible first | exact HS0.out | exact HS5.out)
            (first | (go_at_call 11; refine (back_any y _).mono ?_; rintro e w5 ⟨rfl, ho5⟩; have HO5 : Hid (Only [] w9 w5) := only_nil HOD.out ho5; have HS5 : Hid (w5.cell? ⟨m, 0, none⟩ = some (.slice (some ⟨g8, 0, none⟩) n cap8) ∧ w5.cell? ⟨g9, q * 3, none⟩ = some (.string y.F) ∧ w5.cell? ⟨g9, q * 3 + 1, none⟩ = some (.string y.T) ∧ w5.cell? ⟨g9, q * 3 + 2, none⟩ = some (.string y.X) ∧ w5.cell? ⟨g8, q * 3, none⟩ = some (.string y.F) ∧ w5.cell? ⟨g8, q * 3 + 1, none⟩ = some (.string y.T) ∧ w5.cell? ⟨g8, q * 3 + 2, none⟩ = some (.string y.X)) := HCE.out _ HO5.out; clear ho5))
          go_wp2
          go_roundw
          case rel => exact ⟨q + 1, by go_num, by omega, HO5.out⟩
          case measure => simp [intOf]; omega
        · obtain rfl : q = n := by omega
          have HB : Hid (Below w.heap.size w wr) := HBL.out wr HO.out
          go_wp2
          go_ret
          exact ⟨rfl, HB.out⟩
end Go.Proofs.YtkfelijpajdcoaaDoor
