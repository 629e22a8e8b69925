/- WireReplies: what the document writes of replies. -/
import Derived.Test.YtkopiffnkbjbiaaDoorWi26
import Derived.Test.YtkopiffnkbjbiaaDoorWi20
namespace Go.Proofs.YtkopiffnkbjbiaaDoor
open Go Go.RowKit Go.Deep

theorem docRText_big (ad : Option Addr) (n cap : Nat) (w : World) (hn : 16 < n) : Calls Tryd.prog 19 #[.slice ad n cap] w fun e w' => e = .returned (.tuple #[.string S0, .int .i64 2]) ∧ Only [] w w' := by
  go_enter Tryd.func19, Tryd.ntmps19
  go_wp2
  go_ret2
  exact ⟨rfl, Only.refl _ _⟩
theorem RwA.apart {α : Type} {w w' : World} {c : α → List Value} {k : Nat} {ad : Option Addr} {l : List α} {L : List Nat} (h : RwA w c k ad l) (ho : Only L w w') (hn : ∀ g o, ad = some ⟨g, o, none⟩ → l ≠ [] → g ∉ L) : RwA w' c k ad l :=
  ⟨fun i x e => by
    obtain ⟨g, o, h1, h2⟩ := h.at_ i x e
    exact ⟨g, o, h1, fun j u hu => (ho.cell (p := ⟨g, o + i * k + j, none⟩) (lt_of_cell (h2 j u hu)) (hn g o h1 (fun e' => by rw [e'] at e; cases e))).trans (h2 j u hu)⟩⟩
theorem flagEnd (b : Bool) : (if b = true then (1 : Nat) else 0) = b.toNat := by cases b <;> rfl
set_option maxRecDepth 100000 in
set_option maxHeartbeats 8000000 in
theorem docRText (ad : Option Addr) (cap : Nat) (l : List (RpV × Value)) (w : World) (hr : RwA w rpC 9 ad l) (hl : l.length ≤ 16) (hf : ∀ q ∈ l, RpFit w 1048576 q) : Calls Tryd.prog 19 #[.slice ad l.length cap] w fun e w' => (∃ r, e = .returned r ∧ DocTextR l.length (listsW (fun p => rpW p.1) l) r) ∧ Only [] w w' := by
  have HR : Hid (RwA w rpC 9 ad l) := hr
  have HF : Hid (∀ q ∈ l, RpFit w 1048576 q) := hf
  obtain ⟨n, hn⟩ : ∃ n, l.length = n := ⟨_, rfl⟩
  have HN : Hid (l.length = n) := hn
  have hnb : n ≤ 16 := hn ▸ hl
  have V0 := Var.new w [.string ⟨#[]⟩, .int .i64 0] 71
  obtain ⟨m, hm⟩ : ∃ m, w.heap.size = m := ⟨_, rfl⟩
  have HM : Hid (w.heap.size = m) := hm
  have D0 : Hid (WD (w.alloc (.cells #[.string ⟨#[]⟩, .int .i64 0] 71)) m (S0, 0)) := hm ▸ ⟨V0.1 0 _ rfl, V0.1 1 _ rfl, V0.2, by decide⟩
  have KA : Hid (∀ (x : ByteArray) (st1 : ByteArray × Nat) (w1 : World), x.size ≤ 3000000 → WD w1 m st1 → _) := fun x st1 w1 hx k => dAdd m st1 x w1 k hx
  have KS : Hid (∀ (z : Int) (st1 : ByteArray × Nat) (w1 : World), I64 z → WD w1 m st1 → _) := fun z st1 w1 hz k => dSgn m st1 z w1 k hz
  have KI : Hid (∀ (x : ByteArray) (w1 : World), x.size ≤ 2000000 → _) := fun x w1 hx => item_big x w1 hx
  have KB : Hid (∀ (k : Nat) (w1 : World), k < 9223372036854775808 → _) := fun k w1 hk => big4 k w1 hk
  rw [hn]
  clear V0 hr hl hf hn
  go_enter Tryd.func19, Tryd.ntmps19
  go_wp2_with (go_at_call 27; refine (big4 n _ (by omega)).mono ?_; rintro e x0 ⟨rfl, hb⟩; have B0 : Hid (Only [] _ x0) := Only.of_below hb _; clear hb)
  refine (KA.out _ _ _ (by rw [bs_size, be_length]; decide) (D0.out.later B0.out)).mono ?_
  rintro e w1 ⟨rfl, o, s⟩
  have O1 : Hid (Only [] w w1) := only_old ((Only.refl [] w).alloc _) (B0.out.more.seq o) (by simp; omega)
  have D1 : Hid (WD w1 m (runW (S0, 0) ([some (bs (be 4 n))] ++ listW (fun p => rpW p.1) (l.take 0)))) := s
  clear o s B0 D0 hm
  go_wp2_with fail
  go_loopw [5] (fun i wr => ∃ j : Nat, j ≤ n ∧ i = .int .i64 (j : Nat) ∧ Only [] w wr ∧ WD wr m (runW (S0, 0) ([some (bs (be 4 n))] ++ listW (fun p => rpW p.1) (l.take j)))) (fun i _ => n - (intOf i).toNat)
  case atStart => exact ⟨0, Nat.zero_le _, rfl, O1.out, D1.out⟩
  case round =>
    obtain ⟨j, hj, rfl, ho, hd⟩ := hrel
    have O : Hid (Only [] w wr) := ho
    have D : Hid (WD wr m (runW (S0, 0) ([some (bs (be 4 n))] ++ listW (fun p => rpW p.1) (l.take j)))) := hd
    clear ho hd
    by_cases hlt : j < n
    · obtain ⟨⟨x, xv⟩, hx⟩ := at_lt l (j := j) (by rw [HN.out]; exact hlt)
      obtain ⟨g, o, rfl, hc⟩ := (HR.out.later O.out).at_ j _ hx
      obtain ⟨hin, i0, i1, i2, i3, i4, i7, kT, kL, kE⟩ := HF.out _ (mem_at hx)
      obtain ⟨a2, p2, hv2, hz2', hr2⟩ := hin.later O.out
      simp only at hv2 hr2 kT kL kE i0 i1 i2 i3 i4 i7
      subst hv2
      have HK : Hid (x.T.size ≤ 1048576 ∧ x.L.length ≤ 1048576 ∧ ∀ e ∈ x.L, e.fits 1048576) := ⟨kT, kL, kE⟩
      have HI : Hid (I64 x.c ∧ I64 x.x1 ∧ I64 x.x2 ∧ I64 x.x3 ∧ I64 x.x4 ∧ I64 x.n) := ⟨i0, i1, i2, i3, i4, i7⟩
      have HR2 : Hid (RwA wr enC 3 a2 x.L) := hr2
      have HAM : Hid (∀ g o, a2 = some ⟨g, o, none⟩ → x.L ≠ [] → g ≠ m) := fun g o e hne hg => by
        obtain ⟨y, hy⟩ := at_lt x.L (List.length_pos_iff.2 hne)
        obtain ⟨a3, p3, hv3, _, hr3⟩ := (HF.out _ (mem_at hx)).1
        cases hv3
        obtain ⟨g3, o3, e3, hc3⟩ := hr3.at_ 0 y hy
        rw [e] at e3
        cases e3
        have h5 := lt_of_cell (hc3 0 _ rfl)
        have h6 := HM.out
        dsimp only at h5
        omega
      have HX : Hid ([some (bs (be 4 n))] ++ listW (fun p : RpV × Value => rpW p.1) (l.take (j + 1)) = ([some (bs (be 4 n))] ++ listW (fun p => rpW p.1) (l.take j)) ++ rpW x) := by
        show _ = _
        rw [listW_snoc _ hx, List.append_assoc]
      have c0 : wr.cell? ⟨g, o + j * 9, none⟩ = some (.int .i64 x.c) := hc 0 _ rfl
      have c1 : wr.cell? ⟨g, o + j * 9 + 1, none⟩ = some (.string x.T) := hc 1 _ rfl
      have c2 : wr.cell? ⟨g, o + j * 9 + 2, none⟩ = some (.int .i64 x.x1) := hc 2 _ rfl
      have c3 : wr.cell? ⟨g, o + j * 9 + 3, none⟩ = some (.int .i64 x.x2) := hc 3 _ rfl
      have c4 : wr.cell? ⟨g, o + j * 9 + 4, none⟩ = some (.int .i64 x.x3) := hc 4 _ rfl
      have c5 : wr.cell? ⟨g, o + j * 9 + 5, none⟩ = some (.int .i64 x.x4) := hc 5 _ rfl
      have c6 : wr.cell? ⟨g, o + j * 9 + 6, none⟩ = some (.slice a2 x.L.length p2) := hc 6 _ rfl
      have c7 : wr.cell? ⟨g, o + j * 9 + 7, none⟩ = some (.int .i64 x.n) := hc 7 _ rfl
      have c8 : wr.cell? ⟨g, o + j * 9 + 8, none⟩ = some (.bool x.e) := hc 8 _ rfl
      obtain ⟨st, hst⟩ : ∃ st, st = runW (S0, 0) ([some (bs (be 4 n))] ++ listW (fun p => rpW p.1) (l.take j)) := ⟨_, rfl⟩
      rw [← hst] at D
      have HST : Hid (st = runW (S0, 0) ([some (bs (be 4 n))] ++ listW (fun p => rpW p.1) (l.take j))) := hst
      obtain ⟨bo, hbo⟩ : ∃ bo, wr.heap.size = bo := ⟨_, rfl⟩
      have HMB : Hid (m < bo) := hbo ▸ D.out.lt
      have V0 : Hid (Cells (wr.alloc (.cells #[.int .i64 x.c, .string x.T, .int .i64 x.x1, .int .i64 x.x2, .int .i64 x.x3, .int .i64 x.x4, .slice a2 x.L.length p2, .int .i64 x.n, .bool x.e] 50)) bo [.int .i64 x.c, .string x.T, .int .i64 x.x1, .int .i64 x.x2, .int .i64 x.x3, .int .i64 x.x4, .slice a2 x.L.length p2, .int .i64 x.n, .bool x.e]) := hbo ▸ Cells.boxed wr [.int .i64 x.c, .string x.T, .int .i64 x.x1, .int .i64 x.x2, .int .i64 x.x3, .int .i64 x.x4, .slice a2 x.L.length p2, .int .i64 x.n, .bool x.e] 50
      have S0 : Hid (WD (wr.alloc (.cells #[.int .i64 x.c, .string x.T, .int .i64 x.x1, .int .i64 x.x2, .int .i64 x.x3, .int .i64 x.x4, .slice a2 x.L.length p2, .int .i64 x.n, .bool x.e] 50)) m st) := D.out.later ((Only.refl [] wr).alloc _)
      have OO0 : Hid (Only [m] wr (wr.alloc (.cells #[.int .i64 x.c, .string x.T, .int .i64 x.x1, .int .i64 x.x2, .int .i64 x.x3, .int .i64 x.x4, .slice a2 x.L.length p2, .int .i64 x.n, .bool x.e] 50))) := (Only.refl _ wr).alloc _
      obtain ⟨nL, hnL⟩ : ∃ nL, x.L.length = nL := ⟨_, rfl⟩
      have HNL : Hid (x.L.length = nL) := hnL
      have hnLb : nL ≤ 1048576 := hnL ▸ kL
      rw [hnL] at c6 V0 S0 OO0
      clear hc hx hst i0 i1 i2 i3 i4 i7 kT kL kE hin hr2 hz2' D hnL
      go_wp2_with fail
      clear hbo c0 c1 c2 c3 c4 c5 c6 c7 c8
      refine (KS.out _ _ _ HI.out.1 S0.out).mono ?_
      rintro e v1 ⟨rfl, OX, s⟩
      have OO1 : Hid (Only [m] wr v1) := OO0.out.seq OX
      have S1 : Hid (WD v1 m (runW (st) (sgn x.c))) := s
      have V1 : Hid (Cells v1 bo [.int .i64 x.c, .string x.T, .int .i64 x.x1, .int .i64 x.x2, .int .i64 x.x3, .int .i64 x.x4, .slice a2 nL p2, .int .i64 x.n, .bool x.e]) := V0.out.only OX (by have := HMB.out; simp; omega)
      clear s OX OO0 S0 V0
      have c1 := V1.out 1 _ rfl
      go_wp2_with fail
      clear c1
      refine (KI.out (x.T) _ (by have := HK.out.1; omega)).mono ?_
      rintro e y2 ⟨rfl, hb⟩
      have B2 : Hid (Only [] _ y2) := Only.of_below hb _
      clear hb
      go_wp2_with fail
      refine (KA.out (itemS (x.T)) _ _ (by rw [itemS_size]; have := HK.out.1; have := fillN_lt (x.T).size; omega) (S1.out.later B2.out)).mono ?_
      rintro e v2 ⟨rfl, o, s⟩
      have OX : Only [m] _ v2 := B2.out.more.seq o
      clear o
      have OO2 : Hid (Only [m] wr v2) := OO1.out.seq OX
      have S2 : Hid (WD v2 m (runW (runW (st) (sgn x.c)) ([some (itemS x.T)]))) := s
      have V2 : Hid (Cells v2 bo [.int .i64 x.c, .string x.T, .int .i64 x.x1, .int .i64 x.x2, .int .i64 x.x3, .int .i64 x.x4, .slice a2 nL p2, .int .i64 x.n, .bool x.e]) := V1.out.only OX (by have := HMB.out; simp; omega)
      clear s OX OO1 S1 V1 B2
      have c2 := V2.out 2 _ rfl
      go_wp2_with fail
      clear c2
      refine (KS.out _ _ _ HI.out.2.1 S2.out).mono ?_
      rintro e v3 ⟨rfl, OX, s⟩
      have OO3 : Hid (Only [m] wr v3) := OO2.out.seq OX
      have S3 : Hid (WD v3 m (runW (runW (runW (st) (sgn x.c)) ([some (itemS x.T)])) (sgn x.x1))) := s
      have V3 : Hid (Cells v3 bo [.int .i64 x.c, .string x.T, .int .i64 x.x1, .int .i64 x.x2, .int .i64 x.x3, .int .i64 x.x4, .slice a2 nL p2, .int .i64 x.n, .bool x.e]) := V2.out.only OX (by have := HMB.out; simp; omega)
      clear s OX OO2 S2 V2
      have c3 := V3.out 3 _ rfl
      go_wp2_with fail
      clear c3
      refine (KS.out _ _ _ HI.out.2.2.1 S3.out).mono ?_
      rintro e v4 ⟨rfl, OX, s⟩
      have OO4 : Hid (Only [m] wr v4) := OO3.out.seq OX
      have S4 : Hid (WD v4 m (runW (runW (runW (runW (st) (sgn x.c)) ([some (itemS x.T)])) (sgn x.x1)) (sgn x.x2))) := s
      have V4 : Hid (Cells v4 bo [.int .i64 x.c, .string x.T, .int .i64 x.x1, .int .i64 x.x2, .int .i64 x.x3, .int .i64 x.x4, .slice a2 nL p2, .int .i64 x.n, .bool x.e]) := V3.out.only OX (by have := HMB.out; simp; omega)
      clear s OX OO3 S3 V3
      have c4 := V4.out 4 _ rfl
      go_wp2_with fail
      clear c4
      refine (KS.out _ _ _ HI.out.2.2.2.1 S4.out).mono ?_
      rintro e v5 ⟨rfl, OX, s⟩
      have OO5 : Hid (Only [m] wr v5) := OO4.out.seq OX
      have S5 : Hid (WD v5 m (runW (runW (runW (runW (runW (st) (sgn x.c)) ([some (itemS x.T)])) (sgn x.x1)) (sgn x.x2)) (sgn x.x3))) := s
      have V5 : Hid (Cells v5 bo [.int .i64 x.c, .string x.T, .int .i64 x.x1, .int .i64 x.x2, .int .i64 x.x3, .int .i64 x.x4, .slice a2 nL p2, .int .i64 x.n, .bool x.e]) := V4.out.only OX (by have := HMB.out; simp; omega)
      clear s OX OO4 S4 V4
      have c5 := V5.out 5 _ rfl
      go_wp2_with fail
      clear c5
      refine (KS.out _ _ _ HI.out.2.2.2.2.1 S5.out).mono ?_
      rintro e v6 ⟨rfl, OX, s⟩
      have OO6 : Hid (Only [m] wr v6) := OO5.out.seq OX
      have S6 : Hid (WD v6 m (runW (runW (runW (runW (runW (runW (st) (sgn x.c)) ([some (itemS x.T)])) (sgn x.x1)) (sgn x.x2)) (sgn x.x3)) (sgn x.x4))) := s
      have V6 : Hid (Cells v6 bo [.int .i64 x.c, .string x.T, .int .i64 x.x1, .int .i64 x.x2, .int .i64 x.x3, .int .i64 x.x4, .slice a2 nL p2, .int .i64 x.n, .bool x.e]) := V5.out.only OX (by have := HMB.out; simp; omega)
      clear s OX OO5 S5 V5
      have c6 := V6.out 6 _ rfl
      go_wp2_with fail
      clear c6
      refine (KB.out nL _ (by omega)).mono ?_
      rintro e y7 ⟨rfl, hb⟩
      have B7 : Hid (Only [] _ y7) := Only.of_below hb _
      clear hb
      go_wp2_with fail
      refine (KA.out _ _ _ (by rw [bs_size, be_length]; decide) (S6.out.later B7.out)).mono ?_
      rintro e v7 ⟨rfl, o, s⟩
      obtain ⟨sL, hsL⟩ : ∃ sL, sL = runW (runW (runW (runW (runW (runW (runW (st) (sgn x.c)) ([some (itemS x.T)])) (sgn x.x1)) (sgn x.x2)) (sgn x.x3)) (sgn x.x4)) ([some (bs (be 4 nL))]) := ⟨_, rfl⟩
      have HSL : Hid (sL = runW (runW (runW (runW (runW (runW (runW (st) (sgn x.c)) ([some (itemS x.T)])) (sgn x.x1)) (sgn x.x2)) (sgn x.x3)) (sgn x.x4)) ([some (bs (be 4 nL))])) := hsL
      have S7 : Hid (WD v7 m (runW sL (listW enW (x.L.take 0)))) := by rw [hsL]; exact s
      have O7 : Hid (Only [m] wr v7) := OO6.out.seq (B7.out.more.seq o)
      have V7 : Hid (Cells v7 bo [.int .i64 x.c, .string x.T, .int .i64 x.x1, .int .i64 x.x2, .int .i64 x.x3, .int .i64 x.x4, .slice a2 nL p2, .int .i64 x.n, .bool x.e]) := (V6.out.only (B7.out) (by simp)).only o (by have := HMB.out; simp; omega)
      have HR7 : Hid (RwA v7 enC 3 a2 x.L) := HR2.out.apart O7.out (fun g o e hne => by simpa using HAM.out g o e hne)
      have OW7 : Hid (Only [] w v7) := only_old O.out O7.out (by simp; have := HM.out; omega)
      clear o s OO6 S6 V6 B7 hsL O7 O HR2
      go_wp2_with fail
      go_loopw [7] (fun i wr => ∃ kk : Nat, kk ≤ nL ∧ i = .int .i64 (kk : Nat) ∧ Only [m] v7 wr ∧ WD wr m (runW sL (listW enW (x.L.take kk)))) (fun i _ => nL - (intOf i).toNat)
      case atStart => exact ⟨0, Nat.zero_le _, rfl, Only.refl _ _, S7.out⟩
      case round =>
        obtain ⟨kk, hkk, rfl, ho, hd⟩ := hrel
        have O8 : Hid (Only [m] v7 wr) := ho
        have D8 : Hid (WD wr m (runW sL (listW enW (x.L.take kk)))) := hd
        have V8 : Hid (Cells wr bo [.int .i64 x.c, .string x.T, .int .i64 x.x1, .int .i64 x.x2, .int .i64 x.x3, .int .i64 x.x4, .slice a2 nL p2, .int .i64 x.n, .bool x.e]) := V7.out.only ho (by have := HMB.out; simp; omega)
        have R8 : Hid (RwA wr enC 3 a2 x.L) := HR7.out.apart ho (fun g o e hne => by simpa using HAM.out g o e hne)
        clear ho hd
        by_cases hlt2 : kk < nL
        · obtain ⟨y, hy⟩ := at_lt x.L (j := kk) (by rw [HNL.out]; exact hlt2)
          obtain ⟨g2, o2, hg2, hcy⟩ := R8.out.at_ kk y hy
          obtain ⟨⟨iy1, iy2⟩, ky⟩ := HK.out.2.2 y (mem_at hy)
          have HYX : Hid (listW enW (x.L.take (kk + 1)) = listW enW (x.L.take kk) ++ enW y) := listW_snoc _ hy
          have HIY : Hid (I64 y.x ∧ I64 y.y ∧ y.n.size ≤ 1048576) := ⟨iy1, iy2, ky⟩
          have HCY : Hid (wr.cell? ⟨g2, o2 + kk * 3, none⟩ = some (.string y.n) ∧ wr.cell? ⟨g2, o2 + kk * 3 + 1, none⟩ = some (.int .i64 y.x) ∧ wr.cell? ⟨g2, o2 + kk * 3 + 2, none⟩ = some (.int .i64 y.y)) := ⟨hcy 0 _ rfl, hcy 1 _ rfl, hcy 2 _ rfl⟩
          have HGM : Hid (g2 ≠ m) := HAM.out g2 o2 hg2 (fun e => by rw [e] at hy; cases hy)
          have HG2 : Hid (a2 = some ⟨g2, o2, none⟩) := hg2
          have c6 := V8.out 6 _ rfl
          rw [hg2] at c6
          have y0 := HCY.out.1
          clear hcy hy iy1 iy2 ky hg2
          go_wp2_with fail
          clear c6 y0
          refine (KI.out y.n _ (by have := HIY.out.2.2; omega)).mono ?_
          rintro e z1 ⟨rfl, hb⟩
          have Z1 : Hid (Only [] wr z1) := Only.of_below hb _
          clear hb
          go_wp2_with fail
          refine (KA.out (itemS y.n) _ _ (by rw [itemS_size]; have := HIY.out.2.2; have := fillN_lt y.n.size; omega) (D8.out.later Z1.out)).mono ?_
          rintro e z2 ⟨rfl, o, s⟩
          have Z2 : Hid (Only [m] wr z2) := Z1.out.more.seq o
          have DZ2 : Hid (WD z2 m (runW (runW sL (listW enW (x.L.take kk))) [some (itemS y.n)])) := s
          have c6 := (V8.out.only Z2.out (by have := HMB.out; simp; omega)) 6 _ rfl
          rw [HG2.out] at c6
          have y1 := (Z2.out.cell (p := ⟨g2, o2 + kk * 3 + 1, none⟩) (lt_of_cell HCY.out.2.1) (by simpa using HGM.out)).trans HCY.out.2.1
          clear o s Z1 D8
          go_wp2_with fail
          clear c6 y1
          refine (KS.out _ _ _ HIY.out.1 DZ2.out).mono ?_
          rintro e z3 ⟨rfl, o, s⟩
          have Z3 : Hid (Only [m] wr z3) := Z2.out.seq o
          have DZ3 : Hid (WD z3 m (runW (runW (runW sL (listW enW (x.L.take kk))) [some (itemS y.n)]) (sgn y.x))) := s
          have c6 := (V8.out.only Z3.out (by have := HMB.out; simp; omega)) 6 _ rfl
          rw [HG2.out] at c6
          have y2 := (Z3.out.cell (p := ⟨g2, o2 + kk * 3 + 2, none⟩) (lt_of_cell HCY.out.2.2) (by simpa using HGM.out)).trans HCY.out.2.2
          clear o s DZ2
          go_wp2_with fail
          clear c6 y2
          refine (KS.out _ _ _ HIY.out.2.1 DZ3.out).mono ?_
          rintro e z4 ⟨rfl, o, s⟩
          have Z4 : Hid (Only [m] v7 z4) := O8.out.seq (Z3.out.seq o)
          have DZ4 : Hid (WD z4 m (runW sL (listW enW (x.L.take (kk + 1))))) := by
            rw [HYX.out, runW_app]
            unfold enW
            rw [runW_app, runW_app]
            exact s
          clear o s DZ3
          go_wp2
          go_roundw
          case rel => exact ⟨kk + 1, by omega, by go_num, Z4.out, DZ4.out⟩
          case measure => simp [intOf]; omega
        · obtain rfl : nL = kk := by omega
          have S8 : Hid (WD wr m (runW sL (listW enW x.L))) := by
            have := D8.out
            rw [← HNL.out, List.take_length] at this
            exact this
          have c6 := V8.out 6 _ rfl
          have c7 := V8.out 7 _ rfl
          clear D8
          go_wp2_with fail
          clear c6 c7
          refine (KS.out _ _ _ HI.out.2.2.2.2.2 S8.out).mono ?_
          rintro e v8 ⟨rfl, OX, s⟩
          have S9 : Hid (WD v8 m (runW (runW sL (listW enW x.L)) (sgn x.n))) := s
          have O9 : Hid (Only [m] v7 v8) := O8.out.seq OX
          have c8 := (V8.out.only OX (by have := HMB.out; simp; omega)) 8 _ rfl
          clear s OX S8 O8
          have FIN : Hid (∀ v9, Only [m] v8 v9 → WD v9 m (runW (runW (runW sL (listW enW x.L)) (sgn x.n)) [some (bs (be 4 x.e.toNat))]) → Only [] w v9 ∧ WD v9 m (runW (⟨#[]⟩, 0) ([some (bs (be 4 n))] ++ listW (fun p => rpW p.1) (l.take (j + 1))))) := fun v9 k1 k2 => by
            refine ⟨only_old OW7.out (O9.out.seq k1) (by simp; have := HM.out; omega), ?_⟩
            rw [HX.out, runW_app, ← HST.out]
            rw [HSL.out, ← HNL.out] at k2
            have e1 : runW st (rpW x) = runW (runW (runW (runW (runW (runW (runW (runW (runW (runW st (sgn x.c)) [some (itemS x.T)]) (sgn x.x1)) (sgn x.x2)) (sgn x.x3)) (sgn x.x4)) [some (bs (be 4 x.L.length))]) (listW enW x.L)) (sgn x.n)) [some (bs (be 4 x.e.toNat))] := by
              unfold rpW listsW
              simp only [runW_app]
            rw [e1]
            exact k2
          cases he : x.e
          · rw [he] at c8 FIN
            go_wp2_with fail
            refine (KB.out 0 _ (by decide)).mono ?_
            rintro e u1 ⟨rfl, hb⟩
            have U1 : Hid (Only [] v8 u1) := Only.of_below hb _
            clear hb c8
            go_wp2_with fail
            refine (KA.out _ _ _ (by rw [bs_size, be_length]; decide) (S9.out.later U1.out)).mono ?_
            rintro e v9 ⟨rfl, o, s⟩
            obtain ⟨f1, f2⟩ := FIN.out v9 (U1.out.more.seq o) s
            have F1 : Hid (Only [] w v9) := f1
            have F2 : Hid (WD v9 m (runW (⟨#[]⟩, 0) ([some (bs (be 4 n))] ++ listW (fun p => rpW p.1) (l.take (j + 1))))) := f2
            clear o s f1 f2 FIN S9 O9 U1 V7 V8 R8 HR7
            go_wp2
            go_roundw
            case rel => exact ⟨j + 1, by omega, by go_num, F1.out, F2.out⟩
            case measure => simp [intOf]; omega
          · rw [he] at c8 FIN
            go_wp2_with fail
            refine (KB.out 1 _ (by decide)).mono ?_
            rintro e u1 ⟨rfl, hb⟩
            have U1 : Hid (Only [] v8 u1) := Only.of_below hb _
            clear hb c8
            go_wp2_with fail
            refine (KA.out _ _ _ (by rw [bs_size, be_length]; decide) (S9.out.later U1.out)).mono ?_
            rintro e v9 ⟨rfl, o, s⟩
            obtain ⟨f1, f2⟩ := FIN.out v9 (U1.out.more.seq o) s
            have F1 : Hid (Only [] w v9) := f1
            have F2 : Hid (WD v9 m (runW (⟨#[]⟩, 0) ([some (bs (be 4 n))] ++ listW (fun p => rpW p.1) (l.take (j + 1))))) := f2
            clear o s f1 f2 FIN S9 O9 U1 V7 V8 R8 HR7
            go_wp2
            go_roundw
            case rel => exact ⟨j + 1, by omega, by go_num, F1.out, F2.out⟩
            case measure => simp [intOf]; omega
    · obtain rfl : n = j := by omega
      have HT : Hid ([some (bs (be 4 n))] ++ listW (fun p : RpV × Value => rpW p.1) (l.take n) = listsW (fun p => rpW p.1) l) := by
        show _ = _
        rw [← HN.out, List.take_length]
        rfl
      rw [HT.out] at D
      rcases hst : runW (S0, 0) (listsW (fun p : RpV × Value => rpW p.1) l) with ⟨t, e⟩
      have HST : Hid (runW (S0, 0) (listsW (fun p : RpV × Value => rpW p.1) l) = (t, e)) := hst
      rw [hst] at D
      have k0 := D.out.c0
      have k1 : wr.cell? ⟨m, 1, none⟩ = some (.int .i64 (e : Nat)) := D.out.c1
      clear hst
      cases e with
      | zero =>
        have k1' : wr.cell? ⟨m, 1, none⟩ = some (.int .i64 0) := k1
        clear k1
        go_wp2
        go_ret2
        exact ⟨⟨_, rfl, Or.inr (Or.inl ⟨hnb, _, HST.out, rfl⟩)⟩, O.out⟩
      | succ k =>
        have k1' : wr.cell? ⟨m, 1, none⟩ = some (.int .i64 ((k : Int) + 1)) := k1
        have hgt : (0 : Int) < (k : Int) + 1 := by omega
        clear k1
        go_wp2_with fail
        go_region
        all_goals
          go_wp2
          go_ret2
          exact ⟨⟨_, rfl, Or.inr (Or.inr ⟨hnb, _, _, HST.out, rfl⟩)⟩, O.out.drew⟩
theorem wireReps_big (A : Nat → Addr) (ad : Option Addr) (n cap : Nat) (w : World) (hE : Er3 w A) (hn : 16 < n) : Calls Tryd.prog 17 #[.slice ad n cap] w fun e w' => e = .returned (.tuple #[.string S0, eV A 1]) ∧ Only [] w w' := by
  have hE1 : w.cell? ⟨0, 0, none⟩ = some (eV A 1) := hE.cell 1 (by decide)
  have hE2 : ((w.alloc (.cells #[.slice ad n cap] 54)).alloc (.cells #[.func (.func 37) #[] #[]] 90)).cell? ⟨0, 0, none⟩ = some (eV A 1) := by
    have hlt := lt_of_cell hE1
    rw [World.cell?_alloc_lt _ _ ⟨0, 0, none⟩ (by rw [World.size_alloc]; show 0 < _; simp at hlt; omega), World.cell?_alloc_lt _ _ ⟨0, 0, none⟩ hlt]
    exact hE1
  have K : Calls Tryd.prog 36 #[.slice ad n cap, .func (.func 37) #[] #[]] w fun e w' => e = .returned (.tuple #[.string S0, eV A 1]) ∧ Only [] w w' := by
    clear hE hE1
    go_enter Tryd.func36, Tryd.ntmps36
    go_wp2_with fail
    go_region
    all_goals
      go_wp2
      go_ret2
      exact ⟨rfl, (((Only.refl [] w).alloc _).alloc _).drew⟩
  have H : Hid (∀ _u : Unit, _) := fun _ => K
  clear K hE hE1 hE2
  go_enter Tryd.func17, Tryd.ntmps17
  go_wp2_with fail
  refine (H.out ()).mono ?_
  rintro e w1 ⟨rfl, ho⟩
  have HO : Hid (Only [] w w1) := ho
  clear ho
  go_wp2
  go_ret2
  exact ⟨rfl, HO.out⟩
end Go.Proofs.YtkopiffnkbjbiaaDoor
