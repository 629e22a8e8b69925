/- WireOps: what the document writes of ops; many ops. -/
import Derived.Test.YtkopiffnkbjbiaaDoorWi19
namespace Go.Proofs.YtkopiffnkbjbiaaDoor
open Go Go.RowKit Go.Deep

set_option maxRecDepth 100000 in
set_option maxHeartbeats 4000000 in
/-- Of many ops: some number. -/
theorem bulk_big (ad : Option Addr) (cap : Nat) (l : List OpV) (w : World) (hr : RwA w opC 9 ad l) (hl : l.length * 96 ≤ 140737488351232) (hf : ∀ x ∈ l, x.fits) : Calls Tryd.prog 9 #[.slice ad l.length cap] w fun e w' => ∃ z : Int, e = .returned (.int .i64 z) ∧ Only [] w w' := by
  have HR : Hid (RwA w opC 9 ad l) := hr
  have HF : Hid (∀ x ∈ l, x.fits) := hf
  obtain ⟨n, hn⟩ : ∃ n, l.length = n := ⟨_, rfl⟩
  have HN : Hid (l.length = n) := hn
  have hnb : n * 96 ≤ 140737488351232 := hn ▸ hl
  rw [hn]
  clear hn hl hr hf
  go_enter Tryd.func9, Tryd.ntmps9
  go_wp2
  go_loopw [3, 4] (fun v i wr => ∃ (j : Nat) (z : Int), j ≤ n ∧ i = .int .i64 (j : Nat) ∧ v = .int .i64 z ∧ Only [] w wr) (fun _ i _ => n - (intOf i).toNat)
  case atStart => exact ⟨0, 0, Nat.zero_le _, rfl, rfl, Only.refl _ _⟩
  case round =>
    obtain ⟨j, z, hj, rfl, rfl, ho⟩ := hrel
    have O : Hid (Only [] w wr) := ho
    clear ho
    by_cases hlt : j < n
    · obtain ⟨x, hx⟩ := at_lt l (j := j) (by rw [HN.out]; exact hlt)
      obtain ⟨g, o, rfl, hc⟩ := (HR.out.later O.out).at_ j x hx
      obtain ⟨_, hk1, hk2, hk3⟩ := HF.out x (mem_at hx)
      have c0 : wr.cell? ⟨g, o + j * 9, none⟩ = some (.string x.K) := hc 0 _ rfl
      have c1 : wr.cell? ⟨g, o + j * 9 + 1, none⟩ = some (.string x.N) := hc 1 _ rfl
      have c2 : wr.cell? ⟨g, o + j * 9 + 2, none⟩ = some (.string x.T) := hc 2 _ rfl
      clear hc hx
      go_wp2_with fail
      go_big_quiet (fail)
      go_wp2
      go_roundw
      case rel => exact ⟨j + 1, _, by omega, by go_num, rfl, O.out.drewsN _⟩
      case measure => simp [intOf]; omega
    · obtain rfl : n = j := by omega
      go_wp2
      go_ret
      exact ⟨_, rfl, O.out⟩
/-- What the document writes of a list. -/
def DocTextR (n : Nat) (M : List Step) (r : Value) : Prop :=
  (16 < n ∧ r = .tuple #[.string S0, .int .i64 2]) ∨ (n ≤ 16 ∧ ∃ t, runW (S0, 0) M = (t, 0) ∧ r = .tuple #[.string t, .int .i64 0]) ∨ (n ≤ 16 ∧ ∃ (k : Nat) (t : ByteArray), runW (S0, 0) M = (t, k + 1) ∧ r = .tuple #[.string S0, .int .i64 ((k : Int) + 1)])
theorem listW_snoc {α : Type} (f : α → List Step) {l : List α} {j : Nat} {x : α} (h : l[j]? = some x) : listW f (l.take (j + 1)) = listW f (l.take j) ++ f x := by
  rw [List.take_add_one, h]
  induction l.take j with
  | nil => show f x ++ [] = [] ++ f x; rw [List.append_nil]; rfl
  | cons a m ih =>
    show f a ++ listW f (m ++ [x]) = (f a ++ listW f m) ++ f x
    rw [List.append_assoc]
    congr 1
theorem docText_big (ad : Option Addr) (n cap : Nat) (w : World) (hn : 16 < n) : Calls Tryd.prog 12 #[.slice ad n cap] w fun e w' => e = .returned (.tuple #[.string S0, .int .i64 2]) ∧ Only [] w w' := by
  go_enter Tryd.func12, Tryd.ntmps12
  go_wp2
  go_ret2
  exact ⟨rfl, Only.refl _ _⟩
theorem wireOps_big (A : Nat → Addr) (ad : Option Addr) (n cap : Nat) (w : World) (hE : Er3 w A) (hn : 16 < n) : Calls Tryd.prog 10 #[.slice ad n cap] w fun e w' => e = .returned (.tuple #[.string S0, eV A 1]) ∧ Only [] w w' := by
  have hE1 : w.cell? ⟨0, 0, none⟩ = some (eV A 1) := hE.cell 1 (by decide)
  have hE2 : ((w.alloc (.cells #[.slice ad n cap] 29)).alloc (.cells #[.func (.func 25) #[] #[]] 66)).cell? ⟨0, 0, none⟩ = some (eV A 1) := by
    have hlt := lt_of_cell hE1
    rw [World.cell?_alloc_lt _ _ ⟨0, 0, none⟩ (by rw [World.size_alloc]; show 0 < _; simp at hlt; omega), World.cell?_alloc_lt _ _ ⟨0, 0, none⟩ hlt]
    exact hE1
  have K : Calls Tryd.prog 24 #[.slice ad n cap, .func (.func 25) #[] #[]] w fun e w' => e = .returned (.tuple #[.string S0, eV A 1]) ∧ Only [] w w' := by
    clear hE hE1
    go_enter Tryd.func24, Tryd.ntmps24
    go_wp2_with fail
    go_region
    all_goals
      go_wp2
      go_ret2
      exact ⟨rfl, (((Only.refl [] w).alloc _).alloc _).drew⟩
  have H : Hid (∀ _u : Unit, _) := fun _ => K
  clear K hE hE1 hE2
  go_enter Tryd.func10, Tryd.ntmps10
  go_wp2_with fail
  refine (H.out ()).mono ?_
  rintro e w1 ⟨rfl, ho⟩
  have HO : Hid (Only [] w w1) := ho
  clear ho
  go_wp2
  go_ret2
  exact ⟨rfl, HO.out⟩
set_option maxRecDepth 100000 in
set_option maxHeartbeats 4000000 in
theorem docText (ad : Option Addr) (cap : Nat) (l : List OpV) (w : World) (hr : RwA w opC 9 ad l) (hl : l.length ≤ 16) (hf : ∀ x ∈ l, x.ok ∧ x.K.size ≤ 10000 ∧ x.N.size ≤ 10000 ∧ x.T.size ≤ 10000) : Calls Tryd.prog 12 #[.slice ad l.length cap] w fun e w' => (∃ r, e = .returned r ∧ DocTextR l.length (listsW opW l) r) ∧ Only [] w w' := by
  have HR : Hid (RwA w opC 9 ad l) := hr
  have HF : Hid (∀ x ∈ l, x.ok ∧ x.K.size ≤ 10000 ∧ x.N.size ≤ 10000 ∧ x.T.size ≤ 10000) := hf
  obtain ⟨n, hn⟩ : ∃ n, l.length = n := ⟨_, rfl⟩
  have HN : Hid (l.length = n) := hn
  have hnb : n ≤ 16 := hn ▸ hl
  have V0 := Var.new w [.string ⟨#[]⟩, .int .i64 0] 71
  have D0 : Hid (WD (w.alloc (.cells #[.string ⟨#[]⟩, .int .i64 0] 71)) w.heap.size (S0, 0)) := ⟨V0.1 0 _ rfl, V0.1 1 _ rfl, V0.2, by decide⟩
  have KA : Hid (∀ (x : ByteArray) (st1 : ByteArray × Nat) (w1 : World), x.size ≤ 3000000 → WD w1 w.heap.size st1 → _) := fun x st1 w1 hx k => dAdd w.heap.size st1 x w1 k hx
  have KS : Hid (∀ (z : Int) (st1 : ByteArray × Nat) (w1 : World), I64 z → WD w1 w.heap.size st1 → _) := fun z st1 w1 hz k => dSgn w.heap.size st1 z w1 k hz
  have KI : Hid (∀ (x : ByteArray) (w1 : World), x.size ≤ 2000000 → _) := fun x w1 hx => item_big x w1 hx
  rw [hn]
  clear V0 hr hl hf hn
  go_enter Tryd.func12, Tryd.ntmps12
  go_wp2_with (go_at_call 27; refine (big4 n _ (by omega)).mono ?_; rintro e x0 ⟨rfl, hb⟩; have B0 : Hid (Only [] _ x0) := Only.of_below hb _; clear hb)
  refine (KA.out _ _ _ (by rw [bs_size, be_length]; decide) (D0.out.later B0.out)).mono ?_
  rintro e w1 ⟨rfl, o, s⟩
  have O1 : Hid (Only [] w w1) := only_old ((Only.refl [] w).alloc _) (B0.out.more.seq o) (by simp)
  have D1 : Hid (WD w1 w.heap.size (runW (S0, 0) ([some (bs (be 4 n))] ++ listW opW (l.take 0)))) := s
  clear o s B0 D0
  go_wp2_with fail
  go_loopw [5] (fun i wr => ∃ j : Nat, j ≤ n ∧ i = .int .i64 (j : Nat) ∧ Only [] w wr ∧ WD wr w.heap.size (runW (S0, 0) ([some (bs (be 4 n))] ++ listW opW (l.take j)))) (fun i _ => n - (intOf i).toNat)
  case atStart => exact ⟨0, Nat.zero_le _, rfl, O1.out, D1.out⟩
  case round =>
    obtain ⟨j, hj, rfl, ho, hd⟩ := hrel
    have O : Hid (Only [] w wr) := ho
    have D : Hid (WD wr w.heap.size (runW (S0, 0) ([some (bs (be 4 n))] ++ listW opW (l.take j)))) := hd
    clear ho hd
    by_cases hlt : j < n
    · obtain ⟨x, hx⟩ := at_lt l (j := j) (by rw [HN.out]; exact hlt)
      obtain ⟨g, o, rfl, hc⟩ := (HR.out.later O.out).at_ j x hx
      obtain ⟨⟨i1, i2, i3, i4, i5, i6⟩, k1, k2, k3⟩ := HF.out x (mem_at hx)
      have HK : Hid (x.K.size ≤ 10000 ∧ x.N.size ≤ 10000 ∧ x.T.size ≤ 10000) := ⟨k1, k2, k3⟩
      have HI : Hid (I64 x.x1 ∧ I64 x.x2 ∧ I64 x.x3 ∧ I64 x.x4 ∧ I64 x.x5 ∧ I64 x.x6) := ⟨i1, i2, i3, i4, i5, i6⟩
      have HX : Hid ([some (bs (be 4 n))] ++ listW opW (l.take (j + 1)) = ([some (bs (be 4 n))] ++ listW opW (l.take j)) ++ opW x) := by
        show _ = _
        rw [listW_snoc _ hx, List.append_assoc]
      have c0 : wr.cell? ⟨g, o + j * 9, none⟩ = some (.string x.K) := hc 0 _ rfl
      have c1 : wr.cell? ⟨g, o + j * 9 + 1, none⟩ = some (.string x.N) := hc 1 _ rfl
      have c2 : wr.cell? ⟨g, o + j * 9 + 2, none⟩ = some (.string x.T) := hc 2 _ rfl
      have c3 : wr.cell? ⟨g, o + j * 9 + 3, none⟩ = some (.int .i64 x.x1) := hc 3 _ rfl
      have c4 : wr.cell? ⟨g, o + j * 9 + 4, none⟩ = some (.int .i64 x.x2) := hc 4 _ rfl
      have c5 : wr.cell? ⟨g, o + j * 9 + 5, none⟩ = some (.int .i64 x.x3) := hc 5 _ rfl
      have c6 : wr.cell? ⟨g, o + j * 9 + 6, none⟩ = some (.int .i64 x.x4) := hc 6 _ rfl
      have c7 : wr.cell? ⟨g, o + j * 9 + 7, none⟩ = some (.int .i64 x.x5) := hc 7 _ rfl
      have c8 : wr.cell? ⟨g, o + j * 9 + 8, none⟩ = some (.int .i64 x.x6) := hc 8 _ rfl
      obtain ⟨st, hst⟩ : ∃ st, st = runW (S0, 0) ([some (bs (be 4 n))] ++ listW opW (l.take j)) := ⟨_, rfl⟩
      rw [← hst] at D
      have HST : Hid (st = runW (S0, 0) ([some (bs (be 4 n))] ++ listW opW (l.take j))) := hst
      obtain ⟨bo, hbo⟩ : ∃ bo, wr.heap.size = bo := ⟨_, rfl⟩
      have HBO : Hid (wr.heap.size = bo) := hbo
      have HMB : Hid (w.heap.size < bo) := hbo ▸ D.out.lt
      have V0 : Hid (Cells (wr.alloc (.cells #[.string x.K, .string x.N, .string x.T, .int .i64 x.x1, .int .i64 x.x2, .int .i64 x.x3, .int .i64 x.x4, .int .i64 x.x5, .int .i64 x.x6] 40)) bo [.string x.K, .string x.N, .string x.T, .int .i64 x.x1, .int .i64 x.x2, .int .i64 x.x3, .int .i64 x.x4, .int .i64 x.x5, .int .i64 x.x6]) := hbo ▸ Cells.boxed wr [.string x.K, .string x.N, .string x.T, .int .i64 x.x1, .int .i64 x.x2, .int .i64 x.x3, .int .i64 x.x4, .int .i64 x.x5, .int .i64 x.x6] 40
      have S0 : Hid (WD (wr.alloc (.cells #[.string x.K, .string x.N, .string x.T, .int .i64 x.x1, .int .i64 x.x2, .int .i64 x.x3, .int .i64 x.x4, .int .i64 x.x5, .int .i64 x.x6] 40)) w.heap.size st) := D.out.later ((Only.refl [] wr).alloc _)
      have OO0 : Hid (Only [w.heap.size] wr (wr.alloc (.cells #[.string x.K, .string x.N, .string x.T, .int .i64 x.x1, .int .i64 x.x2, .int .i64 x.x3, .int .i64 x.x4, .int .i64 x.x5, .int .i64 x.x6] 40))) := (Only.refl _ wr).alloc _
      clear hc hx hst k1 k2 k3 i1 i2 i3 i4 i5 i6 D
      go_wp2_with fail
      clear hbo c0 c1 c2 c3 c4 c5 c6 c7 c8
      refine (KI.out (x.K) _ (by have := HK.out.1; omega)).mono ?_
      rintro e y0 ⟨rfl, hb⟩
      have B0 : Hid (Only [] _ y0) := Only.of_below hb _
      clear hb
      go_wp2_with fail
      refine (KA.out (itemS (x.K)) _ _ (by rw [itemS_size]; have := HK.out.1; have := fillN_lt (x.K).size; omega) (S0.out.later B0.out)).mono ?_
      rintro e v1 ⟨rfl, o, s⟩
      have OX : Only [w.heap.size] _ v1 := B0.out.more.seq o
      clear o
      have OO1 : Hid (Only [w.heap.size] wr v1) := OO0.out.seq OX
      have S1 : Hid (WD v1 w.heap.size (runW (st) ([some (itemS x.K)]))) := s
      have V1 : Hid (Cells v1 bo [.string x.K, .string x.N, .string x.T, .int .i64 x.x1, .int .i64 x.x2, .int .i64 x.x3, .int .i64 x.x4, .int .i64 x.x5, .int .i64 x.x6]) := V0.out.only OX (by have := HMB.out; simp; omega)
      clear s OX OO0 S0 V0 B0
      have c1 := V1.out 1 _ rfl
      go_wp2_with fail
      clear c1
      refine (KI.out (x.N) _ (by have := HK.out.2.1; omega)).mono ?_
      rintro e y1 ⟨rfl, hb⟩
      have B1 : Hid (Only [] _ y1) := Only.of_below hb _
      clear hb
      go_wp2_with fail
      refine (KA.out (itemS (x.N)) _ _ (by rw [itemS_size]; have := HK.out.2.1; have := fillN_lt (x.N).size; omega) (S1.out.later B1.out)).mono ?_
      rintro e v2 ⟨rfl, o, s⟩
      have OX : Only [w.heap.size] _ v2 := B1.out.more.seq o
      clear o
      have OO2 : Hid (Only [w.heap.size] wr v2) := OO1.out.seq OX
      have S2 : Hid (WD v2 w.heap.size (runW (runW (st) ([some (itemS x.K)])) ([some (itemS x.N)]))) := s
      have V2 : Hid (Cells v2 bo [.string x.K, .string x.N, .string x.T, .int .i64 x.x1, .int .i64 x.x2, .int .i64 x.x3, .int .i64 x.x4, .int .i64 x.x5, .int .i64 x.x6]) := V1.out.only OX (by have := HMB.out; simp; omega)
      clear s OX OO1 S1 V1 B1
      have c2 := V2.out 2 _ rfl
      go_wp2_with fail
      clear c2
      refine (KI.out (x.T) _ (by have := HK.out.2.2; omega)).mono ?_
      rintro e y2 ⟨rfl, hb⟩
      have B2 : Hid (Only [] _ y2) := Only.of_below hb _
      clear hb
      go_wp2_with fail
      refine (KA.out (itemS (x.T)) _ _ (by rw [itemS_size]; have := HK.out.2.2; have := fillN_lt (x.T).size; omega) (S2.out.later B2.out)).mono ?_
      rintro e v3 ⟨rfl, o, s⟩
      have OX : Only [w.heap.size] _ v3 := B2.out.more.seq o
      clear o
      have OO3 : Hid (Only [w.heap.size] wr v3) := OO2.out.seq OX
      have S3 : Hid (WD v3 w.heap.size (runW (runW (runW (st) ([some (itemS x.K)])) ([some (itemS x.N)])) ([some (itemS x.T)]))) := s
      have V3 : Hid (Cells v3 bo [.string x.K, .string x.N, .string x.T, .int .i64 x.x1, .int .i64 x.x2, .int .i64 x.x3, .int .i64 x.x4, .int .i64 x.x5, .int .i64 x.x6]) := V2.out.only OX (by have := HMB.out; simp; omega)
      clear s OX OO2 S2 V2 B2
      have c3 := V3.out 3 _ rfl
      go_wp2_with fail
      clear c3
      refine (KS.out _ _ _ HI.out.1 S3.out).mono ?_
      rintro e v4 ⟨rfl, OX, s⟩
      have OO4 : Hid (Only [w.heap.size] wr v4) := OO3.out.seq OX
      have S4 : Hid (WD v4 w.heap.size (runW (runW (runW (runW (st) ([some (itemS x.K)])) ([some (itemS x.N)])) ([some (itemS x.T)])) (sgn x.x1))) := s
      have V4 : Hid (Cells v4 bo [.string x.K, .string x.N, .string x.T, .int .i64 x.x1, .int .i64 x.x2, .int .i64 x.x3, .int .i64 x.x4, .int .i64 x.x5, .int .i64 x.x6]) := V3.out.only OX (by have := HMB.out; simp; omega)
      clear s OX OO3 S3 V3
      have c4 := V4.out 4 _ rfl
      go_wp2_with fail
      clear c4
      refine (KS.out _ _ _ HI.out.2.1 S4.out).mono ?_
      rintro e v5 ⟨rfl, OX, s⟩
      have OO5 : Hid (Only [w.heap.size] wr v5) := OO4.out.seq OX
      have S5 : Hid (WD v5 w.heap.size (runW (runW (runW (runW (runW (st) ([some (itemS x.K)])) ([some (itemS x.N)])) ([some (itemS x.T)])) (sgn x.x1)) (sgn x.x2))) := s
      have V5 : Hid (Cells v5 bo [.string x.K, .string x.N, .string x.T, .int .i64 x.x1, .int .i64 x.x2, .int .i64 x.x3, .int .i64 x.x4, .int .i64 x.x5, .int .i64 x.x6]) := V4.out.only OX (by have := HMB.out; simp; omega)
      clear s OX OO4 S4 V4
      have c5 := V5.out 5 _ rfl
      go_wp2_with fail
      clear c5
      refine (KS.out _ _ _ HI.out.2.2.1 S5.out).mono ?_
      rintro e v6 ⟨rfl, OX, s⟩
      have OO6 : Hid (Only [w.heap.size] wr v6) := OO5.out.seq OX
      have S6 : Hid (WD v6 w.heap.size (runW (runW (runW (runW (runW (runW (st) ([some (itemS x.K)])) ([some (itemS x.N)])) ([some (itemS x.T)])) (sgn x.x1)) (sgn x.x2)) (sgn x.x3))) := s
      have V6 : Hid (Cells v6 bo [.string x.K, .string x.N, .string x.T, .int .i64 x.x1, .int .i64 x.x2, .int .i64 x.x3, .int .i64 x.x4, .int .i64 x.x5, .int .i64 x.x6]) := V5.out.only OX (by have := HMB.out; simp; omega)
      clear s OX OO5 S5 V5
      have c6 := V6.out 6 _ rfl
      go_wp2_with fail
      clear c6
      refine (KS.out _ _ _ HI.out.2.2.2.1 S6.out).mono ?_
      rintro e v7 ⟨rfl, OX, s⟩
      have OO7 : Hid (Only [w.heap.size] wr v7) := OO6.out.seq OX
      have S7 : Hid (WD v7 w.heap.size (runW (runW (runW (runW (runW (runW (runW (st) ([some (itemS x.K)])) ([some (itemS x.N)])) ([some (itemS x.T)])) (sgn x.x1)) (sgn x.x2)) (sgn x.x3)) (sgn x.x4))) := s
      have V7 : Hid (Cells v7 bo [.string x.K, .string x.N, .string x.T, .int .i64 x.x1, .int .i64 x.x2, .int .i64 x.x3, .int .i64 x.x4, .int .i64 x.x5, .int .i64 x.x6]) := V6.out.only OX (by have := HMB.out; simp; omega)
      clear s OX OO6 S6 V6
      have c7 := V7.out 7 _ rfl
      go_wp2_with fail
      clear c7
      refine (KS.out _ _ _ HI.out.2.2.2.2.1 S7.out).mono ?_
      rintro e v8 ⟨rfl, OX, s⟩
      have OO8 : Hid (Only [w.heap.size] wr v8) := OO7.out.seq OX
      have S8 : Hid (WD v8 w.heap.size (runW (runW (runW (runW (runW (runW (runW (runW (st) ([some (itemS x.K)])) ([some (itemS x.N)])) ([some (itemS x.T)])) (sgn x.x1)) (sgn x.x2)) (sgn x.x3)) (sgn x.x4)) (sgn x.x5))) := s
      have V8 : Hid (Cells v8 bo [.string x.K, .string x.N, .string x.T, .int .i64 x.x1, .int .i64 x.x2, .int .i64 x.x3, .int .i64 x.x4, .int .i64 x.x5, .int .i64 x.x6]) := V7.out.only OX (by have := HMB.out; simp; omega)
      clear s OX OO7 S7 V7
      have c8 := V8.out 8 _ rfl
      go_wp2_with fail
      clear c8
      refine (KS.out _ _ _ HI.out.2.2.2.2.2 S8.out).mono ?_
      rintro e v9 ⟨rfl, OX, s⟩
      have OO9 : Hid (Only [w.heap.size] wr v9) := OO8.out.seq OX
      have S9 : Hid (WD v9 w.heap.size (runW (runW (runW (runW (runW (runW (runW (runW (runW (st) ([some (itemS x.K)])) ([some (itemS x.N)])) ([some (itemS x.T)])) (sgn x.x1)) (sgn x.x2)) (sgn x.x3)) (sgn x.x4)) (sgn x.x5)) (sgn x.x6))) := s
      have V9 : Hid (Cells v9 bo [.string x.K, .string x.N, .string x.T, .int .i64 x.x1, .int .i64 x.x2, .int .i64 x.x3, .int .i64 x.x4, .int .i64 x.x5, .int .i64 x.x6]) := V8.out.only OX (by have := HMB.out; simp; omega)
      clear s OX OO8 S8 V8
      have DF : Hid (WD v9 w.heap.size (runW (⟨#[]⟩, 0) ([some (bs (be 4 n))] ++ listW opW (l.take (j + 1))))) := by
        rw [HX.out, runW_app]
        have h9 := S9.out
        rw [HST.out] at h9
        unfold opW
        rw [runW_app, runW_app, runW_app, runW_app, runW_app, runW_app, runW_app, runW_app]
        exact h9
      have OF : Hid (Only [] w v9) := only_old O.out OO9.out (by simp)
      clear S9 OO9 V9
      go_wp2
      go_roundw
      case rel => exact ⟨j + 1, by omega, by go_num, OF.out, DF.out⟩
      case measure => simp [intOf]; omega
    · obtain rfl : n = j := by omega
      have HT : Hid ([some (bs (be 4 n))] ++ listW opW (l.take n) = listsW opW l) := by
        show _ = _
        rw [← HN.out, List.take_length]
        rfl
      rw [HT.out] at D
      rcases hst : runW (S0, 0) (listsW opW l) with ⟨t, e⟩
      have HST : Hid (runW (S0, 0) (listsW opW l) = (t, e)) := hst
      rw [hst] at D
      have k0 := D.out.c0
      have k1 : wr.cell? ⟨w.heap.size, 1, none⟩ = some (.int .i64 (e : Nat)) := D.out.c1
      clear hst
      cases e with
      | zero =>
        have k1' : wr.cell? ⟨w.heap.size, 1, none⟩ = some (.int .i64 0) := k1
        clear k1
        go_wp2
        go_ret2
        exact ⟨⟨_, rfl, Or.inr (Or.inl ⟨hnb, _, HST.out, rfl⟩)⟩, O.out⟩
      | succ k =>
        have k1' : wr.cell? ⟨w.heap.size, 1, none⟩ = some (.int .i64 ((k : Int) + 1)) := k1
        have hgt : (0 : Int) < (k : Int) + 1 := by omega
        clear k1
        go_wp2_with fail
        go_region
        all_goals
          go_wp2
          go_ret2
          exact ⟨⟨_, rfl, Or.inr (Or.inr ⟨hnb, _, _, HST.out, rfl⟩)⟩, O.out.drew⟩
end Go.Proofs.YtkopiffnkbjbiaaDoor
