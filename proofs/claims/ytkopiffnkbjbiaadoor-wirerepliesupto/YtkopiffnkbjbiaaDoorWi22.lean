/- WireHears, the document's side: the replies of a text. -/
import Derived.Test.YtkopiffnkbjbiaaDoorWi17
namespace Go.Proofs.YtkopiffnkbjbiaaDoor
open Go Go.RowKit Go.Deep

def SRpsOwn (w : World) (base : Nat) (v : Value) (l : List RpV) : Prop := ∃ m : List (RpV × Value), m.map Prod.fst = l ∧ w.ownsRow base 50 9 v m.length (rowOf rpC m) ∧ ∀ q ∈ m, EnOwn w base q.2 q.1.L
theorem srInfo : ∃ i, Tryd.prog.info? 50 = some i ∧ i.zero = some (.agg #[.int .i64 0, .string ⟨#[]⟩, .int .i64 0, .int .i64 0, .int .i64 0, .int .i64 0, .slice none 0 0, .int .i64 0, .bool false]) ∧ i.size = 9 ∧ i.bytes = 96 := by
  have h : (Tryd.prog.info? 50).map (fun i => (i.zero, i.size, i.bytes)) = some (some (.agg #[.int .i64 0, .string ⟨#[]⟩, .int .i64 0, .int .i64 0, .int .i64 0, .int .i64 0, .slice none 0 0, .int .i64 0, .bool false]), 9, 96) := by kernel_rfl
  obtain ⟨i, hi, hz⟩ := Option.map_eq_some_iff.1 h
  simp only [Prod.mk.injEq] at hz
  exact ⟨i, hi, hz⟩
theorem srsUnd : Tryd.prog.underlying 45 = some (.slice 50) := by kernel_rfl
theorem LInv.startQ {α : Type} {p : Par α} {q q' : Option ByteArray} {n : Nat} (hs : Stp pInt q n q') : LInv p (q.bind (pList p)) n [] q' := by
  cases q with
  | none => rw [hs.bad]; exact Or.inr ⟨rfl, rfl⟩
  | some s => exact LInv.start hs
theorem LInv.ends {α : Type} {p : Par α} {q q' : Option ByteArray} {l : List α} {m : Nat} (h : LInv p (q.bind (pList p)) m l q') (h0 : q' = none ∨ m = 0) : Stp (pList p) q l q' := by
  rcases h with ⟨t, rfl, h⟩ | ⟨rfl, h⟩
  · rcases h0 with h0 | rfl
    · cases h0
    · rw [contP_end] at h
      exact Or.inl ⟨t, h, rfl⟩
  · exact Or.inr ⟨h, rfl⟩
theorem en_steps {q0 q1 q2 q3 : Option ByteArray} {a0 : ByteArray} {a1 a2 : Int} (h0 : Stp pBytes q0 a0 q1) (h1 : Stp pNumber q1 a1 q2) (h2 : Stp pNumber q2 a2 q3) : Stp pEntry q0 ⟨a0, a1, a2⟩ q3 :=
  h0.bind (Stp.bind (a := (a1, a2)) (h1.bind (h2.bind (Stp.ret _ _))) (Stp.ret _ _))
theorem rp_steps {q0 q1 q2 q3 q4 q5 q6 q7 q8 q9 : Option ByteArray} {a0 a2 a3 a4 a5 a7 : Int} {a1 : ByteArray} {L : List EnV} {a8 : Bool} (h0 : Stp pNumber q0 a0 q1) (h1 : Stp pBytes q1 a1 q2) (h2 : Stp pNumber q2 a2 q3) (h3 : Stp pNumber q3 a3 q4) (h4 : Stp pNumber q4 a4 q5) (h5 : Stp pNumber q5 a5 q6) (h6 : Stp (pList pEntry) q6 L q7) (h7 : Stp pNumber q7 a7 q8) (h8 : Stp pFlag q8 a8 q9) :
    Stp pReply q0 ⟨a0, a1, a2, a3, a4, a5, L, a7, a8⟩ q9 :=
  h0.bind (h1.bind (Stp.bind (a := (a2, a3)) (h2.bind (h3.bind (Stp.ret _ _))) (Stp.bind (a := (a4, a5)) (h4.bind (h5.bind (Stp.ret _ _))) (h6.bind (h7.bind (h8.bind (Stp.ret _ _)))))))
theorem en_news2 {w : World} (x : EnV) (a : Addr) (v : Value) (ty : TypeId) : ∀ (r : Nat) (q : Value), (enC x)[r]? = some q → ((w.setCell a v).alloc (.cells #[.string x.n, .int .i64 x.x, .int .i64 x.y] ty)).cell? ((⟨w.heap.size, 0, none⟩ : Addr).add r) = some q := by
  have := en_news (w := w.setCell a v) x ty
  rw [show (w.setCell a v).heap.size = w.heap.size by simp] at this
  exact this
theorem rp_news3 {w : World} (x : RpV) (u : Value) (a : Addr) (v : Value) (ty : TypeId) : ∀ (r : Nat) (q : Value), (rpC (x, u))[r]? = some q → ((w.setCell a v).alloc (.cells #[.int .i64 x.c, .string x.T, .int .i64 x.x1, .int .i64 x.x2, .int .i64 x.x3, .int .i64 x.x4, u, .int .i64 x.n, .bool x.e] ty)).cell? ((⟨w.heap.size, 0, none⟩ : Addr).add r) = some q := by
  have := rp_news2 (w := w.setCell a v) x u ty
  rw [show (w.setCell a v).heap.size = w.heap.size by simp] at this
  exact this
/-- What the document answers. -/
def DocRepsR (s : ByteArray) (base : Nat) (w' : World) (r : Value) : Prop :=
  (pAll pReply s = none ∧ ∃ v, r = .tuple #[v, .bool false]) ∨ ∃ l v, pAll pReply s = some l ∧ r = .tuple #[v, .bool true] ∧ SRpsOwn w' base v l
set_option maxRecDepth 100000 in
set_option maxHeartbeats 8000000 in
theorem docReps (s : ByteArray) (w : World) (hs : s.size ≤ 5000) : Calls Tryd.prog 23 #[.string s] w fun e w' => (∃ r, e = .returned r ∧ DocRepsR s w.heap.size w' r) ∧ Only [] w w' := by
  obtain ⟨i0, hi0, hz0, hz1, hz2⟩ := srInfo
  obtain ⟨ie, hie, hy0, hy1, hy2⟩ := enInfo
  obtain ⟨pr, hpr⟩ : ∃ pr, pList pReply s = pr := ⟨_, rfl⟩
  have HP : Hid (pList pReply s = pr) := hpr
  clear hpr
  have V0 := Var.new w [.string s, .bool false] 84
  obtain ⟨m, hm⟩ : ∃ m, w.heap.size = m := ⟨_, rfl⟩
  have HM : Hid (w.heap.size = m) := hm
  have D0 : Hid (DS (w.alloc (.cells #[.string s, .bool false] 84)) m (some s)) := hm ▸ ⟨⟨s, V0.1 0 _ rfl, V0.1 1 _ rfl, hs, fun s' e => by cases e; rfl⟩, V0.2⟩
  have KI : Hid (∀ q1 w1, DS w1 m q1 → _) := fun q1 w1 k => dNum4 m q1 w1 k
  have KT : Hid (∀ q1 w1, DS w1 m q1 → _) := fun q1 w1 k => dText m q1 w1 k
  have KS : Hid (∀ q1 w1, DS w1 m q1 → _) := fun q1 w1 k => dSigned m q1 w1 k
  have KF : Hid (∀ q1 w1, DS w1 m q1 → _) := fun q1 w1 k => dFlag m q1 w1 k
  clear V0 hs
  go_enter Tryd.func23, Tryd.ntmps23
  go_wp2_with fail
  refine (KI.out _ _ D0.out).mono ?_
  rintro e w1 ⟨n, q1, hst, hn, rfl, ho, hd⟩
  have O1 : Hid (Only [] w w1) := only_old ((Only.refl [] w).alloc _) ho (by simp; omega)
  have D1 : Hid (DS w1 m q1) := hd
  have I1 : Hid (LInv pReply pr n [] q1) := HP.out ▸ LInv.start hst
  clear hst ho hd D0 hm
  go_wp2_with fail
  go_loopw [6, 7] (fun v i wr => ∃ (j : Nat) (q : Option ByteArray) (l : List (RpV × Value)), j ≤ n ∧ i = .int .i64 (j : Nat) ∧ l.length = j ∧ LInv pReply pr (n - j) (l.map Prod.fst) q ∧ Only [] w wr ∧ DS wr m q ∧ wr.ownsRow (m + 1) 50 9 v l.length (rowOf rpC l) ∧ ∀ x ∈ l, EnOwn wr (m + 1) x.2 x.1.L) (fun _ i _ => n - (intOf i).toNat)
  case atStart => exact ⟨0, q1, [], Nat.zero_le _, rfl, rfl, I1.out, O1.out, D1.out, World.ownsRow_nil _ _ _ _, fun x hx => by cases hx⟩
  case round =>
    obtain ⟨j, q, l, hj, rfl, hlj, hi, ho, hd, hrow, hens⟩ := hrel
    have HL : Hid (l.length = j) := hlj
    have O : Hid (Only [] w wr) := ho
    have D : Hid (DS wr m q) := hd
    have HROW : Hid (wr.ownsRow (m + 1) 50 9 u6 j (rowOf rpC l)) := by
      rw [hlj] at hrow
      exact hrow
    have HENS : Hid (∀ x ∈ l, EnOwn wr (m + 1) x.2 x.1.L) := hens
    have HI : Hid (LInv pReply pr (n - j) (l.map Prod.fst) q) := hi
    clear ho hd hrow hlj hi hens
    cases q with
    | none =>
      obtain ⟨sx, k0, k1, _⟩ := D.out.bads
      have HB : Hid (pAll pReply s = none) := by
        rcases HI.out with ⟨t, h, _⟩ | ⟨_, h⟩
        · cases h
        · exact pAll_none (HP.out.trans h)
      by_cases hlt : j < n
      · go_wp2_with fail
        go_big_quiet (fail)
        go_wp2
        go_ret2
        exact ⟨⟨_, rfl, Or.inl ⟨HB.out, _, rfl⟩⟩, O.out.drewsN _⟩
      · go_wp2_with fail
        go_big_quiet (fail)
        go_wp2
        go_ret2
        exact ⟨⟨_, rfl, Or.inl ⟨HB.out, _, rfl⟩⟩, O.out.drewsN _⟩
    | some t =>
      obtain ⟨k0, k1, hts⟩ := D.out.good
      have R : Hid (pr = contP (l.map Prod.fst) (pTimes pReply (n - j) t)) := by
        rcases HI.out with ⟨t', h, h2⟩ | ⟨h, _⟩
        · cases h
          exact h2
        · cases h
      clear HI
      by_cases hlt : j < n
      · have RX : Hid (pr = contP (l.map Prod.fst) (pTimes pReply (n - (j + 1) + 1) t)) := by
          have := R.out
          rw [show n - j = n - (j + 1) + 1 by omega] at this
          exact this
        clear R
        obtain ⟨bo, hbo⟩ : ∃ bo, wr.heap.size = bo := ⟨_, rfl⟩
        have HBO : Hid (wr.heap.size = bo) := hbo
        have HMB : Hid (m < bo) := hbo ▸ D.out.lt
        have HB6 : Hid (∀ b, u6.ownBlock = some b → m + 1 ≤ b ∧ b < bo) := fun b hb => by have := own_at HROW.out hb; rw [hbo] at this; exact ⟨this.1, this.2.1⟩
        have HBE : Hid (∀ x ∈ l, ∀ b, x.2.ownBlock = some b → m + 1 ≤ b ∧ b < bo) := fun x hx b hb => by have := own_at (HENS.out x hx) hb; rw [hbo] at this; exact ⟨this.1, this.2.1⟩
        have V0 : Hid (Var (wr.alloc (.cells #[.int .i64 0, .string ⟨#[]⟩, .int .i64 0, .int .i64 0, .int .i64 0, .int .i64 0, .slice none 0 0, .int .i64 0, .bool false] 50)) bo [.int .i64 0, .string ⟨#[]⟩, .int .i64 0, .int .i64 0, .int .i64 0, .int .i64 0, .slice none 0 0, .int .i64 0, .bool false]) := hbo ▸ Var.new wr [.int .i64 0, .string ⟨#[]⟩, .int .i64 0, .int .i64 0, .int .i64 0, .int .i64 0, .slice none 0 0, .int .i64 0, .bool false] 50
        have D0 : Hid (DS (wr.alloc (.cells #[.int .i64 0, .string ⟨#[]⟩, .int .i64 0, .int .i64 0, .int .i64 0, .int .i64 0, .slice none 0 0, .int .i64 0, .bool false] 50)) m (some t)) := D.out.later ((Only.refl [] wr).alloc _)
        have OO0 : Hid (Only [m] wr (wr.alloc (.cells #[.int .i64 0, .string ⟨#[]⟩, .int .i64 0, .int .i64 0, .int .i64 0, .int .i64 0, .slice none 0 0, .int .i64 0, .bool false] 50))) := (Only.refl _ wr).alloc _
        clear hts
        go_wp2_with fail
        clear hbo
        refine (KS.out _ _ D0.out).mono ?_
        rintro e w1 ⟨a0, q1, hst, hok, rfl, ho, hd⟩
        have H0 : Hid (Stp pNumber (some t) a0 q1) := hst
        have hv := V0.out.only ho (V0.out.lt (by simp)) (by have := HMB.out; simp; omega)
        have c0 := hv.1 0 _ rfl
        have f0 := hv.2 0
        have V1 : Hid (Var (w1.setCell ⟨bo, 0, none⟩ (.int .i64 a0)) bo [.int .i64 a0, .string ⟨#[]⟩, .int .i64 0, .int .i64 0, .int .i64 0, .int .i64 0, .slice none 0 0, .int .i64 0, .bool false]) := hv.set (k := 0) (by simp)
        have OO1 : Hid (Only [m] wr (w1.setCell ⟨bo, 0, none⟩ (.int .i64 a0))) := (OO0.out.seq ho).setCell (p := ⟨bo, 0, none⟩) (Or.inr (by rw [HBO.out]; exact Nat.le_refl _)) _
        have D1 : Hid (DS (w1.setCell ⟨bo, 0, none⟩ (.int .i64 a0)) m q1) := hd.only (setO _ _ _ _) (by have := HMB.out; simp; omega)
        clear hst ho hd hv hok V0 OO0 D0
        go_wp2_with fail
        refine (KT.out _ _ D1.out).mono ?_
        rintro e w2 ⟨a1, q2, hst, hok, rfl, ho, hd⟩
        have H1 : Hid (Stp pBytes q1 a1 q2) := hst
        have hv := V1.out.only ho (V1.out.lt (by simp)) (by have := HMB.out; simp; omega)
        have c1 := hv.1 1 _ rfl
        have f1 := hv.2 1
        have V2 : Hid (Var (w2.setCell ⟨bo, 1, none⟩ (.string a1)) bo [.int .i64 a0, .string a1, .int .i64 0, .int .i64 0, .int .i64 0, .int .i64 0, .slice none 0 0, .int .i64 0, .bool false]) := hv.set (k := 1) (by simp)
        have OO2 : Hid (Only [m] wr (w2.setCell ⟨bo, 1, none⟩ (.string a1))) := (OO1.out.seq ho).setCell (p := ⟨bo, 1, none⟩) (Or.inr (by rw [HBO.out]; exact Nat.le_refl _)) _
        have D2 : Hid (DS (w2.setCell ⟨bo, 1, none⟩ (.string a1)) m q2) := hd.only (setO _ _ _ _) (by have := HMB.out; simp; omega)
        clear hst ho hd hv hok V1 OO1 D1
        go_wp2_with fail
        refine (KS.out _ _ D2.out).mono ?_
        rintro e w3 ⟨a2, q3, hst, hok, rfl, ho, hd⟩
        have H2 : Hid (Stp pNumber q2 a2 q3) := hst
        have hv := V2.out.only ho (V2.out.lt (by simp)) (by have := HMB.out; simp; omega)
        have c2 := hv.1 2 _ rfl
        have f2 := hv.2 2
        have V3 : Hid (Var (w3.setCell ⟨bo, 2, none⟩ (.int .i64 a2)) bo [.int .i64 a0, .string a1, .int .i64 a2, .int .i64 0, .int .i64 0, .int .i64 0, .slice none 0 0, .int .i64 0, .bool false]) := hv.set (k := 2) (by simp)
        have OO3 : Hid (Only [m] wr (w3.setCell ⟨bo, 2, none⟩ (.int .i64 a2))) := (OO2.out.seq ho).setCell (p := ⟨bo, 2, none⟩) (Or.inr (by rw [HBO.out]; exact Nat.le_refl _)) _
        have D3 : Hid (DS (w3.setCell ⟨bo, 2, none⟩ (.int .i64 a2)) m q3) := hd.only (setO _ _ _ _) (by have := HMB.out; simp; omega)
        clear hst ho hd hv hok V2 OO2 D2
        go_wp2_with fail
        refine (KS.out _ _ D3.out).mono ?_
        rintro e w4 ⟨a3, q4, hst, hok, rfl, ho, hd⟩
        have H3 : Hid (Stp pNumber q3 a3 q4) := hst
        have hv := V3.out.only ho (V3.out.lt (by simp)) (by have := HMB.out; simp; omega)
        have c3 := hv.1 3 _ rfl
        have f3 := hv.2 3
        have V4 : Hid (Var (w4.setCell ⟨bo, 3, none⟩ (.int .i64 a3)) bo [.int .i64 a0, .string a1, .int .i64 a2, .int .i64 a3, .int .i64 0, .int .i64 0, .slice none 0 0, .int .i64 0, .bool false]) := hv.set (k := 3) (by simp)
        have OO4 : Hid (Only [m] wr (w4.setCell ⟨bo, 3, none⟩ (.int .i64 a3))) := (OO3.out.seq ho).setCell (p := ⟨bo, 3, none⟩) (Or.inr (by rw [HBO.out]; exact Nat.le_refl _)) _
        have D4 : Hid (DS (w4.setCell ⟨bo, 3, none⟩ (.int .i64 a3)) m q4) := hd.only (setO _ _ _ _) (by have := HMB.out; simp; omega)
        clear hst ho hd hv hok V3 OO3 D3
        go_wp2_with fail
        refine (KS.out _ _ D4.out).mono ?_
        rintro e w5 ⟨a4, q5, hst, hok, rfl, ho, hd⟩
        have H4 : Hid (Stp pNumber q4 a4 q5) := hst
        have hv := V4.out.only ho (V4.out.lt (by simp)) (by have := HMB.out; simp; omega)
        have c4 := hv.1 4 _ rfl
        have f4 := hv.2 4
        have V5 : Hid (Var (w5.setCell ⟨bo, 4, none⟩ (.int .i64 a4)) bo [.int .i64 a0, .string a1, .int .i64 a2, .int .i64 a3, .int .i64 a4, .int .i64 0, .slice none 0 0, .int .i64 0, .bool false]) := hv.set (k := 4) (by simp)
        have OO5 : Hid (Only [m] wr (w5.setCell ⟨bo, 4, none⟩ (.int .i64 a4))) := (OO4.out.seq ho).setCell (p := ⟨bo, 4, none⟩) (Or.inr (by rw [HBO.out]; exact Nat.le_refl _)) _
        have D5 : Hid (DS (w5.setCell ⟨bo, 4, none⟩ (.int .i64 a4)) m q5) := hd.only (setO _ _ _ _) (by have := HMB.out; simp; omega)
        clear hst ho hd hv hok V4 OO4 D4
        go_wp2_with fail
        refine (KS.out _ _ D5.out).mono ?_
        rintro e w6 ⟨a5, q6, hst, hok, rfl, ho, hd⟩
        have H5 : Hid (Stp pNumber q5 a5 q6) := hst
        have hv := V5.out.only ho (V5.out.lt (by simp)) (by have := HMB.out; simp; omega)
        have c5 := hv.1 5 _ rfl
        have f5 := hv.2 5
        have V6 : Hid (Var (w6.setCell ⟨bo, 5, none⟩ (.int .i64 a5)) bo [.int .i64 a0, .string a1, .int .i64 a2, .int .i64 a3, .int .i64 a4, .int .i64 a5, .slice none 0 0, .int .i64 0, .bool false]) := hv.set (k := 5) (by simp)
        have OO6 : Hid (Only [m] wr (w6.setCell ⟨bo, 5, none⟩ (.int .i64 a5))) := (OO5.out.seq ho).setCell (p := ⟨bo, 5, none⟩) (Or.inr (by rw [HBO.out]; exact Nat.le_refl _)) _
        have D6 : Hid (DS (w6.setCell ⟨bo, 5, none⟩ (.int .i64 a5)) m q6) := hd.only (setO _ _ _ _) (by have := HMB.out; simp; omega)
        clear hst ho hd hv hok V5 OO5 D5
        go_wp2_with fail
        refine (KI.out _ _ D6.out).mono ?_
        rintro e w7 ⟨many, q7, hst, hmany, rfl, ho, hd⟩
        have V7 : Hid (Var w7 bo [.int .i64 a0, .string a1, .int .i64 a2, .int .i64 a3, .int .i64 a4, .int .i64 a5, .slice none 0 0, .int .i64 0, .bool false]) := V6.out.only ho (V6.out.lt (by simp)) (by have := HMB.out; simp; omega)
        have O7 : Hid (Only [m] wr w7) := OO6.out.seq ho
        have D7 : Hid (DS w7 m q7) := hd
        have I7 : Hid (LInv pEntry (q6.bind (pList pEntry)) many [] q7) := LInv.startQ hst
        have HROW7 : Hid (w7.ownsRow (m + 1) 50 9 u6 j (rowOf rpC l)) := O7.out.owns HROW.out (fun b hb => by have := (HB6.out b hb).1; simp; omega)
        have HENS7 : Hid (∀ x ∈ l, EnOwn w7 (m + 1) x.2 x.1.L) := fun x hx => (HENS.out x hx).only O7.out (fun b hb => by have := (HBE.out x hx b hb).1; simp; omega)
        have OW7 : Hid (Only [] w w7) := only_old O.out O7.out (by simp; have := HM.out; omega)
        obtain ⟨B7, hB7⟩ : ∃ B7, w7.heap.size = B7 := ⟨_, rfl⟩
        have HB7 : Hid (w7.heap.size = B7) := hB7
        have HBS : Hid (bo < B7) := hB7 ▸ V7.out.lt (by simp)
        clear hB7
        clear hst ho hd V6 OO6 D6 O7 O D HROW HENS k0 k1 c0 c1 c2 c3 c4 c5 f0 f1 f2 f3 f4 f5
        go_wp2_with fail
        go_loopw [10] (fun i wr => ∃ (kk : Nat) (q : Option ByteArray) (le : List EnV) (vL : Value), kk ≤ many ∧ i = .int .i64 (kk : Nat) ∧ le.length = kk ∧ LInv pEntry (q6.bind (pList pEntry)) (many - kk) le q ∧ Only [m, bo] w7 wr ∧ DS wr m q ∧ Var wr bo [.int .i64 a0, .string a1, .int .i64 a2, .int .i64 a3, .int .i64 a4, .int .i64 a5, vL, .int .i64 0, .bool false] ∧ EnOwn wr B7 vL le) (fun i _ => many - (intOf i).toNat)
        case atStart => exact ⟨0, q7, [], .slice none 0 0, Nat.zero_le _, rfl, rfl, I7.out, Only.refl _ _, D7.out, V7.out, World.ownsRow_nil _ _ _ _⟩
        case round =>
          obtain ⟨kk, q, le, vL, hkk, rfl, hle, hi, ho, hd, hv, hen⟩ := hrel
          have HLE : Hid (le.length = kk) := hle
          have O8 : Hid (Only [m, bo] w7 wr) := ho
          have D8 : Hid (DS wr m q) := hd
          have V8 : Hid (Var wr bo [.int .i64 a0, .string a1, .int .i64 a2, .int .i64 a3, .int .i64 a4, .int .i64 a5, vL, .int .i64 0, .bool false]) := hv
          have EN8 : Hid (EnOwn wr B7 vL le) := hen
          have I8 : Hid (LInv pEntry (q6.bind (pList pEntry)) (many - kk) le q) := hi
          obtain ⟨adL, cpL, hvL⟩ := hen.form
          rw [hle] at hvL
          subst hvL
          clear hle hi ho hd hv hen
          cases q with
          | none =>
            obtain ⟨sx, k0, k1, _⟩ := D8.out.bads
            by_cases hlt2 : kk < many
            · have OX8a : Hid (Only [m, bo] wr wr) := Only.refl _ _
              have H6 : Hid (Stp (pList pEntry) q6 le none) := LInv.ends I8.out (Or.inl rfl)
              have OO8 : Hid (Only [m, bo] w7 wr) := O8.out
              go_wp2_with fail
              refine (KS.out _ _ D8.out).mono ?_
              rintro e w8 ⟨a7, q9, hst, hok, rfl, ho, hd⟩
              have H7 : Hid (Stp pNumber none a7 q9) := hst
              have hv := V8.out.only ho (V8.out.lt (by simp)) (by have := HMB.out; simp; omega)
              have c7 := hv.1 7 _ rfl
              have f7 := hv.2 7
              have V9 : Hid (Var (w8.setCell ⟨bo, 7, none⟩ (.int .i64 a7)) bo [.int .i64 a0, .string a1, .int .i64 a2, .int .i64 a3, .int .i64 a4, .int .i64 a5, .slice adL kk cpL, .int .i64 a7, .bool false]) := hv.set (k := 7) (by simp)
              have OO9 : Hid (Only [m, bo] w7 (w8.setCell ⟨bo, 7, none⟩ (.int .i64 a7))) := (OO8.out.seq (ho.mono (fun k hk => Or.inl (by simp at hk; simp [hk])))).setCell (p := ⟨bo, 7, none⟩) (Or.inl (by simp)) _
              have OX8b : Hid (Only [m, bo] wr (w8.setCell ⟨bo, 7, none⟩ (.int .i64 a7))) := (OX8a.out.seq (ho.mono (fun k hk => Or.inl (by simp at hk; simp [hk])))).setCell (p := ⟨bo, 7, none⟩) (Or.inl (by simp)) _
              have D9 : Hid (DS (w8.setCell ⟨bo, 7, none⟩ (.int .i64 a7)) m q9) := hd.only (setO _ _ _ _) (by have := HMB.out; simp; omega)
              clear hst ho hd hv hok V8 OO8 D8
              go_wp2_with fail
              refine (KF.out _ _ D9.out).mono ?_
              rintro e w9 ⟨a8, q10, hst, hok, rfl, ho, hd⟩
              have H8 : Hid (Stp pFlag q9 a8 q10) := hst
              have hv := V9.out.only ho (V9.out.lt (by simp)) (by have := HMB.out; simp; omega)
              have c8 := hv.1 8 _ rfl
              have f8 := hv.2 8
              have V10 : Hid (Var (w9.setCell ⟨bo, 8, none⟩ (.bool a8)) bo [.int .i64 a0, .string a1, .int .i64 a2, .int .i64 a3, .int .i64 a4, .int .i64 a5, .slice adL kk cpL, .int .i64 a7, .bool a8]) := hv.set (k := 8) (by simp)
              have OO10 : Hid (Only [m, bo] w7 (w9.setCell ⟨bo, 8, none⟩ (.bool a8))) := (OO9.out.seq (ho.mono (fun k hk => Or.inl (by simp at hk; simp [hk])))).setCell (p := ⟨bo, 8, none⟩) (Or.inl (by simp)) _
              have OX8 : Hid (Only [m, bo] wr (w9.setCell ⟨bo, 8, none⟩ (.bool a8))) := (OX8b.out.seq (ho.mono (fun k hk => Or.inl (by simp at hk; simp [hk])))).setCell (p := ⟨bo, 8, none⟩) (Or.inl (by simp)) _
              have D10 : Hid (DS (w9.setCell ⟨bo, 8, none⟩ (.bool a8)) m q10) := hd.only (setO _ _ _ _) (by have := HMB.out; simp; omega)
              have g0 := hv.1 0 _ rfl
              have g1 := hv.1 1 _ rfl
              have g2 := hv.1 2 _ rfl
              have g3 := hv.1 3 _ rfl
              have g4 := hv.1 4 _ rfl
              have g5 := hv.1 5 _ rfl
              have g6 := hv.1 6 _ rfl
              have g7 := hv.1 7 _ rfl
              clear hst ho hd hv hok V9 OO9 D9
              have HST : Hid (Stp pReply (some t) ⟨a0, a1, a2, a3, a4, a5, le, a7, a8⟩ q10) := rp_steps H0.out H1.out H2.out H3.out H4.out H5.out H6.out H7.out H8.out
              have I2 : Hid (LInv pReply pr (n - (j + 1)) (l.map Prod.fst ++ [(⟨a0, a1, a2, a3, a4, a5, le, a7, a8⟩ : RpV)]) q10) := LInv.step RX.out HST.out
              have HROW2 : Hid ((w9.setCell ⟨bo, 8, none⟩ (.bool a8)).ownsRow (m + 1) 50 9 u6 j (rowOf rpC l)) := OO10.out.owns HROW7.out (fun b hb => by have := HB6.out b hb; simp; omega)
              have HENS2 : Hid (∀ x ∈ l, EnOwn (w9.setCell ⟨bo, 8, none⟩ (.bool a8)) (m + 1) x.2 x.1.L) := fun x hx => (HENS7.out x hx).only OO10.out (fun b hb => by have := HBE.out x hx b hb; simp; omega)
              have HENL : Hid (EnOwn (w9.setCell ⟨bo, 8, none⟩ (.bool a8)) (m + 1) (.slice adL kk cpL) le) := own_low ((EN8.out.only OX8.out (fun b hb => by have := EN8.out.at_ hb; have := HBS.out; have := HMB.out; simp; omega))) (by have := HMB.out; have := HBS.out; omega)
              have HSZ : Hid (m + 1 ≤ (w9.setCell ⟨bo, 8, none⟩ (.bool a8)).heap.size) := by have := OO10.out.size; have := HBS.out; have := HB7.out; have := HMB.out; show _ ≤ _; omega
              clear c7 f7 H0 H1 H2 H3 H4 H5 H6 H7 H8 V10
              go_wp2_with (first
                | (at_builtin; refine wpList_append_lies _ rfl (.tmp 90) (.tmp 92) 45 rfl (m + 1) 50 i0 _ 9 96 srsUnd hi0 hz0 hz1 hz2 rfl (by decide) u6 j _ rfl (World.ownsRow.alloc HROW2.out _) ⟨w9.heap.size, 0, none⟩ 1 1 (rpC ((⟨a0, a1, a2, a3, a4, a5, le, a7, a8⟩ : RpV), Value.slice adL kk cpL)) rfl rfl (rp_news3 (⟨a0, a1, a2, a3, a4, a5, le, a7, a8⟩ : RpV) (.slice adL kk cpL) _ _ _) (rpC_one2 (⟨a0, a1, a2, a3, a4, a5, le, a7, a8⟩ : RpV) adL kk cpL) (by decide) (by unfold maxLen; omega) (by omega) (by rw [World.size_alloc]; have := HSZ.out; omega) (w9.heap.size + 1) (by simp) ?_; intro g5 c5 w5 hown5 hgr5 hat5 hlt5; have HV5 : Hid (w5.ownsRow (m + 1) 50 9 (.slice (some ⟨g5, 0, none⟩) (j + 1) c5) (l ++ [((⟨a0, a1, a2, a3, a4, a5, le, a7, a8⟩ : RpV), Value.slice adL kk cpL)]).length (rowOf rpC (l ++ [((⟨a0, a1, a2, a3, a4, a5, le, a7, a8⟩ : RpV), Value.slice adL kk cpL)]))) := row_snoc HL.out hown5; have HG5 : Hid (Only u6.ownBlock.toList (w9.setCell ⟨bo, 8, none⟩ (.bool a8)) w5) := grown_only hgr5 (fun b hb => Or.inl (by simp [hb])); clear hown5 hgr5 hat5 hlt5)
                | go_in)
              go_roundw
              case rel =>
                have hge : ∀ k ∈ u6.ownBlock.toList, m + 1 ≤ k := fun k hk => (own_at HROW2.out (by simpa using hk)).1
                have hne : ∀ (v : Value) (L : List EnV), EnOwn (w9.setCell ⟨bo, 8, none⟩ (.bool a8)) (m + 1) v L → ∀ b, v.ownBlock = some b → b ∉ u6.ownBlock.toList := fun v L he b hb hm => by
                  obtain ⟨_, _, _, h1⟩ := own_at he hb
                  obtain ⟨_, _, _, h2⟩ := own_at HROW2.out (by simpa using hm)
                  rw [h1] at h2
                  simp at h2
                have hens5 : ∀ x ∈ l ++ [((⟨a0, a1, a2, a3, a4, a5, le, a7, a8⟩ : RpV), Value.slice adL kk cpL)], EnOwn w5 (m + 1) x.2 x.1.L := fun x hx => by
                  rcases List.mem_append.1 hx with hx | hx
                  · exact (HENS2.out x hx).only HG5.out (hne _ _ (HENS2.out x hx))
                  · rw [List.mem_singleton.1 hx]
                    exact HENL.out.only HG5.out (hne _ _ HENL.out)
                exact ⟨j + 1, q10, l ++ [((⟨a0, a1, a2, a3, a4, a5, le, a7, a8⟩ : RpV), Value.slice adL kk cpL)], by omega, by go_num, by rw [List.length_append, HL.out]; rfl, by rw [List.map_append]; exact I2.out, only_old (only_old OW7.out OO10.out (by have := HMB.out; have := HM.out; simp; omega)) HG5.out (fun k hk => by have := hge k hk; have := HM.out; omega), D10.out.only HG5.out (fun hm => by have := hge _ hm; omega), HV5.out, hens5⟩
              case measure => simp [intOf]; omega
            · have OX8a : Hid (Only [m, bo] wr wr) := Only.refl _ _
              have H6 : Hid (Stp (pList pEntry) q6 le none) := LInv.ends I8.out (Or.inl rfl)
              have OO8 : Hid (Only [m, bo] w7 wr) := O8.out
              go_wp2_with fail
              refine (KS.out _ _ D8.out).mono ?_
              rintro e w8 ⟨a7, q9, hst, hok, rfl, ho, hd⟩
              have H7 : Hid (Stp pNumber none a7 q9) := hst
              have hv := V8.out.only ho (V8.out.lt (by simp)) (by have := HMB.out; simp; omega)
              have c7 := hv.1 7 _ rfl
              have f7 := hv.2 7
              have V9 : Hid (Var (w8.setCell ⟨bo, 7, none⟩ (.int .i64 a7)) bo [.int .i64 a0, .string a1, .int .i64 a2, .int .i64 a3, .int .i64 a4, .int .i64 a5, .slice adL kk cpL, .int .i64 a7, .bool false]) := hv.set (k := 7) (by simp)
              have OO9 : Hid (Only [m, bo] w7 (w8.setCell ⟨bo, 7, none⟩ (.int .i64 a7))) := (OO8.out.seq (ho.mono (fun k hk => Or.inl (by simp at hk; simp [hk])))).setCell (p := ⟨bo, 7, none⟩) (Or.inl (by simp)) _
              have OX8b : Hid (Only [m, bo] wr (w8.setCell ⟨bo, 7, none⟩ (.int .i64 a7))) := (OX8a.out.seq (ho.mono (fun k hk => Or.inl (by simp at hk; simp [hk])))).setCell (p := ⟨bo, 7, none⟩) (Or.inl (by simp)) _
              have D9 : Hid (DS (w8.setCell ⟨bo, 7, none⟩ (.int .i64 a7)) m q9) := hd.only (setO _ _ _ _) (by have := HMB.out; simp; omega)
              clear hst ho hd hv hok V8 OO8 D8
              go_wp2_with fail
              refine (KF.out _ _ D9.out).mono ?_
              rintro e w9 ⟨a8, q10, hst, hok, rfl, ho, hd⟩
              have H8 : Hid (Stp pFlag q9 a8 q10) := hst
              have hv := V9.out.only ho (V9.out.lt (by simp)) (by have := HMB.out; simp; omega)
              have c8 := hv.1 8 _ rfl
              have f8 := hv.2 8
              have V10 : Hid (Var (w9.setCell ⟨bo, 8, none⟩ (.bool a8)) bo [.int .i64 a0, .string a1, .int .i64 a2, .int .i64 a3, .int .i64 a4, .int .i64 a5, .slice adL kk cpL, .int .i64 a7, .bool a8]) := hv.set (k := 8) (by simp)
              have OO10 : Hid (Only [m, bo] w7 (w9.setCell ⟨bo, 8, none⟩ (.bool a8))) := (OO9.out.seq (ho.mono (fun k hk => Or.inl (by simp at hk; simp [hk])))).setCell (p := ⟨bo, 8, none⟩) (Or.inl (by simp)) _
              have OX8 : Hid (Only [m, bo] wr (w9.setCell ⟨bo, 8, none⟩ (.bool a8))) := (OX8b.out.seq (ho.mono (fun k hk => Or.inl (by simp at hk; simp [hk])))).setCell (p := ⟨bo, 8, none⟩) (Or.inl (by simp)) _
              have D10 : Hid (DS (w9.setCell ⟨bo, 8, none⟩ (.bool a8)) m q10) := hd.only (setO _ _ _ _) (by have := HMB.out; simp; omega)
              have g0 := hv.1 0 _ rfl
              have g1 := hv.1 1 _ rfl
              have g2 := hv.1 2 _ rfl
              have g3 := hv.1 3 _ rfl
              have g4 := hv.1 4 _ rfl
              have g5 := hv.1 5 _ rfl
              have g6 := hv.1 6 _ rfl
              have g7 := hv.1 7 _ rfl
              clear hst ho hd hv hok V9 OO9 D9
              have HST : Hid (Stp pReply (some t) ⟨a0, a1, a2, a3, a4, a5, le, a7, a8⟩ q10) := rp_steps H0.out H1.out H2.out H3.out H4.out H5.out H6.out H7.out H8.out
              have I2 : Hid (LInv pReply pr (n - (j + 1)) (l.map Prod.fst ++ [(⟨a0, a1, a2, a3, a4, a5, le, a7, a8⟩ : RpV)]) q10) := LInv.step RX.out HST.out
              have HROW2 : Hid ((w9.setCell ⟨bo, 8, none⟩ (.bool a8)).ownsRow (m + 1) 50 9 u6 j (rowOf rpC l)) := OO10.out.owns HROW7.out (fun b hb => by have := HB6.out b hb; simp; omega)
              have HENS2 : Hid (∀ x ∈ l, EnOwn (w9.setCell ⟨bo, 8, none⟩ (.bool a8)) (m + 1) x.2 x.1.L) := fun x hx => (HENS7.out x hx).only OO10.out (fun b hb => by have := HBE.out x hx b hb; simp; omega)
              have HENL : Hid (EnOwn (w9.setCell ⟨bo, 8, none⟩ (.bool a8)) (m + 1) (.slice adL kk cpL) le) := own_low ((EN8.out.only OX8.out (fun b hb => by have := EN8.out.at_ hb; have := HBS.out; have := HMB.out; simp; omega))) (by have := HMB.out; have := HBS.out; omega)
              have HSZ : Hid (m + 1 ≤ (w9.setCell ⟨bo, 8, none⟩ (.bool a8)).heap.size) := by have := OO10.out.size; have := HBS.out; have := HB7.out; have := HMB.out; show _ ≤ _; omega
              clear c7 f7 H0 H1 H2 H3 H4 H5 H6 H7 H8 V10
              go_wp2_with (first
                | (at_builtin; refine wpList_append_lies _ rfl (.tmp 90) (.tmp 92) 45 rfl (m + 1) 50 i0 _ 9 96 srsUnd hi0 hz0 hz1 hz2 rfl (by decide) u6 j _ rfl (World.ownsRow.alloc HROW2.out _) ⟨w9.heap.size, 0, none⟩ 1 1 (rpC ((⟨a0, a1, a2, a3, a4, a5, le, a7, a8⟩ : RpV), Value.slice adL kk cpL)) rfl rfl (rp_news3 (⟨a0, a1, a2, a3, a4, a5, le, a7, a8⟩ : RpV) (.slice adL kk cpL) _ _ _) (rpC_one2 (⟨a0, a1, a2, a3, a4, a5, le, a7, a8⟩ : RpV) adL kk cpL) (by decide) (by unfold maxLen; omega) (by omega) (by rw [World.size_alloc]; have := HSZ.out; omega) (w9.heap.size + 1) (by simp) ?_; intro g5 c5 w5 hown5 hgr5 hat5 hlt5; have HV5 : Hid (w5.ownsRow (m + 1) 50 9 (.slice (some ⟨g5, 0, none⟩) (j + 1) c5) (l ++ [((⟨a0, a1, a2, a3, a4, a5, le, a7, a8⟩ : RpV), Value.slice adL kk cpL)]).length (rowOf rpC (l ++ [((⟨a0, a1, a2, a3, a4, a5, le, a7, a8⟩ : RpV), Value.slice adL kk cpL)]))) := row_snoc HL.out hown5; have HG5 : Hid (Only u6.ownBlock.toList (w9.setCell ⟨bo, 8, none⟩ (.bool a8)) w5) := grown_only hgr5 (fun b hb => Or.inl (by simp [hb])); clear hown5 hgr5 hat5 hlt5)
                | go_in)
              go_roundw
              case rel =>
                have hge : ∀ k ∈ u6.ownBlock.toList, m + 1 ≤ k := fun k hk => (own_at HROW2.out (by simpa using hk)).1
                have hne : ∀ (v : Value) (L : List EnV), EnOwn (w9.setCell ⟨bo, 8, none⟩ (.bool a8)) (m + 1) v L → ∀ b, v.ownBlock = some b → b ∉ u6.ownBlock.toList := fun v L he b hb hm => by
                  obtain ⟨_, _, _, h1⟩ := own_at he hb
                  obtain ⟨_, _, _, h2⟩ := own_at HROW2.out (by simpa using hm)
                  rw [h1] at h2
                  simp at h2
                have hens5 : ∀ x ∈ l ++ [((⟨a0, a1, a2, a3, a4, a5, le, a7, a8⟩ : RpV), Value.slice adL kk cpL)], EnOwn w5 (m + 1) x.2 x.1.L := fun x hx => by
                  rcases List.mem_append.1 hx with hx | hx
                  · exact (HENS2.out x hx).only HG5.out (hne _ _ (HENS2.out x hx))
                  · rw [List.mem_singleton.1 hx]
                    exact HENL.out.only HG5.out (hne _ _ HENL.out)
                exact ⟨j + 1, q10, l ++ [((⟨a0, a1, a2, a3, a4, a5, le, a7, a8⟩ : RpV), Value.slice adL kk cpL)], by omega, by go_num, by rw [List.length_append, HL.out]; rfl, by rw [List.map_append]; exact I2.out, only_old (only_old OW7.out OO10.out (by have := HMB.out; have := HM.out; simp; omega)) HG5.out (fun k hk => by have := hge k hk; have := HM.out; omega), D10.out.only HG5.out (fun hm => by have := hge _ hm; omega), HV5.out, hens5⟩
              case measure => simp [intOf]; omega
          | some t8 =>
            obtain ⟨k0, k1, _⟩ := D8.out.good
            by_cases hlt2 : kk < many
            · have IX : Hid ((q6.bind (pList pEntry)) = contP le (pTimes pEntry (many - (kk + 1) + 1) t8)) := by
                rcases I8.out with ⟨t', h, h2⟩ | ⟨h, _⟩
                · cases h
                  rw [show many - kk = many - (kk + 1) + 1 by omega] at h2
                  exact h2
                · cases h
              obtain ⟨be, hbe⟩ : ∃ be, wr.heap.size = be := ⟨_, rfl⟩
              have HBEE : Hid (wr.heap.size = be) := hbe
              have HBEM : Hid (m < be ∧ bo < be) := ⟨hbe ▸ D8.out.lt, hbe ▸ V8.out.lt (by simp)⟩
              have EV0 : Hid (Var (wr.alloc (.cells #[.string ⟨#[]⟩, .int .i64 0, .int .i64 0] 52)) be [.string ⟨#[]⟩, .int .i64 0, .int .i64 0]) := hbe ▸ Var.new wr [.string ⟨#[]⟩, .int .i64 0, .int .i64 0] 52
              have ED0 : Hid (DS (wr.alloc (.cells #[.string ⟨#[]⟩, .int .i64 0, .int .i64 0] 52)) m (some t8)) := D8.out.later ((Only.refl [] wr).alloc _)
              have EO0 : Hid (Only [m] wr (wr.alloc (.cells #[.string ⟨#[]⟩, .int .i64 0, .int .i64 0] 52))) := (Only.refl _ wr).alloc _
              clear I8
              go_wp2_with fail
              clear hbe
              refine (KT.out _ _ ED0.out).mono ?_
              rintro e x1 ⟨b0, r1, hst, hok, rfl, ho, hd⟩
              have J0 : Hid (Stp pBytes (some t8) b0 r1) := hst
              have hv := EV0.out.only ho (EV0.out.lt (by simp)) (by have := HBEM.out; simp; omega)
              have ce0 := hv.1 0 _ rfl
              have fe0 := hv.2 0
              have EV1 : Hid (Var (x1.setCell ⟨be, 0, none⟩ (.string b0)) be [.string b0, .int .i64 0, .int .i64 0]) := hv.set (k := 0) (by simp)
              have EO1 : Hid (Only [m] wr (x1.setCell ⟨be, 0, none⟩ (.string b0))) := (EO0.out.seq ho).setCell (p := ⟨be, 0, none⟩) (Or.inr (by rw [HBEE.out]; exact Nat.le_refl _)) _
              have ED1 : Hid (DS (x1.setCell ⟨be, 0, none⟩ (.string b0)) m r1) := hd.only (setO _ _ _ _) (by have := HBEM.out; simp; omega)
              clear hst ho hd hv hok EV0 EO0 ED0
              go_wp2_with fail
              refine (KS.out _ _ ED1.out).mono ?_
              rintro e x2 ⟨b1, r2, hst, hok, rfl, ho, hd⟩
              have J1 : Hid (Stp pNumber r1 b1 r2) := hst
              have hv := EV1.out.only ho (EV1.out.lt (by simp)) (by have := HBEM.out; simp; omega)
              have ce1 := hv.1 1 _ rfl
              have fe1 := hv.2 1
              have EV2 : Hid (Var (x2.setCell ⟨be, 1, none⟩ (.int .i64 b1)) be [.string b0, .int .i64 b1, .int .i64 0]) := hv.set (k := 1) (by simp)
              have EO2 : Hid (Only [m] wr (x2.setCell ⟨be, 1, none⟩ (.int .i64 b1))) := (EO1.out.seq ho).setCell (p := ⟨be, 1, none⟩) (Or.inr (by rw [HBEE.out]; exact Nat.le_refl _)) _
              have ED2 : Hid (DS (x2.setCell ⟨be, 1, none⟩ (.int .i64 b1)) m r2) := hd.only (setO _ _ _ _) (by have := HBEM.out; simp; omega)
              clear hst ho hd hv hok EV1 EO1 ED1
              go_wp2_with fail
              refine (KS.out _ _ ED2.out).mono ?_
              rintro e x3 ⟨b2, r3, hst, hok, rfl, ho, hd⟩
              have J2 : Hid (Stp pNumber r2 b2 r3) := hst
              have hv := EV2.out.only ho (EV2.out.lt (by simp)) (by have := HBEM.out; simp; omega)
              have ce2 := hv.1 2 _ rfl
              have fe2 := hv.2 2
              have EV3 : Hid (Var (x3.setCell ⟨be, 2, none⟩ (.int .i64 b2)) be [.string b0, .int .i64 b1, .int .i64 b2]) := hv.set (k := 2) (by simp)
              have EO3 : Hid (Only [m] wr (x3.setCell ⟨be, 2, none⟩ (.int .i64 b2))) := (EO2.out.seq ho).setCell (p := ⟨be, 2, none⟩) (Or.inr (by rw [HBEE.out]; exact Nat.le_refl _)) _
              have ED3 : Hid (DS (x3.setCell ⟨be, 2, none⟩ (.int .i64 b2)) m r3) := hd.only (setO _ _ _ _) (by have := HBEM.out; simp; omega)
              have ge0 := hv.1 0 _ rfl
              have ge1 := hv.1 1 _ rfl
              clear hst ho hd hv hok EV2 EO2 ED2
              have HSTE : Hid (Stp pEntry (some t8) ⟨b0, b1, b2⟩ r3) := en_steps J0.out J1.out J2.out
              have IE : Hid (LInv pEntry (q6.bind (pList pEntry)) (many - (kk + 1)) (le ++ [(⟨b0, b1, b2⟩ : EnV)]) r3) := LInv.step IX.out HSTE.out
              have hvb := V8.out.only EO3.out (V8.out.lt (by simp)) (by have := HMB.out; simp; omega)
              have cb6 := hvb.1 6 _ rfl
              have HVB : Hid (Var (x3.setCell ⟨be, 2, none⟩ (.int .i64 b2)) bo [.int .i64 a0, .string a1, .int .i64 a2, .int .i64 a3, .int .i64 a4, .int .i64 a5, .slice adL kk cpL, .int .i64 0, .bool false]) := hvb
              have HROWE : Hid ((x3.setCell ⟨be, 2, none⟩ (.int .i64 b2)).ownsRow B7 52 3 (.slice adL kk cpL) kk (rowOf enC le)) := by
                have h1 : EnOwn (x3.setCell ⟨be, 2, none⟩ (.int .i64 b2)) B7 (.slice adL kk cpL) le := EN8.out.only EO3.out (fun b hb => by have := EN8.out.at_ hb; have := HBS.out; have := HMB.out; simp; omega)
                have h2 : (x3.setCell ⟨be, 2, none⟩ (.int .i64 b2)).ownsRow B7 52 3 (.slice adL kk cpL) le.length (rowOf enC le) := h1
                rw [HLE.out] at h2
                exact h2
              have HSZE : Hid (B7 ≤ (x3.setCell ⟨be, 2, none⟩ (.int .i64 b2)).heap.size) := by have := EO3.out.size; have := O8.out.size; have := HB7.out; show _ ≤ _; omega
              clear J0 J1 J2 ce0 ce1 k0 k1 hvb
              go_wp2_with (first
                | (at_builtin; refine wpList_append_lies _ rfl (.tmp 79) (.tmp 81) 48 rfl B7 52 ie _ 3 32 ensUnd hie hy0 hy1 hy2 rfl (by decide) (.slice adL kk cpL) kk _ rfl (World.ownsRow.alloc HROWE.out _) ⟨x3.heap.size, 0, none⟩ 1 1 (enC (⟨b0, b1, b2⟩ : EnV)) rfl rfl (en_news2 (⟨b0, b1, b2⟩ : EnV) _ _ _) (enC_one (⟨b0, b1, b2⟩ : EnV)) (by decide) (by unfold maxLen; omega) (by omega) (by rw [World.size_alloc]; have := HSZE.out; omega) (x3.heap.size + 1) (by simp) ?_; intro g5 c5 w5 hown5 hgr5 hat5 hlt5; have HVE : Hid (EnOwn w5 B7 (.slice (some ⟨g5, 0, none⟩) (kk + 1) c5) (le ++ [(⟨b0, b1, b2⟩ : EnV)])) := row_snoc HLE.out hown5; have HGE : Hid (Only (Value.slice adL kk cpL).ownBlock.toList (x3.setCell ⟨be, 2, none⟩ (.int .i64 b2)) w5) := grown_only hgr5 (fun b hb => Or.inl (by simp [hb])); have hnb : bo ∉ (Value.slice adL kk cpL).ownBlock.toList := fun hm => (by have := (own_at HROWE.out (by simpa using hm)).1; have := HBS.out; omega); have hvb5 := HVB.out.only HGE.out (HVB.out.lt (by simp)) hnb; have cb5 := hvb5.1 6 _ rfl; have fb5 := hvb5.2 6; have HVB5 : Hid (Var (w5.setCell ⟨bo, 6, none⟩ (.slice (some ⟨g5, 0, none⟩) (kk + 1) c5)) bo [.int .i64 a0, .string a1, .int .i64 a2, .int .i64 a3, .int .i64 a4, .int .i64 a5, .slice (some ⟨g5, 0, none⟩) (kk + 1) c5, .int .i64 0, .bool false]) := hvb5.set (k := 6) (by simp); clear hown5 hgr5 hat5 hlt5 hvb5)
                | go_in)
              go_roundw
              case rel =>
                have hge : ∀ k ∈ (Value.slice adL kk cpL).ownBlock.toList, B7 ≤ k := fun k hk => (own_at HROWE.out (by simpa using hk)).1
                have oset : Only [bo] w5 (w5.setCell ⟨bo, 6, none⟩ (.slice (some ⟨g5, 0, none⟩) (kk + 1) c5)) := setO _ _ _ _
                refine ⟨kk + 1, r3, le ++ [(⟨b0, b1, b2⟩ : EnV)], _, by omega, by go_num, by rw [List.length_append, HLE.out]; rfl, IE.out, ?_, (ED3.out.only HGE.out (fun hm => by have := hge _ hm; have := HMB.out; have := HBS.out; omega)).only oset (by have := HMB.out; simp; omega), HVB5.out, HVE.out.only oset (fun b hb => by have := HVE.out.at_ hb; have := HBS.out; simp; omega)⟩
                have h1 : Only [m, bo] w7 (x3.setCell ⟨be, 2, none⟩ (.int .i64 b2)) := O8.out.seq (EO3.out.mono (fun k hk => Or.inl (by simp at hk; simp [hk])))
                have h2 : Only [m, bo] w7 w5 := h1.trans HGE.out (fun k hk => Or.inr (by have := hge k hk; have := HB7.out; omega))
                exact h2.seq (oset.mono (fun k hk => Or.inl (by simp at hk; simp [hk])))
              case measure => simp [intOf]; omega
            · obtain rfl : kk = many := by omega
              have OX8a : Hid (Only [m, bo] wr wr) := Only.refl _ _
              have H6 : Hid (Stp (pList pEntry) q6 le (some t8)) := LInv.ends (m := 0) (by have := I8.out; rw [Nat.sub_self] at this; exact this) (Or.inr rfl)
              have OO8 : Hid (Only [m, bo] w7 wr) := O8.out
              go_wp2_with fail
              refine (KS.out _ _ D8.out).mono ?_
              rintro e w8 ⟨a7, q9, hst, hok, rfl, ho, hd⟩
              have H7 : Hid (Stp pNumber (some t8) a7 q9) := hst
              have hv := V8.out.only ho (V8.out.lt (by simp)) (by have := HMB.out; simp; omega)
              have c7 := hv.1 7 _ rfl
              have f7 := hv.2 7
              have V9 : Hid (Var (w8.setCell ⟨bo, 7, none⟩ (.int .i64 a7)) bo [.int .i64 a0, .string a1, .int .i64 a2, .int .i64 a3, .int .i64 a4, .int .i64 a5, .slice adL kk cpL, .int .i64 a7, .bool false]) := hv.set (k := 7) (by simp)
              have OO9 : Hid (Only [m, bo] w7 (w8.setCell ⟨bo, 7, none⟩ (.int .i64 a7))) := (OO8.out.seq (ho.mono (fun k hk => Or.inl (by simp at hk; simp [hk])))).setCell (p := ⟨bo, 7, none⟩) (Or.inl (by simp)) _
              have OX8b : Hid (Only [m, bo] wr (w8.setCell ⟨bo, 7, none⟩ (.int .i64 a7))) := (OX8a.out.seq (ho.mono (fun k hk => Or.inl (by simp at hk; simp [hk])))).setCell (p := ⟨bo, 7, none⟩) (Or.inl (by simp)) _
              have D9 : Hid (DS (w8.setCell ⟨bo, 7, none⟩ (.int .i64 a7)) m q9) := hd.only (setO _ _ _ _) (by have := HMB.out; simp; omega)
              clear hst ho hd hv hok V8 OO8 D8
              go_wp2_with fail
              refine (KF.out _ _ D9.out).mono ?_
              rintro e w9 ⟨a8, q10, hst, hok, rfl, ho, hd⟩
              have H8 : Hid (Stp pFlag q9 a8 q10) := hst
              have hv := V9.out.only ho (V9.out.lt (by simp)) (by have := HMB.out; simp; omega)
              have c8 := hv.1 8 _ rfl
              have f8 := hv.2 8
              have V10 : Hid (Var (w9.setCell ⟨bo, 8, none⟩ (.bool a8)) bo [.int .i64 a0, .string a1, .int .i64 a2, .int .i64 a3, .int .i64 a4, .int .i64 a5, .slice adL kk cpL, .int .i64 a7, .bool a8]) := hv.set (k := 8) (by simp)
              have OO10 : Hid (Only [m, bo] w7 (w9.setCell ⟨bo, 8, none⟩ (.bool a8))) := (OO9.out.seq (ho.mono (fun k hk => Or.inl (by simp at hk; simp [hk])))).setCell (p := ⟨bo, 8, none⟩) (Or.inl (by simp)) _
              have OX8 : Hid (Only [m, bo] wr (w9.setCell ⟨bo, 8, none⟩ (.bool a8))) := (OX8b.out.seq (ho.mono (fun k hk => Or.inl (by simp at hk; simp [hk])))).setCell (p := ⟨bo, 8, none⟩) (Or.inl (by simp)) _
              have D10 : Hid (DS (w9.setCell ⟨bo, 8, none⟩ (.bool a8)) m q10) := hd.only (setO _ _ _ _) (by have := HMB.out; simp; omega)
              have g0 := hv.1 0 _ rfl
              have g1 := hv.1 1 _ rfl
              have g2 := hv.1 2 _ rfl
              have g3 := hv.1 3 _ rfl
              have g4 := hv.1 4 _ rfl
              have g5 := hv.1 5 _ rfl
              have g6 := hv.1 6 _ rfl
              have g7 := hv.1 7 _ rfl
              clear hst ho hd hv hok V9 OO9 D9
              have HST : Hid (Stp pReply (some t) ⟨a0, a1, a2, a3, a4, a5, le, a7, a8⟩ q10) := rp_steps H0.out H1.out H2.out H3.out H4.out H5.out H6.out H7.out H8.out
              have I2 : Hid (LInv pReply pr (n - (j + 1)) (l.map Prod.fst ++ [(⟨a0, a1, a2, a3, a4, a5, le, a7, a8⟩ : RpV)]) q10) := LInv.step RX.out HST.out
              have HROW2 : Hid ((w9.setCell ⟨bo, 8, none⟩ (.bool a8)).ownsRow (m + 1) 50 9 u6 j (rowOf rpC l)) := OO10.out.owns HROW7.out (fun b hb => by have := HB6.out b hb; simp; omega)
              have HENS2 : Hid (∀ x ∈ l, EnOwn (w9.setCell ⟨bo, 8, none⟩ (.bool a8)) (m + 1) x.2 x.1.L) := fun x hx => (HENS7.out x hx).only OO10.out (fun b hb => by have := HBE.out x hx b hb; simp; omega)
              have HENL : Hid (EnOwn (w9.setCell ⟨bo, 8, none⟩ (.bool a8)) (m + 1) (.slice adL kk cpL) le) := own_low ((EN8.out.only OX8.out (fun b hb => by have := EN8.out.at_ hb; have := HBS.out; have := HMB.out; simp; omega))) (by have := HMB.out; have := HBS.out; omega)
              have HSZ : Hid (m + 1 ≤ (w9.setCell ⟨bo, 8, none⟩ (.bool a8)).heap.size) := by have := OO10.out.size; have := HBS.out; have := HB7.out; have := HMB.out; show _ ≤ _; omega
              clear c7 f7 H0 H1 H2 H3 H4 H5 H6 H7 H8 V10
              go_wp2_with (first
                | (at_builtin; refine wpList_append_lies _ rfl (.tmp 90) (.tmp 92) 45 rfl (m + 1) 50 i0 _ 9 96 srsUnd hi0 hz0 hz1 hz2 rfl (by decide) u6 j _ rfl (World.ownsRow.alloc HROW2.out _) ⟨w9.heap.size, 0, none⟩ 1 1 (rpC ((⟨a0, a1, a2, a3, a4, a5, le, a7, a8⟩ : RpV), Value.slice adL kk cpL)) rfl rfl (rp_news3 (⟨a0, a1, a2, a3, a4, a5, le, a7, a8⟩ : RpV) (.slice adL kk cpL) _ _ _) (rpC_one2 (⟨a0, a1, a2, a3, a4, a5, le, a7, a8⟩ : RpV) adL kk cpL) (by decide) (by unfold maxLen; omega) (by omega) (by rw [World.size_alloc]; have := HSZ.out; omega) (w9.heap.size + 1) (by simp) ?_; intro g5 c5 w5 hown5 hgr5 hat5 hlt5; have HV5 : Hid (w5.ownsRow (m + 1) 50 9 (.slice (some ⟨g5, 0, none⟩) (j + 1) c5) (l ++ [((⟨a0, a1, a2, a3, a4, a5, le, a7, a8⟩ : RpV), Value.slice adL kk cpL)]).length (rowOf rpC (l ++ [((⟨a0, a1, a2, a3, a4, a5, le, a7, a8⟩ : RpV), Value.slice adL kk cpL)]))) := row_snoc HL.out hown5; have HG5 : Hid (Only u6.ownBlock.toList (w9.setCell ⟨bo, 8, none⟩ (.bool a8)) w5) := grown_only hgr5 (fun b hb => Or.inl (by simp [hb])); clear hown5 hgr5 hat5 hlt5)
                | go_in)
              go_roundw
              case rel =>
                have hge : ∀ k ∈ u6.ownBlock.toList, m + 1 ≤ k := fun k hk => (own_at HROW2.out (by simpa using hk)).1
                have hne : ∀ (v : Value) (L : List EnV), EnOwn (w9.setCell ⟨bo, 8, none⟩ (.bool a8)) (m + 1) v L → ∀ b, v.ownBlock = some b → b ∉ u6.ownBlock.toList := fun v L he b hb hm => by
                  obtain ⟨_, _, _, h1⟩ := own_at he hb
                  obtain ⟨_, _, _, h2⟩ := own_at HROW2.out (by simpa using hm)
                  rw [h1] at h2
                  simp at h2
                have hens5 : ∀ x ∈ l ++ [((⟨a0, a1, a2, a3, a4, a5, le, a7, a8⟩ : RpV), Value.slice adL kk cpL)], EnOwn w5 (m + 1) x.2 x.1.L := fun x hx => by
                  rcases List.mem_append.1 hx with hx | hx
                  · exact (HENS2.out x hx).only HG5.out (hne _ _ (HENS2.out x hx))
                  · rw [List.mem_singleton.1 hx]
                    exact HENL.out.only HG5.out (hne _ _ HENL.out)
                exact ⟨j + 1, q10, l ++ [((⟨a0, a1, a2, a3, a4, a5, le, a7, a8⟩ : RpV), Value.slice adL kk cpL)], by omega, by go_num, by rw [List.length_append, HL.out]; rfl, by rw [List.map_append]; exact I2.out, only_old (only_old OW7.out OO10.out (by have := HMB.out; have := HM.out; simp; omega)) HG5.out (fun k hk => by have := hge k hk; have := HM.out; omega), D10.out.only HG5.out (fun hm => by have := hge _ hm; omega), HV5.out, hens5⟩
              case measure => simp [intOf]; omega
      · obtain rfl : n = j := by omega
        have R2 : Hid (pList pReply s = some (l.map Prod.fst, t)) := by
          have := R.out
          rw [Nat.sub_self, contP_end] at this
          exact HP.out.trans this
        have HFIN : Hid (SRpsOwn wr w.heap.size u6 (l.map Prod.fst)) := ⟨l, rfl, by rw [HL.out]; exact own_low HROW.out (by have := HM.out; omega), fun x hx => own_low (HENS.out x hx) (by have := HM.out; omega)⟩
        clear R
        by_cases h0 : t.size = 0
        · have HB : Hid (pAll pReply s = some (l.map Prod.fst)) := pAll_some R2.out h0
          have k0' : wr.cell? ⟨m, 0, none⟩ = some (.string ⟨#[]⟩) := by
            rw [nil_of_size h0] at k0
            exact k0
          clear k0 R2 h0
          go_wp2_with fail
          go_big_quiet (fail)
          go_wp2
          go_ret2
          exact ⟨⟨_, rfl, Or.inr ⟨_, _, HB.out, rfl, by
            obtain ⟨mm, e1, e2, e3⟩ := HFIN.out
            exact ⟨mm, e1, (Only.refl [] wr).drewsN _ |>.owns e2 (fun _ _ => by simp), fun x hx => (e3 x hx).only ((Only.refl [] wr).drewsN _) (fun _ _ => by simp)⟩⟩⟩, O.out.drewsN _⟩
        · have HB : Hid (pAll pReply s = none) := pAll_more R2.out h0
          have hne : t.toList.isEmpty = false := not_empty (by omega)
          clear R2
          go_wp2_with fail
          go_big_quiet (fail)
          go_wp2
          go_ret2
          exact ⟨⟨_, rfl, Or.inl ⟨HB.out, _, rfl⟩⟩, O.out.drewsN _⟩
end Go.Proofs.YtkopiffnkbjbiaaDoor
