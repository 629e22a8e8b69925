/- Compounds on the wire: replies read. -/
import Derived.Test.YtkopiffnkbjbiaaDoorWi9
import Derived.Test.YtkopiffnkbjbiaaDoorWi5
namespace Go.Proofs.YtkopiffnkbjbiaaDoor
open Go Go.RowKit Go.Deep

/-- A reply's entries lie in a row of their own. -/
def EnOwn (w : World) (base : Nat) (v : Value) (L : List EnV) : Prop := w.ownsRow base 52 3 v L.length (rowOf enC L)
theorem EnOwn.only {w w' : World} {base : Nat} {v : Value} {L : List EnV} {K : List Nat} (h : EnOwn w base v L) (ho : Only K w w') (hn : ∀ k, v.ownBlock = some k → k ∉ K) : EnOwn w' base v L := ho.owns h hn
theorem EnOwn.at_ {w : World} {base b : Nat} {v : Value} {L : List EnV} (h : EnOwn w base v L) (hb : v.ownBlock = some b) : base ≤ b := (own_at h hb).1
theorem EnOwn.form {w : World} {base : Nat} {v : Value} {L : List EnV} (h : EnOwn w base v L) : ∃ ad cap, v = .slice ad L.length cap := by
  obtain ⟨ad, cap, e, _⟩ := own_rws (B := w.heap.size) h enC_len (Nat.le_refl _)
  exact ⟨ad, cap, e⟩
theorem EnOwn.rpIn {w : World} {base : Nat} {p : RpV × Value} (h : EnOwn w base p.2 p.1.L) : RpIn w w.heap.size p := own_rws h enC_len (Nat.le_refl _)
def QEnd (A : Nat → Addr) (rb xb : Nat) (w : World) (t : ByteArray) (e : Ending) (w' : World) : Prop :=
  (∃ a t' v, pReply t = some (a, t') ∧ e = .returned (.agg #[.int .i64 a.c, .string a.T, .int .i64 a.x1, .int .i64 a.x2, .int .i64 a.x3, .int .i64 a.x4, v, .int .i64 a.n, .bool a.e]) ∧ Only [xb] w w' ∧ RS w' A rb xb t' ∧ EnOwn w' w.heap.size v a.L) ∨ (pReply t = none ∧ e = .panicked (thr (eV A 0)) ∧ Only [xb] w w')
set_option maxHeartbeats 2000000 in
theorem rReply (A : Nat → Addr) (rb xb : Nat) (t : ByteArray) (w : World) (h : RS w A rb xb t) : Calls Tryd.prog 39 #[P0 rb] w (QEnd A rb xb w t) := by
  have HH : Hid (RS w A rb xb t) := h
  have hlt := h.lt
  have HX : Hid (xb < w.heap.size) := hlt
  have HN : Hid (w.heap.size ∉ [xb]) := by show _ ∉ _; simp; omega
  have V0 : Hid (Var (w.alloc (.cells #[.int .i64 0, .string ⟨#[]⟩, .int .i64 0, .int .i64 0, .int .i64 0, .int .i64 0, .slice none 0 0, .int .i64 0, .bool false] 89)) w.heap.size [.int .i64 0, .string ⟨#[]⟩, .int .i64 0, .int .i64 0, .int .i64 0, .int .i64 0, .slice none 0 0, .int .i64 0, .bool false]) := Var.new w [.int .i64 0, .string ⟨#[]⟩, .int .i64 0, .int .i64 0, .int .i64 0, .int .i64 0, .slice none 0 0, .int .i64 0, .bool false] 89
  have S0 : Hid (RS (w.alloc (.cells #[.int .i64 0, .string ⟨#[]⟩, .int .i64 0, .int .i64 0, .int .i64 0, .int .i64 0, .slice none 0 0, .int .i64 0, .bool false] 89)) A rb xb t) := h.later ((Only.refl [] w).alloc _)
  have O0 : Hid (Only [xb] w (w.alloc (.cells #[.int .i64 0, .string ⟨#[]⟩, .int .i64 0, .int .i64 0, .int .i64 0, .int .i64 0, .slice none 0 0, .int .i64 0, .bool false] 89))) := (Only.refl [xb] w).alloc _
  have L0 : Hid (w.heap.size < (w.alloc (.cells #[.int .i64 0, .string ⟨#[]⟩, .int .i64 0, .int .i64 0, .int .i64 0, .int .i64 0, .slice none 0 0, .int .i64 0, .bool false] 89)).heap.size) := by show _ < _; simp
  obtain ⟨pr, hpr⟩ : ∃ pr, pReply t = pr := ⟨_, rfl⟩
  have HP : Hid (pReply t = pr) := hpr
  have R0 : Hid (pr = pReply t) := hpr.symm
  have K0 : Hid (∀ t1 w1, RS w1 A rb xb t1 → _) := fun t1 w1 k => rNumber A rb xb t1 w1 k
  have K1 : Hid (∀ t1 w1, RS w1 A rb xb t1 → _) := fun t1 w1 k => rText A rb xb t1 w1 k
  have K2 : Hid (∀ t1 w1, RS w1 A rb xb t1 → _) := fun t1 w1 k => rHandle A rb xb t1 w1 k
  have K3 : Hid (∀ t1 w1, RS w1 A rb xb t1 → _) := fun t1 w1 k => rState A rb xb t1 w1 k
  have K4 : Hid (∀ t1 w1, RS w1 A rb xb t1 → _) := fun t1 w1 k => rEntries A rb xb t1 w1 k
  have K5 : Hid (∀ t1 w1, RS w1 A rb xb t1 → _) := fun t1 w1 k => rNumber A rb xb t1 w1 k
  have K6 : Hid (∀ t1 w1, RS w1 A rb xb t1 → _) := fun t1 w1 k => rFlag A rb xb t1 w1 k
  clear h hlt hpr
  go_enter Tryd.func39, Tryd.ntmps39
  go_wp2_with fail
  refine (K0.out _ _ S0.out).mono ?_
  rintro e w1 (⟨a0, t1, r, rfl, o, s⟩ | ⟨r, rfl, o⟩)
  rotate_left
  · exact ⟨rfl, Or.inr ⟨HP.out.trans (R0.out.trans (bindP_none r)), rfl, O0.out.seq o⟩⟩
  have R1 : Hid (pr = _) := R0.out.trans (bindP_some r)
  have O1 : Hid (Only [xb] w w1) := O0.out.seq o
  have S1 : Hid (RS w1 A rb xb t1) := s
  have V1 : Hid (Var w1 w.heap.size [.int .i64 0, .string ⟨#[]⟩, .int .i64 0, .int .i64 0, .int .i64 0, .int .i64 0, .slice none 0 0, .int .i64 0, .bool false]) := V0.out.only o L0.out HN.out
  have L1 : Hid (w.heap.size < w1.heap.size) := Nat.lt_of_lt_of_le L0.out o.size
  clear r o s R0 O0 S0 V0 L0 K0
  go_wp2_with fail
  refine (K1.out _ _ S1.out).mono ?_
  rintro e w2 (⟨a1, t2, r, rfl, o, s⟩ | ⟨r, rfl, o⟩)
  rotate_left
  · exact ⟨rfl, Or.inr ⟨HP.out.trans (R1.out.trans (bindP_none r)), rfl, O1.out.seq o⟩⟩
  have R2 : Hid (pr = _) := R1.out.trans (bindP_some r)
  have O2 : Hid (Only [xb] w w2) := O1.out.seq o
  have S2 : Hid (RS w2 A rb xb t2) := s
  have V2 : Hid (Var w2 w.heap.size [.int .i64 0, .string ⟨#[]⟩, .int .i64 0, .int .i64 0, .int .i64 0, .int .i64 0, .slice none 0 0, .int .i64 0, .bool false]) := V1.out.only o L1.out HN.out
  have L2 : Hid (w.heap.size < w2.heap.size) := Nat.lt_of_lt_of_le L1.out o.size
  clear r o s R1 O1 S1 V1 L1 K1
  go_wp2_with fail
  refine (K2.out _ _ S2.out).mono ?_
  rintro e w3 (⟨a2, t3, r, rfl, o, s⟩ | ⟨r, rfl, o⟩)
  rotate_left
  · exact ⟨rfl, Or.inr ⟨HP.out.trans (R2.out.trans (bindP_none r)), rfl, O2.out.seq o⟩⟩
  have R3 : Hid (pr = _) := R2.out.trans (bindP_some r)
  have O3 : Hid (Only [xb] w w3) := O2.out.seq o
  have S3 : Hid (RS w3 A rb xb t3) := s
  have V3 : Hid (Var w3 w.heap.size [.int .i64 0, .string ⟨#[]⟩, .int .i64 0, .int .i64 0, .int .i64 0, .int .i64 0, .slice none 0 0, .int .i64 0, .bool false]) := V2.out.only o L2.out HN.out
  have L3 : Hid (w.heap.size < w3.heap.size) := Nat.lt_of_lt_of_le L2.out o.size
  clear r o s R2 O2 S2 V2 L2 K2
  go_wp2_with fail
  refine (K3.out _ _ S3.out).mono ?_
  rintro e w4 (⟨a3, t4, r, rfl, o, s⟩ | ⟨r, rfl, o⟩)
  rotate_left
  · exact ⟨rfl, Or.inr ⟨HP.out.trans (R3.out.trans (bindP_none r)), rfl, O3.out.seq o⟩⟩
  have R4 : Hid (pr = _) := R3.out.trans (bindP_some r)
  have O4 : Hid (Only [xb] w w4) := O3.out.seq o
  have S4 : Hid (RS w4 A rb xb t4) := s
  have V4 : Hid (Var w4 w.heap.size [.int .i64 0, .string ⟨#[]⟩, .int .i64 0, .int .i64 0, .int .i64 0, .int .i64 0, .slice none 0 0, .int .i64 0, .bool false]) := V3.out.only o L3.out HN.out
  have L4 : Hid (w.heap.size < w4.heap.size) := Nat.lt_of_lt_of_le L3.out o.size
  clear r o s R3 O3 S3 V3 L3 K3
  go_wp2_with fail
  refine (K4.out _ _ S4.out).mono ?_
  rintro e w5 (⟨a4, t5, v, r, rfl, o, s, hen⟩ | ⟨r, rfl, o⟩)
  rotate_left
  · exact ⟨rfl, Or.inr ⟨HP.out.trans (R4.out.trans (bindP_none r)), rfl, O4.out.seq o⟩⟩
  have hen2 : EnOwn w5 w4.heap.size v a4 := hen
  obtain ⟨ad, cp, rfl⟩ := hen2.form
  have E5 : Hid (EnOwn w5 w4.heap.size (.slice ad a4.length cp) a4) := hen2
  have HL4 : Hid (w.heap.size < w4.heap.size) := L4.out
  clear hen hen2
  have R5 : Hid (pr = _) := R4.out.trans (bindP_some r)
  have O5 : Hid (Only [xb] w w5) := O4.out.seq o
  have S5 : Hid (RS w5 A rb xb t5) := s
  have V5 : Hid (Var w5 w.heap.size [.int .i64 0, .string ⟨#[]⟩, .int .i64 0, .int .i64 0, .int .i64 0, .int .i64 0, .slice none 0 0, .int .i64 0, .bool false]) := V4.out.only o L4.out HN.out
  have L5 : Hid (w.heap.size < w5.heap.size) := Nat.lt_of_lt_of_le L4.out o.size
  clear r o s R4 O4 S4 V4 L4 K4
  go_wp2_with fail
  refine (K5.out _ _ S5.out).mono ?_
  rintro e w6 (⟨a5, t6, r, rfl, o, s⟩ | ⟨r, rfl, o⟩)
  rotate_left
  · exact ⟨rfl, Or.inr ⟨HP.out.trans (R5.out.trans (bindP_none r)), rfl, O5.out.seq o⟩⟩
  have R6 : Hid (pr = _) := R5.out.trans (bindP_some r)
  have O6 : Hid (Only [xb] w w6) := O5.out.seq o
  have S6 : Hid (RS w6 A rb xb t6) := s
  have V6 : Hid (Var w6 w.heap.size [.int .i64 0, .string ⟨#[]⟩, .int .i64 0, .int .i64 0, .int .i64 0, .int .i64 0, .slice none 0 0, .int .i64 0, .bool false]) := V5.out.only o L5.out HN.out
  have L6 : Hid (w.heap.size < w6.heap.size) := Nat.lt_of_lt_of_le L5.out o.size
  have E6 : Hid (EnOwn w6 w4.heap.size (.slice ad a4.length cp) a4) := E5.out.only o (fun b hb => by have := E5.out.at_ hb; have := HL4.out; have := HX.out; simp; omega)
  clear r o s E5 R5 O5 S5 V5 L5 K5
  go_wp2_with fail
  refine (K6.out _ _ S6.out).mono ?_
  rintro e w7 (⟨a6, t7, r, rfl, o, s⟩ | ⟨r, rfl, o⟩)
  rotate_left
  · exact ⟨rfl, Or.inr ⟨HP.out.trans (R6.out.trans (bindP_none r)), rfl, O6.out.seq o⟩⟩
  have R7 : Hid (pr = _) := R6.out.trans (bindP_some r)
  have O7 : Hid (Only [xb] w w7) := O6.out.seq o
  have S7 : Hid (RS w7 A rb xb t7) := s
  have V7 : Hid (Var w7 w.heap.size [.int .i64 0, .string ⟨#[]⟩, .int .i64 0, .int .i64 0, .int .i64 0, .int .i64 0, .slice none 0 0, .int .i64 0, .bool false]) := V6.out.only o L6.out HN.out
  have L7 : Hid (w.heap.size < w7.heap.size) := Nat.lt_of_lt_of_le L6.out o.size
  have E7 : Hid (EnOwn w7 w4.heap.size (.slice ad a4.length cp) a4) := E6.out.only o (fun b hb => by have := E6.out.at_ hb; have := HL4.out; have := HX.out; simp; omega)
  clear r o s E6 R6 O6 S6 V6 L6 K6
  have c0 := V7.out.1 0 _ rfl
  have f0 := V7.out.2 0
  have c1 := V7.out.1 1 _ rfl
  have f1 := V7.out.2 1
  have c2 := V7.out.1 2 _ rfl
  have f2 := V7.out.2 2
  have c3 := V7.out.1 3 _ rfl
  have f3 := V7.out.2 3
  have c4 := V7.out.1 4 _ rfl
  have f4 := V7.out.2 4
  have c5 := V7.out.1 5 _ rfl
  have f5 := V7.out.2 5
  have c6 := V7.out.1 6 _ rfl
  have f6 := V7.out.2 6
  have c7 := V7.out.1 7 _ rfl
  have f7 := V7.out.2 7
  have c8 := V7.out.1 8 _ rfl
  have f8 := V7.out.2 8
  have HO : Hid (Only [w.heap.size] w7 (((((((((w7.setCell ⟨w.heap.size, 0, none⟩ (.int .i64 a0)).setCell ⟨w.heap.size, 1, none⟩ (.string a1)).setCell ⟨w.heap.size, 2, none⟩ (.int .i64 a2.1)).setCell ⟨w.heap.size, 3, none⟩ (.int .i64 a2.2)).setCell ⟨w.heap.size, 4, none⟩ (.int .i64 a3.1)).setCell ⟨w.heap.size, 5, none⟩ (.int .i64 a3.2)).setCell ⟨w.heap.size, 6, none⟩ (.slice ad a4.length cp)).setCell ⟨w.heap.size, 7, none⟩ (.int .i64 a5)).setCell ⟨w.heap.size, 8, none⟩ (.bool a6))) := ((((((((((Only.refl [w.heap.size] _).setCell (p := ⟨w.heap.size, 0, none⟩) (Or.inl (List.mem_cons_self ..)) _).setCell (p := ⟨w.heap.size, 1, none⟩) (Or.inl (List.mem_cons_self ..)) _).setCell (p := ⟨w.heap.size, 2, none⟩) (Or.inl (List.mem_cons_self ..)) _).setCell (p := ⟨w.heap.size, 3, none⟩) (Or.inl (List.mem_cons_self ..)) _).setCell (p := ⟨w.heap.size, 4, none⟩) (Or.inl (List.mem_cons_self ..)) _).setCell (p := ⟨w.heap.size, 5, none⟩) (Or.inl (List.mem_cons_self ..)) _).setCell (p := ⟨w.heap.size, 6, none⟩) (Or.inl (List.mem_cons_self ..)) _).setCell (p := ⟨w.heap.size, 7, none⟩) (Or.inl (List.mem_cons_self ..)) _).setCell (p := ⟨w.heap.size, 8, none⟩) (Or.inl (List.mem_cons_self ..)) _)
  go_wp2_with fail
  refine bodyPost_ret (v := .agg #[.int .i64 a0, .string a1, .int .i64 a2.1, .int .i64 a2.2, .int .i64 a3.1, .int .i64 a3.2, .slice ad a4.length cp, .int .i64 a5, .bool a6]) (by simp [results, Tryd.results39, go_sem, c0, c1, c2, c3, c4, c5, c6, c7, c8]) rfl ?_
  have hle : ∀ k ∈ [w.heap.size], w.heap.size ≤ k := fun k hk => by rw [List.mem_singleton.1 hk]; exact Nat.le_refl _
  have E8 : EnOwn _ w4.heap.size (.slice ad a4.length cp) a4 := E7.out.only HO.out (fun b hb => by have := E7.out.at_ hb; have := HL4.out; simp; omega)
  exact Or.inl ⟨⟨a0, a1, a2.1, a2.2, a3.1, a3.2, a4, a5, a6⟩, _, _, HP.out.trans R7.out, rfl, O7.out.trans HO.out (fun k hk => Or.inr (hle k hk)), HH.out.over S7.out HO.out hle, own_low E8 (Nat.le_of_lt HL4.out)⟩
theorem rpC_len (x : (RpV × Value)) : (rpC x).length = 9 := rfl
theorem rpC_one (x : (RpV × Value)) (hx : x.2.oneCell' = true) : ∀ v ∈ rpC x, v.oneCell' = true := by
  intro v hv
  simp only [rpC, List.mem_cons, List.not_mem_nil, or_false] at hv
  rcases hv with rfl | rfl | rfl | rfl | rfl | rfl | rfl | rfl | rfl <;> first | exact hx | rfl
theorem rpInfo : ∃ i, Tryd.prog.info? 89 = some i ∧ i.zero = some (.agg #[.int .i64 0, .string ⟨#[]⟩, .int .i64 0, .int .i64 0, .int .i64 0, .int .i64 0, .slice none 0 0, .int .i64 0, .bool false]) ∧ i.size = 9 ∧ i.bytes = 96 := by
  have h : (Tryd.prog.info? 89).map (fun i => (i.zero, i.size, i.bytes)) = some (some (.agg #[.int .i64 0, .string ⟨#[]⟩, .int .i64 0, .int .i64 0, .int .i64 0, .int .i64 0, .slice none 0 0, .int .i64 0, .bool false]), 9, 96) := by kernel_rfl
  obtain ⟨i, hi, hz⟩ := Option.map_eq_some_iff.1 h
  simp only [Prod.mk.injEq] at hz
  exact ⟨i, hi, hz⟩
theorem rpsUnd : Tryd.prog.underlying 54 = some (.slice 89) := by kernel_rfl
theorem rp_news {w : World} (x : (RpV × Value)) (ty : TypeId) : ∀ (r : Nat) (q : Value), (rpC x)[r]? = some q → (w.alloc (.cells #[.int .i64 x.1.c, .string x.1.T, .int .i64 x.1.x1, .int .i64 x.1.x2, .int .i64 x.1.x3, .int .i64 x.1.x4, x.2, .int .i64 x.1.n, .bool x.1.e] ty)).cell? ((⟨w.heap.size, 0, none⟩ : Addr).add r) = some q := World.news_of_block (w := w.alloc (.cells #[.int .i64 x.1.c, .string x.1.T, .int .i64 x.1.x1, .int .i64 x.1.x2, .int .i64 x.1.x3, .int .i64 x.1.x4, x.2, .int .i64 x.1.n, .bool x.1.e] ty)) (heap_alloc_last w _)
theorem rp_news2 {w : World} (a : RpV) (u : Value) (ty : TypeId) : ∀ (r : Nat) (q : Value), (rpC (a, u))[r]? = some q → (w.alloc (.cells #[.int .i64 a.c, .string a.T, .int .i64 a.x1, .int .i64 a.x2, .int .i64 a.x3, .int .i64 a.x4, u, .int .i64 a.n, .bool a.e] ty)).cell? ((⟨w.heap.size, 0, none⟩ : Addr).add r) = some q := rp_news (a, u) ty
theorem rpC_one2 (a : RpV) (ad : Option Addr) (n cp : Nat) : ∀ v ∈ rpC (a, .slice ad n cp), v.oneCell' = true := rpC_one (a, .slice ad n cp) rfl
def GEnd (A : Nat → Addr) (rb xb : Nat) (w : World) (t : ByteArray) (e : Ending) (w' : World) : Prop :=
  (∃ (l : List (RpV × Value)) (t' : ByteArray) (v : Value), pList pReply t = some (l.map Prod.fst, t') ∧ e = .returned v ∧ Only [xb] w w' ∧ RS w' A rb xb t' ∧ w'.ownsRow w.heap.size 89 9 v l.length (rowOf rpC l) ∧ ∀ q ∈ l, EnOwn w' w.heap.size q.2 q.1.L) ∨ (pList pReply t = none ∧ e = .panicked (thr (eV A 0)) ∧ Only [xb] w w')
set_option maxRecDepth 100000 in
set_option maxHeartbeats 2000000 in
theorem rReplies (A : Nat → Addr) (rb xb : Nat) (t : ByteArray) (w : World) (h : RS w A rb xb t) : Calls Tryd.prog 70 #[P0 rb, .func (.func 39) #[] #[]] w (GEnd A rb xb w t) := by
  obtain ⟨i0, hi0, hz0, hz1, hz2⟩ := rpInfo
  have K0 : Hid (∀ _ : Unit, _) := fun _ => yInt A rb xb t w h
  have HX : Hid (xb < w.heap.size) := h.lt
  have KX : Hid (∀ t1 w1, RS w1 A rb xb t1 → _) := fun t1 w1 k => rReply A rb xb t1 w1 k
  have HH : Hid (RS w A rb xb t) := h
  obtain ⟨pr, hpr⟩ : ∃ pr, pList pReply t = pr := ⟨_, rfl⟩
  have HP : Hid (pList pReply t = pr) := hpr
  have R0 : Hid (pr = pList pReply t) := hpr.symm
  have c0 := h.ptr
  clear h hpr
  go_enter Tryd.func70, Tryd.ntmps70
  go_wp2_with fail
  clear c0
  refine (K0.out ()).mono ?_
  rintro e w1 (⟨n, t1, r, rfl, o, s⟩ | ⟨r, rfl, o⟩)
  rotate_left
  · go_wp2_with (go_at_call 56; refine (must_err _ _ _).mono ?_; rintro e w2 ⟨rfl, rfl⟩)
    exact ⟨rfl, Or.inr ⟨HP.out.trans (R0.out.trans (bindP_none r)), rfl, o⟩⟩
  have hnb : n < 4294967296 := by
    unfold pInt at r
    split at r
    · cases r
      exact numAt_lt t 4
    · cases r
  have R1 : Hid (pr = contP [] (pTimes pReply n t1)) := (R0.out.trans (bindP_some r)).trans (contP_start _).symm
  have O1 : Hid (Only [xb] w w1) := o
  have S1 : Hid (RS w1 A rb xb t1) := s
  clear r o s R0 K0
  go_wp2_with (go_at_call 56; refine (must_nil _).mono ?_; rintro e w2 ⟨rfl, rfl⟩)
  go_loopw [7, 19] (fun v i wr => ∃ (j : Nat) (tj : ByteArray) (l : List (RpV × Value)), j ≤ n ∧ i = .int .i64 (j : Nat) ∧ l.length = j ∧ pr = contP (l.map Prod.fst) (pTimes pReply (n - j) tj) ∧ Only [xb] w wr ∧ RS wr A rb xb tj ∧ wr.ownsRow w.heap.size 89 9 v l.length (rowOf rpC l) ∧ ∀ q ∈ l, EnOwn wr w.heap.size q.2 q.1.L) (fun _ i _ => n - (intOf i).toNat)
  case atStart => exact ⟨0, t1, [], Nat.zero_le _, rfl, rfl, R1.out, O1.out, S1.out, World.ownsRow_nil _ _ _ _, fun q hq => by cases hq⟩
  case round =>
    obtain ⟨j, tj, l, hj, rfl, hlj, hr, ho, hs, hrow, hens⟩ := hrel
    have HENS : Hid (∀ q ∈ l, EnOwn wr w.heap.size q.2 q.1.L) := hens
    have HL : Hid (l.length = j) := hlj
    have R : Hid (pr = contP (l.map Prod.fst) (pTimes pReply (n - j) tj)) := hr
    have O : Hid (Only [xb] w wr) := ho
    have S : Hid (RS wr A rb xb tj) := hs
    have HROW : Hid (wr.ownsRow w.heap.size 89 9 u7 j (rowOf rpC l)) := by
      rw [hlj] at hrow
      exact hrow
    clear hr ho hs hrow hlj hens
    by_cases hlt : j < n
    · have RX : Hid (pr = contP (l.map Prod.fst) (pTimes pReply (n - (j + 1) + 1) tj)) := by
        have := R.out
        rw [show n - j = n - (j + 1) + 1 by omega] at this
        exact this
      go_wp2_with fail
      refine (KX.out _ _ S.out).mono ?_
      rintro e w2 (⟨a, t2, v2, r2, rfl, o2, s2, hen2⟩ | ⟨r2, rfl, o2⟩)
      rotate_left
      · exact ⟨rfl, Or.inr ⟨HP.out.trans (RX.out.trans (contP_none r2)), rfl, O.out.seq o2⟩⟩
      obtain ⟨ad, cp, rfl⟩ := hen2.form
      have HEN2 : Hid (EnOwn w2 w.heap.size (.slice ad a.L.length cp) a.L) := own_low hen2 O.out.size
      have HENS2 : Hid (∀ q ∈ l, EnOwn w2 w.heap.size q.2 q.1.L) := fun q hq => (HENS.out q hq).only o2 (fun b hb => by have := (HENS.out q hq).at_ hb; have := HX.out; simp; omega)
      clear hen2
      have R2 : Hid (pr = contP (l.map Prod.fst ++ [a]) (pTimes pReply (n - (j + 1)) t2)) := RX.out.trans (contP_some r2)
      have O2 : Hid (Only [xb] w w2) := O.out.seq o2
      have S2 : Hid (RS w2 A rb xb t2) := s2
      have HROW2 : Hid (w2.ownsRow w.heap.size 89 9 u7 j (rowOf rpC l)) := o2.owns HROW.out (fun b hb => by have := (own_at HROW.out hb).1; have := HX.out; simp; omega)
      clear r2 o2 s2 RX R
      go_wp2_with (first
        | (at_builtin; refine wpList_append_lies _ rfl (.tmp 21) (.tmp 25) 54 rfl w.heap.size 89 i0 _ 9 96 rpsUnd hi0 hz0 hz1 hz2 rfl (by decide) u7 j _ rfl (World.ownsRow.alloc HROW2.out _) ⟨w2.heap.size, 0, none⟩ 1 1 (rpC (a, Value.slice ad a.L.length cp)) rfl rfl (rp_news2 a (.slice ad a.L.length cp) _) (rpC_one2 a ad a.L.length cp) (by decide) (by unfold maxLen; omega) (by omega) (by rw [World.size_alloc]; have := O2.out.size; omega) (w2.heap.size + 1) (by simp) ?_; intro g5 c5 w5 hown5 hgr5 hat5 hlt5; have HV5 : Hid (w5.ownsRow w.heap.size 89 9 (.slice (some ⟨g5, 0, none⟩) (j + 1) c5) (l ++ [(a, Value.slice ad a.L.length cp)]).length (rowOf rpC (l ++ [(a, Value.slice ad a.L.length cp)]))) := row_snoc HL.out hown5; have HG5 : Hid ((w2.alloc (.cells #[.int .i64 a.c, .string a.T, .int .i64 a.x1, .int .i64 a.x2, .int .i64 a.x3, .int .i64 a.x4, .slice ad a.L.length cp, .int .i64 a.n, .bool a.e] 89)).grownBy w5 u7.ownBlock) := hgr5; clear hown5 hgr5 hat5 hlt5)
        | go_in)
      go_roundw
      case rel =>
        have hg : Only u7.ownBlock.toList w2 w5 := grown_only HG5.out (fun b hb => Or.inl (by simp [hb]))
        have hge : ∀ k ∈ u7.ownBlock.toList, w.heap.size ≤ k := fun k hk => (own_at HROW2.out (by simpa using hk)).1
        have hne : ∀ (v : Value) (L : List EnV), EnOwn w2 w.heap.size v L → ∀ b, v.ownBlock = some b → b ∉ u7.ownBlock.toList := fun v L he b hb hm => by
          obtain ⟨_, _, _, h1⟩ := own_at he hb
          obtain ⟨_, _, _, h2⟩ := own_at HROW2.out (by simpa using hm)
          rw [h1] at h2
          simp at h2
        have hens5 : ∀ q ∈ l ++ [(a, Value.slice ad a.L.length cp)], EnOwn w5 w.heap.size q.2 q.1.L := fun q hq => by
          rcases List.mem_append.1 hq with hq | hq
          · exact (HENS2.out q hq).only hg (hne _ _ (HENS2.out q hq))
          · rw [List.mem_singleton.1 hq]
            exact HEN2.out.only hg (hne _ _ HEN2.out)
        exact ⟨j + 1, t2, l ++ [(a, Value.slice ad a.L.length cp)], by omega, by go_num, by rw [List.length_append, HL.out]; rfl, by rw [List.map_append]; exact R2.out, O2.out.trans hg (fun k hk => Or.inr (hge k hk)), HH.out.over S2.out hg hge, HV5.out, hens5⟩
      case measure => simp [intOf]; omega
    · obtain rfl : n = j := by omega
      have R2 : Hid (pr = some (l.map Prod.fst, tj)) := by
        have := R.out
        rw [Nat.sub_self, contP_end] at this
        exact this
      go_wp2
      go_ret
      exact Or.inl ⟨_, _, _, HP.out.trans R2.out, rfl, O.out, S.out, by rw [HL.out]; exact HROW.out, HENS.out⟩
end Go.Proofs.YtkopiffnkbjbiaaDoor
