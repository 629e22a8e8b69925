/- LeaseActs: the walk. -/
import Derived.Test.YtaipigiinljpkaaGreatDoorLd7
namespace Go.Proofs.YtaipigiinljpkaaGreatDoor
open Go Go.RowKit Go.Deep

structure AActM where
  K : ByteArray
  Nm : ByteArray
  ID : Int
  N : Int
/-- An act's box. -/
def Bx (w : World) (b : Nat) (x : AActM) : Prop := w.heap[b]? = some (.cells #[.string x.K, .string x.Nm, .int .i64 x.ID, .int .i64 x.N] 31 (0, 0))
theorem bx_cells {w : World} {b : Nat} {x : AActM} (h : Bx w b x) : w.cell? ⟨b, 0, none⟩ = some (.string x.K) ∧ w.cell? ⟨b, 1, none⟩ = some (.string x.Nm) ∧ w.cell? ⟨b, 2, none⟩ = some (.int .i64 x.ID) ∧ w.cell? ⟨b, 3, none⟩ = some (.int .i64 x.N) := four_of h
theorem Bx.only {w w' : World} {b : Nat} {x : AActM} (h : Bx w b x) (ho : Only [] w w') : Bx w' b x := (ho.block b (Array.getElem?_eq_some_iff.1 h).1 (by simp)).trans h
theorem Bx.progs {W w w' : World} {t mb m lp ld now b : Nat} {l : List Cli} {L : List Rc} {x : AActM} (h : Bx w b x) (hM : Mem9 W w t mb m lp ld now l L) (ho : Only [t, mb] w w') : Bx w' b x := by
  obtain ⟨v, hM⟩ := hM
  refine (ho.block b (Array.getElem?_eq_some_iff.1 h).1 (fun hm => ?_)).trans h
  rcases List.mem_cons.1 hm with e | e
  · have h1 := hM.ls.ls.tab
    rw [← e, show w.heap[b]? = _ from h] at h1
    simp at h1
  · exact own_ne_block hM.ls.ls.own h (List.mem_singleton.1 e).symm
theorem Bx.docs {w w' : World} {b : Nat} {x : AActM} (h : Bx w b x) (hb : ∀ k, w.heap[k]? = none ∨ (∃ cs ty fr, w.heap[k]? = some (.cells cs ty fr) ∧ ty ≠ 67) → k < w.heap.size → w'.heap[k]? = w.heap[k]?) : Bx w' b x :=
  (hb b (Or.inr ⟨_, _, _, h, by decide⟩) (Array.getElem?_eq_some_iff.1 h).1).trans h
/-- What holds between two acts. -/
def Good9 (W w : World) (t mb m n : Nat) : Prop := ∃ last now l L, Mem9 W w t mb m last last now l L ∧ PairC last now l L ∧ last ≤ n ∧ now ≤ 1126999418470400
theorem Good9.below {W w : World} {t mb m n : Nat} (h : Good9 W w t mb m n) : Below W.heap.size W w := by
  obtain ⟨_, _, _, _, h, _⟩ := h
  exact h.below
theorem Good9.fresh {W w : World} {t mb : Nat} (h : LsV W w t mb 0 []) : Good9 W (w.alloc (.cells #[.slice none 0 0, .int .i64 0, .int .i64 0] 29)) t mb w.heap.size 0 := by
  refine ⟨0, 0, [], [], ⟨.slice none 0 0, h.only ((Only.refl [] w).alloc _), ⟨heap_alloc_last w _, Rcs.nil _ _⟩, h.size⟩, PairC.nil, Nat.le_refl _, by decide⟩
theorem rtick_len {now c now' : Nat} {L L' : List Rc} {n : Int} {gs : List Int} (h : RTickA now L n c gs now' L') : gs.length ≤ L.length := by
  rcases h with ⟨_, _, rfl, _⟩ | ⟨k, _, _, _, rfl, _⟩
  · exact Nat.zero_le _
  · unfold idsD
    rw [List.length_map]
    exact List.length_filter_le _ _
theorem ids_short {last now : Nat} {l : List Cli} {L : List Rc} (h : PairC last now l L) (hl : last ≤ 1000) : (idsD (L.filter (·.c))).length ≤ 1000 := by
  unfold idsD
  rw [List.length_map]
  have h1 := List.length_filter_le (·.c) L
  have h2 := h.len
  omega
def AActsAt (w : World) (ab ao len : Nat) (P : Nat → AActM) : Prop :=
  ∀ i, i < len → w.cell? ⟨ab, ao + i * 4, none⟩ = some (.string (P i).K) ∧ w.cell? ⟨ab, ao + i * 4 + 1, none⟩ = some (.string (P i).Nm) ∧ w.cell? ⟨ab, ao + i * 4 + 2, none⟩ = some (.int .i64 (P i).ID) ∧ w.cell? ⟨ab, ao + i * 4 + 3, none⟩ = some (.int .i64 (P i).N)
def IsAActs (w : World) (a : Option Addr) (len : Nat) : Prop := len = 0 ∨ ∃ ab ao P, a = some ⟨ab, ao, none⟩ ∧ AActsAt w ab ao len P
set_option maxRecDepth 100000 in
set_option maxHeartbeats 8000000 in
theorem aacts_walk (ad0 : Option Addr) (len cap : Nat) (A : Nat → Addr) (w : World) (hP : IsAActs w ad0 len) (hE : Errs w A) (hl : len ≤ 60) : Calls Tryz.prog 3 #[.slice ad0 len cap] w fun e w' => e = .returned (.bool true) ∧ Below w.heap.size w w' := by
  have HP : Hid (IsAActs w ad0 len) := hP
  have HE : Hid (Errs w A) := hE
  have hh := known_any A w hE
  have g1 : decide (60 < (len : Int)) = false := decide_eq_false (by omega)
  clear hP hE
  go_enter Tryz.func3, Tryz.ntmps3
  go_wp2_with (first
    | (go_at_call 4; refine hh.mono ?_; rintro e w1 ⟨rfl, hb1⟩; have hnew := LsV.new hb1; clear hh hb1)
    | (go_at_call 5; refine hnew.mono ?_; rintro e w2 ⟨t, mb, rfl, h2, _, _, _⟩; have HG0 : Hid (Good9 w (w2.alloc (.cells #[.slice none 0 0, .int .i64 0, .int .i64 0] 29)) t mb w2.heap.size 0) := Good9.fresh h2; clear hnew h2)
    | go_in)
  generalize w2.alloc (.cells #[.slice none 0 0, .int .i64 0, .int .i64 0] 29) = w0 at HG0 ⊢
  generalize w2.heap.size = m at HG0 ⊢
  clear g1
  go_loopw [6] (fun i wr => ∃ j : Nat, i = .int .i64 (j : Nat) ∧ j ≤ len ∧ Good9 w wr t mb m j) (fun i _ => len - (intOf i).toNat)
  case atStart => exact ⟨0, rfl, Nat.zero_le _, HG0.out⟩
  case round =>
    obtain ⟨j, rfl, hj, hG⟩ := hrel
    clear HG0
    by_cases hlt : j < len
    · have hj2 : (j : Int) < len := by omega
      obtain ⟨ab, ao, Q, rfl, hPP⟩ := HP.out.resolve_left (by omega)
      obtain ⟨x, hx⟩ : ∃ x, Q j = x := ⟨_, rfl⟩
      obtain ⟨p0, p1, p2, p3⟩ := hPP j hlt
      rw [hx] at p0 p1 p2 p3
      have k : ∀ (o : Nat) (u : Value), w.cell? ⟨ab, o, none⟩ = some u → wr.cell? ⟨ab, o, none⟩ = some u := fun o u hc => (hG.below.cell (p := ⟨ab, o, none⟩) (lt_of_cell hc)).trans hc
      have c0 := k _ _ p0
      have c1 := k _ _ p1
      have c2 := k _ _ p2
      have c3 := k _ _ p3
      have HBE : Hid (Below w.heap.size w wr) := hG.below
      clear p0 p1 p2 p3 k hPP hx
      obtain ⟨last, now, l, L, hM, hPr, hLj, hNw⟩ := hG
      have hml : m < wr.heap.size := by obtain ⟨v, hv⟩ := hM; exact hv.rl.lt
      have hm2 : wr.cell? ⟨m, 2, none⟩ = some (.int .i64 (now : Nat)) := by obtain ⟨v, hv⟩ := hM; exact hv.rl.c2
      have HM0 : Hid (Mem9 w wr t mb m last last now l L) := hM
      have HPR : Hid (PairC last now l L) := hPr
      have HLJ : Hid (last ≤ j) := hLj
      clear hM hPr hLj
      by_cases hbig : 100 < x.Nm.size
      · go_wp2
        go_ret
        exact ⟨rfl, HBE.out.alloc HBE.out.size _⟩
      · by_cases hlate : 1125899906842624 < now
        · go_wp2
          go_ret
          exact ⟨rfl, HBE.out.alloc HBE.out.size _⟩
        · go_upto_region 14 with fail
          have HM1 : Hid (Mem9 w (wr.alloc (.cells #[.string x.K, .string x.Nm, .int .i64 x.ID, .int .i64 x.N] 31)) t mb m last last now l L) := HM0.out.only ((Only.refl [] wr).alloc _)
          have HBX : Hid (Bx (wr.alloc (.cells #[.string x.K, .string x.Nm, .int .i64 x.ID, .int .i64 x.N] 31)) wr.heap.size x) := heap_alloc_last wr _
          have HMM : Hid (m < (wr.alloc (.cells #[.string x.K, .string x.Nm, .int .i64 x.ID, .int .i64 x.N] 31)).heap.size) := by rw [World.size_alloc]; exact Nat.lt_succ_of_lt hml
          clear c0 c1 c2 c3 hm2 hml
          generalize wr.alloc (.cells #[.string x.K, .string x.Nm, .int .i64 x.ID, .int .i64 x.N] 31) = wb at HM1 HBX HMM ⊢
          generalize wr.heap.size = b at HBX ⊢
          have HNW : Hid (now ≤ 1125899906842624) := by show _ ≤ _; omega
          have HLP : Hid (last ≤ 1000000) := by have := HLJ.out; show _ ≤ _; omega
          have HLL : Hid (L.length ≤ 100) := by have := HPR.out.len; have := HLJ.out; show _ ≤ _; omega
          have HSS : Hid (∀ y ∈ L, y.S ≤ now) := fun y hy => (HPR.out.ids hy).2.2
          obtain ⟨y0, y1, y2, y3⟩ := bx_cells HBX.out
          have hyl := lt_of_cell y0
          clear hNw hlate hbig HM0 HBE
          have HCOD : Hid (∀ W c r, Below w.heap.size w W → Told A c r → Calls Tryz.prog 8 #[r, .int .i64 ((c : Nat) : Int)] W fun e w' => e = .returned (.bool true) ∧ Only [] W w') := fun W c r hb ht => (coded2_any A c r W (HE.out.below hb (Nat.le_refl _)) ht).mono fun e w' hh => ⟨hh.1, Only.of_below hh.2 []⟩
          go_wp2_with (first
            | (go_at_call 6; refine (HM1.out.regP HE.out x.Nm x.N HLP.out).mono ?_; rintro e w3 ⟨c, id, r, lp3, l3, rfl, hR, hT, ho⟩; have HR3 : Hid (RegA A last l x.Nm c id r lp3 l3) := hR; have HN3 : Hid (Mem9 w w3 t mb m lp3 last now l3 L) := hT; have HB3 : Hid (Bx w3 b x) := HBX.out.progs HM1.out ho; clear y0 y1 y2 y3 hyl; clear hR hT ho; obtain ⟨y0, y1, y2, y3⟩ := bx_cells HB3.out; have hyl := lt_of_cell y0)
            | (go_at_call 7; refine (HN3.out.regD x.Nm HLL.out HLP.out).mono ?_; rintro e w4 ⟨c2, id2, ld4, L4, rfl, hR2, hT2⟩; obtain ⟨rfl, rfl, rfl, hp4, ht4, hl4⟩ := pair_reg HPR.out HR3.out hR2; have HN4 : Hid (Mem9 w w4 t mb m ld4 ld4 now l3 L4) := hT2; have HP4 : Hid (PairC ld4 now l3 L4) := hp4; have HT4 : Hid (Told A c2 r) := ht4; have HQ4 : Hid (ld4 ≤ j + 1 ∧ now ≤ 1126999418470400) := ⟨(by have := HLJ.out; omega), (by have := HNW.out; omega)⟩; clear hR2 hT2 hp4 ht4 hl4; clear y0 y1 y2 y3 hyl)
            | (go_at_call 9; refine (HM1.out.confP HE.out x.ID x.N).mono ?_; rintro e w3 ⟨c, gone, r, l3, rfl, hR, hT, ho⟩; have HR3 : Hid (ConfA A l x.ID x.N c gone r l3) := hR; have HN3 : Hid (Mem9 w w3 t mb m last last now l3 L) := hT; have HB3 : Hid (Bx w3 b x) := HBX.out.progs HM1.out ho; clear y0 y1 y2 y3 hyl; clear hR hT ho; obtain ⟨y0, y1, y2, y3⟩ := bx_cells HB3.out; have hyl := lt_of_cell y0)
            | (go_at_call 10; refine (HN3.out.confD x.ID x.N HLL.out).mono ?_; rintro e w4 ⟨c2, gone2, L4, rfl, hR2, hT2⟩; obtain ⟨rfl, rfl, hp4, ht4⟩ := pair_conf HPR.out HR3.out hR2; have HN4 : Hid (Mem9 w w4 t mb m last last now l3 L4) := hT2; have HP4 : Hid (PairC last now l3 L4) := hp4; have HT4 : Hid (Told A c2 r) := ht4; have HQ4 : Hid (last ≤ j + 1 ∧ now ≤ 1126999418470400) := ⟨(by have := HLJ.out; omega), (by have := HNW.out; omega)⟩; clear hR2 hT2 hp4 ht4; clear y0 y1 y2 y3 hyl)
            | (go_at_call 13; refine (HM1.out.tickP HE.out x.N).mono ?_; rintro e w3 ⟨c, r, v3, gs, l3, rfl, hR, hnu, hT, hci, ho⟩; have HR3 : Hid (TickA A l x.N c r gs l3) := hR; have HN3 : Hid (Mem9 w w3 t mb m last last now l3 L) := hT; have HV3 : Hid (Nums w3 wb.heap.size v3 gs) := hnu; have HCI : Hid (CInv last l3) := hci; have HB3 : Hid (Bx w3 b x) := HBX.out.progs HM1.out ho; clear y0 y1 y2 y3 hyl; clear hR hT ho hnu hci; obtain ⟨y0, y1, y2, y3⟩ := bx_cells HB3.out; have hyl := lt_of_cell y0)
            | (go_at_call 14; refine (HN3.out.tickD x.N HLL.out (by have := HNW.out; omega) HSS.out).mono ?_; rintro e w4 ⟨c2, v4, gs2, now4, L4, rfl, hR2, hnu2, hT2, ho2⟩; have hgl := rtick_len hR2; obtain ⟨rfl, rfl, hp4, ht4, hnw4⟩ := pair_tick HPR.out HR3.out hR2 HCI.out; have HN4 : Hid (Mem9 w w4 t mb m last last now4 l3 L4) := hT2; have HP4 : Hid (PairC last now4 l3 L4) := hp4; have HT4 : Hid (Told A c2 r) := ht4; have HQ4 : Hid (last ≤ j + 1 ∧ now4 ≤ 1126999418470400) := ⟨(by have := HLJ.out; omega), (by have := HNW.out; omega)⟩; have HG4 : Hid (∀ W, Only [] w4 W → Nums W wb.heap.size v3 gs2 ∧ Nums W w3.heap.size v4 gs2 ∧ gs2.length ≤ 1000) := (fun W hoW => ⟨(HV3.out.only ho2 (fun k hk => by have := (own_block HV3.out hk).1; have := HMM.out; simp; omega)).only hoW (fun _ _ => by simp), hnu2.only hoW (fun _ _ => by simp), by have := HLL.out; omega⟩); clear hR2 hT2 hp4 ht4 hnw4 hnu2 ho2 hgl; clear y0 y1 y2 y3 hyl)
            | (go_at_call 16; refine (HM1.out.nameP HE.out x.ID).mono ?_; rintro e w3 ⟨c, r, s3, rfl, hR, hT, ho⟩; have HR3 : Hid (NameA A l x.ID c r s3) := hR; have HN3 : Hid (Mem9 w w3 t mb m last last now l L) := hT; have HB3 : Hid (Bx w3 b x) := HBX.out.only ho; clear y0 y1 y2 y3 hyl; clear hR hT ho; obtain ⟨y0, y1, y2, y3⟩ := bx_cells HB3.out; have hyl := lt_of_cell y0)
            | (go_at_call 17; refine (HN3.out.nameD x.ID HLL.out).mono ?_; rintro e w4 ⟨c2, s4, rfl, hR2, rfl⟩; obtain ⟨rfl, rfl, ht4⟩ := pair_name HPR.out HR3.out hR2; have HN4 : Hid (Mem9 w w3 t mb m last last now l L) := HN3.out; have HP4 : Hid (PairC last now l L) := HPR.out; have HT4 : Hid (Told A c2 r) := ht4; have HQ4 : Hid (last ≤ j + 1 ∧ now ≤ 1126999418470400) := ⟨(by have := HLJ.out; omega), (by have := HNW.out; omega)⟩; clear hR2 ht4; clear y0 y1 y2 y3 hyl)
            | (go_at_call 8; refine (HCOD.out _ c2 r HN4.out.below HT4.out).mono ?_; rintro e w5 ⟨rfl, ho5⟩; have HO5 : Hid (Only [] _ w5) := ho5; have HN5 : Hid (_) := HN4.out.only ho5; clear ho5)
            | (go_at_call 15; have hgg := HG4.out w5 HO5.out; refine (sameInts_any w5 _ _ _ _ _ hgg.1 hgg.2.1 hgg.2.2).mono ?_; rintro e w6 ⟨rfl, ho6⟩; have HN6 : Hid (_) := HN5.out.only ho6; clear HG4 hgg HN5; have HN5 : Hid (_) := HN6.out; clear ho6 HN6)
            | (go_at_call 18; refine (HN5.out.listP HP4.out).mono ?_; rintro e w8 ⟨v8, rfl, h8, ho8⟩; have H8 : Hid (_) := h8; have HN8 : Hid (_) := HN5.out.only ho8; clear h8 ho8)
            | (go_at_call 19; refine (HN8.out.listD (Nat.le_trans HP4.out.len (by have := HQ4.out.1; omega))).mono ?_; rintro e w9 ⟨v9, rfl, h9, ho9⟩; have H9 : Hid (_) := h9; have HL9 : Hid (_) := Nums.only H8.out ho9 (fun _ _ => by simp); have HN9 : Hid (_) := HN8.out.only ho9; clear h9 ho9)
            | (go_at_call 15; refine (sameInts_any w9 _ _ _ _ _ HL9.out H9.out (ids_short HP4.out (by have := HQ4.out.1; omega))).mono ?_; rintro e w10 ⟨rfl, ho10⟩; have HG10 : Hid (Good9 w w10 t mb m (j + 1)) := ⟨_, _, _, _, HN9.out.only ho10, HP4.out, HQ4.out.1, HQ4.out.2⟩; clear ho10)
            | go_in)
          · go_roundw
            case rel => exact ⟨j + 1, by go_num, by omega, HG10.out⟩
            case measure => simp [intOf]; omega
          · go_roundw
            case rel => exact ⟨j + 1, by go_num, by omega, HG10.out⟩
            case measure => simp [intOf]; omega
          · have HMD : Hid (Mem9 w wb.drew t mb m last last now l L) := HM1.out.only (Only.refl [] wb).drew
            have HBD : Hid (Bx wb.drew b x) := HBX.out.only (Only.refl [] wb).drew
            have HS0 : Hid (wb.drew.cell? ⟨b, 2, none⟩ = some (.int .i64 x.ID)) := (bx_cells HBD.out).2.2.1
            have HRP : Hid (∀ _u : Unit, Calls Tryz.prog 11 #[.pointer (some ⟨t, 0, none⟩), .int .i64 x.ID] wb.drew fun e w' => ∃ c r l', e = .returned r ∧ RenA A l x.ID c r l' ∧ Mem9 w w' t mb m last last now l' L ∧ Only [t, mb] wb.drew w') := fun _u => HMD.out.renP HE.out x.ID
            clear y0 y1 y2 y3 hyl
            go_region_held3 (fun W => W.cell? ⟨b, 2, none⟩ = some (.int .i64 x.ID)) (with_reducible first | exact HS0.out | exact HS3.out | exact HS4.out | exact HS5.out)
              (first
                | (go_at_call 11; refine (HRP.out ()).mono ?_; rintro e w3 ⟨c, r, l3, rfl, hR, hT, ho⟩; have HR3 : Hid (RenA A l x.ID c r l3) := hR; have HN3 : Hid (Mem9 w w3 t mb m last last now l3 L) := hT; have HB3 : Hid (Bx w3 b x) := HBD.out.progs HMD.out ho; have HS3 : Hid (w3.cell? ⟨b, 2, none⟩ = some (.int .i64 x.ID)) := (bx_cells HB3.out).2.2.1; clear hR hT ho)
                | (go_at_call 12; refine (HN3.out.renD x.ID HLL.out).mono ?_; rintro e w4 ⟨c2, L4, rfl, hR2, hT2, hbl⟩; have HB4 : Hid (Bx w4 b x) := HB3.out.docs hbl; have HS4 : Hid (w4.cell? ⟨b, 2, none⟩ = some (.int .i64 x.ID)) := (bx_cells HB4.out).2.2.1; obtain ⟨rfl, hp4, ht4⟩ := pair_ren HPR.out HR3.out hR2; have HN4 : Hid (Mem9 w w4 t mb m last last now l3 L4) := hT2; have HP4 : Hid (PairC last now l3 L4) := hp4; have HT4 : Hid (Told A c2 r) := ht4; have HQ4 : Hid (last ≤ j + 1 ∧ now ≤ 1126999418470400) := ⟨(by have := HLJ.out; omega), (by have := HNW.out; omega)⟩; clear hR2 hT2 hp4 ht4 hbl)
                | (go_at_call 8; refine (HCOD.out w4 c2 r HN4.out.below HT4.out).mono ?_; rintro e w5 ⟨rfl, ho5⟩; have HN5 : Hid (Mem9 w w5 t mb m last last now l3 L4) := HN4.out.only ho5; have HS5 : Hid (w5.cell? ⟨b, 2, none⟩ = some (.int .i64 x.ID)) := (bx_cells (HB4.out.only ho5)).2.2.1; clear ho5))
            go_wp2_with (first
              | (go_at_call 18; refine (HN5.out.listP HP4.out).mono ?_; rintro e w8 ⟨v8, rfl, h8, ho8⟩; have H8 : Hid (_) := h8; have HN8 : Hid (_) := HN5.out.only ho8; clear h8 ho8)
              | (go_at_call 19; refine (HN8.out.listD (Nat.le_trans HP4.out.len (by have := HQ4.out.1; omega))).mono ?_; rintro e w9 ⟨v9, rfl, h9, ho9⟩; have H9 : Hid (_) := h9; have HL9 : Hid (_) := Nums.only H8.out ho9 (fun _ _ => by simp); have HN9 : Hid (_) := HN8.out.only ho9; clear h9 ho9)
              | (go_at_call 15; refine (sameInts_any w9 _ _ _ _ _ HL9.out H9.out (ids_short HP4.out (by have := HQ4.out.1; omega))).mono ?_; rintro e w10 ⟨rfl, ho10⟩; have HG10 : Hid (Good9 w w10 t mb m (j + 1)) := ⟨_, _, _, _, HN9.out.only ho10, HP4.out, HQ4.out.1, HQ4.out.2⟩; clear ho10)
              | go_in)
            go_roundw
            case rel => exact ⟨j + 1, by go_num, by omega, HG10.out⟩
            case measure => simp [intOf]; omega
          · go_roundw
            case rel => exact ⟨j + 1, by go_num, by omega, HG10.out⟩
            case measure => simp [intOf]; omega
          · go_roundw
            case rel => exact ⟨j + 1, by go_num, by omega, HG10.out⟩
            case measure => simp [intOf]; omega
    · obtain rfl : j = len := by omega
      have hj2 : decide ((j : Int) < j) = false := decide_eq_false (by omega)
      go_wp2
      go_ret
      exact ⟨rfl, hG.below⟩
end Go.Proofs.YtaipigiinljpkaaGreatDoor
