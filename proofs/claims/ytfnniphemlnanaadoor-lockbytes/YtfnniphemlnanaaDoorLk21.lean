/- LockBytes: plain facts; her walk. -/
import Derived.Test.YtfnniphemlnanaaDoorLk18
namespace Go.Proofs.YtfnniphemlnanaaDoor
open Go Go.RowKit Go.Deep

theorem with_ag {l : List Lk} {v : Lk} (h : LInv l) (hv : v.Ok) (hno : ∀ x ∈ l, agB v x = false) : ∀ x ∈ withL v l, agB v x = false := by
  intro x hx
  have own : x.O = v.O → agB v x = false := fun ho => by
    cases hg : agB v x with
    | false => rfl
    | true => exact absurd ho (ag_iff.1 hg).2.2.1
  rcases List.mem_append.1 hx with hx | hx
  · have hm := (List.mem_filter.1 hx).1
    cases hb : ownB v.N v.G v.O x with
    | true => exact own (ownB_iff.1 hb).2.2
    | false => exact hno x ((without_others hb h hv).1 hm)
  · rw [List.mem_singleton.1 hx]
    have := (joined_is v hv (withoutL v.N v.G v.O v.A v.S l) (h.without hv).ok).o
    rw [List.mem_singleton.1 hx] at own
    exact own this
theorem with_has {l : List Lk} {v : Lk} (h : LInv l) (hv : v.Ok) : ∃ J ∈ withL v l, J.N = v.N ∧ J.G = v.G ∧ J.O = v.O ∧ J.W = v.W ∧ J.A ≤ v.A ∧ v.e ≤ J.e := by
  have hj := joined_is v hv (withoutL v.N v.G v.O v.A v.S l) (h.without hv).ok
  exact ⟨_, List.mem_append_right _ (List.mem_singleton.2 rfl), hj.n, hj.g, hj.o, hj.w, hj.lo, hj.hi⟩
/-- What was locked for writing is held against another one. -/
theorem bytes_held {A0 : Nat → Addr} {l l1 : List Lk} {A S : Int} {c : Nat} {r : Value} {res : Lk} (h : LInv l) (hr : rngB A S = true) (hp : l1.Perm (withL ⟨1, 0, 1, A, S, true⟩ l)) (ht : TestR A0 l1 ⟨1, 0, 99, A, S, false⟩ c r res) : c = 11 ∧ res.O ≠ 99 := by
  have hv : (⟨1, 0, 1, A, S, true⟩ : Lk).Ok := rngB_ok hr
  obtain ⟨J, hJ, hn, hg, ho, hw, hlo, hhi⟩ := with_has h hv
  have v1 := (OkR.fwd hv).1
  rcases ht with ⟨hb, _⟩ | ⟨_, ⟨i, hx, hp', _⟩, rfl, _⟩ | ⟨_, hno, _⟩
  · have hb' : rngB A S = false := hb
    rw [hr] at hb'; cases hb'
  · exact ⟨rfl, (ag_iff.1 hp').2.2.1⟩
  · have := hno J (hp.mem_iff.2 hJ)
    have hag : agB ⟨1, 0, 99, A, S, false⟩ J = true := ag_iff.2 ⟨hn, hg, by rw [ho]; show (1 : Int) ≠ 99; decide, Or.inl hw, by
      change A < endR A S at v1
      change J.A ≤ A at hlo
      show J.A < endR A S
      omega, by
      change A < endR A S at v1
      change endR A S ≤ J.e at hhi
      show A < J.e
      omega⟩
    rw [hag] at this; cases this
/-- What was unlocked is not its owner's. -/
theorem bytes_gone {A0 : Nat → Addr} {l1 l2 : List Lk} {A S : Int} {c : Nat} {r : Value} {res : Lk} (h : LInv l1) (hr : rngB A S = true) (hp : l2.Perm (withoutL 1 0 1 A S l1)) (ht : TestR A0 l2 ⟨1, 0, 99, A, S, true⟩ c r res) : r = .nilIface ∨ ∃ k, r = sErr A0 k ∧ res.O ≠ 1 := by
  have hv : OkR A S := rngB_ok hr
  rcases ht with ⟨hb, _⟩ | ⟨_, ⟨i, hx, hp', _⟩, _, hr'⟩ | ⟨_, _, _, hr', _⟩
  · have hb' : rngB A S = false := hb
    rw [hr] at hb'; cases hb'
  · refine Or.inr ⟨10, hr', fun ho => ?_⟩
    obtain ⟨hn, hg, _, _, h1, h2⟩ := ag_iff.1 hp'
    have hm := hp.mem_iff.1 (List.mem_of_getElem? hx)
    have := without_beside h hv hm (ownB_iff.2 ⟨hn, hg, ho⟩)
    change res.A < endR A S at h1
    change A < res.e at h2
    omega
  · exact Or.inl hr'
theorem IsLActs.below {w w' : World} {a : Option Addr} {len : Nat} (h : IsLActs w a len) (hb : Below w.heap.size w w') : IsLActs w' a len := by
  rcases h with h | ⟨ab, ao, P, e, hP⟩
  · exact Or.inl h
  · refine Or.inr ⟨ab, ao, P, e, fun i hi => ?_⟩
    have hh := hP i hi
    have k : ∀ (o : Nat) (u : Value), w.cell? ⟨ab, o, none⟩ = some u → w'.cell? ⟨ab, o, none⟩ = some u := fun o u hc => (hb.cell (p := ⟨ab, o, none⟩) (lt_of_cell hc)).trans hc
    exact ⟨k _ _ hh.1, k _ _ hh.2.1, k _ _ hh.2.2.1, k _ _ hh.2.2.2.1, k _ _ hh.2.2.2.2.1, k _ _ hh.2.2.2.2.2.1, k _ _ hh.2.2.2.2.2.2⟩
theorem acts_kept {W w' : World} {ab ao len j : Nat} {P : Nat → LActM} (hP : LActsAt W ab ao len P) (hj : j < len) (hb : Below W.heap.size W w') : w'.cell? ⟨ab, ao + j * 7 + 1, none⟩ = some (.int .i64 (P j).N) ∧ w'.cell? ⟨ab, ao + j * 7 + 2, none⟩ = some (.int .i64 (P j).G) ∧ w'.cell? ⟨ab, ao + j * 7 + 3, none⟩ = some (.int .i64 (P j).O) ∧ w'.cell? ⟨ab, ao + j * 7 + 4, none⟩ = some (.int .i64 (P j).A) ∧ w'.cell? ⟨ab, ao + j * 7 + 5, none⟩ = some (.int .i64 (P j).S) ∧ w'.cell? ⟨ab, ao + j * 7 + 6, none⟩ = some (.bool (P j).W) := by
  obtain ⟨p0, p1, p2, p3, p4, p5, p6⟩ := hP j hj
  have k : ∀ (o : Nat) (u : Value), W.cell? ⟨ab, o, none⟩ = some u → w'.cell? ⟨ab, o, none⟩ = some u := fun o u hc => (hb.cell (p := ⟨ab, o, none⟩) (lt_of_cell hc)).trans hc
  exact ⟨k _ _ p1, k _ _ p2, k _ _ p3, k _ _ p4, k _ _ p5, k _ _ p6⟩
set_option maxRecDepth 100000 in
set_option maxHeartbeats 8000000 in
theorem bytes_walk (ad : Option Addr) (len cap : Nat) (A S : Int) (b : Bool) (A0 : Nat → Addr) (w : World) (hP : IsLActs w ad len) (hE : Errs w A0) (hl : len ≤ 30) : Calls Tryd.prog 6 #[.slice ad len cap, .agg #[.int .i64 A, .int .i64 S], .bool b] w fun e w' => e = .returned (.bool true) ∧ Below w.heap.size w w' := by
  have HB0 : Hid (Below w.heap.size w (w.alloc (.cells #[.int .i64 A, .int .i64 S] 35))) := (Below.refl _ _).alloc (Nat.le_refl _) _
  have HRC : Hid ((w.alloc (.cells #[.int .i64 A, .int .i64 S] 35)).cell? ⟨w.heap.size, 0, none⟩ = some (.int .i64 A) ∧ (w.alloc (.cells #[.int .i64 A, .int .i64 S] 35)).cell? ⟨w.heap.size, 1, none⟩ = some (.int .i64 S)) := by
    have := two_own (B := w.heap.size) (Only.refl [] (w.alloc (.cells #[.int .i64 A, .int .i64 S] 35))) rfl
    exact ⟨this.1, this.2.1⟩
  have HE0 : Hid (Errs (w.alloc (.cells #[.int .i64 A, .int .i64 S] 35)) A0) := hE.below HB0.out (Nat.le_refl _)
  have HP0 : Hid (IsLActs (w.alloc (.cells #[.int .i64 A, .int .i64 S] 35)) ad len) := hP.below HB0.out
  have hh := held_any A0 (w.alloc (.cells #[.int .i64 A, .int .i64 S] 35)) HE0.out.three
  have g1 : decide (30 < (len : Int)) = false := decide_eq_false (by omega)
  clear hP hE
  go_enter Tryd.func6, Tryd.ntmps6
  go_wp2_with (go_at_call 7; refine hh.mono ?_; rintro e w1 ⟨rfl, hb1⟩; have HW1 : Hid (LkW (w.alloc (.cells #[.int .i64 A, .int .i64 S] 35)) (w1.alloc (.cells #[.slice none 0 0] 27)) w1.heap.size []) := LkW.fresh hb1; clear hh hb1)
  generalize w1.alloc (.cells #[.slice none 0 0] 27) = w2 at HW1 ⊢
  generalize w1.heap.size = t at HW1 ⊢
  obtain ⟨R, hR⟩ : ∃ R, w.heap.size = R := ⟨_, rfl⟩
  have HRS : Hid (w.heap.size = R) := hR
  rw [hR] at HRC ⊢
  obtain ⟨W, hWW⟩ : ∃ W, w.alloc (.cells #[.int .i64 A, .int .i64 S] 35) = W := ⟨_, rfl⟩
  rw [hWW] at HRC HE0 HP0 HW1 HB0
  clear hWW hR g1
  go_loopw [9] (fun i wr => ∃ (j : Nat) (l : List Lk), i = .int .i64 j ∧ j ≤ len ∧ LkW W wr t l) (fun i _ => len - (intOf i).toNat)
  case atStart => exact ⟨0, [], rfl, Nat.zero_le _, HW1.out⟩
  case round =>
    obtain ⟨j, l, rfl, hj, hW⟩ := hrel
    have HW : Hid (LkW W wr t l) := hW
    clear hW HW1
    by_cases hlt : j < len
    · have hj2 : (j : Int) < len := by omega
      obtain ⟨ab, ao, P, rfl, hPP⟩ := HP0.out.resolve_left (by omega)
      have HPP : Hid (LActsAt W ab ao len P) := hPP
      obtain ⟨p0, p1, p2, p3, p4, p5, p6⟩ := hPP j hlt
      clear hPP
      have k : ∀ (o : Nat) (u : Value), W.cell? ⟨ab, o, none⟩ = some u → wr.cell? ⟨ab, o, none⟩ = some u := fun o u hc => (HW.out.below.cell (p := ⟨ab, o, none⟩) (lt_of_cell hc)).trans hc
      have q0 := k _ _ p0
      have HS0 : Hid (wr.drew.cell? ⟨ab, ao + j * 7 + 1, none⟩ = some (.int .i64 (P j).N) ∧ wr.drew.cell? ⟨ab, ao + j * 7 + 2, none⟩ = some (.int .i64 (P j).G) ∧ wr.drew.cell? ⟨ab, ao + j * 7 + 3, none⟩ = some (.int .i64 (P j).O) ∧ wr.drew.cell? ⟨ab, ao + j * 7 + 4, none⟩ = some (.int .i64 (P j).A) ∧ wr.drew.cell? ⟨ab, ao + j * 7 + 5, none⟩ = some (.int .i64 (P j).S) ∧ wr.drew.cell? ⟨ab, ao + j * 7 + 6, none⟩ = some (.bool (P j).W)) := ⟨k _ _ p1, k _ _ p2, k _ _ p3, k _ _ p4, k _ _ p5, k _ _ p6⟩
      clear p0 p1 p2 p3 p4 p5 p6 k
      have HLO : Hid (∀ Wd, Only [] wr Wd → Calls Tryd.prog 8 #[.pointer (some ⟨t, 0, none⟩), .agg #[.int .i64 (P j).N, .int .i64 (P j).G], .int .i64 (P j).O, .agg #[.int .i64 (P j).A, .int .i64 (P j).S], .bool (P j).W] Wd fun e w' => ∃ (r : Value) (res : Lk) (l' : List Lk), e = .returned (.tuple #[.agg #[.int .i64 res.N, .int .i64 res.G, .int .i64 res.O, .int .i64 res.A, .int .i64 res.S, .bool res.W], r]) ∧ LkW W w' t l') := fun Wd ho => ((HW.out.only ho).lock HE0.out.three (P j).N (P j).G (P j).O (P j).A (P j).S (P j).W).mono fun e w' hh => by
          obtain ⟨c, r, res, l', he, _, hw, _⟩ := hh
          exact ⟨r, res, l', he, hw⟩
      go_wp2
      · go_region_held3 (fun Wd => Wd.cell? ⟨ab, ao + j * 7 + 1, none⟩ = some (.int .i64 (P j).N) ∧ Wd.cell? ⟨ab, ao + j * 7 + 2, none⟩ = some (.int .i64 (P j).G) ∧ Wd.cell? ⟨ab, ao + j * 7 + 3, none⟩ = some (.int .i64 (P j).O) ∧ Wd.cell? ⟨ab, ao + j * 7 + 4, none⟩ = some (.int .i64 (P j).A) ∧ Wd.cell? ⟨ab, ao + j * 7 + 5, none⟩ = some (.int .i64 (P j).S) ∧ Wd.cell? ⟨ab, ao + j * 7 + 6, none⟩ = some (.bool (P j).W)) (with_reducible first | exact HS0.out | exact HS3.out)
          (first
            | (go_at_call 8; refine (HLO.out _ (Only.refl [] wr).drew).mono ?_; rintro e w3 ⟨r3, res3, l3, rfl, hw3⟩; have HW3 : Hid (LkW W w3 t l3) := hw3; have HS3 : Hid (w3.cell? ⟨ab, ao + j * 7 + 1, none⟩ = some (.int .i64 (P j).N) ∧ w3.cell? ⟨ab, ao + j * 7 + 2, none⟩ = some (.int .i64 (P j).G) ∧ w3.cell? ⟨ab, ao + j * 7 + 3, none⟩ = some (.int .i64 (P j).O) ∧ w3.cell? ⟨ab, ao + j * 7 + 4, none⟩ = some (.int .i64 (P j).A) ∧ w3.cell? ⟨ab, ao + j * 7 + 5, none⟩ = some (.int .i64 (P j).S) ∧ w3.cell? ⟨ab, ao + j * 7 + 6, none⟩ = some (.bool (P j).W)) := acts_kept HPP.out hlt hw3.below; clear hw3))
        go_wp2
        go_roundw
        case rel => exact ⟨j + 1, l3, by go_num, by omega, HW3.out⟩
        case measure => simp [intOf]; omega
      · go_roundw
        case rel => exact ⟨j + 1, l, by go_num, by omega, HW.out⟩
        case measure => simp [intOf]; omega
    · obtain rfl : j = len := by omega
      have hj2 : decide ((j : Int) < j) = false := decide_eq_false (by omega)
      have HWH : Hid (LkW W (wr.alloc (.cells #[.int .i64 1, .int .i64 0] 33)) t l) := HW.out.only ((Only.refl [] _).alloc _)
      have HHC : Hid (∀ Wd, Only [t] (wr.alloc (.cells #[.int .i64 1, .int .i64 0] 33)) Wd → t < wr.heap.size → Wd.cell? ⟨wr.heap.size, 0, none⟩ = some (.int .i64 1) ∧ Wd.cell? ⟨wr.heap.size, 1, none⟩ = some (.int .i64 0)) := fun Wd ho ht => by
        have := two_own (B := wr.heap.size) (Only.refl [] (wr.alloc (.cells #[.int .i64 1, .int .i64 0] 33))) rfl
        exact ⟨(ho.cell (p := ⟨wr.heap.size, 0, none⟩) (by simp) (by rw [List.mem_singleton]; show ¬ wr.heap.size = t; omega)).trans this.1, (ho.cell (p := ⟨wr.heap.size, 1, none⟩) (by simp) (by rw [List.mem_singleton]; show ¬ wr.heap.size = t; omega)).trans this.2.1⟩
      have htw : t < wr.heap.size := by obtain ⟨v, hv⟩ := HW.out.tab; exact lt_of_cell hv.c0
      have HRX : Hid (∀ Wd l', LkW W Wd t l' → Wd.cell? ⟨R, 0, none⟩ = some (.int .i64 A) ∧ Wd.cell? ⟨R, 1, none⟩ = some (.int .i64 S)) := fun Wd l' hw => ⟨(hw.below.cell (p := ⟨R, 0, none⟩) (lt_of_cell HRC.out.1)).trans HRC.out.1, (hw.below.cell (p := ⟨R, 1, none⟩) (lt_of_cell HRC.out.2)).trans HRC.out.2⟩
      go_upto_region 11 with fail
      generalize wr.alloc (.cells #[.int .i64 1, .int .i64 0] 33) = wh at HWH HHC ⊢
      obtain ⟨hb, hhb⟩ : ∃ hb, wr.heap.size = hb := ⟨_, rfl⟩
      rw [hhb] at HHC htw ⊢
      have HHD : Hid (∀ Wd, Only [t] wh Wd → Wd.cell? ⟨hb, 0, none⟩ = some (.int .i64 1) ∧ Wd.cell? ⟨hb, 1, none⟩ = some (.int .i64 0)) := fun Wd ho => HHC.out Wd ho htw
      clear HHC hhb HW hj2
      obtain ⟨h0, h1⟩ := HHD.out wh (Only.refl _ _)
      obtain ⟨r0, r1⟩ := HRX.out wh l HWH.out
      have hhl := lt_of_cell h0
      have hrl := lt_of_cell r0
      have hsp := HWH.out.lock HE0.out.three 1 0 1 A S b
      by_cases hok : rngB A S = true ∧ (∀ x ∈ l, agB (⟨1, 0, 1, A, S, b⟩ : Lk) x = false) ∧ (withL (⟨1, 0, 1, A, S, b⟩ : Lk) l).length ≤ 60
      · have HOK : Hid (rngB A S = true ∧ (∀ x ∈ l, agB (⟨1, 0, 1, A, S, b⟩ : Lk) x = false) ∧ (withL (⟨1, 0, 1, A, S, b⟩ : Lk) l).length ≤ 60) := hok
        have HLK1 : Hid (Calls Tryd.prog 8 #[.pointer (some ⟨t, 0, none⟩), .agg #[.int .i64 1, .int .i64 0], .int .i64 1, .agg #[.int .i64 A, .int .i64 S], .bool b] wh fun e w' => ∃ (res : Lk) (l1 : List Lk), e = .returned (.tuple #[.agg #[.int .i64 res.N, .int .i64 res.G, .int .i64 res.O, .int .i64 res.A, .int .i64 res.S, .bool res.W], .nilIface]) ∧ l1.Perm (withL (⟨1, 0, 1, A, S, b⟩ : Lk) l) ∧ LkW W w' t l1 ∧ Only [t] wh w') := hsp.mono fun e w' hh => by
          obtain ⟨c, r, res, l1, he, hR, hw, ho⟩ := hh
          rcases hR with ⟨hx, _⟩ | ⟨_, ⟨q, hx, hp, _⟩, _⟩ | ⟨_, _, hx, _⟩ | ⟨_, _, _, _, hr, _, hp, _⟩
          · have hx' : rngB A S = false := hx
            rw [HOK.out.1] at hx'; cases hx'
          · rw [HOK.out.2.1 _ (List.mem_of_getElem? hx)] at hp; cases hp
          · have := HOK.out.2.2; omega
          · rw [hr] at he
            exact ⟨res, l1, he, hp, hw, ho⟩
        clear hsp hok
        go_upto_region 14 with (go_at_call 8; refine HLK1.out.mono ?_; rintro e w3 ⟨res3, l1, rfl, hp3, hw3, ho3⟩; have HP3 : Hid (l1.Perm (withL (⟨1, 0, 1, A, S, b⟩ : Lk) l)) := hp3; have HW3 : Hid (LkW W w3 t l1) := hw3; have HO3 : Hid (Only [t] wh w3) := ho3; clear hp3 hw3 ho3 h0 h1 r0 r1 hhl hrl)
        have HW4 : Hid (LkW W (w3.alloc (.cells #[.int .i64 res3.N, .int .i64 res3.G, .int .i64 res3.O, .int .i64 res3.A, .int .i64 res3.S, .bool res3.W] 39)) t l1) := HW3.out.only ((Only.refl [] _).alloc _)
        have HO4 : Hid (Only [t] wh (w3.alloc (.cells #[.int .i64 res3.N, .int .i64 res3.G, .int .i64 res3.O, .int .i64 res3.A, .int .i64 res3.S, .bool res3.W] 39))) := HO3.out.alloc _
        generalize w3.alloc (.cells #[.int .i64 res3.N, .int .i64 res3.G, .int .i64 res3.O, .int .i64 res3.A, .int .i64 res3.S, .bool res3.W] 39) = w4 at HW4 HO4 ⊢
        clear HW3 HO3 HLK1
        have HI1 : Hid (LInv l1) := HW4.out.inv
        have HT1 : Hid (∀ Wd, Only [] w4 Wd → Calls Tryd.prog 12 #[.pointer (some ⟨t, 0, none⟩), .agg #[.int .i64 1, .int .i64 0], .int .i64 1, .agg #[.int .i64 A, .int .i64 S], .bool b] Wd fun e w' => ∃ (res : Lk), e = .returned (.tuple #[.agg #[.int .i64 res.N, .int .i64 res.G, .int .i64 res.O, .int .i64 res.A, .int .i64 res.S, .bool res.W], .nilIface]) ∧ Only [] Wd w') := fun Wd ho => ((HW4.out.only ho).test HE0.out.three 1 0 1 A S b).mono fun e w' hh => by
          obtain ⟨c, r, res, he, hR, _, ho'⟩ := hh
          rcases hR with ⟨hx, _⟩ | ⟨_, ⟨q, hx, hp, _⟩, _⟩ | ⟨_, _, _, hr, _⟩
          · have hx' : rngB A S = false := hx
            rw [HOK.out.1] at hx'; cases hx'
          · rw [with_ag HWH.out.inv (rngB_ok HOK.out.1) HOK.out.2.1 _ (HP3.out.mem_iff.1 (List.mem_of_getElem? hx))] at hp; cases hp
          · rw [hr] at he
            exact ⟨res, he, ho'⟩
        obtain ⟨h0, h1⟩ := HHD.out w4 HO4.out
        obtain ⟨r0, r1⟩ := HRX.out w4 l1 HW4.out
        have hhl := lt_of_cell h0
        have hrl := lt_of_cell r0
        have HCX : Hid (∀ Wd, Only [] w4 Wd → Wd.cell? ⟨hb, 0, none⟩ = some (.int .i64 1) ∧ Wd.cell? ⟨hb, 1, none⟩ = some (.int .i64 0) ∧ Wd.cell? ⟨R, 0, none⟩ = some (.int .i64 A) ∧ Wd.cell? ⟨R, 1, none⟩ = some (.int .i64 S)) := fun Wd ho => by
          have a := HHD.out Wd (only_nil HO4.out ho)
          have c := HRX.out Wd l1 (HW4.out.only ho)
          exact ⟨a.1, a.2, c.1, c.2⟩
        cases b with
        | false =>
          go_upto_region 21 with (go_at_call 12; refine (HT1.out _ (Only.refl [] _)).mono ?_; rintro e w5 ⟨res5, rfl, ho5⟩; have HO5 : Hid (Only [] w4 w5) := ho5; clear ho5 h0 h1 r0 r1 hhl hrl)
          have HO6 : Hid (Only [] w4 (w5.alloc (.cells #[.int .i64 res5.N, .int .i64 res5.G, .int .i64 res5.O, .int .i64 res5.A, .int .i64 res5.S, .bool res5.W] 39))) := HO5.out.alloc _
          generalize w5.alloc (.cells #[.int .i64 res5.N, .int .i64 res5.G, .int .i64 res5.O, .int .i64 res5.A, .int .i64 res5.S, .bool res5.W] 39) = w6 at HO6 ⊢
          obtain ⟨h0, h1, r0, r1⟩ := HCX.out w6 HO6.out
          have hhl := lt_of_cell h0
          have hrl := lt_of_cell r0
          have HW6 : Hid (LkW W w6 t l1) := HW4.out.only HO6.out
          have hup := HW6.out.unlock HE0.out.three 1 0 1 A S
          by_cases hu : (withoutL 1 0 1 A S l1).length ≤ 60
          · have HUN : Hid (Calls Tryd.prog 14 #[.pointer (some ⟨t, 0, none⟩), .agg #[.int .i64 1, .int .i64 0], .int .i64 1, .agg #[.int .i64 A, .int .i64 S]] w6 fun e w' => ∃ (l2 : List Lk), e = .returned .nilIface ∧ l2.Perm (withoutL 1 0 1 A S l1) ∧ LkW W w' t l2 ∧ Only [t] w6 w') := hup.mono fun e w' hh => by
              obtain ⟨c, r, l2, he, hR, hw, ho⟩ := hh
              rcases hR with ⟨hx, _⟩ | ⟨_, hx, _⟩ | ⟨_, _, _, hr, hp, _⟩
              · rw [HOK.out.1] at hx; cases hx
              · omega
              · rw [hr] at he
                exact ⟨l2, he, hp, hw, ho⟩
            clear hup
            go_upto_region 23 with (go_at_call 14; refine HUN.out.mono ?_; rintro e w10 ⟨l2, rfl, hp10, hw10, ho10⟩; have HP10 : Hid (l2.Perm (withoutL 1 0 1 A S l1)) := hp10; have HW10 : Hid (LkW W w10 t l2) := hw10; have HO10 : Hid (Only [t] w6 w10) := ho10; clear hp10 hw10 ho10 h0 h1 r0 r1 hhl hrl)
            obtain ⟨h0, h1⟩ := HHD.out w10 ((HO4.out.trans HO6.out (fun _ hk => by cases hk)).trans HO10.out (fun _ hk => Or.inl hk))
            obtain ⟨r0, r1⟩ := HRX.out w10 l2 HW10.out
            have hhl := lt_of_cell h0
            have hrl := lt_of_cell r0
            have hts := HW10.out.test HE0.out.three 1 0 99 A S true
            by_cases hno : ∀ x ∈ l2, agB ⟨1, 0, 99, A, S, true⟩ x = false
            · have HTL : Hid (Calls Tryd.prog 12 #[.pointer (some ⟨t, 0, none⟩), .agg #[.int .i64 1, .int .i64 0], .int .i64 99, .agg #[.int .i64 A, .int .i64 S], .bool true] w10 fun e w' => ∃ (res : Lk), e = .returned (.tuple #[.agg #[.int .i64 res.N, .int .i64 res.G, .int .i64 res.O, .int .i64 res.A, .int .i64 res.S, .bool res.W], .nilIface]) ∧ LkW W w' t l2) := hts.mono fun e w' hh => by
                obtain ⟨c, r, res, he, hR, hw, _⟩ := hh
                rcases hR with ⟨hx, _⟩ | ⟨_, ⟨q, hx, hp, _⟩, _⟩ | ⟨_, _, _, hr, _⟩
                · have hx' : rngB A S = false := hx
                  rw [HOK.out.1] at hx'; cases hx'
                · rw [hno _ (List.mem_of_getElem? hx)] at hp; cases hp
                · rw [hr] at he
                  exact ⟨res, he, hw⟩
              clear hts hno
              go_wp2_with (go_at_call 12; refine HTL.out.mono ?_; rintro e w11 ⟨res11, rfl, hw11⟩; have HB11 : Hid (Below w.heap.size w w11) := HB0.out.trans (hw11.below.mono HB0.out.size); clear hw11 h0 h1 r0 r1 hhl hrl)
              go_ret
              exact ⟨rfl, HB11.out.alloc HB11.out.size _⟩
            · have HTL : Hid (Calls Tryd.prog 12 #[.pointer (some ⟨t, 0, none⟩), .agg #[.int .i64 1, .int .i64 0], .int .i64 99, .agg #[.int .i64 A, .int .i64 S], .bool true] w10 fun e w' => ∃ (res : Lk) (k : Nat), e = .returned (.tuple #[.agg #[.int .i64 res.N, .int .i64 res.G, .int .i64 res.O, .int .i64 res.A, .int .i64 res.S, .bool res.W], .iface 158 (.pointer (some (A0 k)))]) ∧ (res.O != 1) = true ∧ LkW W w' t l2) := hts.mono fun e w' hh => by
                obtain ⟨c, r, res, he, hR, hw, _⟩ := hh
                rcases bytes_gone HI1.out HOK.out.1 HP10.out hR with hr | ⟨k, hr, ho⟩
                · rcases hR with ⟨_, _, hr2, _⟩ | ⟨_, _, _, hr2⟩ | ⟨_, hn, _⟩
                  · rw [hr] at hr2; cases hr2
                  · rw [hr] at hr2; cases hr2
                  · exact absurd hn hno
                · rw [hr] at he
                  exact ⟨res, k, he, bne_iff_ne.2 ho, hw⟩
              clear hts hno
              go_wp2_with (go_at_call 12; refine HTL.out.mono ?_; rintro e w11 ⟨res11, k11, rfl, hn11, hw11⟩; have HB11 : Hid (Below w.heap.size w w11) := HB0.out.trans (hw11.below.mono HB0.out.size); clear hw11 h0 h1 r0 r1 hhl hrl)
              go_ret
              exact ⟨by simp, HB11.out.alloc HB11.out.size _⟩
          · have HUN : Hid (Calls Tryd.prog 14 #[.pointer (some ⟨t, 0, none⟩), .agg #[.int .i64 1, .int .i64 0], .int .i64 1, .agg #[.int .i64 A, .int .i64 S]] w6 fun e w' => ∃ (k : Nat), e = .returned (.iface 158 (.pointer (some (A0 k)))) ∧ Below w.heap.size w w') := hup.mono fun e w' hh => by
              obtain ⟨c, r, l2, he, hR, hw, ho⟩ := hh
              have hbb := HB0.out.trans (hw.below.mono HB0.out.size)
              rcases hR with ⟨_, _, hr, _⟩ | ⟨_, _, _, hr, _⟩ | ⟨_, hx, _⟩
              · rw [hr] at he; exact ⟨1, he, hbb⟩
              · rw [hr] at he; exact ⟨8, he, hbb⟩
              · exact absurd hx hu
            clear hup
            go_wp2_with (go_at_call 14; refine HUN.out.mono ?_; rintro e w10 ⟨k10, rfl, hb10⟩; have HB10 : Hid (Below w.heap.size w w10) := hb10; clear hb10 h0 h1 r0 r1 hhl hrl)
            go_ret
            exact ⟨rfl, HB10.out⟩
        | true =>
          have HT2 : Hid (∀ Wd, Only [] w4 Wd → Calls Tryd.prog 12 #[.pointer (some ⟨t, 0, none⟩), .agg #[.int .i64 1, .int .i64 0], .int .i64 99, .agg #[.int .i64 A, .int .i64 S], .bool false] Wd fun e w' => ∃ (r : Value) (res : Lk), e = .returned (.tuple #[.agg #[.int .i64 res.N, .int .i64 res.G, .int .i64 res.O, .int .i64 res.A, .int .i64 res.S, .bool res.W], r]) ∧ Told A0 11 r ∧ (res.O == 99) = false ∧ Only [] Wd w') := fun Wd ho => ((HW4.out.only ho).test HE0.out.three 1 0 99 A S false).mono fun e w' hh => by
            obtain ⟨c, r, res, he, hR, _, ho'⟩ := hh
            have hb := bytes_held HWH.out.inv HOK.out.1 HP3.out hR
            have ht := hR.told
            rw [hb.1] at ht
            exact ⟨r, res, he, ht, beq_eq_false_iff_ne.2 hb.2, ho'⟩
          go_upto_region 18 with (go_at_call 12; refine (HT1.out _ (Only.refl [] _)).mono ?_; rintro e w5 ⟨res5, rfl, ho5⟩; have HO5 : Hid (Only [] w4 w5) := ho5; clear ho5 h0 h1 r0 r1 hhl hrl)
          have HO6 : Hid (Only [] w4 (w5.alloc (.cells #[.int .i64 res5.N, .int .i64 res5.G, .int .i64 res5.O, .int .i64 res5.A, .int .i64 res5.S, .bool res5.W] 39))) := HO5.out.alloc _
          generalize w5.alloc (.cells #[.int .i64 res5.N, .int .i64 res5.G, .int .i64 res5.O, .int .i64 res5.A, .int .i64 res5.S, .bool res5.W] 39) = w6 at HO6 ⊢
          obtain ⟨h0, h1, r0, r1⟩ := HCX.out w6 HO6.out
          have hhl := lt_of_cell h0
          have hrl := lt_of_cell r0
          go_upto_region 19 with (go_at_call 12; refine (HT2.out _ HO6.out).mono ?_; rintro e w7 ⟨r7, res7, rfl, ht7, hn7, ho7⟩; have HT7 : Hid (Told A0 11 r7) := ht7; have HO7 : Hid (Only [] w4 w7) := only_nil HO6.out ho7; clear ho7 ht7 h0 h1 r0 r1 hhl hrl)
          have HO8 : Hid (Only [] w4 (w7.alloc (.cells #[.int .i64 res7.N, .int .i64 res7.G, .int .i64 res7.O, .int .i64 res7.A, .int .i64 res7.S, .bool res7.W] 39))) := HO7.out.alloc _
          have HI8 : Hid (LkIn (w7.alloc (.cells #[.int .i64 res7.N, .int .i64 res7.G, .int .i64 res7.O, .int .i64 res7.A, .int .i64 res7.S, .bool res7.W] 39)) w7.heap.size res7) := LkIn.new w7 res7 39
          generalize w7.alloc (.cells #[.int .i64 res7.N, .int .i64 res7.G, .int .i64 res7.O, .int .i64 res7.A, .int .i64 res7.S, .bool res7.W] 39) = w8 at HO8 HI8 ⊢
          generalize w7.heap.size = D8 at HI8 ⊢
          go_upto_region 21 with (go_at_call 10; refine (coded2_any A0 11 _ _ (HE0.out.below (HW4.out.only HO8.out).below (Nat.le_refl _)) HT7.out).mono ?_; rintro e w9 ⟨rfl, hb9⟩; have HO9 : Hid (Only [] w4 w9) := only_nil HO8.out (Only.of_below hb9 []); obtain ⟨x0, x1, x2, x3, x4, x5⟩ := HI8.out.only (Only.of_below hb9 []) (by simp); have hxl := lt_of_cell x0; clear hb9)
          have HO6' : Hid (Only [] w4 w9) := HO9.out
          clear x0 x1 x2 x3 x4 x5 hxl hn7 HO6 HO7 HO8 HO9 HI8
          generalize w9 = w6 at HO6' ⊢
          have HO6 : Hid (Only [] w4 w6) := HO6'.out
          obtain ⟨h0, h1, r0, r1⟩ := HCX.out w6 HO6.out
          have hhl := lt_of_cell h0
          have hrl := lt_of_cell r0
          have HW6 : Hid (LkW W w6 t l1) := HW4.out.only HO6.out
          have hup := HW6.out.unlock HE0.out.three 1 0 1 A S
          by_cases hu : (withoutL 1 0 1 A S l1).length ≤ 60
          · have HUN : Hid (Calls Tryd.prog 14 #[.pointer (some ⟨t, 0, none⟩), .agg #[.int .i64 1, .int .i64 0], .int .i64 1, .agg #[.int .i64 A, .int .i64 S]] w6 fun e w' => ∃ (l2 : List Lk), e = .returned .nilIface ∧ l2.Perm (withoutL 1 0 1 A S l1) ∧ LkW W w' t l2 ∧ Only [t] w6 w') := hup.mono fun e w' hh => by
              obtain ⟨c, r, l2, he, hR, hw, ho⟩ := hh
              rcases hR with ⟨hx, _⟩ | ⟨_, hx, _⟩ | ⟨_, _, _, hr, hp, _⟩
              · rw [HOK.out.1] at hx; cases hx
              · omega
              · rw [hr] at he
                exact ⟨l2, he, hp, hw, ho⟩
            clear hup
            go_upto_region 23 with (go_at_call 14; refine HUN.out.mono ?_; rintro e w10 ⟨l2, rfl, hp10, hw10, ho10⟩; have HP10 : Hid (l2.Perm (withoutL 1 0 1 A S l1)) := hp10; have HW10 : Hid (LkW W w10 t l2) := hw10; have HO10 : Hid (Only [t] w6 w10) := ho10; clear hp10 hw10 ho10 h0 h1 r0 r1 hhl hrl)
            obtain ⟨h0, h1⟩ := HHD.out w10 ((HO4.out.trans HO6.out (fun _ hk => by cases hk)).trans HO10.out (fun _ hk => Or.inl hk))
            obtain ⟨r0, r1⟩ := HRX.out w10 l2 HW10.out
            have hhl := lt_of_cell h0
            have hrl := lt_of_cell r0
            have hts := HW10.out.test HE0.out.three 1 0 99 A S true
            by_cases hno : ∀ x ∈ l2, agB ⟨1, 0, 99, A, S, true⟩ x = false
            · have HTL : Hid (Calls Tryd.prog 12 #[.pointer (some ⟨t, 0, none⟩), .agg #[.int .i64 1, .int .i64 0], .int .i64 99, .agg #[.int .i64 A, .int .i64 S], .bool true] w10 fun e w' => ∃ (res : Lk), e = .returned (.tuple #[.agg #[.int .i64 res.N, .int .i64 res.G, .int .i64 res.O, .int .i64 res.A, .int .i64 res.S, .bool res.W], .nilIface]) ∧ LkW W w' t l2) := hts.mono fun e w' hh => by
                obtain ⟨c, r, res, he, hR, hw, _⟩ := hh
                rcases hR with ⟨hx, _⟩ | ⟨_, ⟨q, hx, hp, _⟩, _⟩ | ⟨_, _, _, hr, _⟩
                · have hx' : rngB A S = false := hx
                  rw [HOK.out.1] at hx'; cases hx'
                · rw [hno _ (List.mem_of_getElem? hx)] at hp; cases hp
                · rw [hr] at he
                  exact ⟨res, he, hw⟩
              clear hts hno
              go_wp2_with (go_at_call 12; refine HTL.out.mono ?_; rintro e w11 ⟨res11, rfl, hw11⟩; have HB11 : Hid (Below w.heap.size w w11) := HB0.out.trans (hw11.below.mono HB0.out.size); clear hw11 h0 h1 r0 r1 hhl hrl)
              go_ret
              exact ⟨rfl, HB11.out.alloc HB11.out.size _⟩
            · have HTL : Hid (Calls Tryd.prog 12 #[.pointer (some ⟨t, 0, none⟩), .agg #[.int .i64 1, .int .i64 0], .int .i64 99, .agg #[.int .i64 A, .int .i64 S], .bool true] w10 fun e w' => ∃ (res : Lk) (k : Nat), e = .returned (.tuple #[.agg #[.int .i64 res.N, .int .i64 res.G, .int .i64 res.O, .int .i64 res.A, .int .i64 res.S, .bool res.W], .iface 158 (.pointer (some (A0 k)))]) ∧ (res.O != 1) = true ∧ LkW W w' t l2) := hts.mono fun e w' hh => by
                obtain ⟨c, r, res, he, hR, hw, _⟩ := hh
                rcases bytes_gone HI1.out HOK.out.1 HP10.out hR with hr | ⟨k, hr, ho⟩
                · rcases hR with ⟨_, _, hr2, _⟩ | ⟨_, _, _, hr2⟩ | ⟨_, hn, _⟩
                  · rw [hr] at hr2; cases hr2
                  · rw [hr] at hr2; cases hr2
                  · exact absurd hn hno
                · rw [hr] at he
                  exact ⟨res, k, he, bne_iff_ne.2 ho, hw⟩
              clear hts hno
              go_wp2_with (go_at_call 12; refine HTL.out.mono ?_; rintro e w11 ⟨res11, k11, rfl, hn11, hw11⟩; have HB11 : Hid (Below w.heap.size w w11) := HB0.out.trans (hw11.below.mono HB0.out.size); clear hw11 h0 h1 r0 r1 hhl hrl)
              go_ret
              exact ⟨by simp, HB11.out.alloc HB11.out.size _⟩
          · have HUN : Hid (Calls Tryd.prog 14 #[.pointer (some ⟨t, 0, none⟩), .agg #[.int .i64 1, .int .i64 0], .int .i64 1, .agg #[.int .i64 A, .int .i64 S]] w6 fun e w' => ∃ (k : Nat), e = .returned (.iface 158 (.pointer (some (A0 k)))) ∧ Below w.heap.size w w') := hup.mono fun e w' hh => by
              obtain ⟨c, r, l2, he, hR, hw, ho⟩ := hh
              have hbb := HB0.out.trans (hw.below.mono HB0.out.size)
              rcases hR with ⟨_, _, hr, _⟩ | ⟨_, _, _, hr, _⟩ | ⟨_, hx, _⟩
              · rw [hr] at he; exact ⟨1, he, hbb⟩
              · rw [hr] at he; exact ⟨8, he, hbb⟩
              · exact absurd hx hu
            clear hup
            go_wp2_with (go_at_call 14; refine HUN.out.mono ?_; rintro e w10 ⟨k10, rfl, hb10⟩; have HB10 : Hid (Below w.heap.size w w10) := hb10; clear hb10 h0 h1 r0 r1 hhl hrl)
            go_ret
            exact ⟨rfl, HB10.out⟩
      · have HLK1 : Hid (Calls Tryd.prog 8 #[.pointer (some ⟨t, 0, none⟩), .agg #[.int .i64 1, .int .i64 0], .int .i64 1, .agg #[.int .i64 A, .int .i64 S], .bool b] wh fun e w' => ∃ (res : Lk) (k : Nat), e = .returned (.tuple #[.agg #[.int .i64 res.N, .int .i64 res.G, .int .i64 res.O, .int .i64 res.A, .int .i64 res.S, .bool res.W], .iface 158 (.pointer (some (A0 k)))]) ∧ Below w.heap.size w w') := hsp.mono fun e w' hh => by
          obtain ⟨c, r, res, l1, he, hR, hw, ho⟩ := hh
          have hbb := HB0.out.trans (hw.below.mono HB0.out.size)
          rcases hR with ⟨_, _, hr, _⟩ | ⟨_, _, _, hr, _⟩ | ⟨_, _, _, _, hr, _⟩ | ⟨h1, h2, h3, _⟩
          · rw [hr] at he; exact ⟨res, 1, he, hbb⟩
          · rw [hr] at he; exact ⟨res, 10, he, hbb⟩
          · rw [hr] at he; exact ⟨res, 8, he, hbb⟩
          · exact absurd ⟨h1, h2, h3⟩ hok
        clear hsp hok
        go_wp2_with (go_at_call 8; refine HLK1.out.mono ?_; rintro e w3 ⟨res3, k3, rfl, hb3⟩; have HB3 : Hid (Below w.heap.size w w3) := hb3; clear hb3 h0 h1 r0 r1 hhl hrl)
        go_ret
        exact ⟨rfl, HB3.out.alloc HB3.out.size _⟩
end Go.Proofs.YtfnniphemlnanaaDoor
