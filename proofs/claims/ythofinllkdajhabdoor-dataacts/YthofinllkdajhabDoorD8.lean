/- Data: the document's Write: the walk. -/
import Derived.Test.YthofinllkdajhabDoorD7
import Derived.Deep.AppendLies
namespace Go.Proofs.YthofinllkdajhabDoor
open Go Go.RowKit Go.Deep

/-- A slice's length. -/
def lenOf : Value → Nat
  | .slice _ n _ => n
  | _ => 0
theorem one_true (w : World) (t : TypeId) : ∀ j u, [Value.bool true][j]? = some u → (w.alloc (.cells #[.bool true] t)).cell? ((⟨w.heap.size, 0, none⟩ : Addr).add j) = some u := by
  intro j u h
  match j with
  | 0 =>
    simp at h
    subst h
    simp [Addr.add]
  | j + 1 => simp at h

set_option maxHeartbeats 4000000 in
set_option maxRecDepth 100000 in
theorem write_walk (w : World) (base g : Nat) (S s : ByteArray) (H : List Bool) (v : Value) (a : Nat) (hB : BytesAt w base g S H v) (hS : S.size ≤ 4096) (hH : H.length ≤ 64) (hs1 : 1 ≤ s.size) (hle : a + s.size ≤ 4096) (hbw : base ≤ w.heap.size) :
    Calls Tryd.prog 21 #[.pointer (some ⟨g, 0, none⟩), .int .i64 a, .string s] w fun e w' => e = .returned (.int .i64 0) ∧ ∃ v', BytesAt w' base g (writeS S a s) (marksH H (a / 64) ((a + s.size - 1) / 64 + 1 - a / 64)) v' ∧ Only (footB g v) w w' ∧ ∀ k, v'.ownBlock = some k → k ∈ footB g v ∨ w.heap.size ≤ k := by
  have hd : decide ((a : Int) < 0) = false := decide_eq_false (by omega)
  have hd2 : decide (4096 < (a : Int)) = false := decide_eq_false (by omega)
  have hd3 : decide (4096 - (a : Int) < (s.size : Int)) = false := decide_eq_false (by omega)
  have hse : (s.toList == []) = false := by
    rw [Lib.toList_data, beq_eq_false_iff_ne]
    intro k
    have : s.data.toList.length = s.size := rfl
    rw [k] at this
    simp at this
    omega
  have hc := hB.text
  have hf0 := hB.fz 0
  have hlt : g < w.heap.size := lt_of_cell hc
  have HB : Hid (BytesAt w base g S H v) := hB
  obtain ⟨p1, p2⟩ := padS_size S a
  obtain ⟨P, hP⟩ : ∃ P, padS S a = P := ⟨_, rfl⟩
  have HP : Hid (padS S a = P) := hP
  rw [hP] at p1 p2
  clear hB hP
  go_enter Tryd.func21, Tryd.ntmps21
  go_upto_if 31 with fail
  go_cut [] (fun wx => BytesAt wx base g P H v ∧ Only (footB g v) w wx)
  case first =>
    by_cases hgt : S.size < a
    · have hz := fun W => zeros_all (a - S.size) W (by omega)
      have hzs : (zer (a - S.size)).size = a - S.size := zer_size _
      have hPZ : Hid (P = S ++ zer (a - S.size)) := by
        have : P = S ++ zer (a - S.size) := by rw [← HP.out, padS, if_pos hgt]
        exact this
      generalize zer (a - S.size) = Z at hz hzs hPZ
      obtain ⟨k, hk⟩ : ∃ k, a - S.size = k := ⟨_, rfl⟩
      have hk' : (a : Int) - (S.size : Int) = (k : Int) := by omega
      have hkb : k ≤ 4096 := by omega
      have hwk : IntKind.i64.wrap (k : Int) = (k : Int) := by simp [IntKind.wrap, IntKind.signed, IntKind.bits]; omega
      rw [hk] at hz hzs
      have hadd : ∀ W : World, (Op.stringOp .add S Z).run Tryd.prog W = .ok (.string (S ++ Z)) W := fun W => run_string_add W S Z (by omega) (by omega)
      clear hd hd2 hd3 hse p1 p2
      go_wp2
      go_region_with (go_at_call 49; refine (hz _).mono ?_; rintro e w1 ⟨rfl, hb⟩; have k1 : w1.cell? ⟨g, 0, none⟩ = some (.string S) := (hb.cell (p := ⟨g, 0, none⟩) hlt).trans hc; have k2 : w1.frozen? ⟨g, 0, none⟩ = false := (hb.frozen (p := ⟨g, 0, none⟩) hlt).trans hf0)
      all_goals
        have hb' := below_from_drew hb
        have q1 := HB.out.kept (Only.of_below hb' []) (fun _ _ => by simp)
        have q2 := q1.retext (S ++ Z)
        rw [← hPZ.out] at q2
        have Q1 : Hid (BytesAt (w1.setCell ⟨g, 0, none⟩ (.string P)) base g P H v) := q2.1
        have Q2 : Hid (Only (footB g v) w (w1.setCell ⟨g, 0, none⟩ (.string P))) := (Only.of_below hb' (footB g v)).trans q2.2 (fun i hi => Or.inl hi)
        rw [← hPZ.out]
        clear q1 q2 hb hb'
        go_wp2
        go_meet
        exact ⟨Q1.out, Q2.out⟩
    · have hPS : P = S := by rw [← HP.out, padS, if_neg hgt]
      subst hPS
      go_wp2
      go_meet
      exact ⟨HB.out, Only.refl _ _⟩
  case rest =>
  obtain ⟨I, O⟩ := hcut
  have hc2 := I.text
  have hf2 := I.fz 0
  have HI : Hid (BytesAt wc base g P H v) := I
  have HO : Hid (Only (footB g v) w wc) := O
  have hP4 : P.size ≤ 4096 := by omega
  clear hc hf0 hlt HB I O hd hd2 hd3 hse
  go_upto_if 57 with fail
  go_cut [7] (fun t wx => t = .string (tailS P (a + s.size)) ∧ wc = wx)
  case first =>
    by_cases ht : a + s.size < P.size
    · have hT : tailS P (a + s.size) = P.extract (a + s.size) P.size := if_pos ht
      have hdt : decide ((a : Int) + (s.size : Int) < (P.size : Int)) = true := decide_eq_true (by omega)
      go_wp2
      go_meet
      exact ⟨by rw [hT], rfl⟩
    · have hT : tailS P (a + s.size) = ⟨#[]⟩ := if_neg ht
      have hdt : decide ((a : Int) + (s.size : Int) < (P.size : Int)) = false := decide_eq_false (by omega)
      go_wp2
      go_meet
      exact ⟨by rw [hT], rfl⟩
  case rest =>
  obtain ⟨rfl, rfl⟩ := hcut
  have hTs : (tailS P (a + s.size)).size ≤ 4096 := by
    unfold tailS
    split
    · rw [ByteArray.size_extract]; omega
    · exact Nat.zero_le _
  have hEs : (P.extract 0 a).size ≤ 4096 := by rw [ByteArray.size_extract]; omega
  have hWS : Hid (writeS S a s = P.extract 0 a ++ s ++ tailS P (a + s.size)) := by
    have : writeS S a s = P.extract 0 a ++ s ++ tailS P (a + s.size) := by unfold writeS; rw [HP.out]
    exact this
  generalize tailS P (a + s.size) = Tl at hTs hWS
  obtain ⟨q1, q2⟩ := HI.out.retext (P.extract 0 a ++ s ++ Tl)
  have Q1 : Hid (BytesAt (wc.setCell ⟨g, 0, none⟩ (.string (P.extract 0 a ++ s ++ Tl))) base g (writeS S a s) H v) := by
    rw [← hWS.out] at q1
    have : BytesAt (wc.setCell ⟨g, 0, none⟩ (.string (P.extract 0 a ++ s ++ Tl))) base g (writeS S a s) H v := by rw [← hWS.out]; exact q1
    exact this
  have Q2 : Hid (Only (footB g v) w (wc.setCell ⟨g, 0, none⟩ (.string (P.extract 0 a ++ s ++ Tl)))) := HO.out.trans q2 (fun i hi => Or.inl hi)
  have hsz4 : s.size ≤ 4096 := by omega
  clear q1 q2
  go_wp2
  clear hc2 hf2 hTs hEs HI HO
  generalize wc.setCell ⟨g, 0, none⟩ (.string (P.extract 0 a ++ s ++ Tl)) = wd at Q1 Q2 ⊢
  obtain ⟨T, hT⟩ : ∃ T, writeS S a s = T := ⟨_, rfl⟩
  have HT : Hid (writeS S a s = T) := hT
  rw [hT] at Q1
  clear hT hWS hP4
  obtain ⟨k0, hk0⟩ : ∃ k0, a / 64 = k0 := ⟨_, rfl⟩
  obtain ⟨E, hE⟩ : ∃ E, (a + s.size - 1) / 64 = E := ⟨_, rfl⟩
  have HK0 : Hid (a / 64 = k0 ∧ (a + s.size - 1) / 64 = E) := ⟨hk0, hE⟩
  have hki : (a : Int) / 64 = (k0 : Int) := by omega
  have hEi : ((a : Int) + (s.size : Int) - 1) / 64 = (E : Int) := by omega
  have hE63 : E ≤ 63 := by omega
  have hkE : k0 ≤ E := by omega
  clear hk0 hE
  rw [hki]
  go_loopw [8] (fun kk wr => ∃ (K i : Nat) (v1 : Value), k0 + i = K ∧ K ≤ E + 1 ∧ kk = .int .i64 K ∧ BytesAt wr base g T (marksH H k0 i) v1 ∧ Only (footB g v) w wr ∧ ∀ k, v1.ownBlock = some k → k ∈ footB g v ∨ w.heap.size ≤ k) (fun kk _ => E + 1 - (intOf kk).toNat)
  case atStart => exact ⟨k0, 0, v, rfl, by omega, rfl, Q1.out, Q2.out, fun k hk => Or.inl (List.mem_cons_of_mem _ (by rw [hk]; simp))⟩
  case round =>
    obtain ⟨K, i, v1, hKi, hKE, rfl, I, O, hft⟩ := hrel
    clear Q1 Q2 hki
    have hr := I.row
    by_cases hlt : K ≤ E
    · obtain ⟨L1, hL1⟩ : ∃ L1, marksH H k0 i = L1 := ⟨_, rfl⟩
      have hlen : L1.length ≤ 64 := by
        rw [← hL1]
        have := marksH_len H k0 i
        omega
      have HL1 : Hid (marksH H k0 i = L1) := hL1
      rw [hL1] at I
      obtain ⟨x1, cp1, hv1⟩ : ∃ x1 cp1, v1 = .slice x1 L1.length cp1 := by
        rcases I.owns.2 with ⟨hv, hz⟩ | ⟨gh, cap, cur, hv, _⟩
        · exact ⟨none, 0, by rw [hv, hz]⟩
        · exact ⟨_, _, hv⟩
      have HG : Hid (Grows w wr (footB g v) base g T v1 (moreH L1 0) v1) := by
        have : Grows w wr (footB g v) base g T v1 (moreH L1 0) v1 := by
          rw [show moreH L1 0 = L1 by simp [moreH]]
          exact I.grows hbw O hft
        exact this
      subst hv1
      clear I O hft hL1
      go_wp2_with fail
      rw [hEi]
      go_loopw [9] (fun l wx => ∃ (q N : Nat) (x : Option Addr) (cp : Nat), l = .slice x N cp ∧ L1.length + q = N ∧ N ≤ max L1.length (K + 1) ∧ Grows w wx (footB g v) base g T (.slice x1 L1.length cp1) (moreH L1 q) (.slice x N cp)) (fun l _ => K + 1 - lenOf l)
      case atStart => exact ⟨0, L1.length, x1, cp1, rfl, rfl, by omega, HG.out⟩
      case round =>
        obtain ⟨q, N, x, cp, rfl, hN, hq, G⟩ := hrel
        clear HG
        have HGG : Hid (Grows w wr (footB g v) base g T (.slice x1 L1.length cp1) (moreH L1 q) (.slice x N cp)) := G
        by_cases hqK : N ≤ K
        · obtain ⟨i0, hi, hz0, hz1, hz2⟩ := info_parts Tryd.infoBo
          have hown := G.owns.alloc (.cells #[.bool true] 4)
          rw [moreH_len, hN] at hown
          have hbl : base ≤ wr.heap.size := Nat.le_trans G.le G.only.size
          clear G hr
          go_wp2_with (at_builtin; refine wpList_append_lies _ rfl (.tmp 100) (.tmp 101) 51 rfl base 4 i0 _ 1 1 Tryd.underlying51 hi hz0 hz1 hz2 rfl (by decide) _ N ((moreH L1 q).map Value.bool) rfl hown ⟨wr.heap.size, 0, none⟩ 1 1 [.bool true] rfl rfl ?c1 ?c2 (by decide) ?c3 ?c4 ?c5 _ rfl ?_)
          case c1 => exact one_true wr 4
          case c2 => intro u hu; obtain rfl := List.mem_singleton.1 hu; rfl
          case c3 => unfold maxLen; omega
          case c4 => omega
          case c5 => simp; omega
          · intro gl cp' w3 ho hg hat _
            have hst := HGG.out.step (l' := .slice (some ⟨gl, 0, none⟩) (N + 1) cp') (by rw [moreH_len, hN]; exact ho) hg (fun k hk => by
              have hk' : gl = k := by simpa [Value.ownBlock] using hk
              subst hk'
              rcases hat with h1 | h1
              · exact Or.inl h1
              · exact Or.inr (by rw [h1]; simp))
            rw [← moreH_succ] at hst
            have HST : Hid (Grows w w3 (footB g v) base g T (.slice x1 L1.length cp1) (moreH L1 (q + 1)) (.slice (some ⟨gl, 0, none⟩) (N + 1) cp')) := hst
            clear hst ho hg hat hown HGG
            go_wp2
            go_roundw
            case rel => exact ⟨q + 1, N + 1, some ⟨gl, 0, none⟩, cp', rfl, by omega, by omega, HST.out⟩
            case measure => simp [lenOf]; omega
        · have hqe : q = K + 1 - L1.length := by omega
          obtain ⟨gl, cpl, hvl, _, _⟩ := World.ownsRow.form (by have := G.owns; rw [moreH_len, hN] at this; exact this) (by omega)
          obtain ⟨rfl, rfl⟩ : x = some ⟨gl, 0, none⟩ ∧ cp = cpl := by simpa using hvl
          obtain ⟨d1, d2⟩ := G.done (k := K) (hN.symm.trans (moreH_len L1 q).symm) (by simp [footB])
          have ho := G.owns
          rw [moreH_len, hN] at ho
          have hKl : K < (moreH L1 q).length := by rw [moreH_len]; omega
          have c1 : wr.cell? ⟨gl, K, none⟩ = some (.bool (moreH L1 q)[K]) := by
            rw [ho.cellAt K (by omega)]
            simp [hKl]
          have cf := ho.frozenAt K
          have hgl : base ≤ gl := (ho.lt gl rfl).1
          have hne : gl ≠ g := by have := G.lt; omega
          have e1 : (wr.setCell ⟨gl, K, none⟩ (.bool false)).cell? ⟨g, 1, none⟩ = some (.slice x1 L1.length cp1) := by rw [World.cell?_setCell_other _ _ _ _ (fun q => hne (congrArg Addr.block q))]; exact G.row
          have e2 : (wr.setCell ⟨gl, K, none⟩ (.bool false)).frozen? ⟨g, 1, none⟩ = false := by have := G.fz 1; simpa using this
          have hmk : (moreH L1 q).set K false = marksH H k0 (i + 1) := by rw [marksH, HL1.out, markH, hKi, hqe]
          rw [hmk] at d1
          have D1 : Hid (BytesAt ((wr.setCell ⟨gl, K, none⟩ (.bool false)).setCell ⟨g, 1, none⟩ (.slice (some ⟨gl, 0, none⟩) N cp)) base g T (marksH H k0 (i + 1)) (.slice (some ⟨gl, 0, none⟩) N cp)) := d1
          have D2 : Hid (Only (footB g v) w ((wr.setCell ⟨gl, K, none⟩ (.bool false)).setCell ⟨g, 1, none⟩ (.slice (some ⟨gl, 0, none⟩) N cp))) := d2
          have D3 : Hid (∀ k, (Value.slice (some ⟨gl, 0, none⟩) N cp).ownBlock = some k → k ∈ footB g v ∨ w.heap.size ≤ k) := G.foot
          clear d1 d2 ho G HGG hmk hvl hr hqe
          go_wp2
          go_roundw
          case rel => exact ⟨K + 1, i + 1, _, by omega, by omega, by go_num, D1.out, D2.out, D3.out⟩
          case measure => simp [intOf]; omega
    · have hKe : K = E + 1 := by omega
      have hHi : marksH H (a / 64) ((a + s.size - 1) / 64 + 1 - a / 64) = marksH H k0 i := by rw [HK0.out.1, HK0.out.2, show E + 1 - k0 = i by omega]
      have HF : Hid (BytesAt wr base g (writeS S a s) (marksH H (a / 64) ((a + s.size - 1) / 64 + 1 - a / 64)) v1) := by
        have : BytesAt wr base g (writeS S a s) (marksH H (a / 64) ((a + s.size - 1) / 64 + 1 - a / 64)) v1 := by rw [hHi, HT.out]; exact I
        exact this
      clear hHi
      go_wp2
      go_ret
      exact ⟨rfl, v1, HF.out, O, hft⟩
end Go.Proofs.YthofinllkdajhabDoor
