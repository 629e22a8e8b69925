/- XdrReads: the walk. -/
import Derived.Test.YtnhpgpjopogbiaaDoorB3
import Derived.Test.YtnhpgpjopogbiaaDoorX1
namespace Go.Proofs.YtnhpgpjopogbiaaDoor
open Go Go.RowKit Go.Deep

theorem str_ne {t : ByteArray} (h : 0 < t.size) : t.toList.isEmpty = false := by
  rw [ByteArray.toList_eq]
  cases hd : t.data.toList with
  | nil => rw [← bs_self t, hd] at h; exact absurd h (by decide)
  | cons _ _ => rfl

theorem str_empty : (bs []).toList.isEmpty = true := by rw [ByteArray.toList_eq]; rfl

set_option maxRecDepth 100000 in
set_option maxHeartbeats 4000000 in
theorem reads_walk (s : ByteArray) (ab ao len cap : Nat) (P : Nat → PutM) (A : Nat → Addr) (w : World) (hs : s.size ≤ 1000) (hp : PutsAt w ab ao len P) (hlen : len ≤ 60) (hE : Errs w A) :
    Calls Tryd.prog 6 #[.string s, .slice (some ⟨ab, ao, none⟩) len cap] w fun e w' => e = .returned (.bool true) ∧ Below w.heap.size w w' := by
  have HE : Hid _ := hE
  clear hE
  go_enter Tryd.func6, Tryd.ntmps6
  go_wp2_with (first
    | (go_at_call 13; refine (four_any _).mono ?_; rintro e w1 ⟨rfl, hb1⟩)
    | (go_at_call 22; refine (newReader_any s _).mono ?_; rintro e w2 ⟨rfl, rfl⟩))
  go_loopw [7, 8] (fun o i wr => ∃ (j : Nat) (t : ByteArray), j ≤ len ∧ i = .int .i64 j ∧ o = .string t ∧ InvW w w1.heap.size wr t) (fun _ i _ => len - (intOf i).toNat)
  case atStart => exact ⟨0, s, Nat.zero_le _, rfl, rfl, by simp, by simp, hb1.alloc hb1.size _, hb1.size, by omega⟩
  case round =>
    obtain ⟨j, t, hj, rfl, rfl, I⟩ := hrel
    by_cases hlt : j < len
    · obtain ⟨h0, h1, h2⟩ := hp j hlt
      have g0 : wr.cell? ⟨ab, ao + j * 3, none⟩ = some (.string (P j).K) := (I.below.cell (p := ⟨ab, ao + j * 3, none⟩) (lt_of_cell h0)).trans h0
      have g1 : wr.cell? ⟨ab, ao + j * 3 + 1, none⟩ = some (.int .i64 (P j).N) := (I.below.cell (p := ⟨ab, ao + j * 3 + 1, none⟩) (lt_of_cell h1)).trans h1
      have g2 : wr.cell? ⟨ab, ao + j * 3 + 2, none⟩ = some (.string (P j).S) := (I.below.cell (p := ⟨ab, ao + j * 3 + 2, none⟩) (lt_of_cell h2)).trans h2
      clear h0 h1 h2
      have IA : Hid (InvW w w1.heap.size (wr.alloc (.cells #[.string (P j).K, .int .i64 (P j).N, .string (P j).S] 42)) t) := I.boxed _
      have EA : Hid (Errs (wr.alloc (.cells #[.string (P j).K, .int .i64 (P j).N, .string (P j).S] 42)) A) := (HE.out.below I.below (Nat.le_refl _)).below ((Below.refl _ _).alloc (Nat.le_refl _) _) (Nat.le_refl _)
      have hts := I.size
      have hR1 := I.lt
      have I0 : Hid _ := I
      clear I
      cases hk0 : ((P j).K.toList == [105, 110, 116])
      · cases hk1 : ((P j).K.toList == [108, 111, 110, 103])
        · cases hk2 : ((P j).K.toList == [98, 111, 111, 108])
          · cases hk3 : ((P j).K.toList == [98, 121, 116, 101, 115])
            · by_cases h0 : 0 < t.size
              · have hne := str_ne h0
                go_wp2_with (first
                  | (go_at_call 27; go_must (refine (rEnd_some w1.heap.size t _ _ IA.out.cell (EA.out.cell 0 (by decide)) h0).mono ?_); rintro e w3 ⟨rfl, rfl⟩)
                  | (go_at_call 11; go_must (refine (coded_text A _ EA.out).mono ?_); rintro e w5 ⟨rfl, hb5⟩))
                go_roundw
                case rel => exact ⟨j + 1, _, by omega, by go_num, rfl, IA.out.grow hb5⟩
                case measure => simp [intOf]; omega
              · have hnil : t = bs [] := data_inj (List.length_eq_zero_iff.1 (by rw [data_length]; omega))
                subst hnil
                have hemp := str_empty
                go_wp2_with (first
                  | (go_at_call 27; go_must (refine (rEnd_none w1.heap.size _ IA.out.cell).mono ?_); rintro e w3 ⟨rfl, rfl⟩)
                  | (go_at_call 11; go_must (refine (coded_nil _).mono ?_); rintro e w5 ⟨rfl, rfl⟩))
                go_roundw
                case rel => exact ⟨j + 1, _, by omega, by go_num, rfl, IA.out⟩
                case measure => simp [intOf]; omega
            · go_wp2_with fail
              refine (rBytes_ends w1.heap.size t (P j).N 79 _ _ IA.out.cell IA.out.free (EA.out.cell 0 (by decide)) hts).mono ?_
              rintro e w3 (⟨hok, rfl, rfl⟩ | ⟨hno, rfl, hb3⟩)
              · have I3 : Hid _ := (I0.out.put (t' := cutAt t (4 + numAt t 4 + fillN (numAt t 4))) (Below.refl _ _) (by rw [cutAt_size]; omega)).boxed (.cells #[.string (P j).K, .int .i64 (P j).N, .string (P j).S] 42)
                have HO : Hid _ := hok
                clear hok
                go_wp2_with fail
                refine (cutItem_ends t (P j).N _ hts).mono ?_
                rintro e w4 ⟨⟨_, rfl⟩ | ⟨hno, rfl⟩, hb4⟩
                · go_wp2
                  go_roundw
                  case rel => exact ⟨j + 1, _, by omega, by go_num, rfl, I3.out.grow hb4⟩
                  case measure => simp [intOf]; omega
                · exact absurd HO.out hno
              · have HN : Hid _ := hno
                have hemp := str_empty
                have E3 : Hid _ := EA.out.below hb3 (Nat.le_refl _)
                have m1 : w3.cell? ⟨wr.heap.size, 1, none⟩ = some (.int .i64 (P j).N) := (hb3.cell (p := ⟨wr.heap.size, 1, none⟩) (by simp)).trans (by simp)
                clear hno
                go_wp2_with fail
                refine (cutItem_ends t (P j).N _ hts).mono ?_
                rintro e w4 ⟨⟨hok, rfl⟩ | ⟨_, rfl⟩, hb4⟩
                · exact absurd hok HN.out
                · have E4 : Hid _ := E3.out.below hb4 (Nat.le_refl _)
                  go_wp2_with (go_at_call 11; go_must (refine (coded_text A _ E4.out).mono ?_); rintro e w5 ⟨rfl, hb5⟩)
                  go_roundw
                  case rel => exact ⟨j + 1, _, by omega, by go_num, rfl, ((IA.out.grow hb3).grow hb4).grow hb5⟩
                  case measure => simp [intOf]; omega
          · by_cases h4 : 4 ≤ t.size
            · by_cases hg : 1 < numAt t 4
              · have hnl : numAt t 4 < 4294967296 := numAt_lt t 4
                go_wp2_with (first
                  | (go_at_call 25; go_must (refine (rBool_great w1.heap.size t 79 _ _ IA.out.cell (EA.out.cell 0 (by decide)) h4 (by omega) hg).mono ?_); rintro e w3 ⟨rfl, hb3⟩; have E3 : Hid _ := EA.out.below hb3 (Nat.le_refl _))
                  | (go_at_call 28; go_must (refine (cut4_ok t _ h4 hts).mono ?_); rintro e w4 ⟨rfl, hb4⟩; have E4 : Hid _ := E3.out.below hb4 (Nat.le_refl _))
                  | (go_at_call 11; go_must (refine (coded_text A _ E4.out).mono ?_); rintro e w5 ⟨rfl, hb5⟩))
                go_roundw
                case rel => exact ⟨j + 1, _, by omega, by go_num, rfl, ((IA.out.grow hb3).grow hb4).grow hb5⟩
                case measure => simp [intOf]; omega
              · have I3 : Hid _ := (I0.out.put (t' := cutAt t 4) (Below.refl _ _) (by rw [cutAt_size]; omega)).boxed (.cells #[.string (P j).K, .int .i64 (P j).N, .string (P j).S] 42)
                have hnl : numAt t 4 < 4294967296 := numAt_lt t 4
                go_wp2_with (first
                  | (go_at_call 25; go_must (refine (rBool_ok w1.heap.size t _ IA.out.cell IA.out.free h4 (by omega) (by omega)).mono ?_); rintro e w3 ⟨rfl, rfl⟩)
                  | (go_at_call 28; go_must (refine (cut4_ok t _ h4 hts).mono ?_); rintro e w4 ⟨rfl, hb4⟩))
                go_roundw
                case rel => exact ⟨j + 1, _, by omega, by go_num, rfl, I3.out.grow hb4⟩
                case measure => simp [intOf]; omega
            · go_wp2_with (first
                | (go_at_call 25; go_must (refine (rBool_short w1.heap.size t 79 _ _ IA.out.cell (EA.out.cell 0 (by decide)) (by omega)).mono ?_); rintro e w3 ⟨rfl, hb3⟩; have E3 : Hid _ := EA.out.below hb3 (Nat.le_refl _))
                | (go_at_call 28; go_must (refine (cut4_short t _ (by omega)).mono ?_); rintro e w4 ⟨rfl, rfl⟩)
                | (go_at_call 11; go_must (refine (coded_text A _ E3.out).mono ?_); rintro e w5 ⟨rfl, hb5⟩))
              go_roundw
              case rel => exact ⟨j + 1, _, by omega, by go_num, rfl, (IA.out.grow hb3).grow hb5⟩
              case measure => simp [intOf]; omega
        · by_cases h4 : 8 ≤ t.size
          · by_cases hg : 9223372036854775807 < numAt t 8
            · go_wp2_with (first
                | (go_at_call 24; go_must (refine (rLong_great w1.heap.size t 79 _ _ IA.out.cell (EA.out.cell 0 (by decide)) h4 (by omega) hg).mono ?_); rintro e w3 ⟨rfl, hb3⟩; have E3 : Hid _ := EA.out.below hb3 (Nat.le_refl _))
                | (go_at_call 28; go_must (refine (cut8_great t _ h4 hts hg).mono ?_); rintro e w4 ⟨rfl, rfl⟩)
                | (go_at_call 11; go_must (refine (coded_text A _ E3.out).mono ?_); rintro e w5 ⟨rfl, hb5⟩))
              go_roundw
              case rel => exact ⟨j + 1, _, by omega, by go_num, rfl, (IA.out.grow hb3).grow hb5⟩
              case measure => simp [intOf]; omega
            · have I3 : Hid _ := (I0.out.put (t' := cutAt t 8) (Below.refl _ _) (by rw [cutAt_size]; omega)).boxed (.cells #[.string (P j).K, .int .i64 (P j).N, .string (P j).S] 42)
              have hnl : numAt t 8 < 18446744073709551616 := numAt_lt t 8
              go_wp2_with (first
                | (go_at_call 24; go_must (refine (rLong_ok w1.heap.size t _ IA.out.cell IA.out.free h4 (by omega) (by omega)).mono ?_); rintro e w3 ⟨rfl, rfl⟩)
                | (go_at_call 28; go_must (refine (cut8_ok t _ h4 hts (by omega)).mono ?_); rintro e w4 ⟨rfl, hb4⟩))
              go_roundw
              case rel => exact ⟨j + 1, _, by omega, by go_num, rfl, I3.out.grow hb4⟩
              case measure => simp [intOf]; omega
          · go_wp2_with (first
              | (go_at_call 24; go_must (refine (rLong_short w1.heap.size t 79 _ _ IA.out.cell (EA.out.cell 0 (by decide)) (by omega)).mono ?_); rintro e w3 ⟨rfl, hb3⟩; have E3 : Hid _ := EA.out.below hb3 (Nat.le_refl _))
              | (go_at_call 28; go_must (refine (cut8_short t _ (by omega)).mono ?_); rintro e w4 ⟨rfl, rfl⟩)
              | (go_at_call 11; go_must (refine (coded_text A _ E3.out).mono ?_); rintro e w5 ⟨rfl, hb5⟩))
            go_roundw
            case rel => exact ⟨j + 1, _, by omega, by go_num, rfl, (IA.out.grow hb3).grow hb5⟩
            case measure => simp [intOf]; omega
      · by_cases h4 : 4 ≤ t.size
        · have I3 : Hid _ := (I0.out.put (t' := cutAt t 4) (Below.refl _ _) (by rw [cutAt_size]; omega)).boxed (.cells #[.string (P j).K, .int .i64 (P j).N, .string (P j).S] 42)
          have hnl : numAt t 4 < 4294967296 := numAt_lt t 4
          go_wp2_with (first
            | (go_at_call 23; go_must (refine (rInt_ok w1.heap.size t _ IA.out.cell IA.out.free h4 (by omega)).mono ?_); rintro e w3 ⟨rfl, rfl⟩)
            | (go_at_call 28; go_must (refine (cut4_ok t _ h4 hts).mono ?_); rintro e w4 ⟨rfl, hb4⟩))
          go_roundw
          case rel => exact ⟨j + 1, _, by omega, by go_num, rfl, I3.out.grow hb4⟩
          case measure => simp [intOf]; omega
        · go_wp2_with (first
            | (go_at_call 23; go_must (refine (rInt_short w1.heap.size t 79 _ _ IA.out.cell (EA.out.cell 0 (by decide)) (by omega)).mono ?_); rintro e w3 ⟨rfl, hb3⟩; have E3 : Hid _ := EA.out.below hb3 (Nat.le_refl _))
            | (go_at_call 28; go_must (refine (cut4_short t _ (by omega)).mono ?_); rintro e w4 ⟨rfl, rfl⟩)
            | (go_at_call 11; go_must (refine (coded_text A _ E3.out).mono ?_); rintro e w5 ⟨rfl, hb5⟩))
          go_roundw
          case rel => exact ⟨j + 1, _, by omega, by go_num, rfl, (IA.out.grow hb3).grow hb5⟩
          case measure => simp [intOf]; omega
    · have Hb : Hid _ := I.below
      clear I
      go_wp2
      go_ret
      exact ⟨rfl, Hb.out⟩
end Go.Proofs.YtnhpgpjopogbiaaDoor
