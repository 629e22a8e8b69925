/- DiskKeeps: the law's walk. -/
import Derived.Test.YtlddnbpcinoenaaDoorDk15
namespace Go.Proofs.YtlddnbpcinoenaaDoor
open Go Go.RowKit Go.Deep

theorem strInfo : (Tryd.prog.info? 9).map (fun i => (i.zero, i.size, i.bytes)) = some (some (.string ⟨#[]⟩), 1, 16) := by kernel_rfl
theorem strsUnd : Tryd.prog.underlying 41 = some (.slice 9) := by kernel_rfl
def txt (s : Sec) : Value := .string (bs s.1)
set_option maxRecDepth 100000 in
set_option maxHeartbeats 8000000 in
theorem keeps_main (A : Nat → Addr) (w : World) (N a : Nat) (ad : Option Addr) (cap : Nat) (L : List Ac) (s : ByteArray) (keep : Bool) (hE : Err3 w A) (hI : ActsIn w ad L) (hL : L.length ≤ 1048576) (hc0 : bulkN L ≤ 200) (hN1 : 1 ≤ N) (hN2 : N ≤ 40) (hs : s.size ≤ 64) (ha : a < N) :
    Calls Tryd.prog 4 #[.int .i64 (N : Nat), .slice ad L.length cap, .string s, .int .i64 (a : Nat), .bool keep] w fun e w' => e = .returned (.bool true) ∧ Below w.heap.size w w' := by
  have HSP : Hid (Calls Tryd.prog 5 #[] w fun e w' => e = .returned (.bool true) ∧ Below w.heap.size w w') := spun_any A w hE
  have HBK : Hid (∀ W, Below w.heap.size w W → Calls Tryd.prog 6 #[.slice ad L.length cap] W fun e w' => e = .returned (.bool false) ∧ Only [] W w') := fun W hb => by
    have := bulky_any W ad cap L (hI.below hb) hL
    rwa [decide_eq_false (by omega)] at this
  have HE : Hid (∀ W, Below w.heap.size w W → Err3 W A) := fun W hb => hE.below hb (Nat.le_refl _)
  have HIN : Hid (∀ W, Below w.heap.size w W → ActsIn W ad L) := fun W hb => hI.below hb
  have e1 : decide ((N : Int) < 1) = false := decide_eq_false (by omega)
  have e2 : decide ((40 : Int) < (N : Int)) = false := decide_eq_false (by omega)
  have e3 : decide ((64 : Int) < (s.size : Int)) = false := decide_eq_false (by omega)
  have e4 : decide ((a : Int) < 0) = false := decide_eq_false (by omega)
  have e5 : decide ((N : Int) ≤ (a : Int)) = false := decide_eq_false (by omega)
  obtain ⟨len, hlen⟩ : ∃ len, L.length = len := ⟨_, rfl⟩
  have hl200 : len ≤ 200 := by
    have := bulkN_ge L L.length (Nat.le_refl _)
    rw [List.take_length] at this
    omega
  have HLN : Hid (L.length = len) := hlen
  rw [hlen] at HBK ⊢
  clear hE hI hL hc0 hlen
  go_enter Tryd.func4, Tryd.ntmps4
  go_wp2_with (first
    | (go_at_call 5; refine HSP.out.mono ?_; rintro e w1 ⟨rfl, hb⟩; have B1 : Hid (Below w.heap.size w w1) := hb; clear hb)
    | (go_at_call 6; refine (HBK.out w1 B1.out).mono ?_; rintro e w2 ⟨rfl, hb⟩; have B2 : Hid (Below w.heap.size w w2) := B1.out.trans (hb.to_below B1.out.size (fun _ h => by cases h)); clear hb)
    | (go_at_call 7; refine (dnew_ok w2 N hN1 (by omega)).mono ?_; rintro e w3 ⟨t, vs, rfl, hd, ho⟩; have HD0 : Hid (DkAt w3 w2.heap.size t none vs (.slice none 0 0) (List.replicate N zeroS) []) := hd; have B3 : Hid (Below w.heap.size w w3) := B2.out.trans (ho.to_below B2.out.size (fun _ h => by cases h)); clear hd ho))
  go_loopw [14] (fun i wr => ∃ (j : Nat) (st : DSt) (vw : Value), i = .int .i64 (j : Nat) ∧ j ≤ len ∧ DkAt wr w2.heap.size t st.pw vs vw st.sec st.wt ∧ st.sec.length = N ∧ st.wt.length ≤ j ∧ (∀ k, st.pw = some k → k < 9223372036854775808) ∧ Below w.heap.size w wr ∧ w2.heap.size ≤ wr.heap.size) (fun i _ => len - (intOf i).toNat)
  case atStart => exact ⟨0, ⟨none, List.replicate N zeroS, []⟩, _, rfl, Nat.zero_le _, HD0.out, by simp, by simp, fun k e => (by cases e), B3.out, (by have h1 := HD0.out.tb; have h2 := HD0.out.lt; omega)⟩
  case round =>
    obtain ⟨j, st, vw, rfl, hj, hd, hlN, hlw, hpw, hbel, hsz⟩ := hrel
    clear HD0
    have HB2 : Hid (w.heap.size ≤ w2.heap.size) := B2.out.size
    by_cases hlt : j < len
    · have hl : decide ((j : Int) < (len : Int)) = true := decide_eq_true (by omega)
      obtain ⟨x, hx⟩ : ∃ x, L[j]? = some x := ⟨L[j]'(by have := HLN.out; omega), List.getElem?_eq_getElem _⟩
      obtain ⟨b, o, rfl, hb, hA⟩ := HIN.out wr hbel j x hx
      have c0 := hA.k
      have c1 := hA.n
      have c2 := hA.s
      have c3 := hA.p
      have b1 : (j : Int) < (len : Int) := by omega
      have HDO : Hid (Calls Tryd.prog 10 #[.pointer (some ⟨t, 0, none⟩), .agg #[.string x.K, .int .i64 x.N, .string x.S, .slice x.ka x.B.length x.kc]] wr fun e w' => ∃ v, e = .returned v ∧ ∃ vw', DkAt w' w2.heap.size t (stepD x st).2.pw vs vw' (stepD x st).2.sec (stepD x st).2.wt ∧ Below w.heap.size w w' ∧ w2.heap.size ≤ w'.heap.size) := (doAct_ok A (HE.out wr hbel) hd x hA.keep (by have := hA.bl; omega) hpw (by omega) hsz).mono fun e w' q => by
        obtain ⟨he, vw', h1, h2, _⟩ := q
        refine ⟨_, he, vw', h1, hbel.trans (h2.to_below hbel.size (fun k hk => Nat.le_trans HB2.out (hd.foot_ge k hk))), Nat.le_trans hsz h2.size⟩
      have HP : Hid ((stepD x st).2.sec.length = N ∧ (stepD x st).2.wt.length ≤ j + 1 ∧ (∀ k, (stepD x st).2.pw = some k → k < 9223372036854775808)) := ⟨by rw [stepD_len]; exact hlN, by have := stepD_wt x st; omega, stepD_pw x st hA.top hpw⟩
      clear hd hA hx hbel hpw hlN hlw hsz
      go_wp2_with (go_at_call 10; refine HDO.out.mono ?_; rintro e w4 ⟨v, rfl, vw4, hd4, hb4, hz4⟩; have H4 : Hid (DkAt w4 w2.heap.size t (stepD x st).2.pw vs vw4 (stepD x st).2.sec (stepD x st).2.wt ∧ Below w.heap.size w w4 ∧ w2.heap.size ≤ w4.heap.size) := ⟨hd4, hb4, hz4⟩; clear hd4 hb4 hz4)
      go_roundw
      case rel => exact ⟨j + 1, (stepD x st).2, vw4, by go_num, by omega, H4.out.1, HP.out.1, HP.out.2.1, HP.out.2.2, H4.out.2.1, H4.out.2.2⟩
      case measure => simp [intOf]; omega
    · have hl : decide ((j : Int) < (len : Int)) = false := decide_eq_false (by omega)
      obtain ⟨S1, hS1⟩ : ∃ S1, redo (fun _ => false) st.wt (undo st.sec st.wt) st.wt.length = S1 := ⟨_, rfl⟩
      have hS1l : S1.length = N := by rw [← hS1, redo_len, undo_len]; exact hlN
      have HCR : Hid (Calls Tryd.prog 14 #[.pointer (some ⟨t, 0, none⟩), .slice none 0 0] wr fun e w' => ∃ v, e = .returned v ∧ DkAt w' w2.heap.size t none vs (.slice none 0 0) S1 [] ∧ Below w.heap.size w w' ∧ w2.heap.size ≤ w'.heap.size) := (callsIn_wide.1 (crash_in hd none 0 0 (fun _ => false) (fun j hj => by omega) (fun _ _ => rfl) (by omega))).mono fun e w' q => by
        obtain ⟨⟨v, he⟩, h1, h2⟩ := q
        rw [hS1] at h1
        exact ⟨v, he, h1, hbel.trans (h2.to_below hbel.size (fun k hk => Nat.le_trans HB2.out (hd.foot_ge k hk))), Nat.le_trans hsz h2.size⟩
      clear hd hlN hlw hpw hbel hsz hS1
      go_wp2_with (first
        | (go_at_call 14; refine HCR.out.mono ?_; rintro e w5 ⟨v5, rfl, hd5, hb5, hz5⟩
           have HFL : Hid (Calls Tryd.prog 15 #[.pointer (some ⟨t, 0, none⟩)] w5 fun e w' => e = .returned .nilIface ∧ DkAt w' w2.heap.size t none vs (.slice none 0 0) S1 [] ∧ Below w.heap.size w w' ∧ w2.heap.size ≤ w'.heap.size) := (flush_any A (HE.out w5 hb5) hd5 (fun k e => by cases e)).mono (fun e w' q => by
             rcases q with ⟨q, _⟩ | ⟨_, he, h1, h2⟩
             · cases q
             · exact ⟨he, h1, hb5.trans (h2.to_below hb5.size (fun k hk => Nat.le_trans HB2.out (hd5.foot_ge k (mem_foot.2 (Or.inl (by simpa using hk)))))), Nat.le_trans hz5 h2.size⟩)
           clear hd5 hb5 hz5)
        | (go_at_call 15; refine HFL.out.mono ?_; rintro e w6 ⟨rfl, hd6, hb6, hz6⟩; have H6 : Hid (DkAt w6 w2.heap.size t none vs (.slice none 0 0) S1 [] ∧ Below w.heap.size w w6 ∧ w2.heap.size ≤ w6.heap.size) := ⟨hd6, hb6, hz6⟩; clear hd6 hb6 hz6))
      go_loopw [15, 16] (fun u i wr => ∃ (j : Nat) (v : Value), v = u ∧ i = .int .i64 (j : Nat) ∧ j ≤ N ∧ wr.ownsRow w6.heap.size 9 1 v j ((S1.take j).map txt) ∧ DkAt wr w2.heap.size t none vs (.slice none 0 0) S1 [] ∧ Below w.heap.size w wr ∧ Only [] w6 wr) (fun _ i _ => N - (intOf i).toNat)
      case atStart => exact ⟨0, _, rfl, rfl, Nat.zero_le _, World.ownsRow_nil _ _ _ _, H6.out.1, H6.out.2.1, Only.refl _ _⟩
      case round =>
        clear hl hlt
        obtain ⟨j2, u, hu, rfl, hj2, hrow, hd, hbel, honl⟩ := hrel
        subst hu
        have HO : Hid (Only [] w6 wr) := honl
        have HBL : Hid (Below w.heap.size w wr) := hbel
        have HRW : Hid (wr.ownsRow w6.heap.size 9 1 u j2 ((S1.take j2).map txt)) := hrow
        have HDW : Hid (DkAt wr w2.heap.size t none vs (.slice none 0 0) S1 []) := hd
        have hfl : Hid (∀ k ∈ dkFoot t vs (.slice none 0 0), k < w6.heap.size) := H6.out.1.foot_lt
        by_cases hlt : j2 < N
        · have hl : decide ((j2 : Int) < (N : Int)) = true := decide_eq_true (by omega)
          obtain ⟨x, hx⟩ : ∃ x, S1[j2]? = some x := ⟨S1[j2]'(by omega), List.getElem?_eq_getElem _⟩
          have HRD : Hid (Calls Tryd.prog 13 #[.pointer (some ⟨t, 0, none⟩), .int .i64 (j2 : Nat)] wr fun e w' => e = .returned (.tuple #[.string (bs x.1), .nilIface]) ∧ w' = wr) := read_ok hd j2 x hx
          obtain ⟨i0, hi0, hz⟩ := Option.map_eq_some_iff.1 strInfo
          simp only [Prod.mk.injEq] at hz
          obtain ⟨hz0, hz1, hz2⟩ := hz
          have HOA : Hid (Only [] wr (wr.alloc (.cells #[.string (bs x.1)] 9))) := (Only.refl [] wr).alloc _
          have HRA : Hid ((wr.alloc (.cells #[.string (bs x.1)] 9)).ownsRow w6.heap.size 9 1 u j2 ((S1.take j2).map txt)) := HOA.out.owns hrow (fun _ _ => by simp)
          have HNW : Hid (∀ (r1 : Nat) (q1 : Value), [Value.string (bs x.1)][r1]? = some q1 → (wr.alloc (.cells #[.string (bs x.1)] 9)).cell? ((⟨wr.heap.size, 0, none⟩ : Addr).add r1) = some q1) := World.news_of_block (w := wr.alloc (.cells #[.string (bs x.1)] 9)) (heap_alloc_last wr (.cells #[.string (bs x.1)] 9))
          have HSZ : Hid (w6.heap.size ≤ (wr.alloc (.cells #[.string (bs x.1)] 9)).heap.size) := Nat.le_trans honl.size HOA.out.size
          have HX : Hid (S1[j2]? = some x) := hx
          have HUB : Hid (∀ k, u.ownBlock = some k → w6.heap.size ≤ k) := fun k hk => (own_blk hrow hk).1
          obtain ⟨au, cu, rfl⟩ := own_slice hrow
          clear hd hbel honl hrow hx
          go_wp2_with (first
            | (go_at_call 13; refine HRD.out.mono ?_; rintro e w0 ⟨rfl, h0⟩; have h1 := h0.symm; subst h1; clear h0)
            | (at_builtin; refine wpList_append_own _ rfl (.tmp 97) (.tmp 99) 41 rfl w6.heap.size 9 i0 _ 1 16 strsUnd hi0 hz0 hz1 hz2 rfl (by decide) _ j2 ((S1.take j2).map txt) rfl HRA.out ⟨wr.heap.size, 0, none⟩ 1 1 [.string (bs x.1)] rfl rfl HNW.out (fun q hq => by simp at hq; subst hq; rfl) (by unfold maxLen; omega) (by omega) HSZ.out ?_; intro v7 w7 hown7 hgr7 _; have H7 : Hid (w7.ownsRow w6.heap.size 9 1 v7 (j2 + 1) ((S1.take j2).map txt ++ [.string (bs x.1)]) ∧ Only [] w6 w7) := ⟨hown7, (HO.out.trans HOA.out (fun _ h => by cases h)).grown hgr7 (fun k hk => Or.inr (HUB.out k hk))⟩; clear hown7 hgr7))
          go_roundw
          case rel =>
            have hB7 : Below w.heap.size w w7 := H6.out.2.1.trans (H7.out.2.to_below H6.out.2.1.size (fun _ h => by cases h))
            refine ⟨j2 + 1, _, rfl, by go_num, by omega, ?_, H6.out.1.keep H7.out.2, hB7, H7.out.2⟩
            have := H7.out.1
            rw [List.take_add_one, HX.out]
            simpa [txt] using this
          case measure => simp [intOf]; omega
        · obtain rfl : j2 = N := by omega
          have hl : decide ((j2 : Int) < (j2 : Int)) = false := decide_eq_false (by omega)
          obtain ⟨x0, hx0⟩ : ∃ x0, S1[a]? = some x0 := ⟨S1[a]'(by omega), List.getElem?_eq_getElem _⟩
          obtain ⟨p, hp⟩ : ∃ p, padB s = p := ⟨_, rfl⟩
          have HPD : Hid (bs p.1 = s ++ zer (64 - s.size)) := by rw [← hp]; exact zer_pad hs
          have hw6 := honl.size
          have hw26 := H6.out.2.2
          have HWR : Hid (Calls Tryd.prog 16 #[.pointer (some ⟨t, 0, none⟩), .int .i64 (a : Nat), .string s] wr fun e w' => e = .returned .nilIface ∧ ∃ vw', DkAt w' w2.heap.size t none vs vw' (S1.set a p) [⟨a, x0, p⟩] ∧ Only (dkFoot t vs (.slice none 0 0)) wr w' ∧ (∀ k, vw'.ownBlock = some k → wr.heap.size ≤ k)) := (write_ok A (HE.out wr hbel) hd a s x0 hx0 hs (by simp) (fun k e => by cases e) (by simp) (by omega)).mono fun e w' q => by
            obtain ⟨he, vw', h1, h2, h3⟩ := q
            rw [hp] at h1
            exact ⟨he, vw', h1, h2, fun k hk => (h3 k hk).elim (fun e => by cases e) id⟩
          have HX0 : Hid (S1[a]? = some x0) := hx0
          have hrow' := hrow
          rw [List.take_of_length_le (by omega)] at hrow'
          have HRN : Hid (wr.ownsRow w6.heap.size 9 1 u j2 (S1.map txt)) := hrow'
          obtain ⟨au, cu, rfl⟩ := own_slice hrow
          clear hd hbel honl hrow hrow' hx0 hp HRW
          go_wp2_with (first
            | (go_at_call 16; refine HWR.out.mono ?_; rintro e w8 ⟨rfl, vw8, hd8, ho8, hv8⟩
               have HCP : Hid (Calls Tryd.prog 17 #[.pointer (some ⟨t, 0, none⟩)] w8 fun e w' => ∃ t' vs' vw', e = .returned (.pointer (some ⟨t', 0, none⟩)) ∧ DkAt w' w8.heap.size t' none vs' vw' (S1.set a p) [⟨a, x0, p⟩] ∧ Only [] w8 w') := copy_ok hd8 (by simp)
               have H8 : Hid (DkAt w8 w2.heap.size t none vs vw8 (S1.set a p) [⟨a, x0, p⟩] ∧ Only (dkFoot t vs (.slice none 0 0)) wr w8 ∧ (∀ k, vw8.ownBlock = some k → wr.heap.size ≤ k)) := ⟨hd8, ho8, hv8⟩
               clear hd8 ho8 hv8)
            | (go_at_call 17; refine HCP.out.mono ?_; rintro e w9 ⟨t9, vs9, vw9, rfl, hd9, ho9⟩
               have H9 : Hid (DkAt w9 w8.heap.size t9 none vs9 vw9 (S1.set a p) [⟨a, x0, p⟩] ∧ Only [] w8 w9) := ⟨hd9, ho9⟩
               have HCR : Hid (Calls Tryd.prog 14 #[.pointer (some ⟨t, 0, none⟩), .slice (some ⟨w9.heap.size, 0, none⟩) 1 1] (w9.alloc (.cells #[.bool keep] 4)) fun e w' => ∃ v, e = .returned v ∧ DkAt w' w2.heap.size t none vs (.slice none 0 0) (if keep then S1.set a p else S1) [] ∧ Only (dkFoot t vs vw8) (w9.alloc (.cells #[.bool keep] 4)) w') := (by
                 have hoA : Only [] w9 (w9.alloc (.cells #[.bool keep] 4)) := (Only.refl [] w9).alloc _
                 have hdA := (H8.out.1.keep ho9).keep hoA
                 have hfA : ∀ k ∈ dkFoot t vs vw8, k < w9.heap.size := (H8.out.1.keep ho9).foot_lt
                 refine (callsIn_wide.1 (crash_in hdA (some ⟨w9.heap.size, 0, none⟩) 1 1 (keepB [keep]) (fun j hj => ⟨w9.heap.size, 0, rfl, by simp, fun hm => by have := hfA _ hm; omega, ?_⟩) (fun j hj => by simp [keepB, List.getD, List.getElem?_eq_none (show [keep].length ≤ j from hj)]) (by simp))).mono fun e w' q => ?_
                 · obtain rfl : j = 0 := by omega
                   exact cell_of_row _ _ 0 _ _ _ (heap_alloc_last w9 (.cells #[.bool keep] 4))
                 · obtain ⟨⟨v, he⟩, h1, h2⟩ := q
                   have e9 := one_crash S1 (p := p) HX0.out keep
                   simp only [List.length_singleton] at h1
                   rw [e9] at h1
                   exact ⟨v, he, h1, h2⟩)
               clear hd9 ho9)
            | (go_at_call 14; refine HCR.out.mono ?_; rintro e w11 ⟨v11, rfl, hd11, ho11⟩
               have H11 : Hid (DkAt w11 w2.heap.size t none vs (.slice none 0 0) (if keep then S1.set a p else S1) [] ∧ Only (dkFoot t vs vw8) (w9.alloc (.cells #[.bool keep] 4)) w11) := ⟨hd11, ho11⟩
               clear hd11 ho11))
          have hoA : Only [] w9 (w9.alloc (.cells #[.bool keep] 4)) := (Only.refl [] w9).alloc _
          have hge8 : ∀ k ∈ dkFoot t9 vs9 vw9, w8.heap.size ≤ k := H9.out.1.foot_ge
          have hlt8 : ∀ k ∈ dkFoot t vs vw8, k < w8.heap.size := H8.out.1.foot_lt
          have HCC : Hid (DkAt w11 w8.heap.size t9 none vs9 vw9 (S1.set a p) [⟨a, x0, p⟩]) := (H9.out.1.keep hoA).only H11.out.2 (fun k hk hm => by have h1 := hge8 k hk; have h2 := hlt8 k hm; omega)
          have hub : ∀ k, (Value.slice au j2 cu).ownBlock = some k → w6.heap.size ≤ k ∧ k < wr.heap.size := fun k hk => ⟨(own_blk HRN.out hk).1, (own_blk HRN.out hk).2.1⟩
          have HU : Hid (w11.ownsRow w6.heap.size 9 1 (.slice au j2 cu) j2 (S1.map txt)) := by
            refine H11.out.2.owns (hoA.owns (H9.out.2.owns (H8.out.2.1.owns HRN.out (fun k hk hm => ?_)) (fun _ _ => by simp)) (fun _ _ => by simp)) (fun k hk hm => ?_)
            · have h1 := (hub k hk).1
              have h2 := hfl.out k hm
              omega
            · have h1 := hub k hk
              rcases mem_foot.1 hm with e | e | e
              · have := hfl.out t (mem_foot.2 (Or.inl rfl))
                omega
              · have := hfl.out k (mem_foot.2 (Or.inr (Or.inl e)))
                omega
              · have := H8.out.2.2 k e
                omega
          have HB : Hid (Below w.heap.size w w11) := by
            have hb2 := HB2.out
            have h1 : Below w.heap.size w w8 := HBL.out.trans (H8.out.2.1.to_below HBL.out.size (fun k hk => Nat.le_trans hb2 (HDW.out.foot_ge k hk)))
            have h2 : Below w.heap.size w w9 := h1.trans (H9.out.2.to_below h1.size (fun _ h => by cases h))
            have h3 : Below w.heap.size w (w9.alloc (.cells #[.bool keep] 4)) := h2.trans (hoA.to_below h2.size (fun _ h => by cases h))
            exact h3.trans (H11.out.2.to_below h3.size (fun k hk => Nat.le_trans hb2 (H8.out.1.foot_ge k hk)))
          have HDD : Hid (DkAt w11 w2.heap.size t none vs (.slice none 0 0) (if keep then S1.set a p else S1) []) := H11.out.1
          clear hub hge8 hlt8 hoA H11 H9 H8 HCP HWR HRN hfl HDW HBL HO H6
          go_loopw [20] (fun i wx => ∃ j : Nat, i = .int .i64 (j : Nat) ∧ j ≤ j2 ∧ Only [] w11 wx) (fun i _ => j2 - (intOf i).toNat)
          case atStart => exact ⟨0, rfl, Nat.zero_le _, Only.refl _ _⟩
          case round =>
            obtain ⟨i, rfl, hi, ho⟩ := hrel
            have HO : Hid (Only [] w11 wr) := ho
            have hDD := HDD.out.keep ho
            have hCC := HCC.out.keep ho
            have hUU := ho.owns HU.out (fun _ _ => by simp)
            clear ho
            by_cases hlt : i < j2
            · have hl : decide ((i : Int) < (j2 : Int)) = true := decide_eq_true (by omega)
              have b1 : (i : Int) < (j2 : Int) := by omega
              obtain ⟨x, hx⟩ : ∃ x, S1[i]? = some x := ⟨S1[i]'(by omega), List.getElem?_eq_getElem _⟩
              obtain ⟨gu, rfl⟩ : ∃ gu, au = some ⟨gu, 0, none⟩ := by
                rcases hUU.2 with ⟨_, e⟩ | ⟨g, c, cur, e, _⟩
                · omega
                · cases e
                  exact ⟨g, rfl⟩
              have HCU : Hid (∀ W, Only [] wr W → W.cell? ⟨gu, i, none⟩ = some (.string (bs x.1))) := fun W ho => by
                have := World.ownsRow.cellAt (ho.owns hUU (fun _ _ => by simp)) i (by omega)
                rw [this]
                simp [hx, txt]
              have HZ : Hid (∀ W, Calls Tryd.prog 18 #[.int .i64 ((64 : Int) - (s.size : Int))] W fun e w' => e = .returned (.string (zer (64 - s.size))) ∧ Only [] W w') := fun W => by
                have ez : ((64 : Int) - (s.size : Int)) = ((64 - s.size : Nat) : Int) := by omega
                rw [ez]
                exact zeros_dk (64 - s.size) W (by omega)
              have hzs := zer_size (64 - s.size)
              by_cases hia : i = a
              · subst hia
                have d1 : decide ((i : Int) = (i : Int)) = true := decide_eq_true rfl
                have hY : (S1.set i p)[i]? = some p := List.getElem?_set_self (by omega)
                have HR2 : Hid (Calls Tryd.prog 13 #[.pointer (some ⟨t9, 0, none⟩), .int .i64 (i : Nat)] wr fun e w' => e = .returned (.tuple #[.string (s ++ zer (64 - s.size)), .nilIface]) ∧ w' = wr) := by
                  have := read_ok hCC i p hY
                  rw [HPD.out] at this
                  exact this
                cases keep with
                | true =>
                  have HR1 : Hid (Calls Tryd.prog 13 #[.pointer (some ⟨t, 0, none⟩), .int .i64 (i : Nat)] wr fun e w' => e = .returned (.tuple #[.string (s ++ zer (64 - s.size)), .nilIface]) ∧ w' = wr) := by
                    have := read_ok hDD i p hY
                    rw [HPD.out] at this
                    exact this
                  clear hDD hCC hUU hx hY
                  go_wp2_with (first
                    | (go_at_call_of 13 (Value.pointer (some ⟨t, 0, none⟩)); refine HR1.out.mono ?_; rintro e w0 ⟨rfl, h0⟩; have h1 := h0.symm; subst h1; clear h0)
                    | (go_at_call_of 13 (Value.pointer (some ⟨t9, 0, none⟩)); refine HR2.out.mono ?_; rintro e w0 ⟨rfl, h0⟩; have h1 := h0.symm; subst h1; clear h0)
                    | (go_at_call 18; refine (HZ.out wr).mono ?_; rintro e w13 ⟨rfl, ho13⟩; have hcu := HCU.out w13 ho13; have hcl := lt_of_cell hcu; have H13 : Hid (Only [] w11 w13) := HO.out.trans ho13 (fun _ h => by cases h); clear ho13))
                  go_roundw
                  case rel => exact ⟨i + 1, by go_num, by omega, H13.out⟩
                  case measure => simp [intOf]; omega
                | false =>
                  have HR1 : Hid (Calls Tryd.prog 13 #[.pointer (some ⟨t, 0, none⟩), .int .i64 (i : Nat)] wr fun e w' => e = .returned (.tuple #[.string (bs x.1), .nilIface]) ∧ w' = wr) := read_ok hDD i x hx
                  clear hDD hCC hUU hx hY
                  go_wp2_with (first
                    | (go_at_call_of 13 (Value.pointer (some ⟨t, 0, none⟩)); refine HR1.out.mono ?_; rintro e w0 ⟨rfl, h0⟩; have h1 := h0.symm; subst h1; clear h0)
                    | (go_at_call_of 13 (Value.pointer (some ⟨t9, 0, none⟩)); refine HR2.out.mono ?_; rintro e w0 ⟨rfl, h0⟩; have h1 := h0.symm; subst h1; clear h0)
                    | (go_at_call 18; refine (HZ.out wr).mono ?_; rintro e w13 ⟨rfl, ho13⟩; have hcu := HCU.out w13 ho13; have hcl := lt_of_cell hcu; have H13 : Hid (Only [] w11 w13) := HO.out.trans ho13 (fun _ h => by cases h); clear ho13))
                  go_roundw
                  case rel => exact ⟨i + 1, by go_num, by omega, H13.out⟩
                  case measure => simp [intOf]; omega
              · have d1 : decide ((i : Int) = (a : Int)) = false := decide_eq_false (by omega)
                have hY : (S1.set a p)[i]? = some x := by rw [List.getElem?_set_ne (fun e => hia e.symm)]; exact hx
                have HR2 : Hid (Calls Tryd.prog 13 #[.pointer (some ⟨t9, 0, none⟩), .int .i64 (i : Nat)] wr fun e w' => e = .returned (.tuple #[.string (bs x.1), .nilIface]) ∧ w' = wr) := read_ok hCC i x hY
                have HR1 : Hid (Calls Tryd.prog 13 #[.pointer (some ⟨t, 0, none⟩), .int .i64 (i : Nat)] wr fun e w' => e = .returned (.tuple #[.string (bs x.1), .nilIface]) ∧ w' = wr) := by
                  refine read_ok hDD i x ?_
                  cases keep
                  · exact hx
                  · exact hY
                clear hDD hCC hUU hx hY
                go_wp2_with (first
                  | (go_at_call_of 13 (Value.pointer (some ⟨t, 0, none⟩)); refine HR1.out.mono ?_; rintro e w0 ⟨rfl, h0⟩; have h1 := h0.symm; subst h1; clear h0)
                  | (go_at_call_of 13 (Value.pointer (some ⟨t9, 0, none⟩)); refine HR2.out.mono ?_; rintro e w0 ⟨rfl, h0⟩; have h1 := h0.symm; subst h1; clear h0)
                  | (go_at_call 18; refine (HZ.out wr).mono ?_; rintro e w13 ⟨rfl, ho13⟩; have hcu := HCU.out w13 ho13; have hcl := lt_of_cell hcu; have H13 : Hid (Only [] w11 w13) := HO.out.trans ho13 (fun _ h => by cases h); clear ho13))
                go_roundw
                case rel => exact ⟨i + 1, by go_num, by omega, H13.out⟩
                case measure => simp [intOf]; omega
            · obtain rfl : i = j2 := by omega
              have hl : decide ((i : Int) < (i : Int)) = false := decide_eq_false (by omega)
              clear hDD hCC hUU
              go_wp2
              go_ret
              exact ⟨rfl, HB.out.trans (HO.out.to_below HB.out.size (fun _ h => by cases h))⟩
end Go.Proofs.YtlddnbpcinoenaaDoor
