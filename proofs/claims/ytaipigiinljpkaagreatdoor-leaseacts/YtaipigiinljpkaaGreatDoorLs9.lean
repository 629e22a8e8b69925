/- Clients: Tick. -/
import Derived.Test.YtaipigiinljpkaaGreatDoorLs5
import Derived.Test.YtaipigiinljpkaaGreatDoorLs7
import Derived.Test.YtaipigiinljpkaaGreatDoorLs8
import Derived.Deep.AppendLies
namespace Go.Proofs.YtaipigiinljpkaaGreatDoor
open Go Go.RowKit Go.Deep Go.Maps

set_option maxRecDepth 100000 in
theorem tick_bad (w : World) (t : Nat) (n : Int) (P1 : Addr) (h1 : w.cell? ⟨3, 0, none⟩ = some (.iface 155 (.pointer (some P1)))) (hn : n < 0 ∨ 1099511627776 < n) :
    Calls Tryz.prog 13 #[.pointer (some ⟨t, 0, none⟩), .int .i64 n] w fun e w' => e = .returned (.tuple #[.slice none 0 0, .iface 155 (.pointer (some P1))]) ∧ Only [] w w' := by
  have hl := lt_of_cell h1
  by_cases h0 : n < 0
  · clear hn
    go_enter Tryz.func13, Tryz.ntmps13
    go_wp2
    go_region
    all_goals go_wp2
    all_goals go_ret2
    all_goals exact ⟨rfl, (Only.refl [] w).drew⟩
  · have h2 : 1099511627776 < n := by omega
    clear hn
    go_enter Tryz.func13, Tryz.ntmps13
    go_wp2
    go_region
    all_goals go_wp2
    all_goals go_ret2
    all_goals exact ⟨rfl, (Only.refl [] w).drew⟩
theorem one_news {w : World} (x : Int) (ty : TypeId) : ∀ (r : Nat) (q : Value), ([.int .i64 x] : List Value)[r]? = some q → (w.alloc (.cells #[.int .i64 x] ty)).cell? ((⟨w.heap.size, 0, none⟩ : Addr).add r) = some q := World.news_of_block (w := w.alloc (.cells #[.int .i64 x] ty)) (heap_alloc_last w _)
/-- What a tick leaves. -/
def TickR (w w' : World) (t mb last n : Nat) (l : List Cli) (e : Ending) : Prop :=
  ∃ v gs l', e = .returned (.tuple #[v, .nilIface]) ∧ Nums w' w.heap.size v gs ∧ gs.Pairwise (· < ·) ∧ (∀ x, x ∈ gs ↔ ∃ c ∈ l, overC n c = true ∧ x = (c.a : Int)) ∧ LsAt w' t mb last l' ∧ (∀ x, x ∈ l' ↔ ∃ d ∈ l, noneC (tickC n d) = false ∧ x = tickC n d) ∧ Only [mb] w w'
set_option maxRecDepth 100000 in
set_option maxHeartbeats 8000000 in
theorem tick_ok (w : World) (t mb last n : Nat) (l : List Cli) (h : LsAt w t mb last l) (hn : n ≤ 1099511627776) :
    Calls Tryz.prog 13 #[.pointer (some ⟨t, 0, none⟩), .int .i64 (n : Nat)] w fun e w' => TickR w w' t mb last n l e := by
  have k1 := h.c1
  have htl := h.lt
  have hs := sorted_any mb l w h.own h.inv.len
  obtain ⟨i0, hi0, hz0, hz1, hz2⟩ := infoInt'
  have hd1 : decide ((n : Int) < 0) = false := decide_eq_false (by omega)
  have hd2 : decide ((1099511627776 : Int) < n) = false := decide_eq_false (by omega)
  have H : Hid (LsAt w t mb last l) := h
  clear h
  go_enter Tryz.func13, Tryz.ntmps13
  go_wp2_with (first
    | (go_at_call 28; go_must (refine (keys_any _ _).mono ?_); rintro e w1 ⟨rfl, rfl⟩)
    | (go_at_call 27; refine hs.mono ?_; rintro e w1 ⟨v, ss, rfl, hp, hrow, ho1⟩; obtain ⟨ad, cap, rfl, hcell⟩ := row_ones hrow; have HP : Hid (ss.Perm (l.map (·.s))) := hp; have HCE : Hid (∀ j s, ss[j]? = some s → ∃ g, ad = some ⟨g, 0, none⟩ ∧ w.heap.size ≤ g ∧ g < w1.heap.size ∧ w1.cell? ⟨g, j, none⟩ = some (.string (bs s))) := hcell; have HO1 : Hid (Only [] w w1) := ho1; clear hp hrow hcell ho1 hs)
    | go_in)
  have hsl : ss.length ≤ 12 := by rw [HP.out.length_eq, List.length_map]; exact H.out.inv.len
  have HNS : Hid (ss.Nodup) := HP.out.nodup_iff.2 H.out.inv.nod
  obtain ⟨m, hm⟩ : ∃ m, ss.length = m := ⟨_, rfl⟩
  have HM : Hid (ss.length = m) := hm
  rw [hm] at hsl ⊢
  clear hm k1
  have HLT : Hid (t < w1.heap.size ∧ mb < w1.heap.size ∧ w.heap.size ≤ w1.heap.size ∧ mb < w.heap.size ∧ t < w.heap.size) := ⟨Nat.lt_of_lt_of_le htl HO1.out.size, Nat.lt_of_lt_of_le H.out.mlt HO1.out.size, HO1.out.size, H.out.mlt, htl⟩
  go_loopw [4, 23] (fun gv i wr => ∃ (j : Nat) (l' : List Cli), i = .int .i64 j ∧ j ≤ m ∧ LsAt wr t mb last l' ∧ Mid n l (ss.take j) l' ∧ Nums wr w1.heap.size gv (picks (overC n) l (ss.take j)) ∧ Only [mb] w1 wr)
    (fun _ i _ => m - (intOf i).toNat)
  case atStart => exact ⟨0, l, rfl, Nat.zero_le _, H.out.only HO1.out, Mid.start n l, Nums.nil _ _, Only.refl _ _⟩
  case round =>
    obtain ⟨j, l', rfl, hj, hL, hmid, hnum, hO⟩ := hrel
    by_cases hlt : j < m
    · have hjs : ∃ s, ss[j]? = some s := ⟨ss[j]'(by have := HM.out; omega), List.getElem?_eq_getElem _⟩
      obtain ⟨s, hjs⟩ := hjs
      obtain ⟨c, hc, rfl⟩ := List.mem_map.1 (HP.out.mem_iff.1 (List.mem_of_getElem? hjs))
      have hpre : c.s ∉ ss.take j := fun hmem => by
        obtain ⟨i, hi, he⟩ := List.getElem_of_mem hmem
        rw [List.length_take] at hi
        rw [List.getElem_take] at he
        have h1 := List.pairwise_iff_getElem.1 HNS.out i j (by omega) (by have := HM.out; omega) (by omega)
        have h2 := (List.getElem?_eq_some_iff.1 hjs).2
        rw [he, h2] at h1
        exact h1 rfl
      obtain ⟨g, rfl, hg1, hg2, hgc⟩ := HCE.out j c.s hjs
      have hcl := hmid.here hc hpre
      have q1 : wr.cell? ⟨g, j, none⟩ = some (.string (bs c.s)) := (hO.cell (p := ⟨g, j, none⟩) hg2 (by have := HLT.out; simp; omega)).trans hgc
      have q2 := hL.c1
      have hlook := hL.look_at hcl
      have hold := older_any wr c n hn (by have := (H.out.inv.age c hc).1; omega)
      have HTK : Hid (picks (overC n) l (ss.take (j + 1)) = if overC n c then picks (overC n) l (ss.take j) ++ [(c.a : Int)] else picks (overC n) l (ss.take j)) := picks_take H.out.inv.nod hc hjs
      have HMD : Hid (Mid n l (ss.take (j + 1)) (keepC l' (tickC n c))) := by
        show Mid _ _ _ _
        have := hmid.step H.out.inv.nod hc hpre
        rw [List.take_add_one, hjs]
        exact this
      have HKI : Hid (CInv last (keepC l' (tickC n c))) := hL.inv.keep hcl
      have HCS : Hid (c.s.length ≤ 1000) := H.out.sh c hc
      have HL : Hid (LsAt wr t mb last l') := hL
      have HNM : Hid (Nums wr w1.heap.size u4 (picks (overC n) l (ss.take j))) := hnum
      have HOW : Hid (Only [mb] w1 wr) := hO
      have hov : ∀ W, Calls Tryz.prog 30 #[.agg #[.int .i64 (c.a : Nat), .int .i64 (c.b : Nat), .int .i64 (oldC n c : Nat)]] W fun e w' => e = .returned (.bool (overC n c)) ∧ Only [] W w' := fun W => over_any W _ _ _
      have HOV : Hid (∀ W, Calls Tryz.prog 30 #[.agg #[.int .i64 (c.a : Nat), .int .i64 (c.b : Nat), .int .i64 (oldC n c : Nat)]] W fun e w' => e = .returned (.bool (overC n c)) ∧ Only [] W w') := hov
      have hul : ∀ k, u4.ownBlock = some k → w1.heap.size ≤ k ∧ k < wr.heap.size := fun k hk => ⟨(own_block HNM.out hk).1, (own_block HNM.out hk).2.1⟩
      have HUL : Hid (∀ k, u4.ownBlock = some k → w1.heap.size ≤ k ∧ k < wr.heap.size) := hul
      have HKL : Hid (∀ W, Only u4.ownBlock.toList wr W → LsAt W t mb last l' ∧ Only [mb] w1 W) := fun W ho => ⟨HL.out.kept ho (fun hk => by have := hul t (by simpa using hk); have := HLT.out; omega) (fun hk => by have := hul mb (by simpa using hk); have := HLT.out; omega), HOW.out.trans ho (fun k hk => Or.inr (hul k (by simpa using hk)).1)⟩
      have HKP : Hid (∀ W, Only u4.ownBlock.toList wr W → Calls Tryz.prog 31 #[.pointer (some ⟨t, 0, none⟩), .string (bs (tickC n c).s), .agg #[.int .i64 ((tickC n c).a : Nat), .int .i64 ((tickC n c).b : Nat), .int .i64 ((tickC n c).g : Nat)]] W fun e w' => e = .returned (.tuple #[]) ∧ LsAt w' t mb last (keepC l' (tickC n c)) ∧ Only [mb] W w') := fun W ho => keep_any W t mb last l' (tickC n c) (HKL.out W ho).1 (by rw [tickC_s]; exact HCS.out) HKI.out
      clear hL hmid hnum hO hov hpre hjs hgc hul
      cases hb : overC n c with
      | false =>
        rw [hb] at HOV HTK
        have e1 : tickC n c = ⟨c.s, c.a, c.b, oldC n c⟩ := by unfold tickC; rw [hb]; rfl
        have HKQ : Hid (∀ W, Only u4.ownBlock.toList wr W → Calls Tryz.prog 31 #[.pointer (some ⟨t, 0, none⟩), .string (bs c.s), .agg #[.int .i64 (c.a : Nat), .int .i64 (c.b : Nat), .int .i64 (oldC n c : Nat)]] W fun e w' => e = .returned (.tuple #[]) ∧ LsAt w' t mb last (keepC l' (tickC n c)) ∧ Only [mb] W w') := fun W ho => by
          have hh := HKP.out W ho
          rw [e1] at hh ⊢
          exact hh
        clear HKP e1 hb
        go_wp2_with (first
          | (go_at_call 29; go_must (refine hold.mono ?_); rintro e w2 ⟨rfl, ho2⟩; have HO2 : Hid (Only [] wr w2) := ho2; clear hold ho2)
          | (go_at_call 30; go_must (refine (HOV.out _).mono ?_); rintro e w3 ⟨rfl, ho3⟩; have hb3 := (ho3.block w2.heap.size (by simp) (by simp)).trans (heap_alloc_last w2 _); obtain ⟨⟨b0, b1, b2⟩, _, _, _⟩ := three_of hb3; have HO3 : Hid (Only [] wr w3) := (HO2.out.alloc _).trans ho3 (fun _ hk => by cases hk); clear ho3 hb3)
          | (go_at_call 31; refine (HKQ.out w3 (HO3.out.mono (fun _ hk => by cases hk))).mono ?_; rintro e w7 ⟨rfl, hL7, ho7⟩; have HL7 : Hid (LsAt w7 t mb last (keepC l' (tickC n c))) := hL7; have HO7 : Hid (Only [mb] w3 w7) := ho7; clear hL7 ho7 b0 b1 b2)
          | go_in)
        go_roundw
        case rel =>
          refine ⟨j + 1, _, by go_num, by omega, HL7.out, HMD.out, ?_, ?_⟩
          · rw [HTK.out]
            exact (HNM.out.only HO3.out (fun _ _ => by simp)).only HO7.out (fun k hk => by have := HUL.out k hk; have := HLT.out; simp; omega)
          · exact (HKL.out w3 (HO3.out.mono (fun _ hk => by cases hk))).2.trans HO7.out (fun k hk => Or.inl hk)
        case measure => simp [intOf]; omega
      | true =>
        rw [hb] at HOV HTK
        have e1 : tickC n c = ⟨c.s, 0, c.b, 0⟩ := by unfold tickC; rw [hb]; rfl
        have HKQ : Hid (∀ W, Only u4.ownBlock.toList wr W → Calls Tryz.prog 31 #[.pointer (some ⟨t, 0, none⟩), .string (bs c.s), .agg #[.int .i64 0, .int .i64 (c.b : Nat), .int .i64 0]] W fun e w' => e = .returned (.tuple #[]) ∧ LsAt w' t mb last (keepC l' (tickC n c)) ∧ Only [mb] W w') := fun W ho => by
          have hh := HKP.out W ho
          rw [e1] at hh ⊢
          exact hh
        obtain ⟨dn, hdn⟩ : ∃ dn, (picks (overC n) l (ss.take j)).length = dn := ⟨_, rfl⟩
        have HDN : Hid ((picks (overC n) l (ss.take j)).length = dn) := hdn
        have hdb : dn ≤ 12 := by
          have h1 := picks_len (overC n) l (ss.take j)
          rw [List.length_take] at h1
          omega
        clear HKP e1 hb hdn
        go_wp2_with (first
          | (go_at_call 29; go_must (refine hold.mono ?_); rintro e w2 ⟨rfl, ho2⟩; have HO2 : Hid (Only [] wr w2) := ho2; clear hold ho2)
          | (go_at_call 30; go_must (refine (HOV.out _).mono ?_); rintro e w3 ⟨rfl, ho3⟩; have hb3 := (ho3.block w2.heap.size (by simp) (by simp)).trans (heap_alloc_last w2 _); obtain ⟨⟨b0, b1, b2⟩, _, _, _⟩ := three_of hb3; have HB3 : Hid (w3.heap[w2.heap.size]? = some (.cells #[.int .i64 (c.a : Nat), .int .i64 (c.b : Nat), .int .i64 (oldC n c : Nat)] 61 (0, 0))) := hb3; have HO3 : Hid (Only [] wr w3) := (HO2.out.alloc _).trans ho3 (fun _ hk => by cases hk); have HROW : Hid (w3.ownsRow w1.heap.size 3 1 u4 dn ((picks (overC n) l (ss.take j)).map (Value.int .i64))) := Nums.own HDN.out (HNM.out.only HO3.out (fun _ _ => by simp)); clear ho3 hb3)
          | (at_builtin; refine wpList_append_lies _ rfl (.tmp 37) (.tmp 40) 44 rfl w1.heap.size 3 i0 _ 1 8 undInts hi0 hz0 hz1 hz2 rfl (by decide) u4 dn _ rfl (World.ownsRow.alloc HROW.out _) ⟨w3.heap.size, 0, none⟩ 1 1 [.int .i64 (c.a : Nat)] rfl rfl (one_news _ _) (by intro u hu; rw [List.mem_singleton.1 hu]; rfl) (by decide) (by unfold maxLen; omega) (by omega) (by rw [World.size_alloc]; have := HOW.out.size; have := HO3.out.size; omega) (w3.heap.size + 1) (by simp) ?_; intro g5 c5 w5 hown5 hgr5 hat5 hlt5; have HV5 : Hid (Nums w5 w1.heap.size (.slice (some ⟨g5, 0, none⟩) (dn + 1) c5) (picks (overC n) l (ss.take j) ++ [(c.a : Int)])) := Nums.snoc HDN.out hown5; have HG5 : Hid (Only u4.ownBlock.toList w3 w5) := ((Only.refl _ w3).alloc _).grown hgr5 (fun k hk => Or.inl (by simp [hk])); have HGN : Hid (g5 ≠ w2.heap.size ∧ w1.heap.size ≤ g5) := (by show g5 ≠ w2.heap.size ∧ w1.heap.size ≤ g5; have a1 := HO2.out.size; have a2 := HO3.out.size; have a3 := HOW.out.size; have a4 := (Array.getElem?_eq_some_iff.1 HB3.out).1; rcases hat5 with e | e; have := HUL.out g5 e; omega; omega); have hb5 := (HG5.out.block w2.heap.size (Array.getElem?_eq_some_iff.1 HB3.out).1 (fun hk => by have := HUL.out _ (by simpa using hk); have := HO2.out.size; omega)).trans HB3.out; obtain ⟨⟨b0, b1, b2⟩, f0, f1, f2⟩ := three_of hb5; have HO5 : Hid (Only u4.ownBlock.toList wr w5) := (HO3.out.mono (fun _ hk => by cases hk)).trans HG5.out (fun k hk => Or.inl hk); clear hown5 hgr5 hat5 hlt5 hb5)
          | (go_at_call 31; refine (HKQ.out _ (((HO5.out.setCell (Or.inr HO2.out.size) _).setCell (Or.inr HO2.out.size) _).setCell (Or.inr HO2.out.size) _)).mono ?_; rintro e w7 ⟨rfl, hL7, ho7⟩; have HL7 : Hid (LsAt w7 t mb last (keepC l' (tickC n c))) := hL7; clear hL7)
          | go_in)
        go_roundw
        case rel =>
          have hx := (((Only.refl [w2.heap.size] w5).setCell (p := ⟨w2.heap.size, 0, none⟩) (Or.inl (by simp)) (.int .i64 0)).setCell (p := ⟨w2.heap.size, 1, none⟩) (Or.inl (by simp)) (.int .i64 (c.b : Nat))).setCell (p := ⟨w2.heap.size, 2, none⟩) (Or.inl (by simp)) (.int .i64 0)
          refine ⟨j + 1, _, by go_num, by omega, HL7.out, HMD.out, ?_, ?_⟩
          · rw [HTK.out]
            refine (HV5.out.only hx (fun k hk => ?_)).only ho7 (fun k hk => ?_)
            · obtain rfl : g5 = k := Option.some.inj hk
              simpa using HGN.out.1
            · obtain rfl : g5 = k := Option.some.inj hk
              have := HGN.out.2
              have := HLT.out
              simp
              omega
          · exact (HKL.out _ (((HO5.out.setCell (Or.inr HO2.out.size) _).setCell (Or.inr HO2.out.size) _).setCell (Or.inr HO2.out.size) _)).2.trans ho7 (fun k hk => Or.inl hk)
        case measure => simp [intOf]; omega
    · obtain rfl : j = m := by omega
      have hj2 : decide ((j : Int) < j) = false := decide_eq_false (by omega)
      have htk : ss.take j = ss := by rw [← HM.out, List.take_length]
      rw [htk] at hmid hnum
      have hsort := sort_ints wr w1.heap.size u4 _ hnum (by have := picks_len (overC n) l ss; have := HM.out; omega)
      have HL : Hid (LsAt wr t mb last l') := hL
      have HMD : Hid (Mid n l ss l') := hmid
      have HOW : Hid (Only [mb] w1 wr) := hO
      have HNM : Hid (Nums wr w1.heap.size u4 (picks (overC n) l ss)) := hnum
      clear hL hmid hnum hO htk
      go_wp2_with (go_at_call 32; refine hsort.mono ?_; rintro e w8 ⟨rfl, hN8, ho8⟩)
      go_ret2
      have hul : ∀ k, u4.ownBlock = some k → w1.heap.size ≤ k := fun k hk => (own_block HNM.out hk).1
      refine ⟨u4, _, l', rfl, ⟨hN8.1, ?_⟩, sorted_rising (picks_nodup H.out.inv HP.out (fun c hc ho => overC_pos H.out.inv hc ho)), fun x => ?_, HL.out.kept ho8 (fun hk => ?_) (fun hk => ?_), HMD.out.end HP.out, ?_⟩
      · rcases hN8.2 with e | ⟨g, cp, cur, h1, h2, h3⟩
        · exact Or.inl e
        · exact Or.inr ⟨g, cp, cur, h1, Nat.le_trans HO1.out.size h2, h3⟩
      · rw [(List.mergeSort_perm _ _).mem_iff]
        exact mem_picks H.out.inv.nod HP.out x
      · have := hul t (by simpa using hk)
        have := HLT.out
        omega
      · have := hul mb (by simpa using hk)
        have := HLT.out
        omega
      · exact ((HO1.out.mono (fun _ hk => by cases hk)).trans HOW.out (fun k hk => Or.inl hk)).trans ho8 (fun k hk => Or.inr (Nat.le_trans HO1.out.size (hul k (by simpa using hk))))
end Go.Proofs.YtaipigiinljpkaaGreatDoor
