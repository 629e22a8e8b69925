/- A log: blocks of records are read. -/
import Derived.Test.YtlcloahkeamdkaaDoorLg2
import Derived.Test.YtlcloahkeamdkaaDoorDk2
import Derived.Test.YtlcloahkeamdkaaDoorDk13
import Derived.Laws.AppendOwnNone
namespace Go.Proofs.YtlcloahkeamdkaaDoor
open Go Go.RowKit Go.Deep

theorem strInfoL : (Tryd.prog.info? 9).map (fun i => (i.zero, i.size, i.bytes)) = some (some (.string ⟨#[]⟩), 1, 16) := by kernel_rfl
theorem strsUndL : Tryd.prog.underlying 34 = some (.slice 9) := by kernel_rfl
def txv (l : List UInt8) : Value := .string (bs l)
theorem rRecs_bad {k : Nat} {r : Rst} {acc : List (List UInt8)} (h : (rB (rW r).1 (rW r).2).2 = none) : rRecs (k + 1) r acc = none := by simp only [rRecs, h]
theorem rRecs_go {k : Nat} {r : Rst} {acc : List (List UInt8)} {l : List UInt8} (h : (rB (rW r).1 (rW r).2).2 = some l) : rRecs (k + 1) r acc = rRecs k (some l) (acc ++ [(rB (rW r).1 (rW r).2).1]) := by simp only [rRecs, h]
theorem rB_some {k : Nat} {r : Rst} {l : List UInt8} (h : (rB k r).2 = some l) : l.length + k = (leftR r).length := by
  cases r with
  | none => simp [rB] at h
  | some m =>
    simp only [rB] at h
    split at h
    · cases h
    · cases h
      simp only [leftR, Option.getD_some, List.length_drop]
      omega
theorem rWB_some {r : Rst} {l : List UInt8} (h : (rB (rW r).1 (rW r).2).2 = some l) : l.length + 4 ≤ (leftR r).length := by
  have h1 := rB_some h
  have h2 := rB_left 4 r
  have h3 : (leftR (rW r).2).length = (leftR (rB 4 r).2).length := rfl
  cases hq : (rW r).2 with
  | none => rw [hq] at h; simp [rB] at h
  | some m =>
    have h4 : (rB 4 r).2 = some m := hq
    have h5 := rB_some h4
    rw [hq] at h1
    simp only [leftR, Option.getD_some] at h1 h5 ⊢
    omega
theorem rBlks_nil {r : Rst} {acc : List (List UInt8)} {f : Nat} (h : leftR r = []) : rBlks f r acc = some acc := by
  cases f with
  | zero => rfl
  | succ f => simp [rBlks, h]
theorem rBlks_go {r : Rst} {acc a : List (List UInt8)} {q : Rst} (h : leftR r ≠ []) (hq : rRecs (rW r).1 (rW r).2 acc = some (a, q)) : rBlks (leftR r).length r acc = rBlks (leftR (rB ((leftR q).length % 64) q).2).length (rB ((leftR q).length % 64) q).2 a := by
  obtain ⟨f, hf⟩ : ∃ f, (leftR r).length = f + 1 := ⟨(leftR r).length - 1, by have := List.length_pos_iff.2 h; omega⟩
  rw [hf]
  simp only [rBlks, h, if_false, hq]
  have h1 := rRecs_left hq
  have h2 := rB_left ((leftR q).length % 64) q
  have h3 := rB_left 4 r
  have h4 : (leftR (rW r).2).length = (leftR (rB 4 r).2).length := rfl
  exact rBlks_fuel (by omega) (Nat.le_refl _)
theorem rBlks_bad {r : Rst} {acc : List (List UInt8)} (h : leftR r ≠ []) (hq : rRecs (rW r).1 (rW r).2 acc = none) : rBlks (leftR r).length r acc = none := by
  obtain ⟨f, hf⟩ : ∃ f, (leftR r).length = f + 1 := ⟨(leftR r).length - 1, by have := List.length_pos_iff.2 h; omega⟩
  rw [hf]
  simp only [rBlks, h, if_false, hq]
theorem own_base {w : World} {b b' : Nat} {e : TypeId} {k n : Nat} {v : Value} {xs : List Value} (h : w.ownsRow b e k v n xs) (hb : b' ≤ b) : w.ownsRow b' e k v n xs := by
  refine ⟨h.1, ?_⟩
  rcases h.2 with h2 | ⟨g, cap, cur, h1, h2, h3⟩
  · exact Or.inl h2
  · exact Or.inr ⟨g, cap, cur, h1, Nat.le_trans hb h2, h3⟩
def leftN (w : World) (r : Nat) : Nat := match w.cell? ⟨r, 0, none⟩ with
  | some (.string s) => s.size
  | _ => 0
theorem RdAt.left {w : World} {r : Nat} {st : Rst} (h : RdAt w r st) : leftN w r = (leftR st).length := by
  simp only [leftN, h.cells.1, bs_size]
def BlksR (w w' : World) (T : List UInt8) (e : Ending) : Prop := Only [] w w' ∧ ((rAll T = none ∧ e = .returned (.tuple #[.slice none 0 0, .bool false])) ∨ ∃ R v, rAll T = some R ∧ e = .returned (.tuple #[v, .bool true]) ∧ w'.ownsRow w.heap.size 9 1 v R.length (R.map txv))
/-- What is there while blocks are read. -/
structure BkS (w W : World) (r : Nat) (v : Value) (st : Rst) (acc : List (List UInt8)) (n : Nat) : Prop where
  row : W.ownsRow (w.heap.size + 1) 9 1 v acc.length (acc.map txv)
  rd : RdAt W r st
  only : Only [] w W
  room : acc.length * 4 + (leftR st).length ≤ n
  r0 : r = w.heap.size
section
variable {w W W' : World} {r n : Nat} {v : Value} {st st' : Rst} {acc : List (List UInt8)}
theorem BkS.read (h : BkS w W r v st acc n) (ho : Only [r] W W') (hr : RdAt W' r st') (hl : (leftR st').length ≤ (leftR st).length) : BkS w W' r v st' acc n :=
  ⟨ho.owns h.row (fun k hk => by have := (own_blk h.row hk).1; have := h.r0; simp; omega), hr, h.only.trans ho (fun i hi => Or.inr (by rw [List.mem_singleton.1 hi, h.r0]; exact Nat.le_refl _)), by have := h.room; omega, h.r0⟩
theorem BkS.word (h : BkS w W r v st acc n) (hn : n ≤ 1000000) : Calls Tryd.prog 60 #[.pointer (some ⟨r, 0, none⟩)] W fun e w' => e = .returned (.int .i64 ((rW st).1 : Nat)) ∧ BkS w w' r v (rW st).2 acc n :=
  (rword_ok h.rd (by have := h.room; omega)).mono fun e w' q => ⟨q.1, h.read q.2.2 q.2.1 (Nat.le_trans (rB_left 4 st) (by omega))⟩
theorem BkS.bytes (h : BkS w W r v st acc n) (hn : n ≤ 1000000) (k : Nat) (hk : k < 4294967296) : Calls Tryd.prog 69 #[.pointer (some ⟨r, 0, none⟩), .int .i64 (k : Nat)] W fun e w' => e = .returned (.string (bs (rB k st).1)) ∧ BkS w w' r v (rB k st).2 acc n :=
  (bytes_ok h.rd k (by omega) (by have := h.room; omega)).mono fun e w' q => ⟨q.1, h.read q.2.2 q.2.1 (Nat.le_trans (rB_left k st) (by omega))⟩
theorem BkS.pre (h : BkS w W r v st acc n) (s : ByteArray) : Hid ((W.alloc (.cells #[.string s] 9)).ownsRow (w.heap.size + 1) 9 1 v acc.length (acc.map txv)) ∧ Hid (∀ (r1 : Nat) (q1 : Value), [Value.string s][r1]? = some q1 → (W.alloc (.cells #[.string s] 9)).cell? ((⟨W.heap.size, 0, none⟩ : Addr).add r1) = some q1) ∧ Hid (w.heap.size + 1 ≤ (W.alloc (.cells #[.string s] 9)).heap.size) :=
  ⟨((Only.refl [] W).alloc _).owns h.row (fun _ _ => by simp), World.news_of_block (w := W.alloc (.cells #[.string s] 9)) (heap_alloc_last W (.cells #[.string s] 9)), (by have h1 := h.rd.lt; have h2 := h.r0; rw [World.size_alloc]; show _ ≤ _; omega)⟩
theorem BkS.app (h : BkS w W r v st acc n) {s : List UInt8} {W7 : World} {v7 : Value} (hown : W7.ownsRow (w.heap.size + 1) 9 1 v7 (acc.length + 1) (acc.map txv ++ [.string (bs s)])) (hgr : (W.alloc (.cells #[.string (bs s)] 9)).grownBy W7 v.ownBlock) (hroom : (acc.length + 1) * 4 + (leftR st).length ≤ n) : BkS w W7 r v7 st (acc ++ [s]) n := by
  have h0 := h.r0
  have ho : Only v.ownBlock.toList W W7 := ((Only.refl v.ownBlock.toList W).alloc _).grown hgr (fun k hk => Or.inl (by rw [hk]; simp))
  have hb : ∀ k ∈ v.ownBlock.toList, w.heap.size + 1 ≤ k := fun k hk => (own_blk h.row (by simpa using hk)).1
  refine ⟨?_, h.rd.only ho (fun hm => by have := hb r hm; omega), h.only.trans ho (fun i hi => Or.inr (by have := hb i hi; omega)), by simpa using hroom, h0⟩
  rw [List.length_append, List.map_append]
  exact hown
end
set_option maxRecDepth 100000 in
set_option maxHeartbeats 4000000 in
theorem readBlocks_ok (w : World) (T : List UInt8) (hT : T.length ≤ 1000000) : Calls Tryd.prog 49 #[.string (bs T)] w fun e w' => BlksR w w' T e := by
  obtain ⟨i0, hi0, hz⟩ := Option.map_eq_some_iff.1 strInfoL
  simp only [Prod.mk.injEq] at hz
  obtain ⟨hz0, hz1, hz2⟩ := hz
  have hS0 : BkS w (w.alloc (.cells #[.string (bs T), .bool false] 120)) w.heap.size (.slice none 0 0) (some T) [] T.length := ⟨World.ownsRow_nil _ _ _ _, ⟨heap_alloc_last w _⟩, (Only.refl [] w).alloc _, by simp [leftR], rfl⟩
  have HS0 : Hid (BkS w (w.alloc (.cells #[.string (bs T), .bool false] 120)) w.heap.size (.slice none 0 0) (some T) [] T.length) := hS0
  have hR : rAll T = rBlks (leftR (some T)).length (some T) [] := rfl
  generalize hR0 : rAll T = R0 at hR
  have HR0 : Hid (rAll T = R0) := hR0
  have HRS : Hid (rBlks (leftR (some T)).length (some T) [] = R0) := hR.symm
  generalize hn : T.length = n at hT
  rw [hn] at HS0
  clear hR hR0 hS0 hn
  go_enter Tryd.func49, Tryd.ntmps49
  go_upto_region 3 with (fail)
  generalize w.alloc (.cells #[.string (bs T), .bool false] 120) = W0 at HS0 ⊢
  obtain ⟨r, hr⟩ : ∃ r, w.heap.size = r := ⟨_, rfl⟩
  rw [hr] at HS0 ⊢
  clear hr
  go_loopw [4] (fun v wr => ∃ (st : Rst) (acc : List (List UInt8)), BkS w wr r v st acc n ∧ rBlks (leftR st).length st acc = R0) (fun _ wr => leftN wr r)
  case atStart => exact ⟨some T, [], HS0.out, HRS.out⟩
  case round =>
    clear HS0 HRS
    obtain ⟨st, acc, hS, hB⟩ := hrel
    have HS : Hid (BkS w wr r u4 st acc n) := hS
    have HB : Hid (rBlks (leftR st).length st acc = R0) := hB
    have c0 := hS.rd.cells.1
    have hlt := hS.rd.lt
    have HLN : Hid (leftN wr r = (leftR st).length) := hS.rd.left
    obtain ⟨au, cu, rfl⟩ := own_slice hS.row
    clear hS hB
    by_cases h0 : leftR st = []
    · have d0 : ((bs (leftR st)).toList == []) = true := by rw [Lib.toList_data, bs_data, h0]; rfl
      have HH : Hid (leftR st = []) := h0
      clear h0
      generalize bs (leftR st) = S at c0 d0
      go_wp2
      go_ret2
      have hR : R0 = some acc := HB.out.symm.trans (rBlks_nil HH.out)
      refine ⟨HS.out.only, Or.inr ⟨acc, _, HR0.out.trans hR, rfl, ?_⟩⟩
      exact own_base HS.out.row (by omega)
    · have d0 : ((bs (leftR st)).toList == []) = false := by rw [Lib.toList_data, bs_data]; simpa using h0
      have HH : Hid (leftR st ≠ []) := h0
      clear h0
      have HW : Hid (Calls Tryd.prog 60 #[.pointer (some ⟨r, 0, none⟩)] wr fun e w' => e = .returned (.int .i64 ((rW st).1 : Nat)) ∧ BkS w w' r (.slice au acc.length cu) (rW st).2 acc n) := HS.out.word hT
      have hm : (rW st).1 < 4294967296 := rW_lt st
      obtain ⟨Q0, hQ0⟩ : ∃ Q0, rRecs (rW st).1 (rW st).2 acc = Q0 := ⟨_, rfl⟩
      have HQ : Hid (rRecs (rW st).1 (rW st).2 acc = Q0) := hQ0
      have HQ1 : Hid (rRecs (rW st).1 (rW st).2 acc = Q0) := hQ0
      have hlst : (leftR (rW st).2).length ≤ (leftR st).length - 4 := rB_left 4 st
      have HLS : Hid ((leftR (rW st).2).length ≤ (leftR st).length - 4) := hlst
      generalize (rW st).2 = st1 at HW HQ HLS
      generalize (rW st).1 = m at HW hm HQ
      generalize bs (leftR st) = S at c0 d0
      clear hQ0 hlst
      go_upto_region 5 with (go_at_call 60; refine HW.out.mono ?_; rintro e w1 ⟨rfl, h1⟩; have HS1 : Hid (BkS w w1 r (.slice au acc.length cu) st1 acc n) := h1; clear h1)
      go_loopw [4, 17] (fun v i wr => ∃ (j : Nat) (st2 : Rst) (a2 : List (List UInt8)), i = .int .i64 (j : Nat) ∧ j ≤ m ∧ BkS w wr r v st2 a2 n ∧ rRecs (m - j) st2 a2 = Q0 ∧ (leftR st2).length ≤ (leftR st).length - 4) (fun _ i _ => m - (intOf i).toNat)
      case atStart => exact ⟨0, st1, acc, rfl, Nat.zero_le _, HS1.out, HQ.out, HLS.out⟩
      case round =>
        clear HS1 HQ HLS HW HS d0 c0 hlt
        obtain ⟨j, st2, a2, rfl, hj, hS, hB2, hls⟩ := hrel
        by_cases hjm : j < m
        · have hl : decide ((j : Int) < (m : Int)) = true := decide_eq_true (by omega)
          have HW2 : Hid (Calls Tryd.prog 60 #[.pointer (some ⟨r, 0, none⟩)] wr fun e w' => e = .returned (.int .i64 ((rW st2).1 : Nat)) ∧ BkS w w' r u4 (rW st2).2 a2 n) := hS.word hT
          have HY2 : Hid (∀ W, BkS w W r u4 (rW st2).2 a2 n → Calls Tryd.prog 69 #[.pointer (some ⟨r, 0, none⟩), .int .i64 ((rW st2).1 : Nat)] W fun e w' => e = .returned (.string (bs (rB (rW st2).1 (rW st2).2).1)) ∧ BkS w w' r u4 (rB (rW st2).1 (rW st2).2).2 a2 n) := fun W h => h.bytes hT _ (rW_lt st2)
          have HRM : Hid (a2.length * 4 + (leftR st2).length ≤ n) := hS.room
          have hk : m - j = (m - (j + 1)) + 1 := by omega
          rw [hk] at hB2
          have HNO : Hid ((rB (rW st2).1 (rW st2).2).2 = none → Q0 = none) := fun e => by rw [← hB2, rRecs_bad e]
          have HGO : Hid (∀ l, (rB (rW st2).1 (rW st2).2).2 = some l → rRecs (m - (j + 1)) (some l) (a2 ++ [(rB (rW st2).1 (rW st2).2).1]) = Q0 ∧ l.length + 4 ≤ (leftR st2).length) := fun l e => ⟨by rw [← hB2, rRecs_go e], rWB_some e⟩
          obtain ⟨au2, cu2, rfl⟩ := own_slice hS.row
          generalize (rB (rW st2).1 (rW st2).2).1 = S3 at HY2 HGO
          generalize (rB (rW st2).1 (rW st2).2).2 = st3 at HY2 HNO HGO
          generalize (rW st2).2 = st4 at HW2 HY2
          generalize (rW st2).1 = m4 at HW2 HY2
          have HLS2 : Hid ((leftR st2).length ≤ (leftR st).length - 4) := hls
          clear hS hB2 hk hls
          go_upto_region 7 with (first
            | (go_at_call 60; refine HW2.out.mono ?_; rintro e w2 ⟨rfl, h2⟩; have HS2 : Hid (BkS w w2 r (.slice au2 a2.length cu2) st4 a2 n) := h2; clear h2)
            | (go_at_call 69; refine (HY2.out w2 HS2.out).mono ?_; rintro e w3 ⟨rfl, h3⟩; have HS3 : Hid (BkS w w3 r (.slice au2 a2.length cu2) st3 a2 n) := h3; clear h3))
          have c1 := HS3.out.rd.cells.2.1
          have hlt3 := HS3.out.rd.lt
          cases st3 with
          | none =>
            simp only [Option.isNone] at c1
            go_wp2
            go_ret2
            have hR : R0 = none := HB.out.symm.trans (rBlks_bad HH.out (HQ1.out.trans (HNO.out trivial)))
            exact ⟨HS3.out.only, Or.inl ⟨HR0.out.trans hR, rfl⟩⟩
          | some l =>
            simp only [Option.isNone] at c1
            obtain ⟨HRA, HNW, HSZ⟩ := HS3.out.pre (bs S3)
            have hroom : (a2.length + 1) * 4 + (leftR (some l)).length ≤ n := by have h1 := HRM.out; have h2 := (HGO.out l rfl).2; simp only [leftR, Option.getD_some]; omega
            have HRO : Hid ((a2.length + 1) * 4 + (leftR (some l)).length ≤ n) := hroom
            have hal : a2.length ≤ 1000000 := by omega
            clear hroom
            go_wp2_with (at_builtin; refine wpList_append_own _ rfl (.tmp 27) (.tmp 29) 34 rfl (w.heap.size + 1) 9 i0 _ 1 16 strsUndL hi0 hz0 hz1 hz2 rfl (by decide) _ a2.length (a2.map txv) rfl HRA.out ⟨w3.heap.size, 0, none⟩ 1 1 [.string (bs S3)] rfl rfl HNW.out (fun q hq => by simp at hq; subst hq; rfl) (by unfold maxLen; omega) (by omega) HSZ.out ?_; intro v7 w7 hown7 hgr7 _; have H7 : Hid (BkS w w7 r v7 (some l) (a2 ++ [S3]) n) := HS3.out.app hown7 hgr7 HRO.out; clear hown7 hgr7)
            go_roundw
            case rel =>
              have h2 := HGO.out l (by first | exact rfl | exact trivial)
              exact ⟨j + 1, some l, a2 ++ [S3], by go_num, by omega, H7.out, h2.1, by have h3 := HLS2.out; have h4 := h2.2; have h5 : (leftR (some l)).length = l.length := rfl; omega⟩
            case measure => simp [intOf]; omega
        · obtain rfl : m = j := by omega
          have hl : decide ((m : Int) < (m : Int)) = false := decide_eq_false (by omega)
          rw [Nat.sub_self] at hB2
          have hB3 : Q0 = some (a2, st2) := hB2.symm
          have HBG : Hid (R0 = rBlks (leftR (rB ((leftR st2).length % 64) st2).2).length (rB ((leftR st2).length % 64) st2).2 a2) := HB.out.symm.trans (rBlks_go HH.out (HQ1.out.trans hB3))
          have c2 := hS.rd.cells.1
          have hlt2 := hS.rd.lt
          have hsz : (bs (leftR st2)).size = (leftR st2).length := bs_size _
          have HY3 : Hid (Calls Tryd.prog 69 #[.pointer (some ⟨r, 0, none⟩), .int .i64 ((leftR st2).length % 64 : Nat)] wr fun e w' => e = .returned (.string (bs (rB ((leftR st2).length % 64) st2).1)) ∧ BkS w w' r u4 (rB ((leftR st2).length % 64) st2).2 a2 n) := hS.bytes hT _ (by omega)
          have HLE : Hid ((leftR (rB ((leftR st2).length % 64) st2).2).length < (leftR st).length) := by
            have h1 := rB_left ((leftR st2).length % 64) st2
            have h2 := List.length_pos_iff.2 HH.out
            show _ < _
            omega
          have hbig : (leftR st2).length ≤ 1000000 := by have := hS.room; omega
          generalize bs (rB ((leftR st2).length % 64) st2).1 = S5 at HY3
          generalize (rB ((leftR st2).length % 64) st2).2 = st5 at HY3 HBG HLE
          generalize bs (leftR st2) = S6 at c2 hsz
          generalize (leftR st2).length = k6 at hsz HY3 hbig
          clear hS hB2 hB3 hls HB HH HQ1
          go_wp2_with (go_at_call 69; refine HY3.out.mono ?_; rintro e w5 ⟨rfl, h5⟩; have HS5 : Hid (BkS w w5 r u4 st5 a2 n) := h5; clear h5)
          go_roundw
          case rel => exact ⟨st5, a2, HS5.out, HBG.out.symm⟩
          case measure =>
            rw [HLN.out, HS5.out.rd.left]
            exact HLE.out
end Go.Proofs.YtlcloahkeamdkaaDoor
