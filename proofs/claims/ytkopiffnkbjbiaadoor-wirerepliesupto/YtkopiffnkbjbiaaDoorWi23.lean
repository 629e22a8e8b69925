/- Replies held against each other: both as the document has them. -/
import Derived.Test.YtkopiffnkbjbiaaDoorWi22
import Derived.Test.YtkopiffnkbjbiaaDoorWi19
import Derived.Deep.RegionWith
namespace Go.Proofs.YtkopiffnkbjbiaaDoor
open Go Go.RowKit Go.Deep

theorem Rws.arg {α : Type} {w : World} {B n : Nat} {c : α → List Value} {ad : Option Addr} {l : List α} (h : Rws w B c n ad l) : RwA w c n ad l :=
  ⟨fun i x e => by
    obtain ⟨g, h1, _, h3⟩ := h.at_ i x e
    exact ⟨g, 0, h1, fun j u hu => by rw [Nat.zero_add]; exact h3 j u hu⟩⟩
/-- The entries of a reply can be read. -/
def RpA (w : World) (p : RpV × Value) : Prop := ∃ ad cap, p.2 = .slice ad p.1.L.length cap ∧ RwA w enC 3 ad p.1.L
theorem RpA.later {w w' : World} {p : RpV × Value} (h : RpA w p) (ho : Only [] w w') : RpA w' p := by
  obtain ⟨ad, cap, h1, h2⟩ := h
  exact ⟨ad, cap, h1, h2.later ho⟩
theorem EnOwn.rpA {w : World} {base : Nat} {p : RpV × Value} (h : EnOwn w base p.2 p.1.L) : RpA w p := by
  obtain ⟨ad, cap, e, hr⟩ := own_rws (B := w.heap.size) h enC_len (Nat.le_refl _)
  exact ⟨ad, cap, e, hr.arg⟩
theorem sameEn (x : EnV) (w : World) : (binOp .neq 52 (.agg #[.string x.n, .int .i64 x.x, .int .i64 x.y]) (.agg #[.string x.n, .int .i64 x.x, .int .i64 x.y])).run Tryd.prog w = .ok (.bool false) w := by
  simp [go_sem]
set_option maxHeartbeats 1000000 in
theorem sameEntries (ad ad' : Option Addr) (cap cap' : Nat) (l : List EnV) (w : World) (h : RwA w enC 3 ad l) (h' : RwA w enC 3 ad' l) (hl : l.length ≤ 9223372036854775807) : Calls Tryd.prog 75 #[.slice ad l.length cap, .slice ad' l.length cap'] w fun e w' => e = .returned (.bool true) ∧ Only [] w w' := by
  have HR : Hid (RwA w enC 3 ad l) := h
  have HR' : Hid (RwA w enC 3 ad' l) := h'
  obtain ⟨n, hn⟩ : ∃ n, l.length = n := ⟨_, rfl⟩
  have HN : Hid (l.length = n) := hn
  have hnb : n ≤ 9223372036854775807 := hn ▸ hl
  rw [hn]
  clear hn hl h h'
  go_enter Tryd.func75, Tryd.ntmps75
  go_wp2
  go_loopw [5] (fun i wr => ∃ j : Nat, j ≤ n ∧ i = .int .i64 (j : Nat) ∧ Only [] w wr) (fun i _ => n - (intOf i).toNat)
  case atStart => exact ⟨0, Nat.zero_le _, rfl, Only.refl _ _⟩
  case round =>
    obtain ⟨j, hj, rfl, ho⟩ := hrel
    have O : Hid (Only [] w wr) := ho
    clear ho
    by_cases hlt : j < n
    · obtain ⟨x, hx⟩ := at_lt l (j := j) (by rw [HN.out]; exact hlt)
      obtain ⟨g, o, rfl, hc⟩ := (HR.out.later O.out).at_ j x hx
      obtain ⟨g', o', rfl, hc'⟩ := (HR'.out.later O.out).at_ j x hx
      have c0 : wr.cell? ⟨g, o + j * 3, none⟩ = some (.string x.n) := hc 0 _ rfl
      have c1 : wr.cell? ⟨g, o + j * 3 + 1, none⟩ = some (.int .i64 x.x) := hc 1 _ rfl
      have c2 : wr.cell? ⟨g, o + j * 3 + 2, none⟩ = some (.int .i64 x.y) := hc 2 _ rfl
      have d0 : wr.cell? ⟨g', o' + j * 3, none⟩ = some (.string x.n) := hc' 0 _ rfl
      have d1 : wr.cell? ⟨g', o' + j * 3 + 1, none⟩ = some (.int .i64 x.x) := hc' 1 _ rfl
      have d2 : wr.cell? ⟨g', o' + j * 3 + 2, none⟩ = some (.int .i64 x.y) := hc' 2 _ rfl
      have hq := sameEn x
      clear hc hc' hx
      go_wp2_with fail
      go_big_quiet (fail)
      go_wp2
      go_roundw
      case rel => exact ⟨j + 1, by omega, by go_num, O.out.drewsN _⟩
      case measure => simp [intOf]; omega
    · obtain rfl : n = j := by omega
      go_wp2
      go_ret
      exact ⟨rfl, O.out⟩
theorem same2H (x y : Int) (w : World) : (binOp .neq 47 (.agg #[.int .i64 x, .int .i64 y]) (.agg #[.int .i64 x, .int .i64 y])).run Tryd.prog w = .ok (.bool false) w := by
  simp [go_sem]
theorem same2S (x y : Int) (w : World) : (binOp .neq 38 (.agg #[.int .i64 x, .int .i64 y]) (.agg #[.int .i64 x, .int .i64 y])).run Tryd.prog w = .ok (.bool false) w := by
  simp [go_sem]
set_option maxRecDepth 100000 in
set_option maxHeartbeats 2000000 in
theorem sameReply (r : RpV) (ad ad' : Option Addr) (cap cap' : Nat) (w : World) (h : RwA w enC 3 ad r.L) (h' : RwA w enC 3 ad' r.L) (hl : r.L.length ≤ 9223372036854775807) : Calls Tryd.prog 40 #[.agg #[.int .i64 r.c, .string r.T, .int .i64 r.x1, .int .i64 r.x2, .int .i64 r.x3, .int .i64 r.x4, .slice ad r.L.length cap, .int .i64 r.n, .bool r.e], .agg #[.int .i64 r.c, .string r.T, .int .i64 r.x1, .int .i64 r.x2, .int .i64 r.x3, .int .i64 r.x4, .slice ad' r.L.length cap', .int .i64 r.n, .bool r.e]] w fun e w' => e = .returned (.bool true) ∧ Only [] w w' := by
  have K : Hid (∀ W, Only [] w W → _) := fun W k => sameEntries ad ad' cap cap' r.L W (h.later k) (h'.later k) hl
  have q1 := same2H r.x1 r.x2
  have q2 := same2S r.x3 r.x4
  clear h h' hl
  go_enter Tryd.func40, Tryd.ntmps40
  go_wp2_with fail
  refine (K.out _ (((Only.refl [] w).alloc _).alloc _)).mono ?_
  rintro e w1 ⟨rfl, ho⟩
  have O : Hid (Only [] w w1) := (((Only.refl [] w).alloc _).alloc _).then ho
  clear ho
  go_wp2
  go_ret
  exact ⟨rfl, O.out⟩
set_option maxRecDepth 100000 in
set_option maxHeartbeats 8000000 in
theorem sameReplies (ad ad' : Option Addr) (cap cap' : Nat) (m m' : List (RpV × Value)) (w : World) (hm : m.map Prod.fst = m'.map Prod.fst) (h : RwA w rpC 9 ad m) (h' : RwA w rpC 9 ad' m') (hin : ∀ q ∈ m, RpA w q) (hin' : ∀ q ∈ m', RpA w q) (hok : ∀ q ∈ m, q.1.L.length ≤ 9223372036854775807) (hl : m.length ≤ 9223372036854775807) : Calls Tryd.prog 21 #[.slice ad m.length cap, .slice ad' m'.length cap'] w fun e w' => e = .returned (.bool true) ∧ Only [] w w' := by
  have HR : Hid (RwA w rpC 9 ad m) := h
  have HR' : Hid (RwA w rpC 9 ad' m') := h'
  have HM : Hid (m.map Prod.fst = m'.map Prod.fst) := hm
  have HIN : Hid (∀ q ∈ m, RpA w q) := hin
  have HIN' : Hid (∀ q ∈ m', RpA w q) := hin'
  have HOK : Hid (∀ q ∈ m, q.1.L.length ≤ 9223372036854775807) := hok
  obtain ⟨n, hn⟩ : ∃ n, m.length = n := ⟨_, rfl⟩
  have HN : Hid (m.length = n) := hn
  have hn' : m'.length = n := by
    have := congrArg List.length hm
    simp only [List.length_map] at this
    omega
  have HN' : Hid (m'.length = n) := hn'
  have hnb : n ≤ 9223372036854775807 := hn ▸ hl
  rw [hn, hn']
  clear hn hn' hl h h' hm hin hin' hok
  go_enter Tryd.func21, Tryd.ntmps21
  go_wp2
  go_loopw [5] (fun i wr => ∃ j : Nat, j ≤ n ∧ i = .int .i64 (j : Nat) ∧ Only [] w wr) (fun i _ => n - (intOf i).toNat)
  case atStart => exact ⟨0, Nat.zero_le _, rfl, Only.refl _ _⟩
  case round =>
    obtain ⟨j, hj, rfl, ho⟩ := hrel
    have O : Hid (Only [] w wr) := ho
    clear ho
    by_cases hlt : j < n
    · obtain ⟨x, hx⟩ := at_lt m (j := j) (by rw [HN.out]; exact hlt)
      obtain ⟨x', hx'⟩ := at_lt m' (j := j) (by rw [HN'.out]; exact hlt)
      have hxx : x'.1 = x.1 := by
        have h1 : (m.map Prod.fst)[j]? = some x.1 := by rw [List.getElem?_map, hx]; rfl
        have h2 : (m'.map Prod.fst)[j]? = some x'.1 := by rw [List.getElem?_map, hx']; rfl
        rw [HM.out, h2] at h1
        exact Option.some.inj h1
      obtain ⟨g, o, rfl, HCc⟩ := (HR.out.later O.out).at_ j x hx
      obtain ⟨g', o', rfl, HCd⟩ := (HR'.out.later O.out).at_ j x' hx'
      obtain ⟨a2, p2, HVc, hr2⟩ := (HIN.out x (mem_at hx)).later O.out
      obtain ⟨a3, p3, HVd, hr3⟩ := (HIN'.out x' (mem_at hx')).later O.out
      have hlx := HOK.out x (mem_at hx)
      rw [hxx] at HVd hr3
      obtain ⟨xr, xv⟩ := x
      obtain ⟨xr', xv'⟩ := x'
      simp only at hxx
      subst hxx
      simp only at HVc HVd hr2 hr3 hlx
      have KS : Hid (∀ W, Only [] wr W → _) := fun W k => sameReply xr' a2 a3 p2 p3 W (hr2.later k) (hr3.later k) hlx
      have c0 : wr.cell? ⟨g, o + j * 9, none⟩ = some (.int .i64 xr'.c) := HCc 0 _ rfl
      have c1 : wr.cell? ⟨g, o + j * 9 + 1, none⟩ = some (.string xr'.T) := HCc 1 _ rfl
      have c2 : wr.cell? ⟨g, o + j * 9 + 2, none⟩ = some (.int .i64 xr'.x1) := HCc 2 _ rfl
      have c3 : wr.cell? ⟨g, o + j * 9 + 3, none⟩ = some (.int .i64 xr'.x2) := HCc 3 _ rfl
      have c4 : wr.cell? ⟨g, o + j * 9 + 4, none⟩ = some (.int .i64 xr'.x3) := HCc 4 _ rfl
      have c5 : wr.cell? ⟨g, o + j * 9 + 5, none⟩ = some (.int .i64 xr'.x4) := HCc 5 _ rfl
      have c6 : wr.cell? ⟨g, o + j * 9 + 6, none⟩ = some (.slice a2 xr'.L.length p2) := (HCc 6 _ rfl).trans (congrArg some HVc)
      have c7 : wr.cell? ⟨g, o + j * 9 + 7, none⟩ = some (.int .i64 xr'.n) := HCc 7 _ rfl
      have c8 : wr.cell? ⟨g, o + j * 9 + 8, none⟩ = some (.bool xr'.e) := HCc 8 _ rfl
      have d0 : wr.cell? ⟨g', o' + j * 9, none⟩ = some (.int .i64 xr'.c) := HCd 0 _ rfl
      have d1 : wr.cell? ⟨g', o' + j * 9 + 1, none⟩ = some (.string xr'.T) := HCd 1 _ rfl
      have d2 : wr.cell? ⟨g', o' + j * 9 + 2, none⟩ = some (.int .i64 xr'.x1) := HCd 2 _ rfl
      have d3 : wr.cell? ⟨g', o' + j * 9 + 3, none⟩ = some (.int .i64 xr'.x2) := HCd 3 _ rfl
      have d4 : wr.cell? ⟨g', o' + j * 9 + 4, none⟩ = some (.int .i64 xr'.x3) := HCd 4 _ rfl
      have d5 : wr.cell? ⟨g', o' + j * 9 + 5, none⟩ = some (.int .i64 xr'.x4) := HCd 5 _ rfl
      have d6 : wr.cell? ⟨g', o' + j * 9 + 6, none⟩ = some (.slice a3 xr'.L.length p3) := (HCd 6 _ rfl).trans (congrArg some HVd)
      have d7 : wr.cell? ⟨g', o' + j * 9 + 7, none⟩ = some (.int .i64 xr'.n) := HCd 7 _ rfl
      have d8 : wr.cell? ⟨g', o' + j * 9 + 8, none⟩ = some (.bool xr'.e) := HCd 8 _ rfl
      clear HCc HCd HVc HVd hr2 hr3 hx hx' hlx
      go_wp2_with fail
      go_region_with (go_at_call 40; refine (KS.out _ (Only.refl [] wr).drew).mono ?_; rintro e w1 ⟨rfl, o1⟩)
      all_goals
        have O1 : Hid (Only [] w w1) := O.out.then (((Only.refl [] wr).drew).then o1)
        clear o1
        go_wp2
        go_roundw
        case rel => exact ⟨j + 1, by omega, by go_num, O1.out⟩
        case measure => simp [intOf]; omega
    · obtain rfl : n = j := by omega
      go_wp2
      go_ret
      exact ⟨rfl, O.out⟩
theorem rp_news1 {w : World} (o : Obj) (x : RpV) (u : Value) (ty : TypeId) : ∀ (r : Nat) (q : Value), (rpC (x, u))[r]? = some q → ((w.alloc o).alloc (.cells #[.int .i64 x.c, .string x.T, .int .i64 x.x1, .int .i64 x.x2, .int .i64 x.x3, .int .i64 x.x4, u, .int .i64 x.n, .bool x.e] ty)).cell? ((⟨w.heap.size + 1, 0, none⟩ : Addr).add r) = some q := by
  have := rp_news2 (w := w.alloc o) x u ty
  rw [World.size_alloc] at this
  exact this
set_option maxHeartbeats 1000000 in
theorem backReps_any (ad : Option Addr) (cap : Nat) (l : List (RpV × Value)) (w : World) (hr : RwA w rpC 9 ad l) (hs : ∀ x ∈ l, ∃ a p, x.2 = .slice a x.1.L.length p) (hl : l.length ≤ 4294967295) : Calls Tryd.prog 22 #[.slice ad l.length cap] w fun e w' => ∃ v, e = .returned v ∧ Only [] w w' ∧ w'.ownsRow w.heap.size 50 9 v l.length (rowOf rpC l) := by
  obtain ⟨i0, hi0, hz0, hz1, hz2⟩ := srInfo
  have HR : Hid (RwA w rpC 9 ad l) := hr
  have HSL : Hid (∀ x ∈ l, ∃ a p, x.2 = .slice a x.1.L.length p) := hs
  obtain ⟨n, hn⟩ : ∃ n, l.length = n := ⟨_, rfl⟩
  have HN : Hid (l.length = n) := hn
  have hnb : n ≤ 4294967295 := hn ▸ hl
  rw [hn]
  clear hn hl hr hs
  go_enter Tryd.func22, Tryd.ntmps22
  go_wp2
  go_loopw [3, 4] (fun v i wr => ∃ j : Nat, j ≤ n ∧ i = .int .i64 (j : Nat) ∧ Only [] w wr ∧ wr.ownsRow w.heap.size 50 9 v (l.take j).length (rowOf rpC (l.take j))) (fun _ i _ => n - (intOf i).toNat)
  case atStart => exact ⟨0, Nat.zero_le _, rfl, Only.refl _ _, World.ownsRow_nil _ _ _ _⟩
  case round =>
    obtain ⟨j, hj, rfl, ho, hrow⟩ := hrel
    have O : Hid (Only [] w wr) := ho
    have HLT : Hid ((l.take j).length = j) := by show _ = _; rw [List.length_take, HN.out]; omega
    have HROW : Hid (wr.ownsRow w.heap.size 50 9 u3 j (rowOf rpC (l.take j))) := by
      rw [HLT.out] at hrow
      exact hrow
    clear ho hrow
    by_cases hlt : j < n
    · obtain ⟨x, hx⟩ := at_lt l (j := j) (by rw [HN.out]; exact hlt)
      have hrx := HR.out.later O.out
      obtain ⟨g, o, rfl, hc⟩ := hrx.at_ j x hx
      obtain ⟨a2, p2, hv2⟩ := HSL.out x (mem_at hx)
      have HX : Hid (l.take j ++ [x] = l.take (j + 1)) := by
        show _ = _
        rw [List.take_add_one, hx]
        rfl
      have c0 : wr.cell? ⟨g, o + j * 9, none⟩ = some (.int .i64 x.1.c) := hc 0 _ rfl
      have c1 : wr.cell? ⟨g, o + j * 9 + 1, none⟩ = some (.string x.1.T) := hc 1 _ rfl
      have c2 : wr.cell? ⟨g, o + j * 9 + 2, none⟩ = some (.int .i64 x.1.x1) := hc 2 _ rfl
      have c3 : wr.cell? ⟨g, o + j * 9 + 3, none⟩ = some (.int .i64 x.1.x2) := hc 3 _ rfl
      have c4 : wr.cell? ⟨g, o + j * 9 + 4, none⟩ = some (.int .i64 x.1.x3) := hc 4 _ rfl
      have c5 : wr.cell? ⟨g, o + j * 9 + 5, none⟩ = some (.int .i64 x.1.x4) := hc 5 _ rfl
      have c6 : wr.cell? ⟨g, o + j * 9 + 6, none⟩ = some (.slice a2 x.1.L.length p2) := (hc 6 _ rfl).trans (congrArg some hv2)
      have c7 : wr.cell? ⟨g, o + j * 9 + 7, none⟩ = some (.int .i64 x.1.n) := hc 7 _ rfl
      have c8 : wr.cell? ⟨g, o + j * 9 + 8, none⟩ = some (.bool x.1.e) := hc 8 _ rfl
      have HXV : Hid (x = (x.1, Value.slice a2 x.1.L.length p2)) := by rw [← hv2]; rfl
      rw [HXV.out] at HX
      clear hv2
      clear hrx hc hx
      go_wp2_with (first
        | (at_builtin; refine wpList_append_lies _ rfl (.tmp 16) (.tmp 32) 45 rfl w.heap.size 50 i0 _ 9 96 srsUnd hi0 hz0 hz1 hz2 rfl (by decide) u3 j _ rfl (World.ownsRow.alloc (World.ownsRow.alloc HROW.out _) _) ⟨wr.heap.size + 1, 0, none⟩ 1 1 (rpC (x.1, Value.slice a2 x.1.L.length p2)) rfl rfl (rp_news1 _ x.1 (.slice a2 x.1.L.length p2) _) (rpC_one2 x.1 a2 x.1.L.length p2) (by decide) (by unfold maxLen; omega) (by omega) (by rw [World.size_alloc, World.size_alloc]; have := O.out.size; omega) (wr.heap.size + 1 + 1) (by simp) ?_; intro g5 c5 w5 hown5 hgr5 hat5 hlt5; have HV5 : Hid (w5.ownsRow w.heap.size 50 9 (.slice (some ⟨g5, 0, none⟩) (j + 1) c5) (l.take j ++ [(x.1, Value.slice a2 x.1.L.length p2)]).length (rowOf rpC (l.take j ++ [(x.1, Value.slice a2 x.1.L.length p2)]))) := row_snoc HLT.out hown5; have HG5 : Hid (Only u3.ownBlock.toList wr w5) := ((Only.refl _ wr).alloc _).seq (grown_only hgr5 (fun b hb => Or.inl (by simp [hb]))); clear hown5 hgr5 hat5 hlt5)
        | go_in)
      go_roundw
      case rel => exact ⟨j + 1, by omega, by go_num, O.out.trans HG5.out (fun k hk => Or.inr (own_at HROW.out (by simpa using hk)).1), by rw [← HX.out]; exact HV5.out⟩
      case measure => simp [intOf]; omega
    · obtain rfl : n = j := by omega
      go_wp2
      go_ret
      exact ⟨_, rfl, O.out, by
        have := HROW.out
        rw [← HN.out, List.take_length] at this
        rw [HN.out] at this
        exact this⟩
end Go.Proofs.YtkopiffnkbjbiaaDoor
