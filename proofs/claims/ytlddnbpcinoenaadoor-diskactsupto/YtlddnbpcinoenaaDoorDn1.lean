/- DiskActs: the document's disk in memory; its power; NewDisk. -/
import Derived.Test.YtlddnbpcinoenaaDoorDk17
import Derived.Shelf.Spec.SlicesInsert
namespace Go.Proofs.YtlddnbpcinoenaaDoor
open Go Go.RowKit Go.Deep

theorem own_cell_set {α : Type} {c : α → Value} {w : World} {base : Nat} {e : TypeId} {g len cap : Nat} {l : List α} (h : w.ownsRow base e 1 (.slice (some ⟨g, 0, none⟩) len cap) l.length (l.map c)) (i : Nat) (a : α) :
    (w.setCell ⟨g, i, none⟩ (c a)).ownsRow base e 1 (.slice (some ⟨g, 0, none⟩) len cap) (l.set i a).length ((l.set i a).map c) := by
  obtain ⟨g', cap', cur, e1, hb, hg, h1, h2, h3, h4⟩ := own_open h (by simp)
  cases e1
  refine ⟨by simp, Or.inr ⟨g, cap, _, by simp, hb, heap_setCell_same w g i _ _ _ hg, by simpa using h1, h2, by simpa using h3, ?_⟩⟩
  have h5 : cur.toList.take l.length = l.map c := by simpa using h4
  simp only [List.length_set, Nat.mul_one, Array.toList_setIfInBounds, List.map_set]
  rw [← h5]
  exact (List.take_set ..)
/-- A write, as the document keeps it. -/
def wtC (x : Wr) : List Value := [.int .i64 (x.n : Nat), txt x.now]
theorem wtC_len (x : Wr) : (wtC x).length = 2 := rfl
theorem wtC_one (x : Wr) : ∀ v ∈ wtC x, v.oneCell' = true := by
  intro v hv
  simp [wtC, txt] at hv
  rcases hv with rfl | rfl <;> rfl
def leftI : Option Nat → Int
  | none => -1
  | some k => (k : Int)
def hasP : Option Nat → Bool
  | some 0 => false
  | _ => true
theorem hasP_iff (pw : Option Nat) : hasP pw = false ↔ pw = some 0 := by
  match pw with
  | none => simp [hasP]
  | some 0 => simp [hasP]
  | some (k + 1) => simp [hasP]
/-- The document's disk. -/
structure DnAt (w : World) (base t : Nat) (pw : Option Nat) (vk vn vw : Value) (kept now : List Sec) (wt : List Wr) : Prop where
  blk : w.heap[t]? = some (.cells #[vk, vn, vw, .int .i64 (leftI pw)] 44 (0, 0))
  tb : base ≤ t
  kr : w.ownsRow base 9 1 vk kept.length (kept.map txt)
  nr : w.ownsRow base 9 1 vn now.length (now.map txt)
  wr : w.ownsRow base 63 2 vw wt.length (rowOf wtC wt)
  ne : ∀ k, vk.ownBlock = some k → vn.ownBlock ≠ some k
def dnFoot (t : Nat) (vk vn vw : Value) : List Nat := t :: (vk.ownBlock.toList ++ vn.ownBlock.toList ++ vw.ownBlock.toList)
theorem mem_dn {t : Nat} {vk vn vw : Value} {k : Nat} : k ∈ dnFoot t vk vn vw ↔ k = t ∨ vk.ownBlock = some k ∨ vn.ownBlock = some k ∨ vw.ownBlock = some k := by
  simp [dnFoot, Option.mem_toList]
section
variable {w w' : World} {base t : Nat} {pw : Option Nat} {vk vn vw : Value} {kept now : List Sec} {wt : List Wr}
theorem DnAt.lt (h : DnAt w base t pw vk vn vw kept now wt) : t < w.heap.size := (Array.getElem?_eq_some_iff.1 h.blk).1
theorem DnAt.nek (h : DnAt w base t pw vk vn vw kept now wt) {k : Nat} (hk : vk.ownBlock = some k) : k ≠ t := fun e => by
  obtain ⟨_, _, cur, hc⟩ := own_blk h.kr hk
  rw [e, h.blk] at hc
  simp at hc
theorem DnAt.nen (h : DnAt w base t pw vk vn vw kept now wt) {k : Nat} (hk : vn.ownBlock = some k) : k ≠ t := fun e => by
  obtain ⟨_, _, cur, hc⟩ := own_blk h.nr hk
  rw [e, h.blk] at hc
  simp at hc
theorem DnAt.new (h : DnAt w base t pw vk vn vw kept now wt) {k : Nat} (hk : vw.ownBlock = some k) : k ≠ t := fun e => by
  obtain ⟨_, _, cur, hc⟩ := own_blk h.wr hk
  rw [e, h.blk] at hc
  simp at hc
theorem DnAt.nsw (h : DnAt w base t pw vk vn vw kept now wt) {k j : Nat} (hk : vk.ownBlock = some k ∨ vn.ownBlock = some k) (hj : vw.ownBlock = some j) : k ≠ j := fun e => by
  obtain ⟨_, _, cur', hc'⟩ := own_blk h.wr hj
  rcases hk with hk | hk
  · obtain ⟨_, _, cur, hc⟩ := own_blk h.kr hk
    rw [e, hc'] at hc
    simp at hc
  · obtain ⟨_, _, cur, hc⟩ := own_blk h.nr hk
    rw [e, hc'] at hc
    simp at hc
theorem DnAt.only (h : DnAt w base t pw vk vn vw kept now wt) {L : List Nat} (ho : Only L w w') (hd : ∀ k ∈ dnFoot t vk vn vw, k ∉ L) : DnAt w' base t pw vk vn vw kept now wt :=
  ⟨(ho.block t h.lt (hd t (mem_dn.2 (Or.inl rfl)))).trans h.blk, h.tb, ho.owns h.kr (fun k hk => hd k (mem_dn.2 (Or.inr (Or.inl hk)))), ho.owns h.nr (fun k hk => hd k (mem_dn.2 (Or.inr (Or.inr (Or.inl hk))))), ho.owns h.wr (fun k hk => hd k (mem_dn.2 (Or.inr (Or.inr (Or.inr hk))))), h.ne⟩
theorem DnAt.keep (h : DnAt w base t pw vk vn vw kept now wt) (ho : Only [] w w') : DnAt w' base t pw vk vn vw kept now wt := h.only ho (fun _ _ => by simp)
theorem DnAt.cells (h : DnAt w base t pw vk vn vw kept now wt) : w.cell? ⟨t, 0, none⟩ = some vk ∧ w.cell? ⟨t, 1, none⟩ = some vn ∧ w.cell? ⟨t, 2, none⟩ = some vw ∧ w.cell? ⟨t, 3, none⟩ = some (.int .i64 (leftI pw)) ∧ (∀ o, w.frozen? ⟨t, o, none⟩ = false) :=
  ⟨cell_of_row _ _ 0 _ _ _ h.blk, cell_of_row _ _ 1 _ _ _ h.blk, cell_of_row _ _ 2 _ _ _ h.blk, cell_of_row _ _ 3 _ _ _ h.blk, fun _ => frozen_of_row _ _ _ _ _ h.blk⟩
theorem DnAt.foot_ge (h : DnAt w base t pw vk vn vw kept now wt) : ∀ k ∈ dnFoot t vk vn vw, base ≤ k := fun k hk => by
  rcases mem_dn.1 hk with rfl | hk | hk | hk
  · exact h.tb
  · exact (own_blk h.kr hk).1
  · exact (own_blk h.nr hk).1
  · exact (own_blk h.wr hk).1
theorem DnAt.foot_lt (h : DnAt w base t pw vk vn vw kept now wt) : ∀ k ∈ dnFoot t vk vn vw, k < w.heap.size := fun k hk => by
  rcases mem_dn.1 hk with rfl | hk | hk | hk
  · exact h.lt
  · exact (own_blk h.kr hk).2.1
  · exact (own_blk h.nr hk).2.1
  · exact (own_blk h.wr hk).2.1
/-- Its block alone is turned: new rows in their places. -/
theorem DnAt.made {pw' : Option Nat} {vk' vn' vw' : Value} {kept' now' : List Sec} {wt' : List Wr} (hb : w.heap[t]? = some (.cells #[vk', vn', vw', .int .i64 (leftI pw')] 44 (0, 0))) (tb : base ≤ t)
    (kr : w.ownsRow base 9 1 vk' kept'.length (kept'.map txt)) (nr : w.ownsRow base 9 1 vn' now'.length (now'.map txt)) (wr : w.ownsRow base 63 2 vw' wt'.length (rowOf wtC wt')) (ne : ∀ k, vk'.ownBlock = some k → vn'.ownBlock ≠ some k) : DnAt w base t pw' vk' vn' vw' kept' now' wt' := ⟨hb, tb, kr, nr, wr, ne⟩
end
/-! ### its power -/
set_option maxHeartbeats 1000000 in
theorem dpower_any {w : World} {base t : Nat} {pw : Option Nat} {vk vn vw : Value} {kept now : List Sec} {wt : List Wr} (h : DnAt w base t pw vk vn vw kept now wt) (hp : ∀ k, pw = some k → k < 9223372036854775808) :
    Calls Tryd.prog 23 #[.pointer (some ⟨t, 0, none⟩)] w fun e w' => e = .returned (.bool (hasP pw)) ∧ DnAt w' base t (pw.map (· - 1)) vk vn vw kept now wt ∧ Only [t] w w' := by
  obtain ⟨_, _, _, c3, fz⟩ := h.cells
  have f3 := fz 3
  have hlt := h.lt
  have HD : Hid (DnAt w base t pw vk vn vw kept now wt) := h
  clear h fz
  match pw, hp with
  | none, _ =>
    simp only [leftI] at c3
    go_enter Tryd.func23, Tryd.ntmps23
    go_wp2
    go_ret
    exact ⟨rfl, HD.out, Only.refl _ _⟩
  | some 0, _ =>
    simp only [leftI] at c3
    go_enter Tryd.func23, Tryd.ntmps23
    go_wp2
    go_ret
    exact ⟨rfl, HD.out, Only.refl _ _⟩
  | some (k + 1), hp =>
    have hk := hp _ rfl
    simp only [leftI] at c3
    have d0 : decide (((k + 1 : Nat) : Int) = 0) = false := decide_eq_false (by omega)
    have d1 : decide ((0 : Int) < ((k + 1 : Nat) : Int)) = true := decide_eq_true (by omega)
    go_enter Tryd.func23, Tryd.ntmps23
    go_wp2
    go_ret
    have ho : Only [t] w (w.setCell ⟨t, 3, none⟩ (.int .i64 (k : Nat))) := (Only.refl _ _).setCell (Or.inl (by simp)) _
    have hd := HD.out
    refine ⟨rfl, ⟨?_, hd.tb, ho.owns hd.kr (fun j hj => by simpa using hd.nek hj), ho.owns hd.nr (fun j hj => by simpa using hd.nen hj), ho.owns hd.wr (fun j hj => by simpa using hd.new hj), hd.ne⟩, ho⟩
    rw [heap_setCell_same w t 3 _ _ _ hd.blk]
    simp [leftI]
/-- One of its fields is written: the first, the second, the third. -/
theorem DnAt.put0 {W w6 : World} {base t : Nat} {pw : Option Nat} {vk vn vw v' : Value} {kept now kept' : List Sec} {wt : List Wr} (hd : DnAt W base t pw vk vn vw kept now wt) {L : List Nat} (ho : Only L W w6) (hL : ∀ k ∈ L, vk.ownBlock = some k) (hr : w6.ownsRow base 9 1 v' kept'.length (kept'.map txt)) (hv : ∀ k, v'.ownBlock = some k → vk.ownBlock = some k ∨ W.heap.size ≤ k) :
    w6.cell? ⟨t, 0, none⟩ = some vk ∧ w6.frozen? ⟨t, 0, none⟩ = false ∧ t < w6.heap.size ∧ DnAt (w6.setCell ⟨t, 0, none⟩ v') base t pw v' vn vw kept' now wt ∧ Only (dnFoot t vk vn vw) W (w6.setCell ⟨t, 0, none⟩ v') := by
  have hb := (ho.block t hd.lt (fun hm => hd.nek (hL t hm) rfl)).trans hd.blk
  have hs : Only [t] w6 (w6.setCell ⟨t, 0, none⟩ v') := (Only.refl [t] w6).setCell (Or.inl (by simp)) _
  have hvt : ∀ k, v'.ownBlock = some k → k ≠ t := fun k hk e => by
    rcases hv k hk with h | h
    · exact hd.nek h e
    · have := hd.lt
      omega
  refine ⟨cell_of_row _ _ 0 _ _ _ hb, frozen_of_row _ _ _ _ _ hb, (Array.getElem?_eq_some_iff.1 hb).1, ⟨heap_setCell_same w6 t 0 _ _ _ hb, hd.tb, hs.owns hr (fun k hk => by simpa using hvt k hk), hs.owns (ho.owns hd.nr (fun k hk hm => hd.ne k (hL k hm) hk)) (fun k hk => by simpa using hd.nen hk), hs.owns (ho.owns hd.wr (fun k hk hm => hd.nsw (Or.inl (hL k hm)) hk rfl)) (fun k hk => by simpa using hd.new hk), fun k hk e => ?_⟩, ?_⟩
  · rcases hv k hk with h | h
    · exact hd.ne k h e
    · have := (own_blk hd.nr e).2.1
      omega
  · exact (ho.mono (fun k hk => Or.inl (mem_dn.2 (Or.inr (Or.inl (hL k hk)))))).trans hs (fun k hk => Or.inl (mem_dn.2 (Or.inl (by simpa using hk))))
theorem DnAt.put1 {W w6 : World} {base t : Nat} {pw : Option Nat} {vk vn vw v' : Value} {kept now now' : List Sec} {wt : List Wr} (hd : DnAt W base t pw vk vn vw kept now wt) {L : List Nat} (ho : Only L W w6) (hL : ∀ k ∈ L, vn.ownBlock = some k) (hr : w6.ownsRow base 9 1 v' now'.length (now'.map txt)) (hv : ∀ k, v'.ownBlock = some k → vn.ownBlock = some k ∨ W.heap.size ≤ k) :
    w6.cell? ⟨t, 1, none⟩ = some vn ∧ w6.frozen? ⟨t, 1, none⟩ = false ∧ t < w6.heap.size ∧ DnAt (w6.setCell ⟨t, 1, none⟩ v') base t pw vk v' vw kept now' wt ∧ Only (dnFoot t vk vn vw) W (w6.setCell ⟨t, 1, none⟩ v') := by
  have hb := (ho.block t hd.lt (fun hm => hd.nen (hL t hm) rfl)).trans hd.blk
  have hs : Only [t] w6 (w6.setCell ⟨t, 1, none⟩ v') := (Only.refl [t] w6).setCell (Or.inl (by simp)) _
  have hvt : ∀ k, v'.ownBlock = some k → k ≠ t := fun k hk e => by
    rcases hv k hk with h | h
    · exact hd.nen h e
    · have := hd.lt
      omega
  refine ⟨cell_of_row _ _ 1 _ _ _ hb, frozen_of_row _ _ _ _ _ hb, (Array.getElem?_eq_some_iff.1 hb).1, ⟨heap_setCell_same w6 t 1 _ _ _ hb, hd.tb, hs.owns (ho.owns hd.kr (fun k hk hm => hd.ne k hk (hL k hm))) (fun k hk => by simpa using hd.nek hk), hs.owns hr (fun k hk => by simpa using hvt k hk), hs.owns (ho.owns hd.wr (fun k hk hm => hd.nsw (Or.inr (hL k hm)) hk rfl)) (fun k hk => by simpa using hd.new hk), fun k hk e => ?_⟩, ?_⟩
  · rcases hv k e with h | h
    · exact hd.ne k hk h
    · have := (own_blk hd.kr hk).2.1
      omega
  · exact (ho.mono (fun k hk => Or.inl (mem_dn.2 (Or.inr (Or.inr (Or.inl (hL k hk))))))).trans hs (fun k hk => Or.inl (mem_dn.2 (Or.inl (by simpa using hk))))
theorem DnAt.put2 {W w6 : World} {base t : Nat} {pw : Option Nat} {vk vn vw v' : Value} {kept now : List Sec} {wt wt' : List Wr} (hd : DnAt W base t pw vk vn vw kept now wt) {L : List Nat} (ho : Only L W w6) (hL : ∀ k ∈ L, vw.ownBlock = some k) (hr : w6.ownsRow base 63 2 v' wt'.length (rowOf wtC wt')) (hv : ∀ k, v'.ownBlock = some k → vw.ownBlock = some k ∨ W.heap.size ≤ k) :
    w6.cell? ⟨t, 2, none⟩ = some vw ∧ w6.frozen? ⟨t, 2, none⟩ = false ∧ t < w6.heap.size ∧ DnAt (w6.setCell ⟨t, 2, none⟩ v') base t pw vk vn v' kept now wt' ∧ Only (dnFoot t vk vn vw) W (w6.setCell ⟨t, 2, none⟩ v') := by
  have hb := (ho.block t hd.lt (fun hm => hd.new (hL t hm) rfl)).trans hd.blk
  have hs : Only [t] w6 (w6.setCell ⟨t, 2, none⟩ v') := (Only.refl [t] w6).setCell (Or.inl (by simp)) _
  have hvt : ∀ k, v'.ownBlock = some k → k ≠ t := fun k hk e => by
    rcases hv k hk with h | h
    · exact hd.new h e
    · have := hd.lt
      omega
  refine ⟨cell_of_row _ _ 2 _ _ _ hb, frozen_of_row _ _ _ _ _ hb, (Array.getElem?_eq_some_iff.1 hb).1, ⟨heap_setCell_same w6 t 2 _ _ _ hb, hd.tb, hs.owns (ho.owns hd.kr (fun k hk hm => hd.nsw (Or.inl hk) (hL k hm) rfl)) (fun k hk => by simpa using hd.nek hk), hs.owns (ho.owns hd.nr (fun k hk hm => hd.nsw (Or.inr hk) (hL k hm) rfl)) (fun k hk => by simpa using hd.nen hk), hs.owns hr (fun k hk => by simpa using hvt k hk), hd.ne⟩, ?_⟩
  exact (ho.mono (fun k hk => Or.inl (mem_dn.2 (Or.inr (Or.inr (Or.inr (hL k hk))))))).trans hs (fun k hk => Or.inl (mem_dn.2 (Or.inl (by simpa using hk))))
/-! ### NewDisk -/
theorem zeroTxt : txt zeroS = .string (zer 64) := rfl
set_option maxRecDepth 100000 in
set_option maxHeartbeats 4000000 in
theorem newDisk_ok (w : World) (n : Nat) (hn : n ≤ 4000) : Calls Tryd.prog 9 #[.int .i64 (n : Nat)] w fun e w' => ∃ t vk vn, e = .returned (.pointer (some ⟨t, 0, none⟩)) ∧ DnAt w' w.heap.size t none vk vn (.slice none 0 0) (List.replicate n zeroS) (List.replicate n zeroS) [] ∧ Only [] w w' := by
  obtain ⟨i0, hi0, hz⟩ := Option.map_eq_some_iff.1 strInfo
  simp only [Prod.mk.injEq] at hz
  obtain ⟨hz0, hz1, hz2⟩ := hz
  go_enter Tryd.func9, Tryd.ntmps9
  go_wp2
  go_loopw [4] (fun i wr => ∃ (j : Nat) (vk vn : Value), i = .int .i64 (j : Nat) ∧ j ≤ n ∧ DnAt wr w.heap.size w.heap.size none vk vn (.slice none 0 0) (List.replicate j zeroS) (List.replicate j zeroS) [] ∧ Only [] w wr) (fun i _ => n - (intOf i).toNat)
  case atStart => exact ⟨0, .slice none 0 0, .slice none 0 0, rfl, Nat.zero_le _, ⟨heap_alloc_last w _, Nat.le_refl _, World.ownsRow_nil _ _ _ _, World.ownsRow_nil _ _ _ _, World.ownsRow_nil _ _ _ _, fun k hk => by cases hk⟩, (Only.refl [] w).alloc _⟩
  case round =>
    obtain ⟨j, vk, vn, rfl, hj, hd, ho⟩ := hrel
    by_cases hlt : j < n
    · have hl : decide ((j : Int) < (n : Int)) = true := decide_eq_true (by omega)
      have HD : Hid (DnAt wr w.heap.size w.heap.size none vk vn (.slice none 0 0) (List.replicate j zeroS) (List.replicate j zeroS) []) := hd
      have HO : Hid (Only [] w wr) := ho
      obtain ⟨ak, ck, hvk⟩ := own_slice hd.kr
      obtain ⟨an, cn, hvn⟩ := own_slice hd.nr
      rw [List.length_replicate] at hvk hvn
      subst hvk hvn
      have c0 := hd.cells.1
      have ht := hd.lt
      have HAP : Hid (∀ W1, Only [] wr W1 → ∀ g6 c6 w6, w6.ownsRow w.heap.size 9 1 (.slice (some ⟨g6, 0, none⟩) (j + 1) c6) (j + 1) ((List.replicate j zeroS).map txt ++ [.string (zer 64)]) → (W1.alloc (.cells #[.string (zer 64)] 9)).grownBy w6 (Value.slice ak j ck).ownBlock → ((Value.slice ak j ck).ownBlock = some g6 ∨ g6 = W1.heap.size + 1) → w6.cell? ⟨w.heap.size, 0, none⟩ = some (.slice ak j ck) ∧ w6.frozen? ⟨w.heap.size, 0, none⟩ = false ∧ w.heap.size < w6.heap.size ∧ DnAt (w6.setCell ⟨w.heap.size, 0, none⟩ (.slice (some ⟨g6, 0, none⟩) (j + 1) c6)) w.heap.size w.heap.size none (.slice (some ⟨g6, 0, none⟩) (j + 1) c6) (.slice an j cn) (.slice none 0 0) (List.replicate (j + 1) zeroS) (List.replicate j zeroS) [] ∧ Only [] w (w6.setCell ⟨w.heap.size, 0, none⟩ (.slice (some ⟨g6, 0, none⟩) (j + 1) c6))) := fun W1 ho1 g6 c6 w6 hr hg hat => by
        have hoA : Only [] wr (W1.alloc (.cells #[.string (zer 64)] 9)) := ho1.alloc _
        have ho6 : Only (Value.slice ak j ck).ownBlock.toList wr w6 := (hoA.mono (fun _ h => by cases h)).grown hg (fun k hk => Or.inl (by rw [hk]; simp))
        have e : (List.replicate j zeroS).map txt ++ [.string (zer 64)] = (List.replicate (j + 1) zeroS).map txt := by rw [List.replicate_succ', List.map_append]; rfl
        rw [e] at hr
        obtain ⟨h1, h2, h3, h4, h5⟩ := HD.out.put0 (kept' := List.replicate (j + 1) zeroS) ho6 (fun k hk => by simpa using hk) (by simpa using hr) (fun k hk => by
          have h9 : some g6 = some k := hk
          injection h9 with h9
          subst h9
          rcases hat with e | e
          · exact Or.inl e
          · exact Or.inr (by have := ho1.size; omega))
        exact ⟨h1, h2, h3, h4, HO.out.trans h5 (fun k hk => Or.inr (HD.out.foot_ge k hk))⟩
      have HRA : Hid (∀ W1, Only [] wr W1 → (W1.alloc (.cells #[.string (zer 64)] 9)).ownsRow w.heap.size 9 1 (.slice ak j ck) j ((List.replicate j zeroS).map txt)) := fun W1 ho1 => by
        have := (ho1.alloc (.cells #[.string (zer 64)] 9)).owns HD.out.kr (fun _ _ => by simp)
        rwa [List.length_replicate] at this
      have HZ : Hid (Calls Tryd.prog 18 #[.int .i64 64] wr.drew fun e w' => e = .returned (.string (zer 64)) ∧ Only [] wr.drew w') := zeros_dk 64 wr.drew (by decide)
      have HWA : Hid (w.heap.size ≤ wr.heap.size) := ho.size
      have mixed : Tryd.prog.follows Departure.mixedOrders = true := by kernel_rfl
      clear hd ho
      go_upto_region 5 with (fail)
      refine wp_region_any (by kernel_rfl) ?_
      change wpAny _ _ _ _ _ _ _ (World.drew _)
      refine wpAny_take (i := 0) (v := ?_) rfl (by kernel_rfl) (by kernel_rfl) (by kernel_rfl) (fun _ _ _ h => h) (Or.inl ⟨by rfl, ?_⟩) ?_
      rotate_left
      · intro w; go_simp; try with_reducible rfl
      refine wpAny_take (i := 1) (v := ?_) rfl (by kernel_rfl) (by kernel_rfl) (by kernel_rfl) (fun _ _ _ h => h) (Or.inl ⟨by rfl, ?_⟩) ?_
      rotate_left
      · intro w; go_simp; try with_reducible rfl
      refine wpAny_take (i := 2) (v := ?_) rfl (by kernel_rfl) (by kernel_rfl) (by kernel_rfl) (fun _ _ _ h => h) (Or.inl ⟨by rfl, ?_⟩) ?_
      rotate_left
      · intro w; go_simp; try with_reducible rfl
      refine wpAny_take (i := 3) (v := ?_) rfl (by kernel_rfl) (by kernel_rfl) (by kernel_rfl) (fun _ _ _ h => h) (Or.inl ⟨by rfl, ?_⟩) ?_
      rotate_left
      · intro w; go_simp; try with_reducible rfl
      refine wpAny_ready (rs := [4, 5]) (by kernel_rfl) (by simp) ?_
      refine AllReady.cons rfl (fun K hK => ?_) (AllReady.cons rfl (fun K hK => ?_) AllReady.nil)
      rotate_left
      go_simp
      refine HZ.out.mono ?_
      rintro e w1 ⟨rfl, ho1⟩
      have O1 : Hid (Only [] wr w1) := ((Only.refl [] wr).drew).trans ho1 (fun _ h => by cases h)
      have c01 := (O1.out.cell (p := ⟨w.heap.size, 0, none⟩) ht (by simp)).trans c0
      have ht1 := lt_of_cell c01
      clear ho1
      refine hK _ _ ?_
      clear hK K
      refine wpAny_ready (rs := [4, 6]) (by kernel_rfl) (by simp) ?_
      refine AllReady.cons rfl (fun K hK => ?_) (AllReady.cons rfl (fun K hK => ?_) AllReady.nil)
      rotate_left
      go_simp
      refine hK _ _ ?_
      clear hK K
      refine wpAny_ready (rs := [4]) (by kernel_rfl) (by simp) ?_
      refine AllReady.cons rfl (fun K hK => ?_) AllReady.nil
      go_simp
      refine hK _ _ ?_
      clear hK K
      rotate_left
      go_simp
      refine hK _ _ ?_
      clear hK K
      refine wpAny_ready (rs := [5]) (by kernel_rfl) (by simp) ?_
      refine AllReady.cons rfl (fun K hK => ?_) AllReady.nil
      go_simp
      refine HZ.out.mono ?_
      rintro e w1 ⟨rfl, ho1⟩
      have O1 : Hid (Only [] wr w1) := ((Only.refl [] wr).drew).trans ho1 (fun _ h => by cases h)
      have c01 := (O1.out.cell (p := ⟨w.heap.size, 0, none⟩) ht (by simp)).trans c0
      have ht1 := lt_of_cell c01
      clear ho1
      refine hK _ _ ?_
      clear hK K
      refine wpAny_ready (rs := [6]) (by kernel_rfl) (by simp) ?_
      refine AllReady.cons rfl (fun K hK => ?_) AllReady.nil
      go_simp
      refine hK _ _ ?_
      clear hK K
      rotate_left
      go_simp
      refine hK _ _ ?_
      clear hK K
      refine wpAny_ready (rs := [6]) (by kernel_rfl) (by simp) ?_
      refine AllReady.cons rfl (fun K hK => ?_) AllReady.nil
      go_simp
      refine hK _ _ ?_
      clear hK K
      all_goals
        refine wpAny_ready (rs := [7]) (by kernel_rfl) (by simp) ?_
        refine AllReady.cons rfl (fun K hK => ?_) AllReady.nil
        refine step_append_lies _ (by rfl) (.tmp 16) (.tmp 18) 41 (by rfl) w.heap.size 9 i0 _ 1 16 strsUnd hi0 hz0 hz1 hz2 (by rfl) (by decide) (.slice ak j ck) j ((List.replicate j zeroS).map txt) (by rfl) (HRA.out w1 O1.out) ⟨w1.heap.size, 0, none⟩ 1 1 [.string (zer 64)] (by rfl) rfl (World.news_of_block (w := w1.alloc (.cells #[.string (zer 64)] 9)) (heap_alloc_last w1 (.cells #[.string (zer 64)] 9))) (fun q hq => by simp at hq; subst hq; rfl) (by decide) (by unfold maxLen; omega) (by omega) (by have h1 := HWA.out; have h2 := O1.out.size; simp; omega) (w1.heap.size + 1) (by simp) ?_
        intro gA cA w6 hown6 hgr6 hat6 hlt6
        have HRR := HAP.out w1 O1.out gA cA w6 hown6 hgr6 hat6
        obtain ⟨e0, e1, e2, hR, hRo⟩ := HRR
        clear hown6 hgr6 hat6 hlt6
        refine hK _ _ ?_
        clear hK K
        refine wpAny_ready (rs := [8]) (by kernel_rfl) (by simp) ?_
        refine AllReady.cons rfl (fun K hK => ?_) AllReady.nil
        go_simp
        refine hK _ _ ?_
        clear hK K
        refine wpAny_ready (rs := [9]) (by kernel_rfl) (by simp) ?_
        refine AllReady.cons rfl (fun K hK => ?_) AllReady.nil
        go_simp
        refine hK _ _ ?_
        clear hK K
        refine wpAny_ready (rs := [10]) (by kernel_rfl) (by simp) ?_
        refine AllReady.cons rfl (fun K hK => ?_) AllReady.nil
        go_simp
        refine hK _ _ ?_
        clear hK K
        refine wpAny_done (by kernel_rfl) ?_ _
        generalize hwB : w6.setCell ⟨w.heap.size, 0, none⟩ (.slice (some ⟨gA, 0, none⟩) (j + 1) cA) = wB at hR hRo ⊢
        have HDB : Hid (DnAt wB w.heap.size w.heap.size none (.slice (some ⟨gA, 0, none⟩) (j + 1) cA) (.slice an j cn) (.slice none 0 0) (List.replicate (j + 1) zeroS) (List.replicate j zeroS) []) := hR
        have HOB : Hid (Only [] w wB) := hRo
        have c0B := hR.cells.2.1
        have htB := hR.lt
        have HWB : Hid (w.heap.size ≤ wB.heap.size) := hRo.size
        clear hR hRo hwB e0 e1 e2 c0 c01 ht1 O1 HD HO HAP HRA HZ HWA
        have HAQ : Hid (∀ W1, Only [] wB W1 → ∀ g6 c6 w6, w6.ownsRow w.heap.size 9 1 (.slice (some ⟨g6, 0, none⟩) (j + 1) c6) (j + 1) ((List.replicate j zeroS).map txt ++ [.string (zer 64)]) → (W1.alloc (.cells #[.string (zer 64)] 9)).grownBy w6 (Value.slice an j cn).ownBlock → ((Value.slice an j cn).ownBlock = some g6 ∨ g6 = W1.heap.size + 1) → w6.cell? ⟨w.heap.size, 1, none⟩ = some (.slice an j cn) ∧ w6.frozen? ⟨w.heap.size, 1, none⟩ = false ∧ w.heap.size < w6.heap.size ∧ DnAt (w6.setCell ⟨w.heap.size, 1, none⟩ (.slice (some ⟨g6, 0, none⟩) (j + 1) c6)) w.heap.size w.heap.size none (.slice (some ⟨gA, 0, none⟩) (j + 1) cA) (.slice (some ⟨g6, 0, none⟩) (j + 1) c6) (.slice none 0 0) (List.replicate (j + 1) zeroS) (List.replicate (j + 1) zeroS) [] ∧ Only [] w (w6.setCell ⟨w.heap.size, 1, none⟩ (.slice (some ⟨g6, 0, none⟩) (j + 1) c6))) := fun W1 ho1 g6 c6 w6 hr hg hat => by
          have hoA : Only [] wB (W1.alloc (.cells #[.string (zer 64)] 9)) := ho1.alloc _
          have ho6 : Only (Value.slice an j cn).ownBlock.toList wB w6 := (hoA.mono (fun _ h => by cases h)).grown hg (fun k hk => Or.inl (by rw [hk]; simp))
          have e : (List.replicate j zeroS).map txt ++ [.string (zer 64)] = (List.replicate (j + 1) zeroS).map txt := by rw [List.replicate_succ', List.map_append]; rfl
          rw [e] at hr
          obtain ⟨h1, h2, h3, h4, h5⟩ := HDB.out.put1 (now' := List.replicate (j + 1) zeroS) ho6 (fun k hk => by simpa using hk) (by simpa using hr) (fun k hk => by
            have h9 : some g6 = some k := hk
            injection h9 with h9
            subst h9
            rcases hat with e | e
            · exact Or.inl e
            · exact Or.inr (by have := ho1.size; omega))
          exact ⟨h1, h2, h3, h4, HOB.out.trans h5 (fun k hk => Or.inr (HDB.out.foot_ge k hk))⟩
        have HRB : Hid (∀ W1, Only [] wB W1 → (W1.alloc (.cells #[.string (zer 64)] 9)).ownsRow w.heap.size 9 1 (.slice an j cn) j ((List.replicate j zeroS).map txt)) := fun W1 ho1 => by
          have := (ho1.alloc (.cells #[.string (zer 64)] 9)).owns HDB.out.nr (fun _ _ => by simp)
          rwa [List.length_replicate] at this
        have HZB : Hid (Calls Tryd.prog 18 #[.int .i64 64] wB.drew fun e w' => e = .returned (.string (zer 64)) ∧ Only [] wB.drew w') := zeros_dk 64 wB.drew (by decide)
        go_upto_region 6 with (fail)
        refine wp_region_any (by kernel_rfl) ?_
        change wpAny _ _ _ _ _ _ _ (World.drew _)
        refine wpAny_take (i := 0) (v := ?_) rfl (by kernel_rfl) (by kernel_rfl) (by kernel_rfl) (fun _ _ _ h => h) (Or.inl ⟨by rfl, ?_⟩) ?_
        rotate_left
        · intro w; go_simp; try with_reducible rfl
        refine wpAny_take (i := 1) (v := ?_) rfl (by kernel_rfl) (by kernel_rfl) (by kernel_rfl) (fun _ _ _ h => h) (Or.inl ⟨by rfl, ?_⟩) ?_
        rotate_left
        · intro w; go_simp; try with_reducible rfl
        refine wpAny_take (i := 2) (v := ?_) rfl (by kernel_rfl) (by kernel_rfl) (by kernel_rfl) (fun _ _ _ h => h) (Or.inl ⟨by rfl, ?_⟩) ?_
        rotate_left
        · intro w; go_simp; try with_reducible rfl
        refine wpAny_take (i := 3) (v := ?_) rfl (by kernel_rfl) (by kernel_rfl) (by kernel_rfl) (fun _ _ _ h => h) (Or.inl ⟨by rfl, ?_⟩) ?_
        rotate_left
        · intro w; go_simp; try with_reducible rfl
        refine wpAny_ready (rs := [4, 5]) (by kernel_rfl) (by simp) ?_
        refine AllReady.cons rfl (fun K hK => ?_) (AllReady.cons rfl (fun K hK => ?_) AllReady.nil)
        rotate_left
        go_simp
        refine HZB.out.mono ?_
        rintro e x1 ⟨rfl, ho1⟩
        have P1 : Hid (Only [] wB x1) := ((Only.refl [] wB).drew).trans ho1 (fun _ h => by cases h)
        have d01 := (P1.out.cell (p := ⟨w.heap.size, 1, none⟩) htB (by simp)).trans c0B
        have hu1 := lt_of_cell d01
        clear ho1
        refine hK _ _ ?_
        clear hK K
        refine wpAny_ready (rs := [4, 6]) (by kernel_rfl) (by simp) ?_
        refine AllReady.cons rfl (fun K hK => ?_) (AllReady.cons rfl (fun K hK => ?_) AllReady.nil)
        rotate_left
        go_simp
        refine hK _ _ ?_
        clear hK K
        refine wpAny_ready (rs := [4]) (by kernel_rfl) (by simp) ?_
        refine AllReady.cons rfl (fun K hK => ?_) AllReady.nil
        go_simp
        refine hK _ _ ?_
        clear hK K
        rotate_left
        go_simp
        refine hK _ _ ?_
        clear hK K
        refine wpAny_ready (rs := [5]) (by kernel_rfl) (by simp) ?_
        refine AllReady.cons rfl (fun K hK => ?_) AllReady.nil
        go_simp
        refine HZB.out.mono ?_
        rintro e x1 ⟨rfl, ho1⟩
        have P1 : Hid (Only [] wB x1) := ((Only.refl [] wB).drew).trans ho1 (fun _ h => by cases h)
        have d01 := (P1.out.cell (p := ⟨w.heap.size, 1, none⟩) htB (by simp)).trans c0B
        have hu1 := lt_of_cell d01
        clear ho1
        refine hK _ _ ?_
        clear hK K
        refine wpAny_ready (rs := [6]) (by kernel_rfl) (by simp) ?_
        refine AllReady.cons rfl (fun K hK => ?_) AllReady.nil
        go_simp
        refine hK _ _ ?_
        clear hK K
        rotate_left
        go_simp
        refine hK _ _ ?_
        clear hK K
        refine wpAny_ready (rs := [6]) (by kernel_rfl) (by simp) ?_
        refine AllReady.cons rfl (fun K hK => ?_) AllReady.nil
        go_simp
        refine hK _ _ ?_
        clear hK K
        all_goals
          refine wpAny_ready (rs := [7]) (by kernel_rfl) (by simp) ?_
          refine AllReady.cons rfl (fun K hK => ?_) AllReady.nil
          refine step_append_lies _ (by rfl) (.tmp 26) (.tmp 28) 41 (by rfl) w.heap.size 9 i0 _ 1 16 strsUnd hi0 hz0 hz1 hz2 (by rfl) (by decide) (.slice an j cn) j ((List.replicate j zeroS).map txt) (by rfl) (HRB.out x1 P1.out) ⟨x1.heap.size, 0, none⟩ 1 1 [.string (zer 64)] (by rfl) rfl (World.news_of_block (w := x1.alloc (.cells #[.string (zer 64)] 9)) (heap_alloc_last x1 (.cells #[.string (zer 64)] 9))) (fun q hq => by simp at hq; subst hq; rfl) (by decide) (by unfold maxLen; omega) (by omega) (by have h1 := HWB.out; have h2 := P1.out.size; simp; omega) (x1.heap.size + 1) (by simp) ?_
          intro gB cB x6 hown6 hgr6 hat6 hlt6
          have HRS := HAQ.out x1 P1.out gB cB x6 hown6 hgr6 hat6
          obtain ⟨f0, f1, f2, hS, hSo⟩ := HRS
          clear hown6 hgr6 hat6 hlt6
          refine hK _ _ ?_
          clear hK K
          refine wpAny_ready (rs := [8]) (by kernel_rfl) (by simp) ?_
          refine AllReady.cons rfl (fun K hK => ?_) AllReady.nil
          go_simp
          refine hK _ _ ?_
          clear hK K
          refine wpAny_ready (rs := [9]) (by kernel_rfl) (by simp) ?_
          refine AllReady.cons rfl (fun K hK => ?_) AllReady.nil
          go_simp
          refine hK _ _ ?_
          clear hK K
          refine wpAny_ready (rs := [10]) (by kernel_rfl) (by simp) ?_
          refine AllReady.cons rfl (fun K hK => ?_) AllReady.nil
          go_simp
          refine hK _ _ ?_
          clear hK K
          refine wpAny_done (by kernel_rfl) ?_ _
          have HRF : Hid (DnAt (x6.setCell ⟨w.heap.size, 1, none⟩ (.slice (some ⟨gB, 0, none⟩) (j + 1) cB)) w.heap.size w.heap.size none (.slice (some ⟨gA, 0, none⟩) (j + 1) cA) (.slice (some ⟨gB, 0, none⟩) (j + 1) cB) (.slice none 0 0) (List.replicate (j + 1) zeroS) (List.replicate (j + 1) zeroS) [] ∧ Only [] w (x6.setCell ⟨w.heap.size, 1, none⟩ (.slice (some ⟨gB, 0, none⟩) (j + 1) cB))) := ⟨hS, hSo⟩
          clear hS hSo HAQ HRB HZB HDB HOB
          go_wp2
          go_roundw
          case rel => exact ⟨j + 1, _, _, by go_num, by omega, HRF.out.1, HRF.out.2⟩
          case measure => simp [intOf]; omega
    · obtain rfl : j = n := by omega
      have hl : decide ((j : Int) < (j : Int)) = false := decide_eq_false (by omega)
      have HD : Hid (DnAt wr w.heap.size w.heap.size none vk vn (.slice none 0 0) (List.replicate j zeroS) (List.replicate j zeroS) []) := hd
      have HO : Hid (Only [] w wr) := ho
      clear hd ho
      go_wp2
      go_ret
      exact ⟨w.heap.size, vk, vn, rfl, HD.out, HO.out⟩
end Go.Proofs.YtlddnbpcinoenaaDoor
