/- Shares: Drop. -/
import Derived.Test.YtagpahgjbglmaaaDoorSh16
namespace Go.Proofs.YtagpahgjbglmaaaDoor
open Go Go.RowKit Go.Deep

set_option maxHeartbeats 1000000 in
theorem dropf_none (w : World) (b : Nat) (o : Int) (hb : w.cell? ⟨b, 0, none⟩ = some (.int .i64 o)) :
    Calls Tryd.prog 38 #[.slice none 0 0, .func (.func 52) #[] #[.pointer (some ⟨b, 0, none⟩)]] w fun e w' => e = .returned (.slice none 0 0) ∧ Only [] w w' := by
  have hidx := index_by w 0 (.pointer (some ⟨b, 0, none⟩)) (byB o) _ [] (Opns.nil w 0) (by decide) (fun x hx => by cases hx) (by1_any w b o hb)
  have hidx' : Calls Tryd.prog 43 #[.slice none 0 0, .func (.func 52) #[] #[.pointer (some ⟨b, 0, none⟩)]] w fun e w' => e = .returned (.int .i64 (-1)) ∧ Only [] w w' := hidx.mono fun e w' hh => by
    obtain ⟨r, he, hr, ho⟩ := hh
    rcases hr with ⟨rfl, _⟩ | ⟨q, rfl, x, hx, _⟩
    · exact ⟨he, ho⟩
    · cases hx
  clear hidx hb
  go_enter Tryd.func38, Tryd.ntmps38
  go_wp2_with (go_at_call 43; refine hidx'.mono ?_; rintro e w2 ⟨rfl, ho2⟩; have HO2 : Hid (Only [] w w2) := ho2; clear hidx' ho2)
  go_ret
  exact ⟨rfl, HO2.out⟩
theorem dropf_any (w : World) (base b : Nat) (o : Int) (v : Value) (l : List Opn) (h : Opns w base v l) (hg : GoodO l) (hb : w.cell? ⟨b, 0, none⟩ = some (.int .i64 o)) (hbg : ∀ k, v.ownBlock = some k → b ≠ k) :
    Calls Tryd.prog 38 #[v, .func (.func 52) #[] #[.pointer (some ⟨b, 0, none⟩)]] w fun e w' => ∃ (ad : Option Addr) (cp : Nat), e = .returned (.slice ad (keptO o l).length cp) ∧ Opns w' base (.slice ad (keptO o l).length cp) (keptO o l) ∧ Only v.ownBlock.toList w w' ∧ (Value.slice ad (keptO o l).length cp).ownBlock = v.ownBlock := by
  rcases h.open with ⟨rfl, rfl⟩ | ⟨g, cap, cur, rfl, _⟩
  · exact (dropf_none w b o hb).mono fun e w' hh => ⟨none, 0, hh.1, Opns.nil _ _, hh.2.mono (fun _ hk => by cases hk), rfl⟩
  · exact (drop_walk w base g l.length cap b o l h rfl (by have := hg.most; omega) hg.ok hb (hbg g rfl)).mono fun e w' hh => ⟨some ⟨g, 0, none⟩, cap, hh.1, hh.2.1, hh.2.2, rfl⟩
set_option maxRecDepth 100000 in
set_option maxHeartbeats 4000000 in
theorem drop_any (w : World) (base t : Nat) (v : Value) (l : List Opn) (o : Int) (h : ShAt w base t v l) (hg : GoodO l) :
    Calls Tryd.prog 16 #[.pointer (some ⟨t, 0, none⟩), .int .i64 o] w fun e w' => e = .returned (.int .i64 ((l.length : Int) - ((keptO o l).length : Int))) ∧ ∃ v', ShAt w' base t v' (keptO o l) ∧ Only (t :: v.ownBlock.toList) w w' ∧ v'.ownBlock = v.ownBlock := by
  have hm := hg.most
  have hkl : (keptO o l).length ≤ l.length := List.length_filter_le _ _
  obtain ⟨ad, cap, hv, hvo⟩ : ∃ ad cap, v = .slice ad l.length cap ∧ ∀ k, v.ownBlock = some k → k < w.heap.size := by
    rcases h.own.open with ⟨rfl, rfl⟩ | ⟨g, cap, cur, rfl, _, hgl, _⟩
    · exact ⟨none, 0, rfl, fun k hk => by cases hk⟩
    · exact ⟨some ⟨g, 0, none⟩, cap, rfl, fun k hk => by cases hk; exact hgl⟩
  have htl : t < w.heap.size := lt_of_cell h.c0
  have HD : Hid (∀ W b, Only [] w W → w.heap.size ≤ b → W.cell? ⟨b, 0, none⟩ = some (.int .i64 o) → Calls Tryd.prog 38 #[v, .func (.func 52) #[] #[.pointer (some ⟨b, 0, none⟩)]] W fun e w' => ∃ (ad : Option Addr) (cp : Nat), e = .returned (.slice ad (keptO o l).length cp) ∧ Opns w' base (.slice ad (keptO o l).length cp) (keptO o l) ∧ Only v.ownBlock.toList W w' ∧ (Value.slice ad (keptO o l).length cp).ownBlock = v.ownBlock) := fun W b ho hb hc => dropf_any W base b o v l (h.only ho).own hg hc (fun k hk => by have := hvo k hk; omega)
  have HF : Hid (∀ W, Only v.ownBlock.toList w W → W.cell? ⟨t, 0, none⟩ = some v ∧ W.frozen? ⟨t, 0, none⟩ = false ∧ t < W.heap.size) := fun W ho => by
    have hn : t ∉ v.ownBlock.toList := fun hm => h.ne t (by simpa using hm) rfl
    exact ⟨(ho.cell (p := ⟨t, 0, none⟩) htl hn).trans h.c0, (ho.frozen (p := ⟨t, 0, none⟩) htl hn).trans h.fr, Nat.lt_of_lt_of_le htl ho.size⟩
  have ct := h.c0
  have HNE : Hid (∀ k, v.ownBlock = some k → k ≠ t) := h.ne
  have HBY : Hid (∀ W, _) := fun W => by_made W o
  clear h hg hvo
  subst hv
  generalize (keptO o l).length = m at HD hkl ⊢
  generalize l.length = n at *
  go_enter Tryd.func16, Tryd.ntmps16
  go_wp2
  go_region_with (first
    | (go_at_call 39; refine (HBY.out _).mono ?_; rintro e w2 ⟨b, rfl, hb2, ho2, hl2⟩; have HO2 : Hid (Only [] w w2) := ((Only.refl [] w).drew).trans ho2 (fun _ hk => by cases hk); have ht2 := (HF.out w2 (HO2.out.mono (fun _ hk => by cases hk))).1; have hdf := HD.out w2 b HO2.out hl2 hb2; clear hb2 ho2)
    | (go_at_call 38; refine hdf.mono ?_; rintro e w3 ⟨ad3, cp3, rfl, hO3, ho3, hw3⟩; have HO3 : Hid (Only (Value.slice ad n cap).ownBlock.toList w w3) := (HO2.out.mono (fun _ hk => by cases hk)).trans ho3 (fun _ hk => Or.inl hk); have HN3 : Hid (Opns w3 base (.slice ad3 m cp3) (keptO o l) ∧ (Value.slice ad3 m cp3).ownBlock = (Value.slice ad n cap).ownBlock) := ⟨hO3, hw3⟩; obtain ⟨k1, k2, k3⟩ := HF.out w3 HO3.out; clear hdf hO3 ho3 hw3))
  all_goals
    have hx : Only [t] w3 (w3.setCell ⟨t, 0, none⟩ (.slice ad3 m cp3)) := (Only.refl [t] w3).setCell (Or.inl (by simp)) _
    have kx : (w3.setCell ⟨t, 0, none⟩ (.slice ad3 m cp3)).cell? ⟨t, 0, none⟩ = some (.slice ad3 m cp3) := World.cell?_setCell_same _ _ _ k1
    have HFIN : Hid (ShAt (w3.setCell ⟨t, 0, none⟩ (.slice ad3 m cp3)) base t (.slice ad3 m cp3) (keptO o l) ∧ Only (t :: (Value.slice ad n cap).ownBlock.toList) w (w3.setCell ⟨t, 0, none⟩ (.slice ad3 m cp3))) := by
      have hne : ∀ k, (Value.slice ad3 m cp3).ownBlock = some k → k ≠ t := fun k hk => HNE.out k (by rw [← HN3.out.2]; exact hk)
      exact ⟨⟨kx, by simpa using k2, HN3.out.1.only hx (fun k hk => by simpa using hne k hk), hne⟩, (HO3.out.mono (L' := t :: (Value.slice ad n cap).ownBlock.toList) (fun k hk => Or.inl (List.mem_cons_of_mem _ hk))).trans hx (fun k hk => Or.inl (by simp at hk; simp [hk]))⟩
    clear hx k1 k2 k3 ct ht2
    generalize w3.setCell ⟨t, 0, none⟩ (.slice ad3 m cp3) = w4 at kx HFIN ⊢
    go_wp2
    go_ret
    exact ⟨rfl, .slice ad3 m cp3, HFIN.out.1, HFIN.out.2, HN3.out.2⟩
end Go.Proofs.YtagpahgjbglmaaaDoor
