/- ShareActs: the walk. -/
import Derived.Test.YtagpahgjbglmaaaDoorSr10
import Derived.Test.YtagpahgjbglmaaaDoorSh24
namespace Go.Proofs.YtagpahgjbglmaaaDoor
open Go Go.RowKit Go.Deep

/-- Both tables hold the same. -/
def Good2 (W w : World) (t r : Nat) : Prop := ∃ l m, Two0 W w t r l m ∧ l.Perm m
theorem Good2.below {W w : World} {t r : Nat} (h : Good2 W w t r) : Below W.heap.size W w := by
  obtain ⟨l, m, ⟨v, u, h⟩, _⟩ := h
  exact h.below
theorem Good2.onB {W w w' : World} {t r : Nat} (h : Good2 W w t r) (hb : Below w.heap.size w w') : Good2 W w' t r := by
  obtain ⟨l, m, h, hp⟩ := h
  exact ⟨l, m, h.only (Only.of_below hb []), hp⟩
theorem box_cells {W w : World} {t r b : Nat} {l m : List Opn} {x : SActM} (h : Two W w t r l m b #[.string x.K, .int .i64 x.N, .int .i64 x.G, .int .i64 x.O, .int .i64 x.A, .int .i64 x.D]) : w.cell? ⟨b, 0, none⟩ = some (.string x.K) ∧ w.cell? ⟨b, 1, none⟩ = some (.int .i64 x.N) ∧ w.cell? ⟨b, 2, none⟩ = some (.int .i64 x.G) ∧ w.cell? ⟨b, 3, none⟩ = some (.int .i64 x.O) ∧ w.cell? ⟨b, 4, none⟩ = some (.int .i64 x.A) ∧ w.cell? ⟨b, 5, none⟩ = some (.int .i64 x.D) :=
  ⟨h.cells 0, h.cells 1, h.cells 2, h.cells 3, h.cells 4, h.cells 5⟩
theorem kept_num {l m : List Opn} (h : l.Perm m) (O : Int) : (m.length : Int) - ((keptO O m).length : Int) = (l.length : Int) - ((keptO O l).length : Int) := by rw [h.length_eq, (pair_kept h O).length_eq]
set_option maxRecDepth 100000 in
set_option maxHeartbeats 8000000 in
theorem sacts_walk (ab ao len cap : Nat) (P : Nat → SActM) (A : Nat → Addr) (w : World) (hp : SActsAt w ab ao len P) (hlen : len ≤ 80) (hE : Errs w A) :
    Calls Tryd.prog 3 #[.slice (some ⟨ab, ao, none⟩) len cap] w fun e w' => e = .returned (.bool true) ∧ Below w.heap.size w w' := by
  have hsh := shared_any A w hE.five
  have HE : Hid (Errs w A) := hE
  have HE5 : Hid (Err5 w A) := hE.five
  have HPA : Hid (SActsAt w ab ao len P) := hp
  have hd1 : decide (80 < (len : Int)) = false := decide_eq_false (by omega)
  clear hE hp
  go_enter Tryd.func3, Tryd.ntmps3
  go_wp2_with (go_at_call 5; refine hsh.mono ?_; rintro e w1 ⟨rfl, hb1⟩; have HG0 : Hid (Good2 w ((w1.alloc (.cells #[.slice none 0 0] 27)).alloc (.cells #[.slice none 0 0] 31)) w1.heap.size (w1.heap.size + 1)) := ⟨[], [], Two0.fresh hb1, List.Perm.nil⟩; clear hsh hb1)
  clear hd1
  generalize (w1.alloc (.cells #[.slice none 0 0] 27)).alloc (.cells #[.slice none 0 0] 31) = w2 at HG0 ⊢
  generalize w1.heap.size + 1 = r at HG0 ⊢
  generalize w1.heap.size = t at HG0 ⊢
  go_loopw [6] (fun i wr => ∃ (j : Nat), j ≤ len ∧ i = .int .i64 j ∧ Good2 w wr t r) (fun i _ => len - (intOf i).toNat)
  case atStart => exact ⟨0, Nat.zero_le _, rfl, HG0.out⟩
  case round =>
    obtain ⟨j, hj, rfl, hG⟩ := hrel
    clear HG0
    by_cases hlt : j < len
    · obtain ⟨c0, c1, c2, c3, c4, c5⟩ := (HPA.out.below hG.below) j hlt
      obtain ⟨l, m, hT, hP⟩ := hG
      generalize P j = x at c0 c1 c2 c3 c4 c5
      have HS1 : Hid (Two w (wr.alloc (.cells #[.string x.K, .int .i64 x.N, .int .i64 x.G, .int .i64 x.O, .int .i64 x.A, .int .i64 x.D] 35)) t r l m wr.heap.size #[.string x.K, .int .i64 x.N, .int .i64 x.G, .int .i64 x.O, .int .i64 x.A, .int .i64 x.D]) := hT.box _ _
      have HP : Hid (l.Perm m) := hP
      have HSO : Hid (SortedO l) := HS1.out.good.sorted
      have HDOK : Hid (DocOk m) := HS1.out.good.doc hP
      clear hT hP
      go_upto_region 12 with fail
      clear c0 c1 c2 c3 c4 c5
      generalize wr.alloc (.cells #[.string x.K, .int .i64 x.N, .int .i64 x.G, .int .i64 x.O, .int .i64 x.A, .int .i64 x.D] 35) = wb at HS1 ⊢
      generalize wr.heap.size = b at HS1 ⊢
      have HDN : Hid (∃ dn : Int, (l.length : Int) - ((keptO x.O l).length : Int) = dn) := ⟨_, rfl⟩
      obtain ⟨dn, hdn⟩ := HDN.out
      have HDP : Hid (∀ _u : Unit, Calls Tryd.prog 16 #[.pointer (some ⟨t, 0, none⟩), .int .i64 x.O] wb.drew fun e w' => e = .returned (.int .i64 dn) ∧ Two w w' t r (keptO x.O l) m b #[.string x.K, .int .i64 x.N, .int .i64 x.G, .int .i64 x.O, .int .i64 x.A, .int .i64 x.D]) := fun _u => by have hh := Two.dropP (HS1.out.only ((Only.refl [] wb).drew)) x; rw [hdn] at hh; exact hh
      have HDD : Hid (∀ W, Two w W t r (keptO x.O l) m b #[.string x.K, .int .i64 x.N, .int .i64 x.G, .int .i64 x.O, .int .i64 x.A, .int .i64 x.D] → Calls Tryd.prog 17 #[.pointer (some ⟨r, 0, none⟩), .int .i64 x.O] W fun e w' => e = .returned (.int .i64 dn) ∧ Two w w' t r (keptO x.O l) (keptO x.O m) b #[.string x.K, .int .i64 x.N, .int .i64 x.G, .int .i64 x.O, .int .i64 x.A, .int .i64 x.D]) := fun W hW => by have hh := Two.dropD hW HDOK.out x; rw [kept_num HP.out, hdn] at hh; exact hh
      have HSb : Hid (wb.drew.cell? ⟨b, 3, none⟩ = some (.int .i64 x.O)) := HS1.out.cells 3
      clear hdn HDN
      obtain ⟨y0, y1, y2, y3, y4, y5⟩ := box_cells HS1.out
      go_wp2_with (first
        | (go_at_call 6; refine (Two.openP HS1.out HE5.out x).mono ?_; rintro e w3 ⟨c, z, l3, rfl, hR, hT⟩; have HR3 : Hid (OpenR A l x.N x.G x.O x.A x.D c z l3) := hR; have HN3 : Hid (Two w w3 t r l3 m b #[.string x.K, .int .i64 x.N, .int .i64 x.G, .int .i64 x.O, .int .i64 x.A, .int .i64 x.D]) := hT; clear hR hT; clear y0 y1 y2 y3 y4 y5; obtain ⟨y0, y1, y2, y3, y4, y5⟩ := box_cells HN3.out)
        | (go_at_call 7; refine (Two.openD HN3.out HDOK.out x).mono ?_; rintro e w4 ⟨c2, m4, rfl, hR2, hT2⟩; obtain ⟨rfl, hp4, ht4⟩ := pair_open HP.out HSO.out HR3.out hR2; have HN4 : Hid (Good2 w w4 t r) := ⟨_, _, hT2.drop0, hp4⟩; have HT4 : Hid (Told A c z) := ht4; clear hR2 hT2 hp4 ht4; clear y0 y1 y2 y3 y4 y5)
        | (go_at_call 8; refine (Two.downP HS1.out HE5.out x).mono ?_; rintro e w3 ⟨c, z, l3, rfl, hR, hT⟩; have HR3 : Hid (DownR A l x.N x.G x.O x.A x.D c z l3) := hR; have HN3 : Hid (Two w w3 t r l3 m b #[.string x.K, .int .i64 x.N, .int .i64 x.G, .int .i64 x.O, .int .i64 x.A, .int .i64 x.D]) := hT; clear hR hT; clear y0 y1 y2 y3 y4 y5; obtain ⟨y0, y1, y2, y3, y4, y5⟩ := box_cells HN3.out)
        | (go_at_call 9; refine (Two.downD (A := A) HN3.out HDOK.out x).mono ?_; rintro e w4 ⟨c2, z2, m4, rfl, hR2, hT2⟩; obtain ⟨rfl, hp4, ht4⟩ := pair_down HP.out HSO.out HR3.out hR2; have HN4 : Hid (Good2 w w4 t r) := ⟨_, _, hT2.drop0, hp4⟩; have HT4 : Hid (Told A c z) := ht4; clear hR2 hT2 hp4 ht4; clear y0 y1 y2 y3 y4 y5)
        | (go_at_call 10; refine (Two.closeP HS1.out HE5.out x).mono ?_; rintro e w3 ⟨c, z, l3, rfl, hR, hT⟩; have HR3 : Hid (CloseR A l x.N x.G x.O c z l3) := hR; have HN3 : Hid (Two w w3 t r l3 m b #[.string x.K, .int .i64 x.N, .int .i64 x.G, .int .i64 x.O, .int .i64 x.A, .int .i64 x.D]) := hT; clear hR hT; clear y0 y1 y2 y3 y4 y5; obtain ⟨y0, y1, y2, y3, y4, y5⟩ := box_cells HN3.out)
        | (go_at_call 11; refine (Two.closeD (A := A) HN3.out HDOK.out x).mono ?_; rintro e w4 ⟨c2, z2, m4, rfl, hR2, hT2⟩; obtain ⟨rfl, hp4, ht4⟩ := pair_close HP.out HSO.out HR3.out hR2; have HN4 : Hid (Good2 w w4 t r) := ⟨_, _, hT2.drop0, hp4⟩; have HT4 : Hid (Told A c z) := ht4; clear hR2 hT2 hp4 ht4; clear y0 y1 y2 y3 y4 y5)
        | (go_at_call 12; refine (Two.mayP HS1.out HE5.out x).mono ?_; rintro e w3 ⟨c, z, rfl, hR, hT⟩; have HR3 : Hid (MayR A l x.N x.G x.O x.A c z) := hR; have HN3 : Hid (Two w w3 t r l m b #[.string x.K, .int .i64 x.N, .int .i64 x.G, .int .i64 x.O, .int .i64 x.A, .int .i64 x.D]) := hT; clear hR hT; clear y0 y1 y2 y3 y4 y5; obtain ⟨y0, y1, y2, y3, y4, y5⟩ := box_cells HN3.out)
        | (go_at_call 13; refine (Two.mayD (A := A) HN3.out HDOK.out x).mono ?_; rintro e w4 ⟨c2, z2, rfl, hR2, hT2⟩; obtain ⟨rfl, ht4⟩ := pair_may HP.out HSO.out HR3.out hR2; have HN4 : Hid (Good2 w w4 t r) := ⟨_, _, hT2.drop0, HP.out⟩; have HT4 : Hid (Told A c z) := ht4; clear hR2 hT2 ht4; clear y0 y1 y2 y3 y4 y5)
        | (go_at_call 14; refine (Two.anyP HS1.out HE5.out x).mono ?_; rintro e w3 ⟨c, z, rfl, hR, hT⟩; have HR3 : Hid (AnyR A l x.N x.G x.A c z) := hR; have HN3 : Hid (Two w w3 t r l m b #[.string x.K, .int .i64 x.N, .int .i64 x.G, .int .i64 x.O, .int .i64 x.A, .int .i64 x.D]) := hT; clear hR hT; clear y0 y1 y2 y3 y4 y5; obtain ⟨y0, y1, y2, y3, y4, y5⟩ := box_cells HN3.out)
        | (go_at_call 15; refine (Two.anyD (A := A) HN3.out HDOK.out x).mono ?_; rintro e w4 ⟨c2, z2, rfl, hR2, hT2⟩; obtain ⟨rfl, ht4⟩ := pair_any HP.out HR3.out hR2; have HN4 : Hid (Good2 w w4 t r) := ⟨_, _, hT2.drop0, HP.out⟩; have HT4 : Hid (Told A c z) := ht4; clear hR2 hT2 ht4; clear y0 y1 y2 y3 y4 y5)
        | (go_at_call 18; refine (coded2_any A _ _ _ (HE.out.below HN4.out.below (Nat.le_refl _)) HT4.out).mono ?_; rintro e w5 ⟨rfl, hb5⟩; have HN5 : Hid (Good2 w w5 t r) := HN4.out.onB hb5; clear hb5)
        | (go_at_call 18; refine (coded2_any A 0 .nilIface _ (HE.out.below HS1.out.below (Nat.le_refl _)) (told0 rfl)).mono ?_; rintro e w5 ⟨rfl, hb5⟩; have HN5 : Hid (Good2 w w5 t r) := Good2.onB ⟨_, _, HS1.out.drop0, HP.out⟩ hb5; clear hb5)
        | fail)
      all_goals try
        (go_region_held3 (fun W => W.cell? ⟨b, 3, none⟩ = some (.int .i64 x.O)) (with_reducible first | exact HSb.out | exact HSc.out | exact HSd.out)
          (first
            | (go_at_call 16; refine (HDP.out ()).mono ?_; rintro e w3 ⟨rfl, hT3⟩; have HN3 : Hid (Two w w3 t r (keptO x.O l) m b #[.string x.K, .int .i64 x.N, .int .i64 x.G, .int .i64 x.O, .int .i64 x.A, .int .i64 x.D]) := hT3; have HSc : Hid (w3.cell? ⟨b, 3, none⟩ = some (.int .i64 x.O)) := hT3.cells 3; clear hT3)
            | (go_at_call 17; refine (HDD.out w3 HN3.out).mono ?_; rintro e w4 ⟨rfl, hT4⟩; have HN4 : Hid (Good2 w w4 t r) := ⟨_, _, hT4.drop0, pair_kept HP.out x.O⟩; have HSd : Hid (w4.cell? ⟨b, 3, none⟩ = some (.int .i64 x.O)) := hT4.cells 3; have HT4 : Hid (Told A 0 .nilIface) := told0 rfl; clear hT4))
         go_wp2_with (first
          | (go_at_call 18; refine (coded2_any A _ _ _ (HE.out.below HN4.out.below (Nat.le_refl _)) HT4.out).mono ?_; rintro e w5 ⟨rfl, hb5⟩; have HN5 : Hid (Good2 w w5 t r) := HN4.out.onB hb5; clear hb5)
          | fail))
      all_goals go_roundw
      all_goals first
        | (case rel => exact ⟨j + 1, by omega, by go_num, HN5.out⟩)
        | (case measure => simp [intOf]; omega)
    · obtain rfl : j = len := by omega
      obtain ⟨l, m, hT, hP⟩ := hG
      have hl40 := hT.shw.good.most
      have HT : Hid (Two0 w wr t r l m) := hT
      have HP : Hid (l.Perm m) := hP
      clear hT hP
      obtain ⟨n, hn⟩ : ∃ n, l.length = n := ⟨_, rfl⟩
      have HN : Hid (l.length = n) := hn
      have HL : Hid (∀ _u : Unit, _) := fun _u => HT.out.listP
      rw [hn] at HL hl40
      clear hn
      go_wp2_with (first
        | (go_at_call 21; refine (HL.out ()).mono ?_; rintro e w3 ⟨ad, cp, rfl, hO3, had, hT3⟩; have HA : Hid (l ≠ [] → ∃ g, ad = some ⟨g, 0, none⟩) := had; have HO3 : Hid (Opns w3 wr.heap.size (.slice ad n cp) l) := hO3; have HT3 : Hid (Two0 w w3 t r l m) := hT3; clear HL hO3 had hT3)
        | (go_at_call 20; refine (opens_any w3 wr.heap.size n cp ad l HO3.out HN.out hl40 HA.out).mono ?_; rintro e w4 ⟨v4, rfl, hR4, ho4⟩; have HR4 : Hid (Rns w4 w3.heap.size v4 l) := hR4; have HT4 : Hid (Two0 w w4 t r l m) := HT3.out.only ho4; clear hR4 ho4)
        | (go_at_call 22; refine (HT4.out.listD HP.out).mono ?_; rintro e w5 ⟨z5, rfl, hR5, hT5, ho5⟩; have HR5 : Hid (Rns w5 w.heap.size z5 l) := hR5; have HV5 : Hid (Rns w5 w3.heap.size v4 l) := HR4.out.only ho5 (fun _ _ => by simp); have HB5 : Hid (Below w.heap.size w w5) := hT5.shw.below; clear hR5 hT5 ho5)
        | (go_at_call 19; refine (same_any w5 w3.heap.size w.heap.size v4 z5 l HV5.out HR5.out (by rw [HN.out]; exact hl40)).mono ?_; rintro e w6 ⟨rfl, ho6⟩; have HB6 : Hid (Below w.heap.size w w6) := HB5.out.trans (ho6.to_below HB5.out.size (fun k hk => by cases hk)); clear ho6)
        | go_in)
      go_ret
      exact ⟨rfl, HB6.out⟩
end Go.Proofs.YtagpahgjbglmaaaDoor
