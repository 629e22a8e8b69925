/- Names: patterns: what goes with what, and the document's MatchOf by its contract. -/
import Derived.Test.YtnhpgpjopogbiabDoorM0
import Derived.Deep.RegionHeld3
namespace Go.Proofs.YtnhpgpjopogbiabDoor
open Go Go.RowKit Go.Deep

/-- Byte i of a text, as a number. -/
def byteAt (P : ByteArray) (i : Nat) : Nat := (P.data.toList.getD i 0).toNat
theorem byteAt_get (P : ByteArray) (i : Nat) (h : i < P.size) : P[i].toNat = byteAt P i := by
  have hl : i < P.data.toList.length := h
  unfold byteAt
  rw [List.getD_eq_getElem?_getD, List.getElem?_eq_getElem hl]
  rfl

/-- Do the first p bytes of the pattern go with the first i bytes of the text? -/
def pm (P S : ByteArray) : Nat → Nat → Bool
  | 0, 0 => true
  | 0, _ + 1 => false
  | p + 1, 0 => if byteAt P p = 42 then pm P S p 0 else false
  | p + 1, i + 1 => if byteAt P p = 42 then pm P S p (i + 1) || pm P S (p + 1) i else if byteAt P p = 63 then pm P S p i else pm P S p i && decide (byteAt S i = byteAt P p)

theorem Tryd.infoB : (Tryd.prog.info? 4).map (fun i => (i.zero, i.size, i.bytes)) = some (some (.bool false), 1, 1) := by kernel_rfl

theorem pm_star_zero (P S : ByteArray) (p : Nat) (h : byteAt P p = 42) : pm P S (p + 1) 0 = pm P S p 0 := by rw [pm, if_pos h]
theorem pm_star_succ (P S : ByteArray) (p i : Nat) (h : byteAt P p = 42) : pm P S (p + 1) (i + 1) = (pm P S p (i + 1) || pm P S (p + 1) i) := by rw [pm, if_pos h]
theorem pm_zero (P S : ByteArray) (p : Nat) (h : byteAt P p ≠ 42) : pm P S (p + 1) 0 = false := by rw [pm, if_neg h]
theorem pm_any (P S : ByteArray) (p i : Nat) (h : byteAt P p ≠ 42) (h2 : byteAt P p = 63) : pm P S (p + 1) (i + 1) = pm P S p i := by rw [pm, if_neg h, if_pos h2]
theorem pm_one (P S : ByteArray) (p i : Nat) (h : byteAt P p ≠ 42) (h2 : byteAt P p ≠ 63) : pm P S (p + 1) (i + 1) = (pm P S p i && decide (byteAt S i = byteAt P p)) := by rw [pm, if_neg h, if_neg h2]

/-- The row that is being filled: byte by byte. -/
def filled (f : Nat → Bool) (i x : Nat) : Value := .bool (if x < i then f x else false)
theorem filled_step {wr : World} {b n i : Nat} {t : TypeId} {f : Nat → Bool} {v : Bool} (h : wr.rowIs b t n (filled f i)) (hv : v = f i) : (wr.setCell ⟨b, i, none⟩ (.bool v)).rowIs b t n (filled f (i + 1)) := by
  subst hv
  refine (h.set i _).congr fun x _ => ?_
  unfold filled
  by_cases e : x = i
  · subst e
    rw [if_pos rfl, if_pos (by omega)]
  · rw [if_neg e]
    by_cases e2 : x < i
    · rw [if_pos e2, if_pos (by omega)]
    · rw [if_neg e2, if_neg (by omega)]
theorem first_row (w : World) (P S : ByteArray) (n : Nat) (t : TypeId) : (w.alloc (.cells ((madeCells #[.bool false] (n + 1)).setIfInBounds 0 (.bool true)) t)).rowIs w.heap.size t (n + 1) (fun i => .bool (pm P S 0 i)) := by
  refine ⟨_, blk_alloc_new _ _, by simp [size_madeCells], fun i hi => ?_⟩
  rw [Array.getElem?_setIfInBounds]
  cases i with
  | zero => simp [madeCells, pm]
  | succ i =>
    rw [if_neg (by omega)]
    have : (madeCells #[Value.bool false] (n + 1))[i + 1]? = some (.bool false) := by simp [madeCells, hi, Nat.mod_one]
    rw [this]
    show some (Value.bool false) = some (.bool (pm P S 0 (i + 1)))
    rw [pm]

set_option maxRecDepth 100000 in
set_option maxHeartbeats 4000000 in
theorem matchOf_any (P S : ByteArray) (w : World) (hP : P.size ≤ 200) (hS : S.size ≤ 200) :
    Calls Tryd.prog 7 #[.string P, .string S] w fun e w' => e = .returned (.bool (pm P S P.size S.size)) ∧ Below w.heap.size w w' := by
  have hmk := run_make_row' (P := Tryd.prog) 34 4 (.bool false) 1 Tryd.underlying34 Tryd.infoB rfl .i64 .i64 (S.size + 1) (by omega) (by omega)
  rw [show ((S.size + 1 : Nat) : Int) = (S.size : Int) + 1 by omega] at hmk
  have hm0 : (madeCells #[Value.bool false] (S.size + 1))[0]? = some (.bool false) := by simp [madeCells]
  go_enter Tryd.func7, Tryd.ntmps7
  go_wp2
  clear hm0
  go_loopw [5, 6] (fun v i wr => ∃ p b : Nat, p ≤ P.size ∧ i = .int .i64 p ∧ v = .slice (some ⟨b, 0, none⟩) (S.size + 1) (S.size + 1) ∧ wr.rowIs b 4 (S.size + 1) (fun i => .bool (pm P S p i)) ∧ w.heap.size ≤ b ∧ Below w.heap.size w wr) (fun _ i _ => P.size - (intOf i).toNat)
  case atStart => exact ⟨0, w.heap.size, Nat.zero_le _, rfl, rfl, first_row w P S S.size _, Nat.le_refl _, (Below.refl _ _).alloc (Nat.le_refl _) _⟩
  case round =>
    obtain ⟨p, b, hp, rfl, rfl, hrow, hwb, hb⟩ := hrel
    by_cases hlt : p < P.size
    · have hbl := hrow.lt
      go_wp2
      obtain ⟨B2, hB2⟩ : ∃ B2, wr.heap.size = B2 := ⟨_, rfl⟩
      rw [hB2]
      have r1 : (wr.alloc (.cells (madeCells #[.bool false] (S.size + 1)) 4)).rowIs b 4 (S.size + 1) (fun i => .bool (pm P S p i)) := hrow.alloc _
      have r2 : (wr.alloc (.cells (madeCells #[.bool false] (S.size + 1)) 4)).rowIs B2 4 (S.size + 1) (filled (pm P S (p + 1)) 0) := hB2 ▸ (World.rowIs_made wr (.bool false) (S.size + 1) 4).congr (fun i hi => rfl)
      have hb2 : Below w.heap.size w (wr.alloc (.cells (madeCells #[.bool false] (S.size + 1)) 4)) := hb.alloc hb.size _
      have hne : b ≠ B2 := by omega
      have hwB : w.heap.size ≤ B2 := by have := hb.size; omega
      have R1 : Hid _ := r1
      have R2 : Hid _ := r2
      have Hb2 : Hid _ := hb2
      clear hrow hb hbl hB2 r1 r2 hb2
      go_loopw [8] (fun i wx => ∃ k : Nat, k ≤ S.size + 1 ∧ i = .int .i64 k ∧ wx.rowIs b 4 (S.size + 1) (fun i => .bool (pm P S p i)) ∧ wx.rowIs B2 4 (S.size + 1) (filled (pm P S (p + 1)) k) ∧ Below w.heap.size w wx) (fun i _ => S.size + 1 - (intOf i).toNat)
      case atStart => exact ⟨0, Nat.zero_le _, rfl, R1.out, R2.out, Hb2.out⟩
      case round =>
        obtain ⟨k, hk, rfl, q1, q2, hbx⟩ := hrel
        clear R1 R2 Hb2
        by_cases hkl : k < S.size + 1
        · have fz := q2.frozen k
          have cn : wr.cell? ⟨B2, k, none⟩ = some (filled (pm P S (p + 1)) k k) := q2.cell hkl
          have cn' : wr.cell? ⟨B2, k, none⟩ = some (.bool false) := by rw [cn]; simp [filled]
          clear cn
          have ci : wr.cell? ⟨b, k, none⟩ = some (.bool (pm P S p k)) := q1.cell hkl
          have HP : Hid (P[p].toNat = byteAt P p) := byteAt_get P p hlt
          have stp : ∀ v : Bool, v = pm P S (p + 1) k → (wr.setCell ⟨B2, k, none⟩ (.bool v)).rowIs B2 4 (S.size + 1) (filled (pm P S (p + 1)) (k + 1)) := fun v hv => filled_step q2 hv
          have ST : Hid _ := stp
          have Q1 : ∀ v : Value, (wr.setCell ⟨B2, k, none⟩ v).rowIs b 4 (S.size + 1) (fun i => .bool (pm P S p i)) := fun v => q1.setOther hne v
          have Q1' : Hid _ := Q1
          clear stp Q1
          by_cases h42 : byteAt P p = 42
          · have e42 : ((P[p].toNat : Int) == 42) = true := by rw [beq_iff_eq]; have := HP.out; omega
            have H42 : Hid _ := h42
            clear h42
            cases hq : pm P S p k
            · cases k with
              | zero =>
                have HV : Hid (false = pm P S (p + 1) 0) := by rw [pm_star_zero P S p H42.out]; exact hq.symm
                go_wp2
                go_roundw
                case rel => exact ⟨1, by omega, by go_num, Q1'.out _, ST.out _ HV.out, hbx.setCell hwB _⟩
                case measure => simp [intOf]
              | succ k =>
                have cp : wr.cell? ⟨B2, k, none⟩ = some (.bool (pm P S (p + 1) k)) := by rw [q2.cell (i := k) (by omega)]; simp [filled]
                have HV : Hid (pm P S (p + 1) k = pm P S (p + 1) (k + 1)) := by rw [pm_star_succ P S p k H42.out, hq]; rfl
                go_wp2
                go_roundw
                case rel => exact ⟨k + 1 + 1, by omega, by go_num, Q1'.out _, ST.out _ HV.out, hbx.setCell hwB _⟩
                case measure => simp [intOf]; omega
            · have HV : Hid (true = pm P S (p + 1) k) := by
                cases k with
                | zero => rw [pm_star_zero P S p H42.out]; exact hq.symm
                | succ k => rw [pm_star_succ P S p k H42.out, hq]; rfl
              go_wp2
              go_roundw
              case rel => exact ⟨k + 1, by omega, by go_num, Q1'.out _, ST.out _ HV.out, hbx.setCell hwB _⟩
              case measure => simp [intOf]; omega
          · have e42 : ((P[p].toNat : Int) == 42) = false := by rw [beq_eq_false_iff_ne]; have := HP.out; omega
            have H42 : Hid _ := h42
            clear h42
            by_cases h63 : byteAt P p = 63
            · have e63 : ((P[p].toNat : Int) == 63) = true := by rw [beq_iff_eq]; have := HP.out; omega
              have H63 : Hid _ := h63
              clear h63
              cases k with
              | zero =>
                have HV : Hid (false = pm P S (p + 1) 0) := (pm_zero P S p H42.out).symm
                go_wp2
                go_roundw
                case rel => exact ⟨1, by omega, by go_num, Q1'.out _, ST.out _ HV.out, hbx.setCell hwB _⟩
                case measure => simp [intOf]
              | succ k =>
                have cp : wr.cell? ⟨b, k, none⟩ = some (.bool (pm P S p k)) := q1.cell (by omega)
                have HV : Hid (pm P S p k = pm P S (p + 1) (k + 1)) := (pm_any P S p k H42.out H63.out).symm
                go_wp2
                go_roundw
                case rel => exact ⟨k + 1 + 1, by omega, by go_num, Q1'.out _, ST.out _ HV.out, hbx.setCell hwB _⟩
                case measure => simp [intOf]; omega
            · have e63 : ((P[p].toNat : Int) == 63) = false := by rw [beq_eq_false_iff_ne]; have := HP.out; omega
              have H63 : Hid _ := h63
              clear h63
              cases k with
              | zero =>
                have HV : Hid (false = pm P S (p + 1) 0) := (pm_zero P S p H42.out).symm
                go_wp2
                go_region
                all_goals
                  go_wp2
                  go_roundw
                  case rel => exact ⟨1, by omega, by go_num, Q1'.out _, ST.out _ HV.out, (hbx.setCell hwB _).drew⟩
                  case measure => simp [intOf]
              | succ k =>
                have cp : wr.cell? ⟨b, k, none⟩ = some (.bool (pm P S p k)) := q1.cell (by omega)
                have hk1 : k < S.size := by omega
                cases hr : pm P S p k
                · have HV : Hid (false = pm P S (p + 1) (k + 1)) := by rw [pm_one P S p k H42.out H63.out, hr]; rfl
                  go_wp2
                  go_region
                  all_goals
                    go_wp2
                    go_roundw
                    case rel => exact ⟨k + 1 + 1, by omega, by go_num, Q1'.out _, ST.out _ HV.out, (hbx.setCell hwB _).drew⟩
                    case measure => simp [intOf]; omega
                · have HV : Hid (((S[k].toNat : Int) == (P[p].toNat : Int)) = pm P S (p + 1) (k + 1)) := by
                    rw [pm_one P S p k H42.out H63.out, hr, Bool.true_and, ← byteAt_get S k hk1, ← HP.out, Bool.eq_iff_iff, beq_iff_eq, decide_eq_true_iff]
                    exact Int.ofNat_inj
                  go_wp2
                  go_region
                  all_goals
                    go_wp2
                    go_roundw
                    case rel => exact ⟨k + 1 + 1, by omega, by go_num, Q1'.out _, ST.out _ HV.out, (hbx.setCell hwB _).drew⟩
                    case measure => simp [intOf]; omega
        · have hrow2 : wr.rowIs B2 4 (S.size + 1) (fun i => .bool (pm P S (p + 1) i)) := q2.congr fun i hi => by unfold filled; rw [if_pos (by omega)]
          clear q1 q2
          go_wp2
          go_roundw
          case rel => exact ⟨p + 1, B2, by omega, by go_num, rfl, hrow2, hwB, hbx⟩
          case measure => simp [intOf]; omega
    · obtain rfl : p = P.size := by omega
      have hc := hrow.cell (i := S.size) (by omega)
      go_wp2
      go_ret
      exact ⟨rfl, hb⟩
end Go.Proofs.YtnhpgpjopogbiabDoor
