/- Names: the walk. -/
import Derived.Test.YtnhpgpjopogbiaaDoorN1
import Derived.Deep.RegionHeld3
namespace Go.Proofs.YtnhpgpjopogbiaaDoor
open Go Go.RowKit Go.Deep

def tails : List ByteArray := [⟨#[116, 101, 120, 116]⟩, ⟨#[98, 111, 117, 110, 100]⟩, ⟨#[115, 104, 97, 112, 101]⟩, ⟨#[110, 97, 109, 101]⟩, ⟨#[110, 111, 110, 101]⟩, ⟨#[101, 120, 105, 115, 116]⟩, ⟨#[100, 105, 114]⟩, ⟨#[102, 105, 108, 101]⟩, ⟨#[102, 117, 108, 108]⟩, ⟨#[115, 116, 97, 108, 101]⟩, ⟨#[104, 101, 108, 100]⟩, ⟨#[115, 101, 113]⟩, ⟨#[111, 108, 100]⟩, ⟨#[103, 114, 97, 99, 101]⟩, ⟨#[112, 111, 119, 101, 114]⟩]
def tOf (k : Nat) : ByteArray := tails.getD k ⟨#[]⟩
def nums : List Int := [4000, 24, 12, 64, 4096, 300, 60, 8, 40, 60, 30, 12, 16, 20, 100, 60, 64, 4000, 100, 16, 1, 2, 1, 2]

theorem text_split (k : Nat) (hk : k < 15) : (errNames.getD k ("", [])).2 = ((⟨#[112, 105, 103, 101, 111, 110, 104, 111, 108, 101, 115, 58, 32]⟩ : ByteArray) ++ tOf k).data.toList := by
  match k, hk with
  | 0, _ => rfl
  | 1, _ => rfl
  | 2, _ => rfl
  | 3, _ => rfl
  | 4, _ => rfl
  | 5, _ => rfl
  | 6, _ => rfl
  | 7, _ => rfl
  | 8, _ => rfl
  | 9, _ => rfl
  | 10, _ => rfl
  | 11, _ => rfl
  | 12, _ => rfl
  | 13, _ => rfl
  | 14, _ => rfl

theorem tails_at (w : World) (j : Nat) (hj : j < 15) : (w.alloc (.cells #[.string ⟨#[116, 101, 120, 116]⟩, .string ⟨#[98, 111, 117, 110, 100]⟩, .string ⟨#[115, 104, 97, 112, 101]⟩, .string ⟨#[110, 97, 109, 101]⟩, .string ⟨#[110, 111, 110, 101]⟩, .string ⟨#[101, 120, 105, 115, 116]⟩, .string ⟨#[100, 105, 114]⟩, .string ⟨#[102, 105, 108, 101]⟩, .string ⟨#[102, 117, 108, 108]⟩, .string ⟨#[115, 116, 97, 108, 101]⟩, .string ⟨#[104, 101, 108, 100]⟩, .string ⟨#[115, 101, 113]⟩, .string ⟨#[111, 108, 100]⟩, .string ⟨#[103, 114, 97, 99, 101]⟩, .string ⟨#[112, 111, 119, 101, 114]⟩] 9)).cell? ⟨w.heap.size, j, none⟩ = some (.string (tOf j)) := by
  rw [World.cell?_alloc_new]
  match j, hj with
  | 0, _ => rfl
  | 1, _ => rfl
  | 2, _ => rfl
  | 3, _ => rfl
  | 4, _ => rfl
  | 5, _ => rfl
  | 6, _ => rfl
  | 7, _ => rfl
  | 8, _ => rfl
  | 9, _ => rfl
  | 10, _ => rfl
  | 11, _ => rfl
  | 12, _ => rfl
  | 13, _ => rfl
  | 14, _ => rfl

theorem nums_at (w : World) (j : Nat) (hj : j < 24) : (w.alloc (.cells #[.int .i64 4000, .int .i64 24, .int .i64 12, .int .i64 64, .int .i64 4096, .int .i64 300, .int .i64 60, .int .i64 8, .int .i64 40, .int .i64 60, .int .i64 30, .int .i64 12, .int .i64 16, .int .i64 20, .int .i64 100, .int .i64 60, .int .i64 64, .int .i64 4000, .int .i64 100, .int .i64 16, .int .i64 1, .int .i64 2, .int .i64 1, .int .i64 2] 3)).cell? ⟨w.heap.size, j, none⟩ = some (.int .i64 (nums.getD j 0)) := by
  rw [World.cell?_alloc_new]
  show (nums.map (Value.int .i64)).toArray[j]? = _
  have hj' : j < nums.length := hj
  simp [List.getElem?_eq_getElem hj', List.getD]

theorem tOf_size (k : Nat) (hk : k < 15) : (tOf k).size ≤ 10 := by
  match k, hk with
  | 0, _ => exact (by decide)
  | 1, _ => exact (by decide)
  | 2, _ => exact (by decide)
  | 3, _ => exact (by decide)
  | 4, _ => exact (by decide)
  | 5, _ => exact (by decide)
  | 6, _ => exact (by decide)
  | 7, _ => exact (by decide)
  | 8, _ => exact (by decide)
  | 9, _ => exact (by decide)
  | 10, _ => exact (by decide)
  | 11, _ => exact (by decide)
  | 12, _ => exact (by decide)
  | 13, _ => exact (by decide)
  | 14, _ => exact (by decide)


set_option maxRecDepth 100000 in
set_option maxHeartbeats 4000000 in
theorem names_walk (A : Nat → Addr) (w : World) (hE : Errs w A) :
    Calls Tryd.prog 3 #[] w fun e w' => e = .returned (.bool true) ∧ Below w.heap.size w w' := by
  have HE : Hid _ := hE
  clear hE
  go_enter Tryd.func3, Tryd.ntmps3
  go_wp2_with fail
  refine (sameInts_any w.heap.size (w.heap.size + 1) 24 (fun j => nums.getD j 0) _ ?_ ?_ (by decide)).mono ?_
  · intro i hi
    rw [World.cell?_alloc_lt _ _ ⟨w.heap.size, i, none⟩ (by simp)]
    exact nums_at w i hi
  · intro i hi
    have := nums_at (w.alloc (.cells #[.int .i64 4000, .int .i64 24, .int .i64 12, .int .i64 64, .int .i64 4096, .int .i64 300, .int .i64 60, .int .i64 8, .int .i64 40, .int .i64 60, .int .i64 30, .int .i64 12, .int .i64 16, .int .i64 20, .int .i64 100, .int .i64 60, .int .i64 64, .int .i64 4000, .int .i64 100, .int .i64 16, .int .i64 1, .int .i64 2, .int .i64 1, .int .i64 2] 3)) i hi
    simpa using this
  rintro e w1 ⟨rfl, hb1⟩
  have hb2 : Below w.heap.size w w1 := (((Below.refl _ _).alloc (Nat.le_refl _) _).alloc (by simp) _).trans (hb1.mono (by simp; omega))
  have h1 : Errs w1 A := HE.out.below hb2 (Nat.le_refl _)
  have hcell := h1.cell
  have g0 : w1.cell? ⟨0, 0, none⟩ = some (.iface 79 (.pointer (some (A 0)))) := hcell 0 (by decide)
  have g1 : w1.cell? ⟨1, 0, none⟩ = some (.iface 79 (.pointer (some (A 1)))) := hcell 1 (by decide)
  have g2 : w1.cell? ⟨2, 0, none⟩ = some (.iface 79 (.pointer (some (A 2)))) := hcell 2 (by decide)
  have g3 : w1.cell? ⟨3, 0, none⟩ = some (.iface 79 (.pointer (some (A 3)))) := hcell 3 (by decide)
  have g4 : w1.cell? ⟨4, 0, none⟩ = some (.iface 79 (.pointer (some (A 4)))) := hcell 4 (by decide)
  have g5 : w1.cell? ⟨5, 0, none⟩ = some (.iface 79 (.pointer (some (A 5)))) := hcell 5 (by decide)
  have g6 : w1.cell? ⟨6, 0, none⟩ = some (.iface 79 (.pointer (some (A 6)))) := hcell 6 (by decide)
  have g7 : w1.cell? ⟨7, 0, none⟩ = some (.iface 79 (.pointer (some (A 7)))) := hcell 7 (by decide)
  have g8 : w1.cell? ⟨8, 0, none⟩ = some (.iface 79 (.pointer (some (A 8)))) := hcell 8 (by decide)
  have g9 : w1.cell? ⟨9, 0, none⟩ = some (.iface 79 (.pointer (some (A 9)))) := hcell 9 (by decide)
  have g10 : w1.cell? ⟨10, 0, none⟩ = some (.iface 79 (.pointer (some (A 10)))) := hcell 10 (by decide)
  have g11 : w1.cell? ⟨11, 0, none⟩ = some (.iface 79 (.pointer (some (A 11)))) := hcell 11 (by decide)
  have g12 : w1.cell? ⟨12, 0, none⟩ = some (.iface 79 (.pointer (some (A 12)))) := hcell 12 (by decide)
  have g13 : w1.cell? ⟨13, 0, none⟩ = some (.iface 79 (.pointer (some (A 13)))) := hcell 13 (by decide)
  have g14 : w1.cell? ⟨14, 0, none⟩ = some (.iface 79 (.pointer (some (A 14)))) := hcell 14 (by decide)
  clear hcell hb1
  have H1 : Hid (Errs w1 A) := h1
  clear h1 HE
  go_wp2
  clear g0 g1 g2 g3 g4 g5 g6 g7 g8 g9 g10 g11 g12 g13 g14
  have sE : ∀ k, k < 15 → ∀ o, ((w1.alloc (.cells #[.iface 79 (.pointer (some (A 0))), .iface 79 (.pointer (some (A 1))), .iface 79 (.pointer (some (A 2))), .iface 79 (.pointer (some (A 3))), .iface 79 (.pointer (some (A 4))), .iface 79 (.pointer (some (A 5))), .iface 79 (.pointer (some (A 6))), .iface 79 (.pointer (some (A 7))), .iface 79 (.pointer (some (A 8))), .iface 79 (.pointer (some (A 9))), .iface 79 (.pointer (some (A 10))), .iface 79 (.pointer (some (A 11))), .iface 79 (.pointer (some (A 12))), .iface 79 (.pointer (some (A 13))), .iface 79 (.pointer (some (A 14)))] 25)).alloc o).cell? ⟨w1.heap.size, k, none⟩ = some (.iface 79 (.pointer (some (A k)))) := fun k hk o => by
    rw [World.cell?_alloc_lt _ _ ⟨w1.heap.size, k, none⟩ (by simp)]
    exact errs_at A w1 k hk
  have sT : ∀ o, ∀ k, k < 15 → ((w1.alloc o).alloc (.cells #[.string ⟨#[116, 101, 120, 116]⟩, .string ⟨#[98, 111, 117, 110, 100]⟩, .string ⟨#[115, 104, 97, 112, 101]⟩, .string ⟨#[110, 97, 109, 101]⟩, .string ⟨#[110, 111, 110, 101]⟩, .string ⟨#[101, 120, 105, 115, 116]⟩, .string ⟨#[100, 105, 114]⟩, .string ⟨#[102, 105, 108, 101]⟩, .string ⟨#[102, 117, 108, 108]⟩, .string ⟨#[115, 116, 97, 108, 101]⟩, .string ⟨#[104, 101, 108, 100]⟩, .string ⟨#[115, 101, 113]⟩, .string ⟨#[111, 108, 100]⟩, .string ⟨#[103, 114, 97, 99, 101]⟩, .string ⟨#[112, 111, 119, 101, 114]⟩] 9)).cell? ⟨w1.heap.size + 1, k, none⟩ = some (.string (tOf k)) := fun o k hk => by
    have := tails_at (w1.alloc o) k hk
    simpa using this
  have SE : Hid _ := sE
  have ST : Hid _ := sT
  clear sE sT
  go_loopw [5] (fun i wr => ∃ j : Nat, j ≤ 15 ∧ i = .int .i64 j ∧ (∀ k, k < 15 → wr.cell? ⟨w1.heap.size, k, none⟩ = some (.iface 79 (.pointer (some (A k))))) ∧ (∀ k, k < 15 → wr.cell? ⟨w1.heap.size + 1, k, none⟩ = some (.string (tOf k))) ∧ Below w1.heap.size w1 wr) (fun i _ => 15 - (intOf i).toNat)
  case atStart => exact ⟨0, Nat.zero_le _, rfl, fun k hk => SE.out k hk _, fun k hk => ST.out _ k hk, ((Below.refl _ _).alloc (Nat.le_refl _) _).alloc (by simp) _⟩
  case round =>
    obtain ⟨j, hj, rfl, aE, aT, hbr⟩ := hrel
    have AE : Hid _ := aE
    have AT : Hid _ := aT
    clear aE aT SE ST
    have Er : Hid (Errs wr A) := H1.out.below hbr (Nat.le_refl _)
    by_cases hlt : j < 15
    · have cE := AE.out j hlt
      have cT := AT.out j hlt
      have lE : w1.heap.size < wr.heap.size := lt_of_cell cE
      have lT : w1.heap.size + 1 < wr.heap.size := lt_of_cell cT
      obtain ⟨sx, cx, ex⟩ := Er.out.text j hlt
      obtain rfl : sx = (⟨#[112, 105, 103, 101, 111, 110, 104, 111, 108, 101, 115, 58, 32]⟩ : ByteArray) ++ tOf j := data_inj (ex.trans (text_split j hlt))
      have CX : Hid _ := cx
      clear ex cx
      go_wp2_with fail
      refine (code_fault A j hlt wr.heap.size 7 _ ?_ ?_ ?_).mono ?_
      · exact Er.out.below ((Below.refl _ _).alloc (Nat.le_refl _) _) (Nat.le_refl _)
      · simp
      · simp
      rintro e w2 ⟨rfl, hb2'⟩
      have hb3 : Below wr.heap.size wr w2 := ((Below.refl _ _).alloc (Nat.le_refl _) _).trans (hb2'.mono (by simp))
      have dE : w2.cell? ⟨w1.heap.size, j, none⟩ = some (.iface 79 (.pointer (some (A j)))) := (hb3.cell (p := ⟨w1.heap.size, j, none⟩) lE).trans cE
      have dT : w2.cell? ⟨w1.heap.size + 1, j, none⟩ = some (.string (tOf j)) := (hb3.cell (p := ⟨w1.heap.size + 1, j, none⟩) lT).trans cT
      have E2 : Hid (Errs w2 A) := Er.out.below hb3 (Nat.le_refl _)
      have CX2 : Hid (w2.cell? (A j) = some (.string ((⟨#[112, 105, 103, 101, 111, 110, 104, 111, 108, 101, 115, 58, 32]⟩ : ByteArray) ++ tOf j))) := (hb3.cell (lt_of_cell CX.out)).trans CX.out
      have hts := tOf_size j hlt
      clear hb2' cE cT
      go_wp2
      have hne := nil_error
      have hme := method_error
      have hw1 : IntKind.i64.wrap ((j : Int) + 1) = (j : Int) + 1 := by simp [IntKind.wrap, IntKind.signed, IntKind.bits]; omega
      have hadz : (⟨#[112, 105, 103, 101, 111, 110, 104, 111, 108, 101, 115, 58, 32]⟩ : ByteArray).size + (tOf j).size ≤ 9223372036854775807 := by show 13 + (tOf j).size ≤ 9223372036854775807; omega
      have hadd : ∀ w, (Op.stringOp .add (⟨#[112, 105, 103, 101, 111, 110, 104, 111, 108, 101, 115, 58, 32]⟩ : ByteArray) (tOf j)).run Tryd.prog w = .ok (.string ((⟨#[112, 105, 103, 101, 111, 110, 104, 111, 108, 101, 115, 58, 32]⟩ : ByteArray) ++ tOf j)) w := fun w => by first | exact run_string_add_sum w _ _ hadz | exact run_string_add_sum _ _ hadz
      have Hbr : Hid _ := hbr
      clear hbr H1 Er CX hb2
      go_region_held3 (fun w' => w'.cell? ⟨w1.heap.size, j, none⟩ = some (.iface 79 (.pointer (some (A j)))) ∧ w'.cell? ⟨w1.heap.size + 1, j, none⟩ = some (.string (tOf j))) (first | exact ⟨dE, dT⟩ | exact ⟨(hb5.cell (p := ⟨w1.heap.size, j, none⟩) (Nat.lt_of_lt_of_le lE hb3.size)).trans dE, (hb5.cell (p := ⟨w1.heap.size + 1, j, none⟩) (Nat.lt_of_lt_of_le lT hb3.size)).trans dT⟩)
        (first
          | (go_at_call 113; refine (error_any (A j) ((⟨#[112, 105, 103, 101, 111, 110, 104, 111, 108, 101, 115, 58, 32]⟩ : ByteArray) ++ tOf j) _ ?_).mono ?_; exact CX2.out; rintro e w4 ⟨rfl, rfl⟩)
          | (go_at_call 11; refine (coded_err A j hlt _ ?_).mono ?_; exact E2.out.below (Below.refl _ _).drew (Nat.le_refl _); rintro e w5 ⟨rfl, hb5⟩))
      all_goals
        go_wp2
        go_roundw
        case rel =>
          have hb6 : Below wr.heap.size wr w5 := hb3.trans ((below_from_drew hb5).mono hb3.size)
          exact ⟨j + 1, by omega, by go_num, fun k hk => (hb6.cell (p := ⟨w1.heap.size, k, none⟩) lE).trans (AE.out k hk), fun k hk => (hb6.cell (p := ⟨w1.heap.size + 1, k, none⟩) lT).trans (AT.out k hk), Hbr.out.trans (hb6.mono Hbr.out.size)⟩
        case measure => simp [intOf]; omega
    · have hnA : ∀ k, k < 15 → (⟨wr.heap.size, 0, none⟩ : Addr) ≠ A k := fun k hk e => by
        obtain ⟨c, t, hr⟩ := Er.out.row k hk
        have := (Array.getElem?_eq_some_iff.1 hr).1
        rw [← e] at this
        exact Nat.lt_irrefl _ this
      have HA : Hid _ := hnA
      have Hbr : Hid _ := hbr
      clear hnA hbr AE AT
      have E3 : Hid _ := Er.out.below ((Below.refl wr.heap.size wr).alloc (Nat.le_refl _) (.cells #[.string ⟨#[97, 110, 111, 116, 104, 101, 114, 32, 111, 110, 101]⟩] 81)) (Nat.le_refl _)
      have HR : Hid _ := heap_alloc_new wr (.cells #[.string ⟨#[97, 110, 111, 116, 104, 101, 114, 32, 111, 110, 101]⟩] 81)
      go_wp2_with fail
      refine (new_any _ _).mono ?_
      rintro e w3 ⟨rfl, rfl⟩
      go_wp2_with fail
      refine (code_other A ⟨wr.heap.size, 0, none⟩ _ _ _ E3.out HR.out HA.out).mono ?_
      rintro e w4 ⟨rfl, hb4⟩
      go_wp2_with fail
      refine (coded_nil _).mono ?_
      rintro e w5 ⟨rfl, rfl⟩
      go_wp2
      go_ret
      exact ⟨rfl, (hb2.trans (Hbr.out.mono hb2.size)).trans (((Below.refl _ _).alloc (Nat.le_trans hb2.size Hbr.out.size) _).trans (hb4.mono (by have := hb2.size; have := Hbr.out.size; simp; omega)))⟩
end Go.Proofs.YtnhpgpjopogbiaaDoor
