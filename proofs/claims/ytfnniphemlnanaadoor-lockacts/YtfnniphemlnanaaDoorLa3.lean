/- LockActs: the document's strokes in memory; ranges, bytes; rows of numbers. -/
import Derived.Test.YtfnniphemlnanaaDoorLa2
import Derived.Test.YtfnniphemlnanaaDoorLk16
import Derived.Deep.CutBlock
namespace Go.Proofs.YtfnniphemlnanaaDoor
open Go Go.RowKit Go.Deep

def ptC (p : Pt) : List Value := [.int .i64 p.N, .int .i64 p.G, .int .i64 p.O, .int .i64 p.F, .int .i64 p.T, .int .i64 p.K]
theorem ptC_len (p : Pt) : (ptC p).length = 6 := rfl
theorem ptC_one (p : Pt) : ∀ v ∈ ptC p, v.oneCell' = true := by
  intro v hv
  simp only [ptC, List.mem_cons, List.not_mem_nil, or_false] at hv
  rcases hv with rfl | rfl | rfl | rfl | rfl | rfl <;> rfl
def Pts (w : World) (base : Nat) (v : Value) (l : List Pt) : Prop := w.ownsRow base 66 6 v l.length (rowOf ptC l)
theorem Pts.only {w w' : World} {base : Nat} {v : Value} {l : List Pt} {L : List Nat} (h : Pts w base v l) (ho : Only L w w') (hn : ∀ k, v.ownBlock = some k → k ∉ L) : Pts w' base v l := ho.owns h hn
theorem ptInfo' : ∃ i, Tryd.prog.info? 66 = some i ∧ i.zero = some (.agg #[.int .i64 0, .int .i64 0, .int .i64 0, .int .i64 0, .int .i64 0, .int .i64 0]) ∧ i.size = 6 ∧ i.bytes = 48 := by
  have h : (Tryd.prog.info? 66).map (fun i => (i.zero, i.size, i.bytes)) = some (some (.agg #[.int .i64 0, .int .i64 0, .int .i64 0, .int .i64 0, .int .i64 0, .int .i64 0]), 6, 48) := by kernel_rfl
  cases hi : Tryd.prog.info? 66 with
  | none => rw [hi] at h; cases h
  | some i =>
    rw [hi] at h
    simp only [Option.map_some, Option.some.injEq, Prod.mk.injEq] at h
    exact ⟨i, rfl, h.1, h.2.1, h.2.2⟩
theorem ptsUnd : Tryd.prog.underlying 29 = some (.slice 66) := by kernel_rfl
theorem pt_cells {w : World} {base g cap n i : Nat} {l : List Pt} {p : Pt} (h : Pts w base (.slice (some ⟨g, 0, none⟩) n cap) l) (hn : l.length = n) (hi : l[i]? = some p) : w.cell? ⟨g, i * 6, none⟩ = some (.int .i64 p.N) ∧ w.cell? ⟨g, i * 6 + 1, none⟩ = some (.int .i64 p.G) ∧ w.cell? ⟨g, i * 6 + 2, none⟩ = some (.int .i64 p.O) ∧ w.cell? ⟨g, i * 6 + 3, none⟩ = some (.int .i64 p.F) ∧ w.cell? ⟨g, i * 6 + 4, none⟩ = some (.int .i64 p.T) ∧ w.cell? ⟨g, i * 6 + 5, none⟩ = some (.int .i64 p.K) := by
  have k := row_cells (enc := ptC) ptC_len h hn hi
  exact ⟨k 0 (by decide), k 1 (by decide), k 2 (by decide), k 3 (by decide), k 4 (by decide), k 5 (by decide)⟩
def inC (n : Int) : List Value := [.int .i64 n]
theorem inC_len (n : Int) : (inC n).length = 1 := rfl
theorem inC_one (n : Int) : ∀ v ∈ inC n, v.oneCell' = true := by
  intro v hv
  rw [inC, List.mem_singleton] at hv
  subst hv; rfl
def Ints (w : World) (base : Nat) (v : Value) (l : List Int) : Prop := w.ownsRow base 3 1 v l.length (rowOf inC l)
theorem Ints.only {w w' : World} {base : Nat} {v : Value} {l : List Int} {L : List Nat} (h : Ints w base v l) (ho : Only L w w') (hn : ∀ k, v.ownBlock = some k → k ∉ L) : Ints w' base v l := ho.owns h hn
theorem inInfo' : ∃ i, Tryd.prog.info? 3 = some i ∧ i.zero = some (.int .i64 0) ∧ i.size = 1 ∧ i.bytes = 8 := by
  have h : (Tryd.prog.info? 3).map (fun i => (i.zero, i.size, i.bytes)) = some (some (.int .i64 0), 1, 8) := by kernel_rfl
  cases hi : Tryd.prog.info? 3 with
  | none => rw [hi] at h; cases h
  | some i =>
    rw [hi] at h
    simp only [Option.map_some, Option.some.injEq, Prod.mk.injEq] at h
    exact ⟨i, rfl, h.1, h.2.1, h.2.2⟩
theorem insUnd : Tryd.prog.underlying 91 = some (.slice 3) := by kernel_rfl
theorem int_cell {w : World} {base g cap n i : Nat} {l : List Int} {p : Int} (h : Ints w base (.slice (some ⟨g, 0, none⟩) n cap) l) (hn : l.length = n) (hi : l[i]? = some p) : w.cell? ⟨g, i, none⟩ = some (.int .i64 p) := by
  have := row_cells (enc := inC) inC_len h hn hi 0 (by decide)
  rwa [Nat.mul_one, Nat.add_zero] at this
/-! ### ranges -/
def toR (A S : Int) : Int := if S = 0 then -1 else A + S
set_option maxHeartbeats 2000000 in
theorem rangeOf_any (A S : Int) (w : World) : Calls Tryd.prog 24 #[.agg #[.int .i64 A, .int .i64 S]] w fun e w' => e = .returned (.tuple #[.int .i64 (if rngB A S then A else 0), .int .i64 (if rngB A S then toR A S else 0), .bool (rngB A S)]) ∧ Only [] w w' := by
  have HO : Hid (∀ n, Only [] w ((w.alloc (.cells #[.int .i64 A, .int .i64 S] 35)).drewN n)) := fun n => ((Only.refl [] w).alloc _).drewsN n
  by_cases h1 : A < 0
  · have hr : rngB A S = false := by unfold rngB; simp; omega
    rw [hr, if_neg (by simp), if_neg (by simp)]
    have d1 : decide (A < 0) = true := decide_eq_true h1
    go_enter Tryd.func24, Tryd.ntmps24
    go_wp2
    refine bodyPost_ret (v := .tuple #[.int .i64 0, .int .i64 0, .bool false]) (by simp [results, Tryd.results24, go_sem]) rfl ⟨rfl, HO.out 0⟩
  · have d1 : decide (A < 0) = false := decide_eq_false h1
    by_cases h2 : 1099511627776 < A
    · have hr : rngB A S = false := by unfold rngB; simp; omega
      rw [hr, if_neg (by simp), if_neg (by simp)]
      have d2 : decide (1099511627776 < A) = true := decide_eq_true h2
      go_enter Tryd.func24, Tryd.ntmps24
      go_wp2
      refine bodyPost_ret (v := .tuple #[.int .i64 0, .int .i64 0, .bool false]) (by simp [results, Tryd.results24, go_sem]) rfl ⟨rfl, HO.out 0⟩
    · have d2 : decide (1099511627776 < A) = false := decide_eq_false h2
      by_cases h3 : S < 0
      · have hr : rngB A S = false := by unfold rngB; simp; omega
        rw [hr, if_neg (by simp), if_neg (by simp)]
        have d3 : decide (S < 0) = true := decide_eq_true h3
        go_enter Tryd.func24, Tryd.ntmps24
        go_wp2
        refine bodyPost_ret (v := .tuple #[.int .i64 0, .int .i64 0, .bool false]) (by simp [results, Tryd.results24, go_sem]) rfl ⟨rfl, HO.out 0⟩
      · have d3 : decide (S < 0) = false := decide_eq_false h3
        by_cases h4 : 1099511627776 < S
        · have hr : rngB A S = false := by unfold rngB; simp; omega
          rw [hr, if_neg (by simp), if_neg (by simp)]
          have d4 : decide (1099511627776 < S) = true := decide_eq_true h4
          go_enter Tryd.func24, Tryd.ntmps24
          go_wp2
          refine bodyPost_ret (v := .tuple #[.int .i64 0, .int .i64 0, .bool false]) (by simp [results, Tryd.results24, go_sem]) rfl ⟨rfl, HO.out 0⟩
        · have d4 : decide (1099511627776 < S) = false := decide_eq_false h4
          have hr : rngB A S = true := by unfold rngB; simp; omega
          rw [hr, if_pos rfl, if_pos rfl]
          unfold toR
          by_cases h5 : S = 0
          · subst h5
            rw [if_pos rfl]
            go_enter Tryd.func24, Tryd.ntmps24
            go_wp2
            refine bodyPost_ret (v := .tuple #[.int .i64 A, .int .i64 (-1), .bool true]) (by simp [results, Tryd.results24, go_sem]) rfl ⟨rfl, HO.out 0⟩
          · rw [if_neg h5]
            have d5 : (S == 0) = false := beq_eq_false_iff_ne.2 h5
            have hadd : IntKind.i64.wrap (A + S) = A + S := by simp [IntKind.wrap, IntKind.bits, IntKind.signed]; omega
            go_enter Tryd.func24, Tryd.ntmps24
            go_wp2
            go_big_quiet (fail)
            go_wp2
            refine bodyPost_ret (v := .tuple #[.int .i64 A, .int .i64 (A + S), .bool true]) (by simp [results, Tryd.results24, go_sem]) rfl ⟨rfl, HO.out _⟩
/-! ### a byte -/
theorem atP_take {l : List Pt} {j : Nat} {p : Pt} (h : l[j]? = some p) (N G O b : Int) : atP (l.take (j + 1)) N G O b = if keyP N G O p && covB p b then p.K else atP (l.take j) N G O b := by
  obtain ⟨hj, rfl⟩ := List.getElem?_eq_some_iff.1 h
  rw [← List.take_append_getElem hj, atP_snoc]
set_option maxRecDepth 100000 in
set_option maxHeartbeats 4000000 in
theorem at_any (w : World) (base : Nat) (v : Value) (l : List Pt) (N G O b : Int) (h : Pts w base v l) (hl : l.length ≤ 100) : Calls Tryd.prog 48 #[v, .agg #[.int .i64 N, .int .i64 G], .int .i64 O, .int .i64 b] w fun e w' => e = .returned (.int .i64 (atP l N G O b)) ∧ Only [] w w' := by
  obtain ⟨ad, cap, rfl, had, _⟩ := row_form h
  have HA : Hid (l ≠ [] → ∃ g, ad = some ⟨g, 0, none⟩) := had
  obtain ⟨n, hn⟩ : ∃ n, l.length = n := ⟨_, rfl⟩
  have HN : Hid (l.length = n) := hn
  rw [hn] at hl h ⊢
  have H : Hid (Pts w base (.slice ad n cap) l) := h
  have HH : Hid (∀ W, Only [] (w.alloc (.cells #[.int .i64 N, .int .i64 G] 33)) W → W.cell? ⟨w.heap.size, 0, none⟩ = some (.int .i64 N) ∧ W.cell? ⟨w.heap.size, 1, none⟩ = some (.int .i64 G)) := fun W ho => by
    have := two_own (B := w.heap.size) ho rfl
    exact ⟨this.1, this.2.1⟩
  have HO0 : Hid (Only [] w (w.alloc (.cells #[.int .i64 N, .int .i64 G] 33))) := (Only.refl [] w).alloc _
  clear h hn had
  go_enter Tryd.func48, Tryd.ntmps48
  go_wp2
  generalize w.alloc (.cells #[.int .i64 N, .int .i64 G] 33) = w0 at HH HO0 ⊢
  obtain ⟨B, hB⟩ : ∃ B, w.heap.size = B := ⟨_, rfl⟩
  rw [hB] at HH ⊢
  clear hB
  go_loopw [9, 10, 11] (fun r i _p wr => ∃ j : Nat, i = .int .i64 j ∧ j ≤ n ∧ r = .int .i64 (atP (l.take j) N G O b) ∧ Only [] w0 wr) (fun _ i _ _ => n - (intOf i).toNat)
  case atStart => exact ⟨0, rfl, Nat.zero_le _, rfl, Only.refl _ _⟩
  case round =>
    obtain ⟨j, rfl, hj, rfl, ho⟩ := hrel
    have HO : Hid (Only [] w0 wr) := ho
    clear ho
    by_cases hlt : j < n
    · obtain ⟨p, hp⟩ : ∃ p, l[j]? = some p := ⟨_, List.getElem?_eq_getElem (by rw [HN.out]; exact hlt)⟩
      obtain ⟨g, rfl⟩ := HA.out (fun e => by rw [e] at hp; cases hp)
      obtain ⟨c0, c1, c2, c3, c4, c5⟩ := pt_cells (H.out.only (only_nil HO0.out HO.out) (fun _ _ => by simp)) HN.out hp
      obtain ⟨x0, x1⟩ := HH.out wr HO.out
      have hxl := lt_of_cell x0
      have hj2 : (j : Int) < n := by omega
      have HNX : Hid (atP (l.take (j + 1)) N G O b = if keyP N G O p && covB p b then p.K else atP (l.take j) N G O b) := atP_take hp N G O b
      have HO2 : Hid (Only [] w0 (wr.alloc (.cells #[.int .i64 p.N, .int .i64 p.G, .int .i64 p.O, .int .i64 p.F, .int .i64 p.T, .int .i64 p.K] 66))) := HO.out.alloc _
      generalize atP (l.take j) N G O b = now at HNX ⊢
      clear hp
      obtain ⟨pN, pG, pO, pF, pT, pK⟩ := p
      simp only at *
      by_cases k1 : pN = N
      · subst k1
        by_cases k2 : pG = G
        · subst k2
          by_cases k3 : pO = O
          · subst k3
            by_cases k4 : pF ≤ b
            · have d4 : decide (pF ≤ b) = true := decide_eq_true k4
              by_cases k5 : pT < 0
              · have d5 : decide (pT < 0) = true := decide_eq_true k5
                have HNY : Hid (atP (l.take (j + 1)) pN pG pO b = pK) := by show _ = _; rw [HNX.out, if_pos (by simp [keyP, covB, k4, k5])]
                go_wp2
                go_roundw
                case rel => exact ⟨j + 1, by go_num, by omega, by rw [HNY.out], HO2.out⟩
                case measure => simp [intOf]; omega
              · have d5 : decide (pT < 0) = false := decide_eq_false k5
                by_cases k6 : b < pT
                · have d6 : decide (b < pT) = true := decide_eq_true k6
                  have HNY : Hid (atP (l.take (j + 1)) pN pG pO b = pK) := by show _ = _; rw [HNX.out, if_pos (by simp [keyP, covB, k4, k6])]
                  go_wp2
                  go_roundw
                  case rel => exact ⟨j + 1, by go_num, by omega, by rw [HNY.out], HO2.out⟩
                  case measure => simp [intOf]; omega
                · have d6 : decide (b < pT) = false := decide_eq_false k6
                  have HNY : Hid (atP (l.take (j + 1)) pN pG pO b = now) := by show _ = _; rw [HNX.out, if_neg (by simp [keyP, covB]; omega)]
                  go_wp2
                  go_roundw
                  case rel => exact ⟨j + 1, by go_num, by omega, by rw [HNY.out], HO2.out⟩
                  case measure => simp [intOf]; omega
            · have d4 : decide (pF ≤ b) = false := decide_eq_false k4
              have HNY : Hid (atP (l.take (j + 1)) pN pG pO b = now) := by show _ = _; rw [HNX.out, if_neg (by simp [keyP, covB]; omega)]
              go_wp2
              go_roundw
              case rel => exact ⟨j + 1, by go_num, by omega, by rw [HNY.out], HO2.out⟩
              case measure => simp [intOf]; omega
          · have d3 : (pO == O) = false := beq_eq_false_iff_ne.2 k3
            have HNY : Hid (atP (l.take (j + 1)) pN pG O b = now) := by show _ = _; rw [HNX.out, if_neg (by simp [keyP, k3])]
            go_wp2
            go_roundw
            case rel => exact ⟨j + 1, by go_num, by omega, by rw [HNY.out], HO2.out⟩
            case measure => simp [intOf]; omega
        · have d2 : (pG == G) = false := beq_eq_false_iff_ne.2 k2
          have HNY : Hid (atP (l.take (j + 1)) pN G O b = now) := by show _ = _; rw [HNX.out, if_neg (by simp [keyP, k2])]
          go_wp2
          go_roundw
          case rel => exact ⟨j + 1, by go_num, by omega, by rw [HNY.out], HO2.out⟩
          case measure => simp [intOf]; omega
      · have d1 : (pN == N) = false := beq_eq_false_iff_ne.2 k1
        have HNY : Hid (atP (l.take (j + 1)) N G O b = now) := by show _ = _; rw [HNX.out, if_neg (by simp [keyP, k1])]
        go_wp2
        go_roundw
        case rel => exact ⟨j + 1, by go_num, by omega, by rw [HNY.out], HO2.out⟩
        case measure => simp [intOf]; omega
    · obtain rfl : j = n := by omega
      have HE : Hid (l.take j = l) := by show l.take j = l; rw [← HN.out, List.take_length]
      have hj2 : decide ((j : Int) < j) = false := decide_eq_false (by omega)
      go_wp2
      go_ret
      exact ⟨by rw [HE.out]; rfl, only_nil HO0.out HO.out⟩
end Go.Proofs.YtfnniphemlnanaaDoor
