/- Data: the program's Read: the walk. -/
import Derived.Test.YthofinllkdajhacDoorG8
namespace Go.Proofs.YthofinllkdajhacDoor
open Go Go.RowKit Go.Deep Go.Maps

theorem made_zero (k : Nat) : madeCells #[.int .u8 0] k = (Lib.byteCells (List.replicate k 0)).toArray := by
  simp only [madeCells, Lib.byteCells, List.map_replicate]
  apply Array.ext
  · simp
  · intro i h1 h2
    simp [Nat.mod_one]
theorem RowAt.text {w : World} {g cap : Nat} {l : List UInt8} (h : RowAt w g 5 l) : (convert 36 9 (.slice (some ⟨g, 0, none⟩) l.length cap)).run Tryd.prog w = .ok (.string (bs l)) w :=
  run_convert_bytes_back (P := Tryd.prog) w 36 9 5 ⟨g, 0, none⟩ cap l Tryd.underlying36 Tryd.underlying5 Tryd.underlying9 (fun x hx => by
    rw [addr_head, cell_of_row _ _ _ _ _ _ h]
    simp [Lib.byteCells, hx])
/-- So much of the text is read. -/
def Got (S : ByteArray) (a d : Nat) (l : List UInt8) : Prop := ∀ j, j < d → l.getD j 0 = byteS S (a + j)
theorem Got.step {S : ByteArray} {H : List Bool} {f : Nat → Option (List UInt8)} {a d N k : Nat} {l : List UInt8} (hs : Same f S H) (h : Got S a d l) (hl : l.length = N) (hN : a + N ≤ S.size) (hd : d < N) (hb : ((f ((a + d) / 64)).getD zero64).length = 64) (hk : min (64 - (a + d) % 64) (N - d) = k) :
    Got S a (d + k) (over l d ((((f ((a + d) / 64)).getD zero64).drop ((a + d) % 64)).take k)) ∧ (over l d ((((f ((a + d) / 64)).getD zero64).drop ((a + d) % 64)).take k)).length = N := by
  have hle := hs.le
  have hlen : ((((f ((a + d) / 64)).getD zero64).drop ((a + d) % 64)).take k).length = k := by rw [List.length_take, List.length_drop, hb]; omega
  refine ⟨fun j hj => ?_, by rw [over_len (by rw [hlen, hl]; omega), hl]⟩
  rw [over_get (by rw [hlen, hl]; omega), hlen]
  by_cases c : d ≤ j ∧ j < d + k
  · rw [if_pos c, ← hs.bytes (a + j) (by omega)]
    unfold byteF
    rw [show (a + j) / 64 = (a + d) / 64 by omega, show (a + j) % 64 = (a + d) % 64 + (j - d) by omega]
    simp only [List.getD_eq_getElem?_getD, List.getElem?_take, List.getElem?_drop]
    rw [if_pos (by omega)]
  · rw [if_neg c]
    exact h j (by omega)
theorem readInZ (w : World) (g : Nat) (m : Option Nat) (f : Nat → Option (List UInt8)) (q go p n cap : Nat) (l : List UInt8) (hc : w.cell? ⟨g, 1, none⟩ = some (.map m)) (hm : MapAt w m f) (hr : RowAt w go 5 l) (hfit : p + n ≤ l.length) (hq : q < 4096) (z : Int) (hz : z = (q : Int)) (k : Nat) (hk : min (64 - q % 64) n = k) :
    Calls Tryd.prog 11 #[.pointer (some ⟨g, 0, none⟩), .int .i64 z, .slice (some ⟨go, p, none⟩) n cap] w fun e w' => e = .returned (.int .i64 (k : Int)) ∧
      RowAt w' go 5 (over l p ((((f (q / 64)).getD zero64).drop (q % 64)).take k)) ∧ Only [go] w w' := by
  subst hz hk
  exact readIn w g m f q go p n cap l hc hm hr hfit hq

set_option maxHeartbeats 2000000 in
set_option maxRecDepth 100000 in
theorem dread_walk (w : World) (g : Nat) (S : ByteArray) (H : List Bool) (m : Option Nat) (a n N : Nat) (hD : DataAt w g S H m) (ha : a < S.size) (hn : n < 9223372036854775808) (hN : min n (S.size - a) = N) :
    Calls Tryd.prog 6 #[.pointer (some ⟨g, 0, none⟩), .int .i64 a, .int .i64 n] w fun e w' => e = .returned (.tuple #[.string (S.extract a (a + N)), .bool (decide (a + N = S.size)), .nilIface]) ∧ Only [] w w' := by
  obtain ⟨f, hsame, hmap⟩ := hD.holds
  have hS := hsame.le
  have hc := hD.size
  have hmk := run_make_row' (P := Tryd.prog) 36 5 (.int .u8 0) 1 Tryd.underlying36 Tryd.info5 rfl .i64 .i64 N (by omega) (by omega)
  have hlt : g < w.heap.size := lt_of_cell hc
  have HD : Hid (DataAt w g S H m) := hD
  have HM : Hid (MapAt w m f) := hmap
  have HS : Hid (Same f S H) := hsame
  clear hD hmap hsame
  go_enter Tryd.func6, Tryd.ntmps6
  go_upto_region 5 with fail
  go_cut [9] (fun v wx => v = .slice (some ⟨w.heap.size, 0, none⟩) N N ∧ RowAt wx w.heap.size 5 (List.replicate N 0) ∧ Only [] w wx)
  case first =>
    have hr0 : Hid (RowAt (w.alloc (.cells (madeCells #[.int .u8 0] N) 5)) w.heap.size 5 (List.replicate N 0)) := by
      have : RowAt (w.alloc (.cells (madeCells #[.int .u8 0] N) 5)) w.heap.size 5 (List.replicate N 0) := by rw [made_zero]; exact heap_alloc_last w _
      exact this
    by_cases hle : n ≤ S.size - a
    · obtain rfl : N = n := by omega
      go_wp2
      all_goals (go_meet; exact ⟨rfl, hr0.out, (Only.refl _ _).alloc _⟩)
    · have e1 : (S.size : Int) - (a : Int) = (N : Int) := by omega
      go_wp2
      all_goals (go_meet; exact ⟨rfl, hr0.out, (Only.refl _ _).alloc _⟩)
  case rest =>
    obtain ⟨rfl, hr, ho⟩ := hcut
    clear hc hmk
    have hBw : Hid (∀ wx, Only [] w wx → wx.cell? ⟨g, 0, none⟩ = some (.int .i64 (S.size : Nat)) ∧ wx.cell? ⟨g, 1, none⟩ = some (.map m) ∧ MapAt wx m f) := fun wx h => by
      have := HD.out.kept h (fun _ _ => by simp)
      exact ⟨this.size, this.map, HM.out.only h (fun _ _ => by simp)⟩
    obtain ⟨B, hB⟩ : ∃ B, w.heap.size = B := ⟨_, rfl⟩
    rw [hB] at hr ⊢
    have HB : Hid (w.heap.size = B) := hB
    clear hB hlt HD HM
    go_wp2
    go_loopw [10] (fun i wr => ∃ (d : Nat) (l : List UInt8), d ≤ N ∧ i = .int .i64 d ∧ l.length = N ∧ Got S a d l ∧ RowAt wr B 5 l ∧ Only [] w wr) (fun i _ => N - (intOf i).toNat)
    case atStart => exact ⟨0, _, Nat.zero_le _, rfl, by simp, fun j hj => by omega, hr, ho⟩
    case round =>
      obtain ⟨d, l, hdle, rfl, hll, hG, hr', ho'⟩ := hrel
      obtain ⟨c0, c1, hM⟩ := hBw.out wr ho'
      clear hr ho
      by_cases hlt : d < N
      · obtain ⟨k, hk⟩ : ∃ k, min (64 - (a + d) % 64) (N - d) = k := ⟨_, rfl⟩
        have hcall := readInZ wr g m f (a + d) B d (N - d) (N - d) l c1 hM hr' (by omega) (by omega) ((a : Int) + (d : Int)) (by omega) k hk
        have HG : Hid (Got S a (d + k) (over l d ((((f ((a + d) / 64)).getD zero64).drop ((a + d) % 64)).take k)) ∧ (over l d ((((f ((a + d) / 64)).getD zero64).drop ((a + d) % 64)).take k)).length = N) := Got.step HS.out hG hll (by omega) hlt (hM.getLen _) hk
        have HO : Hid (Only [] w wr) := ho'
        have hk1 : 1 ≤ k := by omega
        have hk2 : d + k ≤ N := by omega
        clear hG hr' ho' hM hk hll c0 c1
        go_wp2_with (go_at_call 11; go_must (refine hcall.mono ?_); rintro e w2 ⟨rfl, hr2, ho2⟩)
        go_roundw
        case rel => exact ⟨d + k, _, hk2, by go_num, HG.out.2, HG.out.1, hr2, HO.out.trans ho2 (fun i hi => by rw [List.mem_singleton] at hi; subst hi; exact Or.inr (Nat.le_of_eq HB.out))⟩
        case measure => simp [intOf]; omega
      · obtain rfl : d = N := by omega
        have hcv := RowAt.text (cap := d) (show RowAt wr.drew B 5 l from hr')
        rw [hll, read_text (S := S) (a := a) (l := l) (by omega) (fun j hj => hG j (by omega)), hll] at hcv
        have HO : Hid (Only [] w wr) := ho'
        clear hG hr' ho' hM hll c1
        go_wp2
        go_region
        all_goals go_wp2
        have hbe : ((a : Int) + (d : Int) == (S.size : Int)) = decide (a + d = S.size) := by
          by_cases hh : a + d = S.size
          · rw [decide_eq_true hh, beq_iff_eq]; omega
          · rw [decide_eq_false hh, beq_eq_false_iff_ne]; omega
        exact bodyPost_ret (v := .tuple #[.string (S.extract a (a + d)), .bool (decide (a + d = S.size)), .nilIface]) (by simp [results, Tryd.results6, go_sem, hbe]) rfl ⟨rfl, HO.out.drew⟩

/-- What Read gives, as a whole: beside the document's own numbers the error itself. -/
theorem dread_any (w : World) (g : Nat) (S : ByteArray) (H : List Bool) (m : Option Nat) (a n : Int) (E : Value) (hD : DataAt w g S H m) (hE : w.cell? ⟨0, 0, none⟩ = some E) (ha : a < 9223372036854775808) (hn : n < 9223372036854775808) :
    Calls Tryd.prog 6 #[.pointer (some ⟨g, 0, none⟩), .int .i64 a, .int .i64 n] w fun e w' => e = .returned (.tuple #[.string (readB S a n).1, .bool (readB S a n).2.1, if a < 0 ∨ n < 0 then E else .nilIface]) ∧ Only [] w w' := by
  unfold readB
  by_cases h : a < 0 ∨ n < 0
  · rw [if_pos h, if_pos h]
    exact dread_bound w g a n E hE h
  · rw [if_neg h, if_neg h]
    obtain ⟨a, rfl⟩ : ∃ k : Nat, a = (k : Int) := ⟨a.toNat, by omega⟩
    obtain ⟨n, rfl⟩ : ∃ k : Nat, n = (k : Int) := ⟨n.toNat, by omega⟩
    by_cases h3 : S.size ≤ a
    · rw [if_pos (by omega)]
      exact (dread_past w g S a n hD.size h3).mono fun e w' ⟨he, hw⟩ => ⟨he, hw ▸ Only.refl _ _⟩
    · rw [if_neg (by omega)]
      by_cases h4 : (S.size : Int) - (a : Int) ≤ (n : Int)
      · rw [if_pos h4]
        refine (dread_walk w g S H m a n (S.size - a) hD (by omega) (by omega) (by omega)).mono fun e w' ⟨he, hw⟩ => ⟨?_, hw⟩
        rw [he, decide_eq_true (by omega)]
        simp only [Int.toNat_natCast]
        rw [show a + (S.size - a) = S.size by omega]
      · rw [if_neg h4]
        refine (dread_walk w g S H m a n n hD (by omega) (by omega) (by omega)).mono fun e w' ⟨he, hw⟩ => ⟨?_, hw⟩
        rw [he, decide_eq_false (by omega)]
        simp only [Int.toNat_natCast, show ((a : Int) + (n : Int)).toNat = a + n by omega]
end Go.Proofs.YthofinllkdajhacDoor
