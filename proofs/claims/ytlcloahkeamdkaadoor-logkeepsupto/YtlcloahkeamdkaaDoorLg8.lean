/- A log: the records that a head counts. -/
import Derived.Test.YtlcloahkeamdkaaDoorLg7
import Derived.Test.YtlcloahkeamdkaaDoorG1
namespace Go.Proofs.YtlcloahkeamdkaaDoor
open Go Go.RowKit Go.Deep

set_option maxHeartbeats 1000000 in
set_option maxRecDepth 100000 in
theorem bstring_nil (w : World) (b : Nat) (p : Value) (hbk : w.heap[b]? = some (.cells #[p, .slice none 0 0] 103 (0, 0))) :
    Calls Tryd.prog 50 #[.pointer (some ⟨b, 0, none⟩)] w fun e w' => e = .returned (.string ⟨#[]⟩) ∧ Only [] w w' := by
  have hUS : ∀ W : World, (Builtin.unsafeString_ #[137, 3] 9 #[.pointer none, .int .i64 0]).run Tryd.prog W = .ok (.string .empty) W := fun W => Lib.run_unsafeString_none W _ _ _ none
  have c1 : w.drew.cell? ⟨b, 1, none⟩ = some (.slice none 0 0) := by
    have : w.drew.heap[b]? = some (.cells #[p, .slice none 0 0] 103 (0, 0)) := hbk
    rw [Lib.cell_of_heap this]; rfl
  have hSD : (Builtin.unsafeSliceData_ #[101] 137 #[.slice none 0 0]).run Tryd.prog w.drew = .ok (.pointer none) w.drew := rfl
  go_enter Tryd.func50, Tryd.ntmps50
  go_wp2
  go_region
  all_goals go_wp2
  all_goals go_ret
  all_goals exact ⟨rfl, (Only.refl _ _).drew⟩
theorem Hd.room {h : Hd} {N : Nat} (e : h.fits N = true) : h.first N + h.used ≤ N ∧ h.used ≤ (N - 2) / 2 ∧ 2 ≤ h.first N ∧ h.half ≤ 1 ∧ 8 ≤ N := by
  obtain ⟨h1, h2, h5⟩ := Hd.fits_iff e
  have h6 : h.half = 0 ∨ h.half = 1 := by omega
  unfold Hd.first
  rcases h6 with h6 | h6 <;> rw [h6] <;> omega
def textOf (h : Hd) (sec : List Sec) : List UInt8 := concatS ((sec.drop (h.first sec.length)).take h.used)
def recsOf (h : Hd) (sec : List Sec) : Option (List (List UInt8)) := rAll (textOf h sec)
theorem BlksR.opened {w w' : World} {T : List UInt8} {e : Ending} (h : BlksR w w' T e) : ∃ v b, e = .returned (.tuple #[v, .bool b]) ∧ BlksR w w' T (.returned (.tuple #[v, .bool b])) := by
  obtain ⟨ho, ⟨h1, rfl⟩ | ⟨R, v, h1, rfl, h2⟩⟩ := h
  · exact ⟨_, _, rfl, ho, Or.inl ⟨h1, rfl⟩⟩
  · exact ⟨_, _, rfl, ho, Or.inr ⟨R, v, h1, rfl, h2⟩⟩
theorem BlksR.from {w w0 w' : World} {T : List UInt8} {e : Ending} (h : BlksR w w' T e) (ho : Only [] w0 w) : BlksR w0 w' T e := by
  obtain ⟨h1, h2⟩ := h
  refine ⟨ho.trans h1 (fun _ h => by cases h), ?_⟩
  rcases h2 with h2 | ⟨R, v, a, b, c⟩
  · exact Or.inl h2
  · exact Or.inr ⟨R, v, a, b, own_base c ho.size⟩
section
variable {w : World} {base t : Nat} {pw : Option Nat} {vs vw : Value} {sec : List Sec} {wt : List Wr}
set_option maxHeartbeats 2000000 in
set_option maxRecDepth 100000 in
theorem records_ok (hd : DkAt w base t pw vs vw sec wt) (h : Hd) (hf : h.fits sec.length = true) :
    Calls Tryd.prog 30 #[hdV h, .pointer (some ⟨t, 0, none⟩)] w fun e w' => BlksR w w' (textOf h sec) e := by
  obtain ⟨r1, r2, r3, r4, r5⟩ := Hd.room hf
  have hm := hd.most
  obtain ⟨wb, hwb⟩ : ∃ wb, w.alloc (hdO h) = wb := ⟨_, rfl⟩
  have o0 : Only [] w wb := by rw [← hwb]; exact (Only.refl [] w).alloc _
  have e0 : wb.heap[w.heap.size]? = some (.cells #[.int .u32 (h.calls : Nat), .int .i64 (h.half : Nat), .int .i64 (h.used : Nat)] 64 (0, 0)) := by rw [← hwb]; exact heap_alloc_last w _
  have HK : Hid (∀ W, Only [] wb W → W.heap[w.heap.size]? = some (.cells #[.int .u32 (h.calls : Nat), .int .i64 (h.half : Nat), .int .i64 (h.used : Nat)] 64 (0, 0))) := fun W ho => kept3 e0 ho
  have HD : Hid (∀ W, Only [] wb W → DkAt W base t pw vs vw sec wt) := fun W ho => (hd.keep o0).keep ho
  have HF : Hid (∀ W, Only [] wb W → Calls Tryd.prog 47 #[hdV h, .pointer (some ⟨t, 0, none⟩)] W fun e w' => e = .returned (.int .i64 (h.first sec.length : Nat)) ∧ Only [] W w') := fun W ho => hfirst_ok ((hd.keep o0).keep ho) h r4 (by omega)
  have HB0 : Hid (BuW wb (wb.alloc (.cells #[.pointer none, .slice none 0 0] 103)) wb.heap.size []) := BuW.fresh (Only.refl [] wb)
  have HN0 : Hid ((wb.alloc (.cells #[.pointer none, .slice none 0 0] 103)).heap[wb.heap.size]? = some (.cells #[.pointer none, .slice none 0 0] 103 (0, 0))) := heap_alloc_last wb _
  have HO0 : Hid (Only [] w wb) := o0
  have HWS : Hid (∀ W l t2, BuW wb W wb.heap.size l → l.length + t2.size ≤ 140737488355328 → Calls Tryd.prog 48 #[.pointer (some ⟨wb.heap.size, 0, none⟩), .string t2] W fun e w' => e = .returned (.tuple #[.int .i64 t2.size, .nilIface]) ∧ BuW wb w' wb.heap.size (l ++ t2.data.toList)) := fun W l t2 hB hl => (bwrite_any wb W wb.heap.size l t2 hB hl).mono fun e w' q => ⟨q.1, q.2.1⟩
  unfold textOf
  obtain ⟨F, hF⟩ : ∃ F, h.first sec.length = F := ⟨_, rfl⟩
  rw [hF] at HF r1 r3 ⊢
  obtain ⟨TT, hTT⟩ : ∃ TT, concatS ((sec.drop F).take h.used) = TT := ⟨_, rfl⟩
  have HTT : Hid (concatS ((sec.drop F).take h.used) = TT) := hTT
  have hTl : TT.length ≤ 1000000 := by rw [← hTT, concatS_len, List.length_take, List.length_drop]; omega
  have HRB : Hid (∀ W, Only [] w W → Calls Tryd.prog 49 #[.string (bs TT)] W fun e w' => ∃ v b, e = .returned (.tuple #[v, .bool b]) ∧ BlksR w w' TT (.returned (.tuple #[v, .bool b]))) := fun W ho => (readBlocks_ok W TT hTl).mono fun e w' q => by
    obtain ⟨v, b, he, hr⟩ := q.opened
    exact ⟨v, b, he, hr.from ho⟩
  rw [hTT]
  clear hd o0 hf hF hTT hTl
  by_cases hu0 : h.used = 0
  · have HTN : Hid (TT = []) := by rw [← HTT.out, hu0]; rfl
    obtain ⟨q0, q1, q2, q4, q5⟩ := cells3 (HK.out (wb.alloc (.cells #[.pointer none, .slice none 0 0] 103)) ((Only.refl [] wb).alloc _))
    rw [hu0] at q2
    have HSN : Hid (Calls Tryd.prog 50 #[.pointer (some ⟨wb.heap.size, 0, none⟩)] (wb.alloc (.cells #[.pointer none, .slice none 0 0] 103)) fun e w' => e = .returned (.string ⟨#[]⟩) ∧ Only [] w w') := (bstring_nil _ _ _ HN0.out).mono fun e w' q => ⟨q.1, (HO0.out.alloc _).trans q.2 (fun _ h => by cases h)⟩
    clear HWS HF HB0 HN0 HD hu0
    go_enter Tryd.func30, Tryd.ntmps30
    go_upto_region 2 with (fail)
    clear hwb
    generalize wb.alloc (.cells #[.pointer none, .slice none 0 0] 103) = W0 at q0 q1 q2 q4 q5 HSN ⊢
    go_wp2
    refine wp_loop_rounds 1 ?_
    rw [rounds_succ]
    go_wp2_with (first
      | (go_at_call 50; refine HSN.out.mono ?_; rintro e w1 ⟨rfl, h1⟩; have HO1 : Hid (Only [] w w1) := h1; clear h1)
      | (go_at_call 49; refine ((show Calls Tryd.prog 49 #[.string ⟨#[]⟩] w1 _ from (by have := HRB.out w1 HO1.out; rw [HTN.out] at this; exact this))).mono ?_; rintro e w2 ⟨v, b, rfl, h2⟩; have HR : Hid (BlksR w w2 [] (.returned (.tuple #[v, .bool b]))) := h2; clear h2))
    go_ret2
    rw [HTN.out]
    exact HR.out
  · have HU0 : Hid (h.used ≠ 0) := hu0
    clear HN0 hu0
    go_enter Tryd.func30, Tryd.ntmps30
    go_upto_region 2 with (fail)
    clear hwb
    generalize wb.alloc (.cells #[.pointer none, .slice none 0 0] 103) = W0 at HB0 ⊢
    obtain ⟨b, hb⟩ : ∃ b, wb.heap.size = b := ⟨_, rfl⟩
    rw [hb] at HB0 HWS ⊢
    clear hb
    obtain ⟨q0, q1, q2, q4, q5⟩ := cells3 (HK.out W0 HB0.out.only)
    go_upto_region 3 with (fail)
    clear q0 q1 q2 q4 q5
    go_loopw [12] (fun i wr => ∃ j : Nat, i = .int .i64 (j : Nat) ∧ j ≤ h.used ∧ BuW wb wr b (concatS ((sec.drop F).take j))) (fun i _ => h.used - (intOf i).toNat)
    case atStart => exact ⟨0, rfl, Nat.zero_le _, HB0.out⟩
    case round =>
      clear HB0
      obtain ⟨j, rfl, hj, hB⟩ := hrel
      by_cases hlt : j < h.used
      · have hl : decide ((j : Int) < (h.used : Int)) = true := decide_eq_true (by omega)
        obtain ⟨s, hs⟩ : ∃ s, sec[F + j]? = some s := ⟨sec[F + j]'(by omega), List.getElem?_eq_getElem _⟩
        have HNX : Hid (concatS ((sec.drop F).take (j + 1)) = concatS ((sec.drop F).take j) ++ s.1) := by
          have : (sec.drop F)[j]? = some s := by rw [List.getElem?_drop]; exact hs
          show concatS _ = _
          rw [take_snoc this, concatS_app]
          simp [concatS]
        have HF1 : Hid (Calls Tryd.prog 47 #[hdV h, .pointer (some ⟨t, 0, none⟩)] wr fun e w' => e = .returned (.int .i64 (F : Nat)) ∧ BuW wb w' b (concatS ((sec.drop F).take j))) := (HF.out wr hB.only).mono fun e w' q => ⟨q.1, hB.other q.2⟩
        have HRD : Hid (∀ W, Only [] wb W → Calls Tryd.prog 46 #[.pointer (some ⟨t, 0, none⟩), .int .i64 (F + j : Nat)] W fun e w' => e = .returned (.tuple #[.string (bs s.1), .nilIface]) ∧ w' = W) := fun W ho => read_ok (HD.out W ho) (F + j) s hs
        have hsz : (bs s.1).size = 64 := by rw [bs_size, s.2]
        have HSD : Hid ((bs s.1).data.toList = s.1) := bs_data s.1
        have HLN : Hid ((concatS ((sec.drop F).take j)).length + (bs s.1).size ≤ 140737488355328) := by
          show _ ≤ _
          rw [concatS_len, List.length_take, List.length_drop, hsz]
          omega
        obtain ⟨q0, q1, q2, q4, q5⟩ := cells3 (HK.out wr hB.only)
        generalize bs s.1 = x at HRD hsz HSD HLN
        have e1 : ((F + j : Nat) : Int) = (F : Int) + (j : Int) := by omega
        rw [e1] at HRD
        clear hB hs e1
        go_wp2_with (first
          | (go_at_call 47; refine HF1.out.mono ?_; rintro e w1 ⟨rfl, h1⟩; have HB1 : Hid (BuW wb w1 b (concatS ((sec.drop F).take j))) := h1; clear h1)
          | (go_at_call 46; refine (HRD.out _ HB1.out.only).mono ?_; rintro e w2 ⟨rfl, h0⟩; have h1 := h0.symm; subst h1; clear h0)
          | (go_at_call 48; refine (HWS.out _ _ x HB1.out HLN.out).mono ?_; rintro e w5 ⟨rfl, h2⟩; have HB5 : Hid (BuW wb w5 b (concatS ((sec.drop F).take j) ++ x.data.toList)) := h2; clear h2))
        go_roundw
        case rel =>
          refine ⟨j + 1, by go_num, by omega, ?_⟩
          rw [HNX.out, ← HSD.out]
          exact HB5.out
        case measure => simp [intOf]; omega
      · have hl : decide ((j : Int) < (h.used : Int)) = false := decide_eq_false (by omega)
        obtain rfl : j = h.used := by omega
        have HST : Hid (Calls Tryd.prog 50 #[.pointer (some ⟨b, 0, none⟩)] wr fun e w' => e = .returned (.string (bs TT)) ∧ Only [] w w') := by
          have := bstring_any wb wr b _ hB (by
            intro e
            have := congrArg List.length e
            rw [concatS_len, List.length_take, List.length_drop] at this
            have h0 := HU0.out
            simp at this
            omega)
          rw [HTT.out] at this
          exact this.mono fun e w' q => ⟨q.1, HO0.out.trans q.2 (fun _ h => by cases h)⟩
        clear hB
        go_wp2_with (first
          | (go_at_call 50; refine HST.out.mono ?_; rintro e w1 ⟨rfl, h1⟩; have HO1 : Hid (Only [] w w1) := h1; clear h1)
          | (go_at_call 49; refine (HRB.out w1 HO1.out).mono ?_; rintro e w2 ⟨v, b, rfl, h2⟩; have HR : Hid (BlksR w w2 TT (.returned (.tuple #[v, .bool b]))) := h2; clear h2))
        go_ret2
        exact HR.out
end
end Go.Proofs.YtlcloahkeamdkaaDoor
