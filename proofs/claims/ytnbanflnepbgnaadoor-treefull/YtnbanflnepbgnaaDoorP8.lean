/- The tree: the first of some errors; room for an entry. -/
import Derived.Test.YtnbanflnepbgnaaDoorP7
/- The tree: the first of some errors; room for an entry. -/
namespace Go.Proofs.YtnbanflnepbgnaaDoor
open Go Go.RowKit Go.Deep Go.Maps

/-- The first that is an error. -/
def firstV : List (Option Addr) → Option Addr
  | [] => none
  | some a :: _ => some a
  | none :: r => firstV r
def errO : Option Addr → Value
  | none => .nilIface
  | some a => errV a
theorem firstV_drop {l : List (Option Addr)} (j : Nat) (h : ∀ q, q < j → l[q]? = some none) : firstV l = firstV (l.drop j) := by
  induction j generalizing l with
  | zero => rfl
  | succ j ih =>
    cases l with
    | nil => rfl
    | cons x r =>
      have h0 := h 0 (by omega)
      simp at h0
      subst h0
      exact ih (fun q hq => by have := h (q + 1) (by omega); simpa using this)
set_option maxHeartbeats 1000000 in
theorem firstOf_any (w : World) (B len cap : Nat) (l : List (Option Addr)) (hl : l.length = len) (hlen : len ≤ 10) (hc : ∀ j o, l[j]? = some o → w.cell? ⟨B, j, none⟩ = some (errO o)) :
    Calls Tryd.prog 16 #[.slice (some ⟨B, 0, none⟩) len cap] w fun e w' => e = .returned (errO (firstV l)) ∧ w = w' := by
  have HC : Hid (∀ j o, l[j]? = some o → w.cell? ⟨B, j, none⟩ = some (errO o)) := hc
  clear hc
  go_enter Tryd.func16, Tryd.ntmps16
  go_wp2
  go_loopw [4, 7] (fun _ k wr => ∃ j : Nat, k = .int .i64 j ∧ j ≤ len ∧ (∀ q, q < j → l[q]? = some none) ∧ w = wr) (fun _ k _ => len - (intOf k).toNat)
  case atStart => exact ⟨0, rfl, Nat.zero_le _, (fun q hq => by omega), rfl⟩
  case round =>
    obtain ⟨j, rfl, hj, hall, rfl⟩ := hrel
    have HA : Hid (∀ q, q < j → l[q]? = some none) := hall
    clear hall
    by_cases hlt : j < len
    · obtain ⟨o, ho⟩ : ∃ o, l[j]? = some o := ⟨_, List.getElem?_eq_getElem (by omega)⟩
      have c0 := HC.out j o ho
      have HO : Hid (l[j]? = some o) := ho
      clear ho
      cases o with
      | none =>
        unfold errO at c0
        go_wp2
        go_roundw
        case rel => exact ⟨j + 1, by go_num, by omega, (fun q hq => by
                      rcases Nat.lt_or_ge q j with h1 | h1
                      · exact HA.out q h1
                      · obtain rfl : q = j := by omega
                        exact HO.out), trivial⟩
        case measure => simp [intOf]; omega
      | some a =>
        have hf : Hid (firstV l = some a) := show firstV l = some a from by
          have hd : l.drop j = some a :: l.drop (j + 1) := by
            have hjl : j < l.length := by omega
            rw [List.drop_eq_getElem_cons hjl]
            have := HO.out
            rw [List.getElem?_eq_getElem hjl] at this
            rw [Option.some.inj this]
          rw [firstV_drop j HA.out, hd]
          rfl
        unfold errO errV at c0
        go_wp2
        go_ret
        exact ⟨by rw [hf.out]; rfl, rfl⟩
    · obtain rfl : j = len := by omega
      have hf : Hid (firstV l = none) := show firstV l = none from by
        rw [firstV_drop j HA.out, List.drop_eq_nil_of_le (by omega)]
        rfl
      go_wp2
      go_ret
      exact ⟨by rw [hf.out]; rfl, rfl⟩
/-- Looking a name up. -/
theorem look_name {w : World} {d : DirM} (h : DirAt w d) (s : ByteArray) (hs : s.size ≤ 1000) : ∃ v, (Instr.lookup 53 (.map (some d.b)) (.string s) true).run Tryd.prog w = .ok (.tuple #[v, .bool (findE d.l s.data.toList).isSome]) w ∧ v = (match findE d.l s.data.toList with | some e => handV e.i e.c | none => handV 0 0) := by
  obtain ⟨v, ps, hr, hv⟩ := World.ownsMap.look_ok h lawS undNames (zeroHand _) (zd := entV 0 0) (zp := []) rfl (WideMaps.keyOf_string_mk Tryd.underlying9 (s := s) (by unfold maxLen; omega))
  rw [has_entD] at hr
  rw [at_entD] at hv
  refine ⟨v, hr, ?_⟩
  cases hf : findE d.l s.data.toList with
  | none => rw [hf] at hv; exact handElem_inv hv
  | some e => rw [hf] at hv; exact handElem_inv hv
end Go.Proofs.YtnbanflnepbgnaaDoor
/- The tree: is there room for an entry? -/
namespace Go.Proofs.YtnbanflnepbgnaaDoor
open Go Go.RowKit Go.Deep Go.Maps

section
variable (w : World) (tr : Nat) (T : Tr) (a : Nat) (d : DirM) (s : ByteArray)
set_option maxRecDepth 100000 in
set_option maxHeartbeats 1000000 in
theorem room_exist (E : Value) (e : Ent) (h : TreeAt w tr T) (hd : T.ds a = some d) (hs : s.size ≤ 1000) (hE : w.cell? ⟨7, 0, none⟩ = some E) (hf : findE d.l s.data.toList = some e) :
    Calls Tryd.prog 19 #[.pointer (some ⟨tr, 0, none⟩), .agg #[.int .i64 a, .int .i64 (T.g a : Nat)], .string s] w fun r w' => r = .returned E ∧ Only [] w w' := by
  have hal := h.dlt a d hd
  have ct := h.c1
  have htl : tr < w.heap.size := lt_of_cell ct
  have hT1 : TreeAt ((w.alloc (.cells #[.int .i64 a, .int .i64 (T.g a : Nat)] 29)).drew) tr T := h.only ((Only.refl [] w).alloc _).drew
  have hT2 : TreeAt (((w.alloc (.cells #[.int .i64 a, .int .i64 (T.g a : Nat)] 29)).alloc (.cells #[.int .i64 0, .int .i64 0] 29)).drew) tr T := h.only (((Only.refl [] w).alloc _).alloc _).drew
  have l1 := look_dir hT1 hal hd
  have l2 := look_dir hT2 hal hd
  obtain ⟨v1, n1, hv1⟩ := look_name (hT1.dir a d hd) s hs
  obtain ⟨v2, n2, hv2⟩ := look_name (hT2.dir a d hd) s hs
  rw [hf] at n1 n2 hv1 hv2
  subst hv1 hv2
  unfold handV at n1 n2
  simp only [Option.isSome_some] at n1 n2
  have hEl : 7 < w.heap.size := lt_of_cell hE
  clear hT1 hT2 h hf
  go_enter Tryd.func19, Tryd.ntmps19
  go_wp2
  go_region
  all_goals go_wp2
  all_goals go_ret
  all_goals exact ⟨rfl, by first | exact (((Only.refl [] w).alloc _).alloc _).drew | exact ((((Only.refl [] w).alloc _).alloc _).drew).drew⟩
set_option maxRecDepth 100000 in
set_option maxHeartbeats 1000000 in
theorem room_free (h : TreeAt w tr T) (hd : T.ds a = some d) (hs : s.size ≤ 1000) (hf : findE d.l s.data.toList = none) (hl : d.l.length < 60) :
    Calls Tryd.prog 19 #[.pointer (some ⟨tr, 0, none⟩), .agg #[.int .i64 a, .int .i64 (T.g a : Nat)], .string s] w fun r w' => r = .returned .nilIface ∧ Only [] w w' := by
  have hal := h.dlt a d hd
  have ct := h.c1
  have htl : tr < w.heap.size := lt_of_cell ct
  have hT1 : TreeAt ((w.alloc (.cells #[.int .i64 a, .int .i64 (T.g a : Nat)] 29)).drew) tr T := h.only ((Only.refl [] w).alloc _).drew
  have hT2 : TreeAt (((w.alloc (.cells #[.int .i64 a, .int .i64 (T.g a : Nat)] 29)).alloc (.cells #[.int .i64 0, .int .i64 0] 29)).drew) tr T := h.only (((Only.refl [] w).alloc _).alloc _).drew
  have l1 := look_dir hT1 hal hd
  have l2 := look_dir hT2 hal hd
  obtain ⟨v1, n1, hv1⟩ := look_name (hT1.dir a d hd) s hs
  obtain ⟨v2, n2, hv2⟩ := look_name (hT2.dir a d hd) s hs
  rw [hf] at n1 n2 hv1 hv2
  subst hv1 hv2
  unfold handV at n1 n2
  simp only [Option.isSome_none] at n1 n2
  have l3 := look_dir (hT2.only (Only.refl [] _).drew) hal hd
  have l4 := len_dir ((hT2.only (Only.refl [] _).drew).dir a d hd) 3
  clear hT1 hT2 h hf
  go_enter Tryd.func19, Tryd.ntmps19
  go_wp2
  go_region
  all_goals go_wp2
  all_goals go_region
  all_goals go_wp2
  all_goals go_ret
  all_goals exact ⟨rfl, by first | exact (((Only.refl [] w).alloc _).alloc _).drew | exact ((((Only.refl [] w).alloc _).alloc _).drew).drew⟩
set_option maxRecDepth 100000 in
set_option maxHeartbeats 1000000 in
theorem room_full (E : Value) (h : TreeAt w tr T) (hd : T.ds a = some d) (hs : s.size ≤ 1000) (hE : w.cell? ⟨3, 0, none⟩ = some E) (hf : findE d.l s.data.toList = none) (hl : 60 ≤ d.l.length) (hl2 : d.l.length ≤ 1000) :
    Calls Tryd.prog 19 #[.pointer (some ⟨tr, 0, none⟩), .agg #[.int .i64 a, .int .i64 (T.g a : Nat)], .string s] w fun r w' => r = .returned E ∧ Only [] w w' := by
  have hal := h.dlt a d hd
  have ct := h.c1
  have htl : tr < w.heap.size := lt_of_cell ct
  have hT1 : TreeAt ((w.alloc (.cells #[.int .i64 a, .int .i64 (T.g a : Nat)] 29)).drew) tr T := h.only ((Only.refl [] w).alloc _).drew
  have hT2 : TreeAt (((w.alloc (.cells #[.int .i64 a, .int .i64 (T.g a : Nat)] 29)).alloc (.cells #[.int .i64 0, .int .i64 0] 29)).drew) tr T := h.only (((Only.refl [] w).alloc _).alloc _).drew
  have l1 := look_dir hT1 hal hd
  have l2 := look_dir hT2 hal hd
  obtain ⟨v1, n1, hv1⟩ := look_name (hT1.dir a d hd) s hs
  obtain ⟨v2, n2, hv2⟩ := look_name (hT2.dir a d hd) s hs
  rw [hf] at n1 n2 hv1 hv2
  subst hv1 hv2
  unfold handV at n1 n2
  simp only [Option.isSome_none] at n1 n2
  have l3 := look_dir (hT2.only (Only.refl [] _).drew) hal hd
  have l4 := len_dir ((hT2.only (Only.refl [] _).drew).dir a d hd) 3
  have hEl : 3 < w.heap.size := lt_of_cell hE
  clear hT1 hT2 h hf
  go_enter Tryd.func19, Tryd.ntmps19
  go_wp2
  go_region
  all_goals go_wp2
  all_goals go_region
  all_goals go_wp2
  all_goals go_ret
  all_goals exact ⟨rfl, by first | exact (((Only.refl [] w).alloc _).alloc _).drew | exact ((((Only.refl [] w).alloc _).alloc _).drew).drew⟩
end
end Go.Proofs.YtnbanflnepbgnaaDoor
