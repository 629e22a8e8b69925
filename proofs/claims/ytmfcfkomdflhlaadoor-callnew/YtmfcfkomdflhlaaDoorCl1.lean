/- Calls: a request on the wire, and read from it: Encode, Decode by their contracts. -/
import Derived.Test.YtmfcfkomdflhlaaDoorT0
import Derived.Test.YtmfcfkomdflhlaaDoorB2
import Derived.Test.YtmfcfkomdflhlaaDoorE3
import Derived.Test.YtmfcfkomdflhlaaDoorO1
namespace Go.Proofs.YtmfcfkomdflhlaaDoor
open Go Go.RowKit Go.Deep

abbrev erV (A : Nat → Addr) (k : Nat) : Value := .iface 171 (.pointer (some (A k)))
/-- A request as a text. -/
def reqS (n : Nat) (s : ByteArray) : ByteArray := (⟨#[]⟩ : ByteArray) ++ bs (be 8 n) ++ itemS s
theorem only_below {w W W' : World} (hb : Below w.heap.size w W) (ho : Only [] W W') : Below w.heap.size w W' := hb.trans (ho.to_below hb.size (fun k hk => by cases hk))
theorem empty_size : (⟨#[]⟩ : ByteArray).size = 0 := rfl
theorem reqS_size (n : Nat) (s : ByteArray) : (reqS n s).size = 12 + s.size + fillN s.size := by
  unfold reqS
  rw [ByteArray.size_append, ByteArray.size_append, itemS_size, be_size, empty_size]
  omega
theorem reqS_data (n : Nat) (s : ByteArray) : (reqS n s).data.toList = be 8 n ++ ((itemS s).data.toList ++ []) := by
  unfold reqS
  simp [ByteArray.data_append, bs]
/-- A text that is a request, its number, its text. -/
def reqX (s : ByteArray) : ByteArray := (cutAt s 8).extract 4 (4 + numAt (cutAt s 8) 4)
def reqR (s : ByteArray) : ByteArray := cutAt (cutAt s 8) (4 + numAt (cutAt s 8) 4 + fillN (numAt (cutAt s 8) 4))
def ReqOk (s : ByteArray) : Prop := 8 ≤ s.size ∧ numAt s 8 ≤ 9223372036854775807 ∧ ItemOk (cutAt s 8) 4000 ∧ (reqR s).size = 0
theorem size_of_nil {t : ByteArray} (h : t.data.toList = []) : t.size = 0 := by
  rw [← data_length, h]
  rfl
theorem req_back (n : Nat) (s : ByteArray) (hn : n < 9223372036854775808) (hs : s.size ≤ 4000) : ReqOk (reqS n s) ∧ numAt (reqS n s) 8 = n ∧ reqX (reqS n s) = s := by
  obtain ⟨h1, h2, h3⟩ := read_num (reqS n s) 8 n _ (reqS_data n s) (by omega)
  obtain ⟨k1, k2, k3, k4, k5, k6⟩ := read_item (cutAt (reqS n s) 8) s [] h3 (by omega)
  refine ⟨⟨h1, by omega, ⟨k1, by rw [k2]; omega, by rw [k2]; exact k3, by rw [k2]; exact k4⟩, ?_⟩, h2, ?_⟩
  · unfold reqR
    rw [k2]
    exact size_of_nil k6
  · unfold reqX
    rw [k2]
    exact k5
/-! ### Encode -/
/-- What lies in memory once a request is being written. -/
abbrev encW (w : World) (id : Int) (s : ByteArray) : World := (w.alloc (.cells #[.int .i64 id, .string s] 40)).alloc (.cells #[.string ⟨#[]⟩] 60)
theorem encW_below (w : World) (id : Int) (s : ByteArray) : Below w.heap.size w (encW w id s) := ((Below.refl _ _).alloc (Nat.le_refl _) _).alloc (by simp) _
theorem encode_neg (A : Nat → Addr) (id : Int) (s : ByteArray) (w : World) (hE : Errs w A) (h : id < 0) :
    Calls Tryd.prog 10 #[.agg #[.int .i64 id, .string s]] w fun e w' => e = .returned (.tuple #[.string ⟨#[]⟩, erV A 1]) ∧ Below w.heap.size w w' := by
  have HB : Hid (Below w.heap.size w (encW w id s)) := encW_below w id s
  have ce : (encW w id s).cell? ⟨4, 0, none⟩ = some (erV A 1) := (hE.below (encW_below w id s) (Nat.le_refl _)).cell 1 (by decide)
  clear hE
  go_enter Tryd.func10, Tryd.ntmps10
  go_wp2_with (go_at_call 16; go_must (refine (long_bound _ id _ _ ce h).mono ?_); rintro e w1 ⟨rfl, rfl⟩)
  go_ret2
  exact ⟨rfl, HB.out⟩
theorem enc_cells {w w1 : World} {n : Nat} {s t : ByteArray} (hb : Below (encW w n s).heap.size ((encW w n s).setCell ⟨w.heap.size + 1, 0, none⟩ (.string t)) w1) :
    w1.cell? ⟨w.heap.size, 1, none⟩ = some (.string s) ∧ w1.cell? ⟨w.heap.size + 1, 0, none⟩ = some (.string t) ∧ w1.frozen? ⟨w.heap.size + 1, 0, none⟩ = false ∧ Below w.heap.size w w1 ∧ w.heap.size ≤ w1.heap.size := by
  have cu : (encW w n s).cell? ⟨w.heap.size + 1, 0, none⟩ = some (.string ⟨#[]⟩) := by simp
  refine ⟨?_, put_cell hb cu, ?_, (encW_below w n s).trans (put_below hb (Nat.le_succ _) (by simp; omega)), ?_⟩
  · rw [hb.cell (by simp; omega), World.cell?_setCell_other _ _ _ _ (by intro e; have := congrArg Addr.block e; simp at this)]
    simp
  · exact (put_frozen hb cu).trans (World.frozen?_alloc_at _ _ _ _ (by simp))
  · have := hb.size
    simp at this
    omega
theorem encode_long (A : Nat → Addr) (n : Nat) (s : ByteArray) (w : World) (hE : Errs w A) (hn : n < 9223372036854775808) (h : 4000 < s.size) :
    Calls Tryd.prog 10 #[.agg #[.int .i64 n, .string s]] w fun e w' => e = .returned (.tuple #[.string ⟨#[]⟩, erV A 8]) ∧ Below w.heap.size w w' := by
  have HE : Hid (Errs w A) := hE
  have hd : decide (4000 < s.size) = true := decide_eq_true h
  have cu : (encW w n s).cell? ⟨w.heap.size + 1, 0, none⟩ = some (.string ⟨#[]⟩) := by simp
  have cf : (encW w n s).frozen? ⟨w.heap.size + 1, 0, none⟩ = false := World.frozen?_alloc_at _ _ _ _ (by simp)
  clear hE
  go_enter Tryd.func10, Tryd.ntmps10
  go_wp2_with (go_at_call 16; go_must (refine (long_ok (w.heap.size + 1) ⟨#[]⟩ n _ cu cf (by decide) hn (by decide)).mono ?_); rintro e w1 ⟨rfl, hb⟩; obtain ⟨k1, k2, k3, k4, k5⟩ := enc_cells hb; clear hb; have ce : w1.cell? ⟨1, 0, none⟩ = some (erV A 8) := (HE.out.below k4 (Nat.le_refl _)).cell 8 (by decide); have HB : Hid (Below w.heap.size w w1) := k4; clear k4 k5)
  go_region
  all_goals
    go_wp2
    go_ret2
    exact ⟨rfl, HB.out.drew⟩
theorem encode_full (A : Nat → Addr) (n : Nat) (s : ByteArray) (w : World) (hE : Errs w A) (hn : n < 9223372036854775808) (h0 : s.size ≤ 4000) (h : 4000 < (reqS n s).size) :
    Calls Tryd.prog 10 #[.agg #[.int .i64 n, .string s]] w fun e w' => e = .returned (.tuple #[.string ⟨#[]⟩, erV A 8]) ∧ Below w.heap.size w w' := by
  have HE : Hid (Errs w A) := hE
  have hd : decide (4000 < s.size) = false := decide_eq_false (by omega)
  have cu : (encW w n s).cell? ⟨w.heap.size + 1, 0, none⟩ = some (.string ⟨#[]⟩) := by simp
  have cf : (encW w n s).frozen? ⟨w.heap.size + 1, 0, none⟩ = false := World.frozen?_alloc_at _ _ _ _ (by simp)
  have hz : ((⟨#[]⟩ : ByteArray) ++ bs (be 8 n)).size = 8 := by rw [ByteArray.size_append, be_size, empty_size]
  have hz2 : 4000 < (itemS s).size + ((⟨#[]⟩ : ByteArray) ++ bs (be 8 n)).size := by
    unfold reqS at h
    rw [ByteArray.size_append] at h
    omega
  have HZ : Hid _ := hz
  have HZ2 : Hid _ := hz2
  clear hE h hz hz2
  go_enter Tryd.func10, Tryd.ntmps10
  go_wp2_with (first
    | (go_at_call 16; refine (long_ok (w.heap.size + 1) ⟨#[]⟩ n _ cu cf (by decide) hn (by decide)).mono ?_; rintro e w1 ⟨rfl, hb⟩; obtain ⟨k1, k2, k3, k4, k5⟩ := enc_cells hb; clear hb; have ce : w1.cell? ⟨1, 0, none⟩ = some (erV A 8) := (HE.out.below k4 (Nat.le_refl _)).cell 8 (by decide); have HB : Hid (Below w.heap.size w w1) := k4; clear k4 k5)
    | (go_at_call 17; go_must (refine (bytes_full (w.heap.size + 1) _ s _ w1 k2 (by rw [HZ.out]; decide) ce (by omega) HZ2.out).mono ?_); rintro e w2 ⟨rfl, rfl⟩))
  go_ret2
  exact ⟨rfl, HB.out⟩
theorem encode_ok (A : Nat → Addr) (n : Nat) (s : ByteArray) (w : World) (_hE : Errs w A) (hn : n < 9223372036854775808) (h0 : s.size ≤ 4000) (h : (reqS n s).size ≤ 4000) :
    Calls Tryd.prog 10 #[.agg #[.int .i64 n, .string s]] w fun e w' => e = .returned (.tuple #[.string (reqS n s), .nilIface]) ∧ Below w.heap.size w w' := by
  have hd : decide (4000 < s.size) = false := decide_eq_false (by omega)
  have cu : (encW w n s).cell? ⟨w.heap.size + 1, 0, none⟩ = some (.string ⟨#[]⟩) := by simp
  have cf : (encW w n s).frozen? ⟨w.heap.size + 1, 0, none⟩ = false := World.frozen?_alloc_at _ _ _ _ (by simp)
  have hz : ((⟨#[]⟩ : ByteArray) ++ bs (be 8 n)).size = 8 := by rw [ByteArray.size_append, be_size, empty_size]
  have hz2 : (itemS s).size + ((⟨#[]⟩ : ByteArray) ++ bs (be 8 n)).size ≤ 4000 := by
    unfold reqS at h
    rw [ByteArray.size_append] at h
    omega
  have HZ : Hid _ := hz
  have HZ2 : Hid _ := hz2
  clear h hz hz2
  go_enter Tryd.func10, Tryd.ntmps10
  go_wp2_with (first
    | (go_at_call 16; refine (long_ok (w.heap.size + 1) ⟨#[]⟩ n _ cu cf (by decide) hn (by decide)).mono ?_; rintro e w1 ⟨rfl, hb⟩; obtain ⟨k1, k2, k3, k4, k5⟩ := enc_cells hb; have HL : Hid (w.heap.size ≤ w1.heap.size) := k5; clear k5; clear hb; have HB : Hid (Below w.heap.size w w1) := k4; clear k4)
    | (go_at_call 17; go_must (refine (bytes_ok (w.heap.size + 1) _ s w1 k2 k3 (by rw [HZ.out]; decide) (by omega) HZ2.out).mono ?_); rintro e w2 ⟨rfl, hb2⟩; have k5 := put_cell hb2 k2; have HB2 : Hid (Below w.heap.size w w2) := HB.out.trans (put_below hb2 (Nat.le_succ _) HL.out); clear hb2)
    | (go_at_call 18; go_must (refine (text_any (w.heap.size + 1) _ w2 k5).mono ?_); rintro e w3 ⟨rfl, rfl⟩))
  go_ret2
  exact ⟨rfl, HB2.out⟩
end Go.Proofs.YtmfcfkomdflhlaaDoor
