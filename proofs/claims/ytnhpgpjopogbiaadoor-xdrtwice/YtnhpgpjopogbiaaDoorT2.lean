/- What was written is read: the reader's calls, each at the bytes that the writer's call wrote. -/
import Derived.Test.YtnhpgpjopogbiaaDoorT0
namespace Go.Proofs.YtnhpgpjopogbiaaDoor
open Go Go.RowKit Go.Deep

theorem encInt_some {n : Int} {y : ByteArray} (h : encInt n = some y) : 0 ≤ n ∧ n ≤ 4294967295 ∧ y = bs (be 4 n.toNat) := by
  unfold encInt at h
  by_cases hn : 0 ≤ n ∧ n ≤ 4294967295
  · rw [if_pos hn] at h; exact ⟨hn.1, hn.2, (Option.some.inj h).symm⟩
  · rw [if_neg hn] at h; cases h
theorem encLong_some {n : Int} {y : ByteArray} (h : encLong n = some y) : 0 ≤ n ∧ y = bs (be 8 n.toNat) := by
  unfold encLong at h
  by_cases hn : 0 ≤ n
  · rw [if_pos hn] at h; exact ⟨hn, (Option.some.inj h).symm⟩
  · rw [if_neg hn] at h; cases h

theorem back_int (b : Nat) (t y : ByteArray) (n : Int) (rest : List UInt8) (w : World) (hc : w.cell? ⟨b, 0, none⟩ = some (.string t)) (hf : w.frozen? ⟨b, 0, none⟩ = false) (ht : t.size ≤ 4000) (hy : encInt n = some y) (hd : t.data.toList = y.data.toList ++ rest) :
    Calls Tryd.prog 23 #[.pointer (some ⟨b, 0, none⟩)] w fun e w' => e = .returned (.tuple #[.int .i64 n, .nilIface]) ∧ ∃ t2 : ByteArray, t2.data.toList = rest ∧ w.setCell ⟨b, 0, none⟩ (.string t2) = w' := by
  obtain ⟨h0, h1, rfl⟩ := encInt_some hy
  rw [bs_data] at hd
  obtain ⟨a, c, d⟩ := read_num t 4 n.toNat rest hd (by have : (256 : Nat) ^ 4 = 4294967296 := by decide
                                                       omega)
  have := rInt_ok b t w hc hf a (by omega)
  rw [c, Int.toNat_of_nonneg h0] at this
  exact this.mono fun e w' ⟨p, q⟩ => ⟨p, _, d, q⟩
theorem back_long (b : Nat) (t y : ByteArray) (n : Int) (rest : List UInt8) (w : World) (hc : w.cell? ⟨b, 0, none⟩ = some (.string t)) (hf : w.frozen? ⟨b, 0, none⟩ = false) (ht : t.size ≤ 4000) (hn : n < 9223372036854775808) (hy : encLong n = some y) (hd : t.data.toList = y.data.toList ++ rest) :
    Calls Tryd.prog 24 #[.pointer (some ⟨b, 0, none⟩)] w fun e w' => e = .returned (.tuple #[.int .i64 n, .nilIface]) ∧ ∃ t2 : ByteArray, t2.data.toList = rest ∧ w.setCell ⟨b, 0, none⟩ (.string t2) = w' := by
  obtain ⟨h0, rfl⟩ := encLong_some hy
  rw [bs_data] at hd
  obtain ⟨a, c, d⟩ := read_num t 8 n.toNat rest hd (by have : (256 : Nat) ^ 8 = 18446744073709551616 := by decide
                                                       omega)
  have := rLong_ok b t w hc hf a (by omega) (by omega)
  rw [c, Int.toNat_of_nonneg h0] at this
  exact this.mono fun e w' ⟨p, q⟩ => ⟨p, _, d, q⟩
theorem back_bool (b : Nat) (t : ByteArray) (x : Bool) (rest : List UInt8) (w : World) (hc : w.cell? ⟨b, 0, none⟩ = some (.string t)) (hf : w.frozen? ⟨b, 0, none⟩ = false) (ht : t.size ≤ 4000) (hd : t.data.toList = (encBool x).data.toList ++ rest) :
    Calls Tryd.prog 25 #[.pointer (some ⟨b, 0, none⟩)] w fun e w' => e = .returned (.tuple #[.bool x, .nilIface]) ∧ ∃ t2 : ByteArray, t2.data.toList = rest ∧ w.setCell ⟨b, 0, none⟩ (.string t2) = w' := by
  rw [encBool, bs_data] at hd
  have hx : x.toNat ≤ 1 := by cases x <;> decide
  obtain ⟨a, c, d⟩ := read_num t 4 x.toNat rest hd (by have : (256 : Nat) ^ 4 = 4294967296 := by decide
                                                       omega)
  have := rBool_ok b t w hc hf a (by omega) (by omega)
  rw [c, show (((x.toNat : Nat) : Int) == 1) = x by cases x <;> rfl] at this
  exact this.mono fun e w' ⟨p, q⟩ => ⟨p, _, d, q⟩
theorem back_bytes (b : Nat) (t s : ByteArray) (rest : List UInt8) (w : World) (hc : w.cell? ⟨b, 0, none⟩ = some (.string t)) (hf : w.frozen? ⟨b, 0, none⟩ = false) (ht : t.size ≤ 4000) (hs : s.size ≤ 5000) (hd : t.data.toList = (itemS s).data.toList ++ rest) :
    Calls Tryd.prog 26 #[.pointer (some ⟨b, 0, none⟩), .int .i64 4000] w fun e w' => e = .returned (.tuple #[.string s, .nilIface]) ∧ ∃ t2 : ByteArray, t2.data.toList = rest ∧ w.setCell ⟨b, 0, none⟩ (.string t2) = w' := by
  obtain ⟨a, c, d, f, g, h⟩ := read_item t s rest hd hs
  have := rBytes_ok b t 4000 w hc hf a (by omega) (by rw [c]; omega) (by rw [c]; exact d) (by rw [c]; exact f)
  rw [c, g] at this
  exact this.mono fun e w' ⟨p, q⟩ => ⟨p, _, h, q⟩
end Go.Proofs.YtnhpgpjopogbiaaDoor
