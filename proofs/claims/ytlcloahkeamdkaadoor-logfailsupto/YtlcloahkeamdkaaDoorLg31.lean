/- LogFails, whatever came in. -/
import Derived.Test.YtlcloahkeamdkaaDoorLg30
namespace Go.Proofs.YtlcloahkeamdkaaDoor
open Go Go.RowKit Go.Deep

theorem lfails_all (A : Nat → Addr) (w : World) (n : Int) (hn : n < 9223372036854775808) (ad : Option Addr) (len cap : Nat) (ka : Option Addr) (kn kc : Nat) (ad2 : Option Addr) (len2 cap2 : Nat) (hE : Errs w A) (hI : IsRecs w ad len) (hB : IsBools w ka kn kc) (hI2 : IsRecs w ad2 len2) :
    Calls Tryd.prog 4 #[.slice ad len cap, .int .i64 n, .slice ka kn kc, .slice ad2 len2 cap2] w fun e w' => e = .returned (.bool true) ∧ Below w.heap.size w w' := by
  obtain ⟨hl, L, rfl, hA⟩ := hI
  obtain ⟨hl2, L2, rfl, hA2⟩ := hI2
  obtain ⟨B, rfl, hB⟩ := hB
  by_cases hc : 500 < wordN L ∨ 500 < wordN L2 ∨ n < 0 ∨ 500 < B.length
  · exact lfails_short A w n ad cap L ka B.length kc ad2 cap2 L2 hE hA hl hA2 hl2 hc
  · obtain ⟨N, rfl⟩ : ∃ N : Nat, n = (N : Int) := ⟨n.toNat, by omega⟩
    exact lfails_main A w N (by omega) ad cap L ka kc B ad2 cap2 L2 hE hA hl hA2 hl2 hB (by omega) (by omega) (by omega)
theorem int_topL {n : Int} (h : (Lit.int .i64 n).wf = true) : n < 9223372036854775808 := by
  simp [Lit.wf, IntKind.min, IntKind.max, IntKind.signed, IntKind.bits] at h
  omega
end Go.Proofs.YtlcloahkeamdkaaDoor
