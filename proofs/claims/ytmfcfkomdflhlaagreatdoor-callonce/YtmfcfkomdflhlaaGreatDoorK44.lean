import Derived.Test.YtmfcfkomdflhlaaGreatDoorK34
namespace Go.Proofs.YtmfcfkomdflhlaaGreatDoor
section
open Go Go.RowKit Go.Deep
theorem asks_text:reqS 1 ⟨#[97,98]⟩=⟨#[0,0,0,0,0,0,0,1,0,0,0,2,97,98,0,0]⟩:=by
 apply data_inj;rw [reqS_data,itemS_data];decide
theorem asks_any (A:Nat→Addr)(w:World)(hE:Errs w A):Calls Tryz.prog 4 #[] w fun e w'=>e = .returned (.bool true)∧Below w.heap.size w w':=by
 have H:Hid (Calls Tryz.prog 18 #[.agg #[.int .i64 1,.string ⟨#[97,98]⟩]] w fun e w'=>e = .returned (.tuple #[.string ⟨#[0,0,0,0,0,0,0,1,0,0,0,2,97,98,0,0]⟩,.nilIface])∧Below w.heap.size w w'):=by
  rw [← asks_text];exact encode_ok A 1 ⟨#[97,98]⟩ w hE (by decide) (by decide) (by rw [asks_text];decide)
 clear hE
 go_enter Tryz.func4,Tryz.ntmps4
 go_wp2_with (go_at_call 18;go_must (refine H.out.mono ?_);rintro e w1 ⟨rfl,hb1⟩)
 go_ret
 exact ⟨rfl,hb1⟩
end
end Go.Proofs.YtmfcfkomdflhlaaGreatDoor
