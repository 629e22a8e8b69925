import Derived.Test.YtodldddakjmonaaGreatDoorK11
import Derived.Deep.CutBlock
namespace Go.Proofs.YtodldddakjmonaaGreatDoor
section
open Go Go.RowKit Go.Deep Go.Maps
theorem look_name0 {w:World}{d:DirM}(h:DirAt w d)(s:ByteArray)(hs:s.size≤1000){e:Ent}(he:findE d.l s.data.toList=some e):(Instr.lookup 268 (.map (some d.b)) (.string s) false).run Tryz.prog w = .ok (.agg #[.int .i64 (e.i:Nat),.int .i64 (e.c:Nat)]) w:=by
 obtain ⟨v,ps,hr,hv⟩:=World.ownsMap.lookup h lawS undNames (zeroHand _) (zd:=entV 0 0) (zp:=[]) rfl (WideMaps.keyOf_string_mk Tryz.underlying9 (s:=s) (by unfold maxLen;omega));rw [at_entD,he] at hv;rw [hr,handElem_inv hv];rfl
theorem only_nilT {a b c:World}(h:Only [] a b)(k:Only [] b c):Only [] a c:=h.trans k (fun _ hk=>by cases hk)
end
end Go.Proofs.YtodldddakjmonaaGreatDoor
