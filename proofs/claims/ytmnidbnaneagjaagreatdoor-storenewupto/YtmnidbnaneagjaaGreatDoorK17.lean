import Derived.Shelf.SlSortCmp.QuietGrown
import Derived.Test.YtmnidbnaneagjaaGreatDoorK16
set_option maxRecDepth 100000
set_option maxHeartbeats 8000000
namespace Go.Proofs.YtmnidbnaneagjaaGreatDoor
section
open Go Go.RowKit Go.Deep
structure OnlyBy (w0:World) where
 w:World
 ho:Only [] w0 w
theorem wp_region_quiet_only {P:Program}{id:Nat}{Q:Exit→Act→World→Prop}{a:Act}{w0 w:World}{l:List Oper}(hO:Only [] w0 w)(hm:P.follows .mixedOrders=true)(hB:Region.lexB .any l.toArray=true)
  (h:wpQuiet P l.toArray (fun w'=>∃ p:OnlyBy w0,w'=p.w) (fun a'=>∀ w',(∃ p:OnlyBy w0,w'=p.w)→Q .normal a' w') l a):(Code.region id l.toArray true).wp P Q a w :=
 wp_region_quiet (C:=fun w'=>∃ p:OnlyBy w0,w'=p.w) hm hB ⟨⟨w.drew,hO.drew⟩,rfl⟩ (by simpa using h)
theorem Calls.only_of {P:Program}{f:FuncId}{args:Array Value}{w0:World}{p:OnlyBy w0}{v:Value}(h:Calls P f args p.w fun e w'=>e = .returned v∧Only [] p.w w'):Calls P f args p.w fun e w''=>e = .returned v∧∃ q:OnlyBy w0,w''=q.w :=
 h.mono fun _ w'' ⟨he,ho⟩=>⟨he,⟨w'',p.ho.trans ho (fun _ hk=>by cases hk)⟩,rfl⟩
end
section
open Go Go.RowKit Go.Deep Go.Maps
theorem infoInt6:(Tryz.prog.info? 3).map (fun i=>(i.zero,i.size))=some (some (.int .i64 0),1):=by kernel_rfl
theorem zeroInt6 (w:World):(zeroValue 3).run Tryz.prog w = .ok (.int .i64 0) w:=(zero_of_info infoInt6).1 w
theorem fieldLinks (W:World)(a b c d e f:Value):(Instr.field 293 (.agg #[a,b,c,d,e,f]) 2).run Tryz.prog W = .ok c W:=by
 unfold Instr.field;simp [run_underlying Tryz.underlying293,part,asAgg,isAgg,run_underlying Tryz.underlying3,go_sem]
section
variable (w:World)(tr:Nat)(T:Tr)(a:Nat)(d:DirM)(s:ByteArray)
theorem room_free (h:TreeAt w tr T)(hd:T.ds a=some d)(hs:s.size≤1000)(hf:findE d.l s.data.toList=none)(hl:d.l.length < 60):
  Calls Tryz.prog 267 #[.pointer (some ⟨tr,0,none⟩),.agg #[.int .i64 a,.int .i64 (T.g a:Nat)],.string s] w fun r w'=>r = .returned .nilIface∧Only [] w w':=by
 have hal:=h.dlt a d hd;have ct:=h.c1;have htl:tr < w.heap.size:=lt_of_cell ct;have hT1:TreeAt ((w.alloc (.cells #[.int .i64 a,.int .i64 (T.g a:Nat)] 94)).drew) tr T:=h.only ((Only.refl [] w).alloc _).drew;have hT2:TreeAt (((w.alloc (.cells #[.int .i64 a,.int .i64 (T.g a:Nat)] 94)).alloc (.cells #[.int .i64 0,.int .i64 0] 94)).drew) tr T:=h.only (((Only.refl [] w).alloc _).alloc _).drew;have l1:=look_dir hT1 hal hd;have l2:=look_dir hT2 hal hd;obtain ⟨v1,n1,hv1⟩:=look_name (hT1.dir a d hd) s hs;obtain ⟨v2,n2,hv2⟩:=look_name (hT2.dir a d hd) s hs;rw [hf] at n1 n2 hv1 hv2;subst hv1 hv2;unfold handV at n1 n2;simp only [Option.isSome_none] at n1 n2;have l3:=look_dir (hT2.only (Only.refl [] _).drew) hal hd;have l4:=len_dir ((hT2.only (Only.refl [] _).drew).dir a d hd) 3;clear hT1 hT2 h hf
 go_enter Tryz.func267,Tryz.ntmps267
 go_wp2
 go_region
 all_goals go_wp2
 all_goals go_region
 all_goals go_wp2
 all_goals go_ret
 all_goals exact ⟨rfl,by first | exact (((Only.refl [] w).alloc _).alloc _).drew | exact ((((Only.refl [] w).alloc _).alloc _).drew).drew⟩
end
end
end Go.Proofs.YtmnidbnaneagjaaGreatDoor
