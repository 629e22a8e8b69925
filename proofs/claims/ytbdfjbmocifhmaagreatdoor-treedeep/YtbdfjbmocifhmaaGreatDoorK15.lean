import Derived.Test.YtbdfjbmocifhmaaGreatDoorK12
set_option maxRecDepth 100000
set_option maxHeartbeats 8000000
namespace Go.Proofs.YtbdfjbmocifhmaaGreatDoor
section
open Go Go.RowKit Go.Deep Go.Maps
section
variable (w:World)(tr:Nat)(T:Tr)(a:Nat)(d:DirM)(s:ByteArray)
theorem room_exist (E:Value)(e:Ent)(h:TreeAt w tr T)(hd:T.ds a=some d)(hs:s.size≤1000)(hE:w.cell? ⟨8,0,none⟩=some E)(hf:findE d.l s.data.toList=some e):
  Calls Tryz.prog 68 #[.pointer (some ⟨tr,0,none⟩),.agg #[.int .i64 a,.int .i64 (T.g a:Nat)],.string s] w fun r w'=>r = .returned E∧Only [] w w':=by
 have hal:=h.dlt a d hd;have ct:=h.c1;have htl:tr < w.heap.size:=lt_of_cell ct;have hT1:TreeAt ((w.alloc (.cells #[.int .i64 a,.int .i64 (T.g a:Nat)] 34)).drew) tr T:=h.only ((Only.refl [] w).alloc _).drew;have hT2:TreeAt (((w.alloc (.cells #[.int .i64 a,.int .i64 (T.g a:Nat)] 34)).alloc (.cells #[.int .i64 0,.int .i64 0] 34)).drew) tr T:=h.only (((Only.refl [] w).alloc _).alloc _).drew;have l1:=look_dir hT1 hal hd;have l2:=look_dir hT2 hal hd;obtain ⟨v1,n1,hv1⟩:=look_name (hT1.dir a d hd) s hs;obtain ⟨v2,n2,hv2⟩:=look_name (hT2.dir a d hd) s hs;rw [hf] at n1 n2 hv1 hv2;subst hv1 hv2;unfold handV at n1 n2;simp only [Option.isSome_some] at n1 n2;have hEl:8 < w.heap.size:=lt_of_cell hE;clear hT1 hT2 h hf
 go_enter Tryz.func68,Tryz.ntmps68
 go_wp2
 go_region
 all_goals go_wp2
 all_goals go_ret
 all_goals exact ⟨rfl,by first | exact (((Only.refl [] w).alloc _).alloc _).drew | exact ((((Only.refl [] w).alloc _).alloc _).drew).drew⟩
theorem room_free (h:TreeAt w tr T)(hd:T.ds a=some d)(hs:s.size≤1000)(hf:findE d.l s.data.toList=none)(hl:d.l.length < 60):
  Calls Tryz.prog 68 #[.pointer (some ⟨tr,0,none⟩),.agg #[.int .i64 a,.int .i64 (T.g a:Nat)],.string s] w fun r w'=>r = .returned .nilIface∧Only [] w w':=by
 have hal:=h.dlt a d hd;have ct:=h.c1;have htl:tr < w.heap.size:=lt_of_cell ct;have hT1:TreeAt ((w.alloc (.cells #[.int .i64 a,.int .i64 (T.g a:Nat)] 34)).drew) tr T:=h.only ((Only.refl [] w).alloc _).drew;have hT2:TreeAt (((w.alloc (.cells #[.int .i64 a,.int .i64 (T.g a:Nat)] 34)).alloc (.cells #[.int .i64 0,.int .i64 0] 34)).drew) tr T:=h.only (((Only.refl [] w).alloc _).alloc _).drew;have l1:=look_dir hT1 hal hd;have l2:=look_dir hT2 hal hd;obtain ⟨v1,n1,hv1⟩:=look_name (hT1.dir a d hd) s hs;obtain ⟨v2,n2,hv2⟩:=look_name (hT2.dir a d hd) s hs;rw [hf] at n1 n2 hv1 hv2;subst hv1 hv2;unfold handV at n1 n2;simp only [Option.isSome_none] at n1 n2;have l3:=look_dir (hT2.only (Only.refl [] _).drew) hal hd;have l4:=len_dir ((hT2.only (Only.refl [] _).drew).dir a d hd) 3;clear hT1 hT2 h hf
 go_enter Tryz.func68,Tryz.ntmps68
 go_wp2
 go_region
 all_goals go_wp2
 all_goals go_region
 all_goals go_wp2
 all_goals go_ret
 all_goals exact ⟨rfl,by first | exact (((Only.refl [] w).alloc _).alloc _).drew | exact ((((Only.refl [] w).alloc _).alloc _).drew).drew⟩
theorem room_full (E:Value)(h:TreeAt w tr T)(hd:T.ds a=some d)(hs:s.size≤1000)(hE:w.cell? ⟨4,0,none⟩=some E)(hf:findE d.l s.data.toList=none)(hl:60≤d.l.length)(hl2:d.l.length≤1000):
  Calls Tryz.prog 68 #[.pointer (some ⟨tr,0,none⟩),.agg #[.int .i64 a,.int .i64 (T.g a:Nat)],.string s] w fun r w'=>r = .returned E∧Only [] w w':=by
 have hal:=h.dlt a d hd;have ct:=h.c1;have htl:tr < w.heap.size:=lt_of_cell ct;have hT1:TreeAt ((w.alloc (.cells #[.int .i64 a,.int .i64 (T.g a:Nat)] 34)).drew) tr T:=h.only ((Only.refl [] w).alloc _).drew;have hT2:TreeAt (((w.alloc (.cells #[.int .i64 a,.int .i64 (T.g a:Nat)] 34)).alloc (.cells #[.int .i64 0,.int .i64 0] 34)).drew) tr T:=h.only (((Only.refl [] w).alloc _).alloc _).drew;have l1:=look_dir hT1 hal hd;have l2:=look_dir hT2 hal hd;obtain ⟨v1,n1,hv1⟩:=look_name (hT1.dir a d hd) s hs;obtain ⟨v2,n2,hv2⟩:=look_name (hT2.dir a d hd) s hs;rw [hf] at n1 n2 hv1 hv2;subst hv1 hv2;unfold handV at n1 n2;simp only [Option.isSome_none] at n1 n2;have l3:=look_dir (hT2.only (Only.refl [] _).drew) hal hd;have l4:=len_dir ((hT2.only (Only.refl [] _).drew).dir a d hd) 3;have hEl:4 < w.heap.size:=lt_of_cell hE;clear hT1 hT2 h hf
 go_enter Tryz.func68,Tryz.ntmps68
 go_wp2
 go_region
 all_goals go_wp2
 all_goals go_region
 all_goals go_wp2
 all_goals go_ret
 all_goals exact ⟨rfl,by first | exact (((Only.refl [] w).alloc _).alloc _).drew | exact ((((Only.refl [] w).alloc _).alloc _).drew).drew⟩
end
end
end Go.Proofs.YtbdfjbmocifhmaaGreatDoor
