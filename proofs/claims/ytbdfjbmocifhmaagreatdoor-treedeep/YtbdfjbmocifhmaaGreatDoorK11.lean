import Derived.Test.YtbdfjbmocifhmaaGreatDoorK10
set_option maxHeartbeats 8000000
namespace Go.Proofs.YtbdfjbmocifhmaaGreatDoor
section
open Go Go.RowKit Go.Deep Go.Maps
theorem keepZ_only {w W:World}{tr t B:Nat}{N G:Int}(h:w.cell? ⟨tr,0,none⟩=some (.pointer (some ⟨t,0,none⟩))∧w.cell? ⟨B,0,none⟩=some (.int .i64 N)∧w.cell? ⟨B,1,none⟩=some (.int .i64 G))(ho:Only [] w W):W.cell? ⟨tr,0,none⟩=some (.pointer (some ⟨t,0,none⟩))∧W.cell? ⟨B,0,none⟩=some (.int .i64 N)∧W.cell? ⟨B,1,none⟩=some (.int .i64 G) :=
 ⟨(ho.cell (p:=⟨tr,0,none⟩) (lt_of_cell h.1) (by simp)).trans h.1,(ho.cell (p:=⟨B,0,none⟩) (lt_of_cell h.2.1) (by simp)).trans h.2.1,(ho.cell (p:=⟨B,1,none⟩) (lt_of_cell h.2.2) (by simp)).trans h.2.2⟩
theorem keepZ_alloc {W:World}{tr t B:Nat}{N G:Int}{o:Obj}(h:W.cell? ⟨tr,0,none⟩=some (.pointer (some ⟨t,0,none⟩))∧W.cell? ⟨B,0,none⟩=some (.int .i64 N)∧W.cell? ⟨B,1,none⟩=some (.int .i64 G)):(W.alloc o).cell? ⟨tr,0,none⟩=some (.pointer (some ⟨t,0,none⟩))∧(W.alloc o).cell? ⟨B,0,none⟩=some (.int .i64 N)∧(W.alloc o).cell? ⟨B,1,none⟩=some (.int .i64 G):=keepZ_only h ((Only.refl [] W).alloc _)
theorem keepZ_set {W:World}{tr t B blk o:Nat}{N G:Int}{u:Value}(h:W.cell? ⟨tr,0,none⟩=some (.pointer (some ⟨t,0,none⟩))∧W.cell? ⟨B,0,none⟩=some (.int .i64 N)∧W.cell? ⟨B,1,none⟩=some (.int .i64 G))(h1:tr≠blk)(h2:B≠blk):(W.setCell ⟨blk,o,none⟩ u).cell? ⟨tr,0,none⟩=some (.pointer (some ⟨t,0,none⟩))∧(W.setCell ⟨blk,o,none⟩ u).cell? ⟨B,0,none⟩=some (.int .i64 N)∧(W.setCell ⟨blk,o,none⟩ u).cell? ⟨B,1,none⟩=some (.int .i64 G):=by
 have ho:Only [blk] W (W.setCell ⟨blk,o,none⟩ u):=(Only.refl [blk] W).setCell (Or.inl (by simp)) _;exact ⟨(ho.cell (p:=⟨tr,0,none⟩) (lt_of_cell h.1) (by simpa using h1)).trans h.1,(ho.cell (p:=⟨B,0,none⟩) (lt_of_cell h.2.1) (by simpa using h2)).trans h.2.1,(ho.cell (p:=⟨B,1,none⟩) (lt_of_cell h.2.2) (by simpa using h2)).trans h.2.2⟩
section
variable (w:World)(tr t:Nat)(N G K Z L C UN UG:Int)
theorem checkDir_yes (ct:w.cell? ⟨tr,0,none⟩=some (.pointer (some ⟨t,0,none⟩)))
 (HC0:∀ w1,Only [] w w1→Calls Tryz.prog 80 #[.pointer (some ⟨t,0,none⟩),.agg #[.int .i64 N,.int .i64 G]] w1 fun e w'=>e = .returned (.tuple #[.agg #[.int .i64 2,.int .i64 Z,.int .i64 L,.int .i64 C,.int .i64 UN,.int .i64 UG],.nilIface])∧Only [] w1 w') :
 Calls Tryz.prog 66 #[.pointer (some ⟨tr,0,none⟩),.agg #[.int .i64 N,.int .i64 G]] w fun e w'=>e = .returned .nilIface∧Only [] w w':=by
 have htl:tr < w.heap.size:=lt_of_cell ct
 have H1:Hid ((w.alloc (.cells #[.int .i64 N,.int .i64 G] 34)).cell? ⟨tr,0,none⟩=some (.pointer (some ⟨t,0,none⟩))∧(w.alloc (.cells #[.int .i64 N,.int .i64 G] 34)).cell? ⟨w.heap.size,0,none⟩=some (.int .i64 N)∧(w.alloc (.cells #[.int .i64 N,.int .i64 G] 34)).cell? ⟨w.heap.size,1,none⟩=some (.int .i64 G)):=by
   have hh:=heap_alloc_last w (.cells #[.int .i64 N,.int .i64 G] 34);exact ⟨(((Only.refl [] w).alloc _).cell (p:=⟨tr,0,none⟩) (lt_of_cell ct) (by simp)).trans ct,cell_of_row _ _ 0 _ _ _ hh,cell_of_row _ _ 1 _ _ _ hh⟩
 have HW1:Hid (Only [] (w.alloc (.cells #[.int .i64 N,.int .i64 G] 34)) (w.alloc (.cells #[.int .i64 N,.int .i64 G] 34)).drew):=(Only.refl [] _).drew;have HW2:Hid (Only [] (w.alloc (.cells #[.int .i64 N,.int .i64 G] 34)) ((w.alloc (.cells #[.int .i64 N,.int .i64 G] 34)).alloc (.cells #[.int .i64 0,.int .i64 0,.int .i64 0,.int .i64 0,.int .i64 0,.int .i64 0] 111)).drew):=((Only.refl [] _).alloc _).drew;have HV1:Hid (Only [] w (w.alloc (.cells #[.int .i64 N,.int .i64 G] 34)).drew):=((Only.refl [] _).alloc _).drew;have HV2:Hid (Only [] w ((w.alloc (.cells #[.int .i64 N,.int .i64 G] 34)).alloc (.cells #[.int .i64 0,.int .i64 0,.int .i64 0,.int .i64 0,.int .i64 0,.int .i64 0] 111)).drew):=(((Only.refl [] _).alloc _).alloc _).drew;have K1:Hid ((w.alloc (.cells #[.int .i64 N,.int .i64 G] 34)).drew.cell? ⟨tr,0,none⟩=some (.pointer (some ⟨t,0,none⟩))∧(w.alloc (.cells #[.int .i64 N,.int .i64 G] 34)).drew.cell? ⟨w.heap.size,0,none⟩=some (.int .i64 N)∧(w.alloc (.cells #[.int .i64 N,.int .i64 G] 34)).drew.cell? ⟨w.heap.size,1,none⟩=some (.int .i64 G)):=keepZ_only H1.out HW1.out;have K2:Hid (((w.alloc (.cells #[.int .i64 N,.int .i64 G] 34)).alloc (.cells #[.int .i64 0,.int .i64 0,.int .i64 0,.int .i64 0,.int .i64 0,.int .i64 0] 111)).drew.cell? ⟨tr,0,none⟩=some (.pointer (some ⟨t,0,none⟩))∧((w.alloc (.cells #[.int .i64 N,.int .i64 G] 34)).alloc (.cells #[.int .i64 0,.int .i64 0,.int .i64 0,.int .i64 0,.int .i64 0,.int .i64 0] 111)).drew.cell? ⟨w.heap.size,0,none⟩=some (.int .i64 N)∧((w.alloc (.cells #[.int .i64 N,.int .i64 G] 34)).alloc (.cells #[.int .i64 0,.int .i64 0,.int .i64 0,.int .i64 0,.int .i64 0,.int .i64 0] 111)).drew.cell? ⟨w.heap.size,1,none⟩=some (.int .i64 G)):=keepZ_only H1.out HW2.out
 have HN2:Hid (tr≠w.heap.size+1):=show tr≠w.heap.size+1 from by omega
 have HB2:Hid (w.heap.size≠w.heap.size+1):=show w.heap.size≠w.heap.size+1 from by omega
 have HC:Hid (∀ w1,Only [] w w1→Calls Tryz.prog 80 #[.pointer (some ⟨t,0,none⟩),.agg #[.int .i64 N,.int .i64 G]] w1 fun e w'=>e = .returned (.tuple #[.agg #[.int .i64 2,.int .i64 Z,.int .i64 L,.int .i64 C,.int .i64 UN,.int .i64 UG],.nilIface])∧Only [] w1 w'):=HC0;clear HC0
 go_enter Tryz.func66,Tryz.ntmps66
 go_wp2
 go_region_held3 (fun W=>W.cell? ⟨tr,0,none⟩=some (.pointer (some ⟨t,0,none⟩))∧W.cell? ⟨w.heap.size,0,none⟩=some (.int .i64 N)∧W.cell? ⟨w.heap.size,1,none⟩=some (.int .i64 G))
   (with_reducible first
    | exact K1.out
    | exact K2.out
    | exact HS2.out
    | exact keepZ_alloc HS2.out
    | exact keepZ_set (keepZ_set (keepZ_set (keepZ_set (keepZ_set (keepZ_set (HS2.out) HN2.out HB2.out) HN2.out HB2.out) HN2.out HB2.out) HN2.out HB2.out) HN2.out HB2.out) HN2.out HB2.out)
   (first
    | (go_at_call 80;refine (HC.out _ HV1.out).mono ?_;rintro e w2 ⟨rfl,ho2⟩;have HO2:Hid (Only [] (w.alloc (.cells #[.int .i64 N,.int .i64 G] 34)) w2):=HW1.out.trans ho2 (fun _ hk=>by cases hk);have HS2:Hid (w2.cell? ⟨tr,0,none⟩=some (.pointer (some ⟨t,0,none⟩))∧w2.cell? ⟨w.heap.size,0,none⟩=some (.int .i64 N)∧w2.cell? ⟨w.heap.size,1,none⟩=some (.int .i64 G)):=keepZ_only H1.out HO2.out;clear ho2)
    | (go_at_call 80;refine (HC.out _ HV2.out).mono ?_;rintro e w2 ⟨rfl,ho2⟩;have HO2:Hid (Only [] (w.alloc (.cells #[.int .i64 N,.int .i64 G] 34)) w2):=HW2.out.trans ho2 (fun _ hk=>by cases hk);have HS2:Hid (w2.cell? ⟨tr,0,none⟩=some (.pointer (some ⟨t,0,none⟩))∧w2.cell? ⟨w.heap.size,0,none⟩=some (.int .i64 N)∧w2.cell? ⟨w.heap.size,1,none⟩=some (.int .i64 G)):=keepZ_only H1.out HO2.out;obtain ⟨q0,q1,q2,q3,q4,q5,f1,hl1⟩:=own_six_drew (B:=w.heap.size+1) ho2 (by simp);clear ho2))
 all_goals have HO:Hid (Only [] w w2):=((Only.refl [] w).alloc _).trans HO2.out (fun _ hk=>by cases hk)
 all_goals have hsz:w.heap.size+1≤w2.heap.size:=by have:=HO2.out.size;simpa using this
 all_goals go_wp2
 all_goals go_ret
 all_goals have hle:w.heap.size≤w.heap.size+1:=Nat.le_succ _
 · exact ⟨rfl,HO.out.alloc _⟩
 · exact ⟨rfl,HO.out.six hle⟩
theorem checkDir_file (E:Value)(hE:w.cell? ⟨9,0,none⟩=some E)(ct:w.cell? ⟨tr,0,none⟩=some (.pointer (some ⟨t,0,none⟩)))
 (HC0:∀ w1,Only [] w w1→Calls Tryz.prog 80 #[.pointer (some ⟨t,0,none⟩),.agg #[.int .i64 N,.int .i64 G]] w1 fun e w'=>e = .returned (.tuple #[.agg #[.int .i64 1,.int .i64 Z,.int .i64 L,.int .i64 C,.int .i64 UN,.int .i64 UG],.nilIface])∧Only [] w1 w') :
 Calls Tryz.prog 66 #[.pointer (some ⟨tr,0,none⟩),.agg #[.int .i64 N,.int .i64 G]] w fun e w'=>e = .returned E∧Only [] w w':=by
 have htl:tr < w.heap.size:=lt_of_cell ct;have hEl:9 < w.heap.size:=lt_of_cell hE;have HE:Hid (w.cell? ⟨9,0,none⟩=some E):=hE;clear hE
 have H1:Hid ((w.alloc (.cells #[.int .i64 N,.int .i64 G] 34)).cell? ⟨tr,0,none⟩=some (.pointer (some ⟨t,0,none⟩))∧(w.alloc (.cells #[.int .i64 N,.int .i64 G] 34)).cell? ⟨w.heap.size,0,none⟩=some (.int .i64 N)∧(w.alloc (.cells #[.int .i64 N,.int .i64 G] 34)).cell? ⟨w.heap.size,1,none⟩=some (.int .i64 G)):=by
   have hh:=heap_alloc_last w (.cells #[.int .i64 N,.int .i64 G] 34);exact ⟨(((Only.refl [] w).alloc _).cell (p:=⟨tr,0,none⟩) (lt_of_cell ct) (by simp)).trans ct,cell_of_row _ _ 0 _ _ _ hh,cell_of_row _ _ 1 _ _ _ hh⟩
 have HW1:Hid (Only [] (w.alloc (.cells #[.int .i64 N,.int .i64 G] 34)) (w.alloc (.cells #[.int .i64 N,.int .i64 G] 34)).drew):=(Only.refl [] _).drew;have HW2:Hid (Only [] (w.alloc (.cells #[.int .i64 N,.int .i64 G] 34)) ((w.alloc (.cells #[.int .i64 N,.int .i64 G] 34)).alloc (.cells #[.int .i64 0,.int .i64 0,.int .i64 0,.int .i64 0,.int .i64 0,.int .i64 0] 111)).drew):=((Only.refl [] _).alloc _).drew;have HV1:Hid (Only [] w (w.alloc (.cells #[.int .i64 N,.int .i64 G] 34)).drew):=((Only.refl [] _).alloc _).drew;have HV2:Hid (Only [] w ((w.alloc (.cells #[.int .i64 N,.int .i64 G] 34)).alloc (.cells #[.int .i64 0,.int .i64 0,.int .i64 0,.int .i64 0,.int .i64 0,.int .i64 0] 111)).drew):=(((Only.refl [] _).alloc _).alloc _).drew;have K1:Hid ((w.alloc (.cells #[.int .i64 N,.int .i64 G] 34)).drew.cell? ⟨tr,0,none⟩=some (.pointer (some ⟨t,0,none⟩))∧(w.alloc (.cells #[.int .i64 N,.int .i64 G] 34)).drew.cell? ⟨w.heap.size,0,none⟩=some (.int .i64 N)∧(w.alloc (.cells #[.int .i64 N,.int .i64 G] 34)).drew.cell? ⟨w.heap.size,1,none⟩=some (.int .i64 G)):=keepZ_only H1.out HW1.out;have K2:Hid (((w.alloc (.cells #[.int .i64 N,.int .i64 G] 34)).alloc (.cells #[.int .i64 0,.int .i64 0,.int .i64 0,.int .i64 0,.int .i64 0,.int .i64 0] 111)).drew.cell? ⟨tr,0,none⟩=some (.pointer (some ⟨t,0,none⟩))∧((w.alloc (.cells #[.int .i64 N,.int .i64 G] 34)).alloc (.cells #[.int .i64 0,.int .i64 0,.int .i64 0,.int .i64 0,.int .i64 0,.int .i64 0] 111)).drew.cell? ⟨w.heap.size,0,none⟩=some (.int .i64 N)∧((w.alloc (.cells #[.int .i64 N,.int .i64 G] 34)).alloc (.cells #[.int .i64 0,.int .i64 0,.int .i64 0,.int .i64 0,.int .i64 0,.int .i64 0] 111)).drew.cell? ⟨w.heap.size,1,none⟩=some (.int .i64 G)):=keepZ_only H1.out HW2.out
 have HN2:Hid (tr≠w.heap.size+1):=show tr≠w.heap.size+1 from by omega
 have HB2:Hid (w.heap.size≠w.heap.size+1):=show w.heap.size≠w.heap.size+1 from by omega
 have HC:Hid (∀ w1,Only [] w w1→Calls Tryz.prog 80 #[.pointer (some ⟨t,0,none⟩),.agg #[.int .i64 N,.int .i64 G]] w1 fun e w'=>e = .returned (.tuple #[.agg #[.int .i64 1,.int .i64 Z,.int .i64 L,.int .i64 C,.int .i64 UN,.int .i64 UG],.nilIface])∧Only [] w1 w'):=HC0;clear HC0
 go_enter Tryz.func66,Tryz.ntmps66
 go_wp2
 go_region_held3 (fun W=>W.cell? ⟨tr,0,none⟩=some (.pointer (some ⟨t,0,none⟩))∧W.cell? ⟨w.heap.size,0,none⟩=some (.int .i64 N)∧W.cell? ⟨w.heap.size,1,none⟩=some (.int .i64 G))
   (with_reducible first
    | exact K1.out
    | exact K2.out
    | exact HS2.out
    | exact keepZ_alloc HS2.out
    | exact keepZ_set (keepZ_set (keepZ_set (keepZ_set (keepZ_set (keepZ_set (HS2.out) HN2.out HB2.out) HN2.out HB2.out) HN2.out HB2.out) HN2.out HB2.out) HN2.out HB2.out) HN2.out HB2.out)
   (first
    | (go_at_call 80;refine (HC.out _ HV1.out).mono ?_;rintro e w2 ⟨rfl,ho2⟩;have HO2:Hid (Only [] (w.alloc (.cells #[.int .i64 N,.int .i64 G] 34)) w2):=HW1.out.trans ho2 (fun _ hk=>by cases hk);have HS2:Hid (w2.cell? ⟨tr,0,none⟩=some (.pointer (some ⟨t,0,none⟩))∧w2.cell? ⟨w.heap.size,0,none⟩=some (.int .i64 N)∧w2.cell? ⟨w.heap.size,1,none⟩=some (.int .i64 G)):=keepZ_only H1.out HO2.out;clear ho2)
    | (go_at_call 80;refine (HC.out _ HV2.out).mono ?_;rintro e w2 ⟨rfl,ho2⟩;have HO2:Hid (Only [] (w.alloc (.cells #[.int .i64 N,.int .i64 G] 34)) w2):=HW2.out.trans ho2 (fun _ hk=>by cases hk);have HS2:Hid (w2.cell? ⟨tr,0,none⟩=some (.pointer (some ⟨t,0,none⟩))∧w2.cell? ⟨w.heap.size,0,none⟩=some (.int .i64 N)∧w2.cell? ⟨w.heap.size,1,none⟩=some (.int .i64 G)):=keepZ_only H1.out HO2.out;obtain ⟨q0,q1,q2,q3,q4,q5,f1,hl1⟩:=own_six_drew (B:=w.heap.size+1) ho2 (by simp);clear ho2))
 all_goals have HO:Hid (Only [] w w2):=((Only.refl [] w).alloc _).trans HO2.out (fun _ hk=>by cases hk)
 all_goals have hsz:w.heap.size+1≤w2.heap.size:=by have:=HO2.out.size;simpa using this
 all_goals have cE:w2.cell? ⟨9,0,none⟩=some E:=(HO.out.cell (p:=⟨9,0,none⟩) hEl (by simp)).trans HE.out
 all_goals have hel:9 < w2.heap.size:=lt_of_cell cE
 all_goals go_wp2
 all_goals go_ret
 all_goals have hle:w.heap.size≤w.heap.size+1:=Nat.le_succ _
 · exact ⟨rfl,HO.out.alloc _⟩
 · exact ⟨rfl,HO.out.six hle⟩
theorem checkDir_stale (ad:Addr)(ct:w.cell? ⟨tr,0,none⟩=some (.pointer (some ⟨t,0,none⟩)))
 (HC0:∀ w1,Only [] w w1→Calls Tryz.prog 80 #[.pointer (some ⟨t,0,none⟩),.agg #[.int .i64 N,.int .i64 G]] w1 fun e w'=>e = .returned (.tuple #[.agg #[.int .i64 K,.int .i64 Z,.int .i64 L,.int .i64 C,.int .i64 UN,.int .i64 UG],.iface 300 (.pointer (some ad))])∧Only [] w1 w') :
 Calls Tryz.prog 66 #[.pointer (some ⟨tr,0,none⟩),.agg #[.int .i64 N,.int .i64 G]] w fun e w'=>e = .returned (.iface 300 (.pointer (some ad)))∧Only [] w w':=by
 have htl:tr < w.heap.size:=lt_of_cell ct
 have H1:Hid ((w.alloc (.cells #[.int .i64 N,.int .i64 G] 34)).cell? ⟨tr,0,none⟩=some (.pointer (some ⟨t,0,none⟩))∧(w.alloc (.cells #[.int .i64 N,.int .i64 G] 34)).cell? ⟨w.heap.size,0,none⟩=some (.int .i64 N)∧(w.alloc (.cells #[.int .i64 N,.int .i64 G] 34)).cell? ⟨w.heap.size,1,none⟩=some (.int .i64 G)):=by
   have hh:=heap_alloc_last w (.cells #[.int .i64 N,.int .i64 G] 34);exact ⟨(((Only.refl [] w).alloc _).cell (p:=⟨tr,0,none⟩) (lt_of_cell ct) (by simp)).trans ct,cell_of_row _ _ 0 _ _ _ hh,cell_of_row _ _ 1 _ _ _ hh⟩
 have HW1:Hid (Only [] (w.alloc (.cells #[.int .i64 N,.int .i64 G] 34)) (w.alloc (.cells #[.int .i64 N,.int .i64 G] 34)).drew):=(Only.refl [] _).drew;have HW2:Hid (Only [] (w.alloc (.cells #[.int .i64 N,.int .i64 G] 34)) ((w.alloc (.cells #[.int .i64 N,.int .i64 G] 34)).alloc (.cells #[.int .i64 0,.int .i64 0,.int .i64 0,.int .i64 0,.int .i64 0,.int .i64 0] 111)).drew):=((Only.refl [] _).alloc _).drew;have HV1:Hid (Only [] w (w.alloc (.cells #[.int .i64 N,.int .i64 G] 34)).drew):=((Only.refl [] _).alloc _).drew;have HV2:Hid (Only [] w ((w.alloc (.cells #[.int .i64 N,.int .i64 G] 34)).alloc (.cells #[.int .i64 0,.int .i64 0,.int .i64 0,.int .i64 0,.int .i64 0,.int .i64 0] 111)).drew):=(((Only.refl [] _).alloc _).alloc _).drew;have K1:Hid ((w.alloc (.cells #[.int .i64 N,.int .i64 G] 34)).drew.cell? ⟨tr,0,none⟩=some (.pointer (some ⟨t,0,none⟩))∧(w.alloc (.cells #[.int .i64 N,.int .i64 G] 34)).drew.cell? ⟨w.heap.size,0,none⟩=some (.int .i64 N)∧(w.alloc (.cells #[.int .i64 N,.int .i64 G] 34)).drew.cell? ⟨w.heap.size,1,none⟩=some (.int .i64 G)):=keepZ_only H1.out HW1.out;have K2:Hid (((w.alloc (.cells #[.int .i64 N,.int .i64 G] 34)).alloc (.cells #[.int .i64 0,.int .i64 0,.int .i64 0,.int .i64 0,.int .i64 0,.int .i64 0] 111)).drew.cell? ⟨tr,0,none⟩=some (.pointer (some ⟨t,0,none⟩))∧((w.alloc (.cells #[.int .i64 N,.int .i64 G] 34)).alloc (.cells #[.int .i64 0,.int .i64 0,.int .i64 0,.int .i64 0,.int .i64 0,.int .i64 0] 111)).drew.cell? ⟨w.heap.size,0,none⟩=some (.int .i64 N)∧((w.alloc (.cells #[.int .i64 N,.int .i64 G] 34)).alloc (.cells #[.int .i64 0,.int .i64 0,.int .i64 0,.int .i64 0,.int .i64 0,.int .i64 0] 111)).drew.cell? ⟨w.heap.size,1,none⟩=some (.int .i64 G)):=keepZ_only H1.out HW2.out
 have HN2:Hid (tr≠w.heap.size+1):=show tr≠w.heap.size+1 from by omega
 have HB2:Hid (w.heap.size≠w.heap.size+1):=show w.heap.size≠w.heap.size+1 from by omega
 have HC:Hid (∀ w1,Only [] w w1→Calls Tryz.prog 80 #[.pointer (some ⟨t,0,none⟩),.agg #[.int .i64 N,.int .i64 G]] w1 fun e w'=>e = .returned (.tuple #[.agg #[.int .i64 K,.int .i64 Z,.int .i64 L,.int .i64 C,.int .i64 UN,.int .i64 UG],.iface 300 (.pointer (some ad))])∧Only [] w1 w'):=HC0;clear HC0
 go_enter Tryz.func66,Tryz.ntmps66
 go_wp2
 go_region_held3 (fun W=>W.cell? ⟨tr,0,none⟩=some (.pointer (some ⟨t,0,none⟩))∧W.cell? ⟨w.heap.size,0,none⟩=some (.int .i64 N)∧W.cell? ⟨w.heap.size,1,none⟩=some (.int .i64 G))
   (with_reducible first
    | exact K1.out
    | exact K2.out
    | exact HS2.out
    | exact keepZ_alloc HS2.out
    | exact keepZ_set (keepZ_set (keepZ_set (keepZ_set (keepZ_set (keepZ_set (HS2.out) HN2.out HB2.out) HN2.out HB2.out) HN2.out HB2.out) HN2.out HB2.out) HN2.out HB2.out) HN2.out HB2.out)
   (first
    | (go_at_call 80;refine (HC.out _ HV1.out).mono ?_;rintro e w2 ⟨rfl,ho2⟩;have HO2:Hid (Only [] (w.alloc (.cells #[.int .i64 N,.int .i64 G] 34)) w2):=HW1.out.trans ho2 (fun _ hk=>by cases hk);have HS2:Hid (w2.cell? ⟨tr,0,none⟩=some (.pointer (some ⟨t,0,none⟩))∧w2.cell? ⟨w.heap.size,0,none⟩=some (.int .i64 N)∧w2.cell? ⟨w.heap.size,1,none⟩=some (.int .i64 G)):=keepZ_only H1.out HO2.out;clear ho2)
    | (go_at_call 80;refine (HC.out _ HV2.out).mono ?_;rintro e w2 ⟨rfl,ho2⟩;have HO2:Hid (Only [] (w.alloc (.cells #[.int .i64 N,.int .i64 G] 34)) w2):=HW2.out.trans ho2 (fun _ hk=>by cases hk);have HS2:Hid (w2.cell? ⟨tr,0,none⟩=some (.pointer (some ⟨t,0,none⟩))∧w2.cell? ⟨w.heap.size,0,none⟩=some (.int .i64 N)∧w2.cell? ⟨w.heap.size,1,none⟩=some (.int .i64 G)):=keepZ_only H1.out HO2.out;obtain ⟨q0,q1,q2,q3,q4,q5,f1,hl1⟩:=own_six_drew (B:=w.heap.size+1) ho2 (by simp);clear ho2))
 all_goals have HO:Hid (Only [] w w2):=((Only.refl [] w).alloc _).trans HO2.out (fun _ hk=>by cases hk)
 all_goals have hsz:w.heap.size+1≤w2.heap.size:=by have:=HO2.out.size;simpa using this
 all_goals go_wp2
 all_goals go_ret
 all_goals have hle:w.heap.size≤w.heap.size+1:=Nat.le_succ _
 · exact ⟨rfl,HO.out.alloc _⟩
 · exact ⟨rfl,HO.out.six hle⟩
end
theorem foot_added_tree {w w':World}{t most i b:Nat}{p p':Row}{nd:Nat→Option Nod}{K:Int}{k:Nat}(hr:Roomed w w' t p p' i)(hb:w.heap.size≤b)(hk:InFoot t p' most (setN nd i (some (newNod b K))) k):InFoot t p most nd k∨w.heap.size≤k:=by
 rcases hk with h | h | ⟨j,n,hs,hm⟩
 · exact Or.inl (Or.inl h)
 · rcases hr.2.2 with h1 | ⟨q,h1,h2⟩
   · exact Or.inl (Or.inr (Or.inl (by rw [← h1];exact h)))
   · rw [h1] at h
     cases h
     exact Or.inr h2
 · by_cases e:j=i
   · subst e
     rw [setN_same] at hs
     cases hs
     have:k=b:=by simpa [newNod,Nod.foot,footD] using hm
     exact Or.inr (by omega)
   · rw [setN_other _ _ e] at hs
     exact Or.inl (Or.inr (Or.inr ⟨j,n,hs,hm⟩))
theorem roomed_a {w1 w2:World}{t i n:Nat}{p p':Row}(hr:Roomed w1 w2 t p p' i)(hn:n≤w1.heap.size):∀ k,p'.a=some k→p.a=some k∨n≤k:=fun k hk=>by
 rcases hr.2.2 with h | ⟨q,h,hq⟩
 · exact Or.inl (by rw [← h];exact hk)
 · rw [h] at hk
   cases hk
   exact Or.inr (Nat.le_trans hn hq)
theorem TreeAt.added {w w2:World}{tr i b:Nat}{T:Tr}{p':Row}{K:Int}(h:TreeAt w tr T)(hi:i < 1000)(ht:TabAt w2 T.t p' T.most T.g (setN T.nd i (some (newNod b K))))(hr:Roomed w w2 T.t T.p p' i)(hb:w.heap.size≤b):TreeAt w2 tr { T with p:=p',nd:=setN T.nd i (some (newNod b K)) } :=
 h.table (p':=p') (g':=T.g) ht hr.2.1 (fun k hk=>by
  rcases List.mem_cons.1 hk with e | e
  · exact Or.inl e
  · exact Or.inr (Or.inl (by simpa using e))) (fun k hk=>foot_added_tree hr hb hk) ⟨by have:=hr.1;have:=h.small.N;show p'.N≤1000;omega,h.small.g⟩ (by have:=hr.1;omega) (fun _=>rfl) (fun _=>rfl)
theorem foot_tree_added {w1 w2:World}{tr i b k:Nat}{T:Tr}{p':Row}{K:Int}(hr:Roomed w1 w2 T.t T.p p' i)(hb:w1.heap.size≤b)(hk:FootT tr { T with p:=p',nd:=setN T.nd i (some (newNod b K)) } k):FootT tr T k∨w1.heap.size≤k:=by
 rcases hk with h | h | h | h | h
 · exact Or.inl (Or.inl h)
 · exact Or.inl (Or.inr (Or.inl h))
 · exact Or.inl (Or.inr (Or.inr (Or.inl h)))
 · exact Or.inl (Or.inr (Or.inr (Or.inr (Or.inl h))))
 · rcases foot_added_tree hr hb h with h1 | h1
   · exact Or.inl (Or.inr (Or.inr (Or.inr (Or.inr h1))))
   · exact Or.inr h1
theorem add_file (w:World)(tr:Nat)(T:Tr)(i:Nat)(h:TreeAt w tr T)(hi:i < 1000)(hc:countTo T.nd T.p.N < T.most)(hn:T.nd i=none)(hb:∀ j,j < i→(T.nd j).isSome=true):
  Calls Tryz.prog 23 #[.pointer (some ⟨tr,0,none⟩),.int .i64 1] w fun e w'=>e = .returned (.tuple #[.agg #[.int .i64 i,.int .i64 (T.g i:Nat)],.nilIface])∧∃ p' b,TreeAt w' tr { T with p:=p',nd:=setN T.nd i (some (newNod b 1)) }∧Only (T.t::T.p.a.toList) w w'∧w.heap.size≤b∧p'.N=max T.p.N (i+1)∧∀ k,p'.a=some k→T.p.a=some k∨w.heap.size≤k:=by
 have hO1:Only [] w (w.alloc (.cells #[.int .i64 0,.int .i64 0] 34)):=(Only.refl [] w).alloc _;have hT1:=h.only hO1;have hadd:=tadd_ok (w.alloc (.cells #[.int .i64 0,.int .i64 0] 34)) T.t T.p T.most i T.g T.nd 1 hT1.tab h.small.N (Or.inl rfl) hc hn hb;have ct:=h.c0;have htl:tr < w.heap.size:=lt_of_cell ct;have H1:Hid (TreeAt (w.alloc (.cells #[.int .i64 0,.int .i64 0] 34)) tr T):=hT1;have HO1:Hid (Only [] w (w.alloc (.cells #[.int .i64 0,.int .i64 0] 34))):=hO1;have hpw:∀ q,T.p.a=some q→q < w.heap.size:=fun q hq=>h.tab.plt hq;have htw:=h.tab.tlt
 have HNO:Hid (w.heap.size∉T.t::T.p.a.toList):=show w.heap.size∉T.t::T.p.a.toList from (fun hm=>by rcases List.mem_cons.1 hm with e | e;omega;have:=hpw w.heap.size (by simpa using e);omega)
 have H0:Hid (TreeAt w tr T):=h;clear h hT1 hO1 hn hb hc hpw
 go_enter Tryz.func23,Tryz.ntmps23
 go_wp2_with (go_at_call 73;go_must (refine hadd.mono ?_);rintro e w2 ⟨rfl,p',b,hT2,hr2,hb2⟩;have HT2:Hid (TreeAt w2 tr { T with p:=p',nd:=setN T.nd i (some (newNod b 1)) }):=H1.out.added hi hT2 hr2 hb2;have HR2:Hid (Roomed (w.alloc (.cells #[.int .i64 0,.int .i64 0] 34)) w2 T.t T.p p' i):=hr2;have HBB:Hid (((w.alloc (.cells #[.int .i64 0,.int .i64 0] 34))).heap.size≤b):=hb2;have HB2:Hid (w.heap.size≤b):=(show w.heap.size≤b from Nat.le_trans HO1.out.size hb2);have hh:=heap_alloc_last w (.cells #[.int .i64 0,.int .i64 0] 34);have r0:=(hr2.2.1.cell (p:=⟨w.heap.size,0,none⟩) (by simp) HNO.out).trans (cell_of_row _ _ 0 _ _ _ hh);have r1:=(hr2.2.1.cell (p:=⟨w.heap.size,1,none⟩) (by simp) HNO.out).trans (cell_of_row _ _ 1 _ _ _ hh);have f0:∀ o,w2.frozen? ⟨w.heap.size,o,none⟩=false:=(fun o=>(hr2.2.1.frozen (p:=⟨w.heap.size,o,none⟩) (by simp) HNO.out).trans (frozen_of_row _ _ _ _ _ hh));have hl0:=lt_of_cell r0;clear hT2 hr2 hb2 hadd hh)
 have hB:¬ FootT tr { T with p:=p',nd:=setN T.nd i (some (newNod b 1)) } w.heap.size:=fun hk=>by
  rcases foot_tree_added HR2.out HBB.out hk with h1 | h1
  · have:=H0.out.foot_lt _ h1
    omega
  · have:w.heap.size+1≤w.heap.size:=by simpa using h1
    omega
 have oB:Only [w.heap.size] w2 ((w2.setCell ⟨w.heap.size,0,none⟩ (.int .i64 i)).setCell ⟨w.heap.size,1,none⟩ (.int .i64 (T.g i:Nat))):=((Only.refl [w.heap.size] w2).setCell (Or.inl (by simp)) _).setCell (Or.inl (by simp)) _;refine bodyPost_ret (v := .tuple #[.agg #[.int .i64 i,.int .i64 (T.g i:Nat)],.nilIface]) (by simp [results,Tryz.results23,go_sem,r0,r1,hl0]) rfl ⟨rfl,p',b,(HT2.out.kept oB (fun k hk hm=>hB (by simp at hm;rw [← hm];exact hk))).only ((Only.refl [] _).alloc _),?_,HB2.out,HR2.out.1,roomed_a HR2.out HO1.out.size⟩;exact (((HO1.out.mono (L':=T.t::T.p.a.toList) (fun _ hk=>by cases hk)).trans HR2.out.2.1 (fun _ hk=>Or.inl hk)).trans oB (fun k hk=>Or.inr (by simp at hk;omega))).alloc _
theorem foot_tree_dir {tr i b k B:Nat}{T:Tr}{p':Row}(hk:FootT tr { T with p:=p',nd:=setN T.nd i (some { newNod b 2 with Z:=0,L:=2 }),ds:=setN T.ds i (some ⟨B,[]⟩) } k):FootT tr { T with p:=p',nd:=setN T.nd i (some (newNod b 2)) } k∨k=B:=by
 rcases hk with h | h | h | ⟨j,d,hd,rfl⟩ | h
 · exact Or.inl (Or.inl h)
 · exact Or.inl (Or.inr (Or.inl h))
 · exact Or.inl (Or.inr (Or.inr (Or.inl h)))
 · by_cases e:j=i
   · subst e
     have hd':setN T.ds j (some (⟨B,[]⟩:DirM)) j=some d:=hd;rw [setN_same] at hd'
     cases hd'
     exact Or.inr rfl
   · have hd':setN T.ds i (some (⟨B,[]⟩:DirM)) j=some d:=hd
     rw [setN_other _ _ e] at hd';exact Or.inl (Or.inr (Or.inr (Or.inr (Or.inl ⟨j,d,hd',rfl⟩))))
 · refine Or.inl (Or.inr (Or.inr (Or.inr (Or.inr ?_))))
   rcases h with h | h | ⟨j,m,hj,hm⟩
   · exact Or.inl h
   · exact Or.inr (Or.inl h)
   · by_cases e:j=i
     · subst e
       have hj':setN T.nd j (some ({ newNod b 2 with Z:=0,L:=2 }:Nod)) j=some m:=hj;rw [setN_same] at hj'
       cases hj'
       exact .node (setN_same _ _ _) hm
     · have hj':setN T.nd i (some ({ newNod b 2 with Z:=0,L:=2 }:Nod)) j=some m:=hj
       rw [setN_other _ _ e] at hj';exact .node ((setN_other _ _ e).trans hj') hm
theorem add_dir (w:World)(tr:Nat)(T:Tr)(i:Nat)(h:TreeAt w tr T)(hi:i < 1000)(hc:countTo T.nd T.p.N < T.most)(hn:T.nd i=none)(hd0:T.ds i=none)(hb:∀ j,j < i→(T.nd j).isSome=true):
  Calls Tryz.prog 23 #[.pointer (some ⟨tr,0,none⟩),.int .i64 2] w fun e w'=>e = .returned (.tuple #[.agg #[.int .i64 i,.int .i64 (T.g i:Nat)],.nilIface])∧∃ p' b B,TreeAt w' tr { T with p:=p',nd:=setN T.nd i (some { newNod b 2 with Z:=0,L:=2 }),ds:=setN T.ds i (some ⟨B,[]⟩) }∧Only (T.db::T.t::T.p.a.toList) w w'∧w.heap.size≤b∧w.heap.size≤B∧p'.N=max T.p.N (i+1)∧∀ k,p'.a=some k→T.p.a=some k∨w.heap.size≤k:=by
 have hO1:Only [] w (w.alloc (.cells #[.int .i64 0,.int .i64 0] 34)):=(Only.refl [] w).alloc _;have hT1:=h.only hO1;have hadd:=tadd_ok (w.alloc (.cells #[.int .i64 0,.int .i64 0] 34)) T.t T.p T.most i T.g T.nd 2 hT1.tab h.small.N (Or.inr rfl) hc hn hb;have ct:=h.c0;have htl:tr < w.heap.size:=lt_of_cell ct;have H1:Hid (TreeAt (w.alloc (.cells #[.int .i64 0,.int .i64 0] 34)) tr T):=hT1;have HO1:Hid (Only [] w (w.alloc (.cells #[.int .i64 0,.int .i64 0] 34))):=hO1;have hpw:∀ q,T.p.a=some q→q < w.heap.size:=fun q hq=>h.tab.plt hq;have htw:=h.tab.tlt;have hdw:T.db < w.heap.size:=h.foot_lt _ (Or.inr (Or.inl rfl))
 have HNO:Hid (w.heap.size∉T.t::T.p.a.toList):=show w.heap.size∉T.t::T.p.a.toList from (fun hm=>by rcases List.mem_cons.1 hm with e | e;omega;have:=hpw w.heap.size (by simpa using e);omega)
 have H0:Hid (TreeAt w tr T):=h;have HD0:Hid (T.ds i=none):=hd0;clear h hT1 hO1 hn hb hc hpw hd0
 go_enter Tryz.func23,Tryz.ntmps23
 go_wp2_with (first
  | (go_at_call 73;go_must (refine hadd.mono ?_);rintro e w2 ⟨rfl,p',b,hT2,hr2,hb2⟩;have HT2:Hid (TreeAt w2 tr { T with p:=p',nd:=setN T.nd i (some (newNod b 2)) }):=H1.out.added hi hT2 hr2 hb2;have HR2:Hid (Roomed (w.alloc (.cells #[.int .i64 0,.int .i64 0] 34)) w2 T.t T.p p' i):=hr2;have HBB:Hid (((w.alloc (.cells #[.int .i64 0,.int .i64 0] 34))).heap.size≤b):=hb2;have HBL:Hid (b < w2.heap.size):=(show b < w2.heap.size from lt_of_cell (hT2.node i (newNod b 2) (setN_same _ _ _)).c0);have hh:=heap_alloc_last w (.cells #[.int .i64 0,.int .i64 0] 34);have r0:=(hr2.2.1.cell (p:=⟨w.heap.size,0,none⟩) (by simp) HNO.out).trans (cell_of_row _ _ 0 _ _ _ hh);have r1:=(hr2.2.1.cell (p:=⟨w.heap.size,1,none⟩) (by simp) HNO.out).trans (cell_of_row _ _ 1 _ _ _ hh);have f0:∀ o,w2.frozen? ⟨w.heap.size,o,none⟩=false:=(fun o=>(hr2.2.1.frozen (p:=⟨w.heap.size,o,none⟩) (by simp) HNO.out).trans (frozen_of_row _ _ _ _ _ hh));have hl0:=lt_of_cell r0;have hopen:Calls Tryz.prog 74 #[.pointer (some ⟨tr,0,none⟩),.agg #[.int .i64 i,.int .i64 (T.g i:Nat)]] (w2.alloc (.cells #[.int .i64 i,.int .i64 (T.g i:Nat)] 34)) fun e w'=>e = .returned (.tuple #[])∧∃ B,TreeAt w' tr { Tr.opened { T with p:=p',nd:=setN T.nd i (some (newNod b 2)) } i B with nd:=setN (setN T.nd i (some (newNod b 2))) i (some { newNod b 2 with Z:=0,L:=2 }) }∧Only [b,T.db] (w2.alloc (.cells #[.int .i64 i,.int .i64 (T.g i:Nat)] 34)) w'∧(w2.alloc (.cells #[.int .i64 i,.int .i64 (T.g i:Nat)] 34)).heap.size≤B:=open_ok (w2.alloc (.cells #[.int .i64 i,.int .i64 (T.g i:Nat)] 34)) tr { T with p:=p',nd:=setN T.nd i (some (newNod b 2)) } i (newNod b 2) (HT2.out.only ((Only.refl [] _).alloc _)) (setN_same _ _ _) rfl HD0.out;clear hT2 hr2 hb2 hadd hh)
  | (go_at_call 74;go_must (refine hopen.mono ?_);rintro e w4 ⟨rfl,B,hT4,ho4,hB4⟩;rw [setN_again] at hT4;have HT4:Hid (TreeAt w4 tr { T with p:=p',nd:=setN T.nd i (some { newNod b 2 with Z:=0,L:=2 }),ds:=setN T.ds i (some ⟨B,[]⟩) }):=hT4;have HO4:Hid (Only [b,T.db] (w2.alloc (.cells #[.int .i64 i,.int .i64 (T.g i:Nat)] 34)) w4):=ho4;have HB4:Hid (w2.heap.size+1≤B):=(show w2.heap.size+1≤B from by simpa using hB4);have hbw:w.heap.size+1≤b:=(by simpa using HBB.out);have nA:w.heap.size∉[b,T.db]:=(fun hm=>by simp at hm;omega);have nI:w2.heap.size∉[b,T.db]:=(fun hm=>by have:=HBL.out;simp at hm;omega);have s0:=(ho4.cell (p:=⟨w.heap.size,0,none⟩) (by simp;omega) nA).trans ((((Only.refl [] w2).alloc (.cells #[.int .i64 i,.int .i64 (T.g i:Nat)] 34)).cell (p:=⟨w.heap.size,0,none⟩) hl0 (by simp)).trans r0);have s1:=(ho4.cell (p:=⟨w.heap.size,1,none⟩) (by simp;omega) nA).trans ((((Only.refl [] w2).alloc (.cells #[.int .i64 i,.int .i64 (T.g i:Nat)] 34)).cell (p:=⟨w.heap.size,1,none⟩) hl0 (by simp)).trans r1);have g0:∀ o,w4.frozen? ⟨w.heap.size,o,none⟩=false:=(fun o=>(ho4.frozen (p:=⟨w.heap.size,o,none⟩) (by simp;omega) nA).trans ((((Only.refl [] w2).alloc (.cells #[.int .i64 i,.int .i64 (T.g i:Nat)] 34)).frozen (p:=⟨w.heap.size,o,none⟩) hl0 (by simp)).trans (f0 o)));have hk:=heap_alloc_last w2 (.cells #[.int .i64 i,.int .i64 (T.g i:Nat)] 34);have t0:=(ho4.cell (p:=⟨w2.heap.size,0,none⟩) (by simp) nI).trans (cell_of_row _ _ 0 _ _ _ hk);have t1:=(ho4.cell (p:=⟨w2.heap.size,1,none⟩) (by simp) nI).trans (cell_of_row _ _ 1 _ _ _ hk);have hl4:=lt_of_cell s0;clear hT4 ho4 hB4 hk nA nI hopen r0 r1 f0)
  | go_in)
 have hB:¬ FootT tr { T with p:=p',nd:=setN T.nd i (some { newNod b 2 with Z:=0,L:=2 }),ds:=setN T.ds i (some ⟨B,[]⟩) } w.heap.size:=fun hk=>by
  rcases foot_tree_dir hk with hk | hk
  · rcases foot_tree_added HR2.out HBB.out hk with h1 | h1
    · have:=H0.out.foot_lt _ h1
      omega
    · have:w.heap.size+1≤w.heap.size:=by simpa using h1
      omega
  · have:=HB4.out
    omega
 have oB:Only [w.heap.size] w4 ((w4.setCell ⟨w.heap.size,0,none⟩ (.int .i64 i)).setCell ⟨w.heap.size,1,none⟩ (.int .i64 (T.g i:Nat))):=((Only.refl [w.heap.size] w4).setCell (Or.inl (by simp)) _).setCell (Or.inl (by simp)) _
 have oA:Only (T.db::T.t::T.p.a.toList) w w4:=(((HO1.out.mono (L':=T.db::T.t::T.p.a.toList) (fun _ hk=>by cases hk)).trans HR2.out.2.1 (fun _ hk=>Or.inl (List.mem_cons_of_mem _ hk))).alloc _).trans HO4.out (fun k hk=>by
  simp only [List.mem_cons,List.not_mem_nil,or_false] at hk;rcases hk with rfl | rfl
  · exact Or.inr (by omega)
  · exact Or.inl (List.mem_cons_self ..))
 refine bodyPost_ret (v := .tuple #[.agg #[.int .i64 i,.int .i64 (T.g i:Nat)],.nilIface]) (by simp [results,Tryz.results23,go_sem,s0,s1]) rfl ⟨rfl,p',b,B,HT4.out.kept oB (fun k hk hm=>hB (by simp at hm;rw [← hm];exact hk)),oA.trans oB (fun k hk=>Or.inr (by simp at hk;omega)),by omega,by have:=HB4.out;omega,HR2.out.1,roomed_a HR2.out HO1.out.size⟩
end
end Go.Proofs.YtbdfjbmocifhmaaGreatDoor
