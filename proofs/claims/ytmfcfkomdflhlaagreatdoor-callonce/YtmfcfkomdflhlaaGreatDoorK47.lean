import Derived.Test.YtmfcfkomdflhlaaGreatDoorK46
set_option maxRecDepth 100000
set_option maxHeartbeats 8000000
namespace Go.Proofs.YtmfcfkomdflhlaaGreatDoor
section
open Go Go.RowKit Go.Deep Go.Maps
def regAt (n:Nat):Code→Option (Array Oper)
 | .region id ops _=>if id=n then some ops else none
 | .seq x y=>(regAt n x).orElse fun _=>regAt n y
 | .cond _ x y=>(regAt n x).orElse fun _=>regAt n y
 | .block _ x=>regAt n x
 | .loop x=>regAt n x
 | .scope x=>regAt n x
 | _=>none
theorem set6A {W:World}{b:Nat}{c0 c1 c2 c3 c4 c5:Value}{ty:TypeId}(hb:W.heap[b]?=some (.cells #[c0,c1,c2,c3,c4,c5] ty (0,0)))(v0 v1 v2 v3 v4 v5:Value):((((((W.setCell ⟨b,0,none⟩ v0).setCell ⟨b,1,none⟩ v1).setCell ⟨b,2,none⟩ v2).setCell ⟨b,3,none⟩ v3).setCell ⟨b,4,none⟩ v4).setCell ⟨b,5,none⟩ v5).heap[b]?=some (.cells #[v0,v1,v2,v3,v4,v5] ty (0,0)):=by
 rw [heap_setCell_same _ b 5 _ _ _ (heap_setCell_same _ b 4 _ _ _ (heap_setCell_same _ b 3 _ _ _ (heap_setCell_same _ b 2 _ _ _ (heap_setCell_same _ b 1 _ _ _ (heap_setCell_same W b 0 _ _ _ hb)))))];rfl
theorem once_attr {ops:Array Oper}(hops:regAt 41 (Tryz.f3.body.getD .skip)=some ops)(k:OnK)(W:World)(c:Nat)(Lr UN UG:Int)(hk8:W.cell? ⟨k.n,2,none⟩=some (.pointer (some ⟨k.s,0,none⟩)))
   (hen:∀ W',Only [] W W' →
     (Calls Tryz.prog 14 #[.pointer (some ⟨k.s,0,none⟩)] W' fun e w'=>e = .returned (.pointer (some ⟨k.tr,0,none⟩))∧Only [] W' w') ∧
     (Calls Tryz.prog 16 #[.pointer (some ⟨k.tr,0,none⟩)] W' fun e w'=>e = .returned (.agg #[.int .i64 0,.int .i64 0])∧Only [] W' w') ∧
     Calls Tryz.prog 15 #[.pointer (some ⟨k.tr,0,none⟩),.agg #[.int .i64 0,.int .i64 0]] W' fun e w'=>e = .returned (.tuple #[.agg #[.int .i64 2,.int .i64 (c:Nat),.int .i64 Lr,.int .i64 (c:Nat),.int .i64 UN,.int .i64 UG],.nilIface])∧Only [] W' w')
   {Q:Exit→Act→World→Prop} (hP:∀ c (a:Act) (d:Nat) v W',Q (.panic c) (a.put (some d) v) W'→Q (.panic c) a W') {u0 u1 u2 u3 u4 u5 u6 u7 u9 u10 u11 u12 u13 u14 u15 u16 u17 u18 u19 u20 u21 u22 u23 u24 u25 u26 u27 u28 u29 u30 u31 u32 u33 u34 u35 u36 u37 u38 u39 u40 u41 u42 u43 u44 u45 u46 u47 u48 u49 u50 u51 u52 u53 u54 u55 u56 u57 u58 u59 u60 u61 u62 u63 u64 u65 u66 u67 u68 u69 u70 u71 u72 u73 u74 u75 u76 u77 u78 u79 u80 u81 u82 u83 u84 u85 u86 u87 u88 u89 u90 u91 u92 u93 u94 u95 u96 u97 u98 u99 u100 u101 u102 u103 u104 u105 u106 u107 u108 u109 u110 u111 u112 u113 u114 u115 u116 u117 u118 u119 u120 u121 u122 u123 u124 u125 u126 u127 u128 u129 u130 u131 u132 u133 u134 u135 u136 u137 u138 u139 u140 u141 u142 u143 u144 u145 u146 u147 u148 u149 u150 u151 u152 u153 u154 u155 u156 u157 u158 u159 u160 u161 u162 u163 u164 u165 u166 u167 u168 u169 u170 u171 u172 u173 u174 u175 u176 u177 u178 u179 u180 u181 u182 u183 u184 u185 u186 u187 u188 u189 u190 u191 u192 u193 u194 u195 u196 u197 u198 u199 u200 u201 u202 u203 u204 u205 u206 u207 u208 u209 u210 u211 u212 u213 u214 u215 u216:Value}
   (hQ:∀ bb W',W'.heap[bb]?=some (.cells #[.int .i64 2,.int .i64 (c:Nat),.int .i64 Lr,.int .i64 (c:Nat),.int .i64 UN,.int .i64 UG] 62 (0,0))→Only [] W W'→W.heap.size≤bb→Q .normal { tmps:=#[u0,u1,u2,u3,u4,u5,u6,u7,.pointer (some ⟨k.n,0,none⟩),u9,.nilIface,u11,u12,u13,u14,u15,u16,u17,u18,u19,u20,u21,.pointer (some ⟨bb,0,none⟩),u23,u24,u25,u26,u27,u28,u29,u30,u31,u32,u33,u34,u35,u36,u37,u38,u39,u40,u41,u42,u43,u44,u45,u46,u47,u48,u49,u50,u51,u52,u53,u54,u55,u56,u57,u58,u59,u60,u61,u62,u63,u64,u65,u66,u67,u68,u69,u70,u71,u72,u73,u74,u75,u76,u77,u78,u79,u80,u81,u82,u83,u84,u85,u86,u87,u88,u89,u90,u91,u92,u93,u94,u95,u96,u97,u98,u99,u100,u101,u102,u103,u104,u105,u106,u107,u108,u109,u110,u111,u112,u113,u114,u115,u116,u117,u118,u119,u120,u121,u122,u123,u124,u125,u126,u127,u128,u129,u130,u131,u132,u133,u134,u135,u136,u137,u138,u139,u140,u141,u142,u143,u144,u145,u146,u147,u148,u149,u150,u151,u152,u153,u154,u155,u156,u157,u158,u159,u160,u161,u162,u163,u164,u165,u166,u167,u168,u169,u170,u171,u172,u173,u174,u175,u176,u177,u178,u179,u180,u181,u182,.tuple #[.agg #[.int .i64 2,.int .i64 (c:Nat),.int .i64 Lr,.int .i64 (c:Nat),.int .i64 UN,.int .i64 UG],.nilIface],.pointer (some ⟨k.n,0,none⟩),.pointer (some ⟨k.n,0,none⟩),.pointer (some ⟨k.n,2,none⟩),.pointer (some ⟨k.s,0,none⟩),.pointer (some ⟨k.tr,0,none⟩),.pointer (some ⟨k.n,0,none⟩),.pointer (some ⟨k.n,0,none⟩),.pointer (some ⟨k.n,2,none⟩),.pointer (some ⟨k.s,0,none⟩),.pointer (some ⟨k.tr,0,none⟩),.agg #[.int .i64 0,.int .i64 0],.tuple #[.agg #[.int .i64 2,.int .i64 (c:Nat),.int .i64 Lr,.int .i64 (c:Nat),.int .i64 UN,.int .i64 UG],.nilIface],.agg #[.int .i64 2,.int .i64 (c:Nat),.int .i64 Lr,.int .i64 (c:Nat),.int .i64 UN,.int .i64 UG],.nilIface,u198,u199,u200,u201,u202,u203,u204,u205,u206,u207,u208,u209,u210,u211,u212,u213,u214,u215,u216],defers:=[] } W') :
   (Code.region 41 ops true).wp Tryz.prog Q { tmps:=#[u0,u1,u2,u3,u4,u5,u6,u7,.pointer (some ⟨k.n,0,none⟩),u9,u10,u11,u12,u13,u14,u15,u16,u17,u18,u19,u20,u21,u22,u23,u24,u25,u26,u27,u28,u29,u30,u31,u32,u33,u34,u35,u36,u37,u38,u39,u40,u41,u42,u43,u44,u45,u46,u47,u48,u49,u50,u51,u52,u53,u54,u55,u56,u57,u58,u59,u60,u61,u62,u63,u64,u65,u66,u67,u68,u69,u70,u71,u72,u73,u74,u75,u76,u77,u78,u79,u80,u81,u82,u83,u84,u85,u86,u87,u88,u89,u90,u91,u92,u93,u94,u95,u96,u97,u98,u99,u100,u101,u102,u103,u104,u105,u106,u107,u108,u109,u110,u111,u112,u113,u114,u115,u116,u117,u118,u119,u120,u121,u122,u123,u124,u125,u126,u127,u128,u129,u130,u131,u132,u133,u134,u135,u136,u137,u138,u139,u140,u141,u142,u143,u144,u145,u146,u147,u148,u149,u150,u151,u152,u153,u154,u155,u156,u157,u158,u159,u160,u161,u162,u163,u164,u165,u166,u167,u168,u169,u170,u171,u172,u173,u174,u175,u176,u177,u178,u179,u180,u181,u182,u183,u184,u185,u186,u187,u188,u189,u190,u191,u192,u193,u194,u195,u196,u197,u198,u199,u200,u201,u202,u203,u204,u205,u206,u207,u208,u209,u210,u211,u212,u213,u214,u215,u216],defers:=[] } W:=by
 cases hops.symm.trans (show regAt 41 (Tryz.f3.body.getD .skip)=some _ from rfl)
 have HEN:Hid (∀ W',Only [] W W' →
     (Calls Tryz.prog 14 #[.pointer (some ⟨k.s,0,none⟩)] W' fun e w'=>e = .returned (.pointer (some ⟨k.tr,0,none⟩))∧Only [] W' w') ∧
     (Calls Tryz.prog 16 #[.pointer (some ⟨k.tr,0,none⟩)] W' fun e w'=>e = .returned (.agg #[.int .i64 0,.int .i64 0])∧Only [] W' w') ∧
     Calls Tryz.prog 15 #[.pointer (some ⟨k.tr,0,none⟩),.agg #[.int .i64 0,.int .i64 0]] W' fun e w'=>e = .returned (.tuple #[.agg #[.int .i64 2,.int .i64 (c:Nat),.int .i64 Lr,.int .i64 (c:Nat),.int .i64 UN,.int .i64 UG],.nilIface])∧Only [] W' w'):=hen
 have hkl:k.n < W.heap.size:=lt_of_cell hk8;clear hen hops;refine wp_region_held_drew (S:=fun W'=>Only [] W W') (by kernel_rfl) ((Only.refl [] _).drew) (fun hS=>?_);generalize World.drew W=W9 at hS ⊢;refine wpAnyH_take (i:=0) (v:=?_) rfl (by kernel_rfl) (by kernel_rfl) (by kernel_rfl) (fun _ _ _ h=>hP _ _ _ _ _ h) (Or.inl ⟨by rfl,fun W' hW=>?_⟩) hS ?_
 rotate_left
 · skip
   go_simp
   try with_reducible rfl
 try simp only [Act.put,List.getElem_toArray,List.getElem_cons_zero,List.setIfInBounds_toArray,List.set_cons_zero,List.set_cons_succ]
 refine wpAnyH_take (i:=1) (v:=?_) rfl (by kernel_rfl) (by kernel_rfl) (by kernel_rfl) (fun _ _ _ h=>hP _ _ _ _ _ h) (Or.inl ⟨by rfl,fun W' hW=>?_⟩) hS ?_
 rotate_left
 · skip
   go_simp
   try with_reducible rfl
 try simp only [Act.put,List.getElem_toArray,List.getElem_cons_zero,List.getElem_cons_succ,List.setIfInBounds_toArray,List.set_cons_zero,List.set_cons_succ]
 refine wpAnyH_take (i:=2) (v:=?_) rfl (by kernel_rfl) (by kernel_rfl) (by kernel_rfl) (fun _ _ _ h=>hP _ _ _ _ _ h) (Or.inl ⟨by rfl,fun W' hW=>?_⟩) hS ?_
 rotate_left
 · skip
   go_simp
   try with_reducible rfl
 try simp only [Act.put,List.getElem_toArray,List.getElem_cons_zero,List.getElem_cons_succ,List.setIfInBounds_toArray,List.set_cons_zero,List.set_cons_succ]
 refine wpAnyH_take (i:=3) (v:=?_) rfl (by kernel_rfl) (by kernel_rfl) (by kernel_rfl) (fun _ _ _ h=>hP _ _ _ _ _ h) (Or.inl ⟨by rfl,fun W' hW=>?_⟩) hS ?_
 rotate_left
 · skip
   have x1:=(hW.cell (p:=⟨k.n,2,none⟩) hkl (by simp)).trans hk8
   go_simp
   try with_reducible rfl
 try simp only [Act.put,List.getElem_toArray,List.getElem_cons_zero,List.getElem_cons_succ,List.setIfInBounds_toArray,List.set_cons_zero,List.set_cons_succ]
 refine wpAnyH_take (i:=5) (v:=?_) rfl (by kernel_rfl) (by kernel_rfl) (by kernel_rfl) (fun _ _ _ h=>hP _ _ _ _ _ h) (Or.inl ⟨by rfl,fun W' hW=>?_⟩) hS ?_
 rotate_left
 · skip
   go_simp
   try with_reducible rfl
 try simp only [Act.put,List.getElem_toArray,List.getElem_cons_zero,List.getElem_cons_succ,List.setIfInBounds_toArray,List.set_cons_zero,List.set_cons_succ]
 refine wpAnyH_take (i:=6) (v:=?_) rfl (by kernel_rfl) (by kernel_rfl) (by kernel_rfl) (fun _ _ _ h=>hP _ _ _ _ _ h) (Or.inl ⟨by rfl,fun W' hW=>?_⟩) hS ?_
 rotate_left
 · skip
   go_simp
   try with_reducible rfl
 try simp only [Act.put,List.getElem_toArray,List.getElem_cons_zero,List.getElem_cons_succ,List.setIfInBounds_toArray,List.set_cons_zero,List.set_cons_succ]
 refine wpAnyH_take (i:=7) (v:=?_) rfl (by kernel_rfl) (by kernel_rfl) (by kernel_rfl) (fun _ _ _ h=>hP _ _ _ _ _ h) (Or.inl ⟨by rfl,fun W' hW=>?_⟩) hS ?_
 rotate_left
 · skip
   go_simp
   try with_reducible rfl
 try simp only [Act.put,List.getElem_toArray,List.getElem_cons_zero,List.getElem_cons_succ,List.setIfInBounds_toArray,List.set_cons_zero,List.set_cons_succ]
 refine wpAnyH_take (i:=8) (v:=?_) rfl (by kernel_rfl) (by kernel_rfl) (by kernel_rfl) (fun _ _ _ h=>hP _ _ _ _ _ h) (Or.inl ⟨by rfl,fun W' hW=>?_⟩) hS ?_
 rotate_left
 · skip
   have x1:=(hW.cell (p:=⟨k.n,2,none⟩) hkl (by simp)).trans hk8
   go_simp
   try with_reducible rfl
 try simp only [Act.put,List.getElem_toArray,List.getElem_cons_zero,List.getElem_cons_succ,List.setIfInBounds_toArray,List.set_cons_zero,List.set_cons_succ]
 refine wpAnyH_ready (rs:=[4,15]) (by kernel_rfl) (by simp) (AllReadyH.cons rfl (fun K hK=>?_) (AllReadyH.cons rfl (fun K hK=>?_) AllReadyH.nil))
 · rw [if_pos (by rfl)]
   go_simp
   refine (HEN.out _ hS).1.mono ?_;rintro e v0 ⟨rfl,ho⟩;refine hK.out _ _ (hS.trans ho (fun _ h=>by cases h)) (fun hS=>?_);clear hK K;clear ho
   try simp only [Act.put,List.getElem_toArray,List.getElem_cons_zero,List.getElem_cons_succ,List.setIfInBounds_toArray,List.set_cons_zero,List.set_cons_succ]
   refine wpAnyH_ready (rs:=[9,15]) (by kernel_rfl) (by simp) (AllReadyH.cons rfl (fun K hK=>?_) (AllReadyH.cons rfl (fun K hK=>?_) AllReadyH.nil))
   · rw [if_pos (by rfl)]
     go_simp
     refine (HEN.out _ hS).1.mono ?_;rintro e v1 ⟨rfl,ho⟩;refine hK.out _ _ (hS.trans ho (fun _ h=>by cases h)) (fun hS=>?_);clear hK K;clear ho
     try simp only [Act.put,List.getElem_toArray,List.getElem_cons_zero,List.getElem_cons_succ,List.setIfInBounds_toArray,List.set_cons_zero,List.set_cons_succ]
     refine wpAnyH_ready (rs:=[10,15]) (by kernel_rfl) (by simp) (AllReadyH.cons rfl (fun K hK=>?_) (AllReadyH.cons rfl (fun K hK=>?_) AllReadyH.nil))
     · rw [if_pos (by rfl)]
       go_simp
       refine (HEN.out _ hS).2.1.mono ?_;rintro e v2 ⟨rfl,ho⟩;refine hK.out _ _ (hS.trans ho (fun _ h=>by cases h)) (fun hS=>?_);clear hK K;clear ho
       try simp only [Act.put,List.getElem_toArray,List.getElem_cons_zero,List.getElem_cons_succ,List.setIfInBounds_toArray,List.set_cons_zero,List.set_cons_succ]
       refine wpAnyH_ready (rs:=[11,15]) (by kernel_rfl) (by simp) (AllReadyH.cons rfl (fun K hK=>?_) (AllReadyH.cons rfl (fun K hK=>?_) AllReadyH.nil))
       · rw [if_pos (by rfl)]
         go_simp
         refine (HEN.out _ hS).2.2.mono ?_;rintro e v3 ⟨rfl,ho⟩;refine hK.out _ _ (hS.trans ho (fun _ h=>by cases h)) (fun hS=>?_);clear hK K;clear ho
         try simp only [Act.put,List.getElem_toArray,List.getElem_cons_zero,List.getElem_cons_succ,List.setIfInBounds_toArray,List.set_cons_zero,List.set_cons_succ]
         refine wpAnyH_take (i:=12) (v:=?_) rfl (by kernel_rfl) (by kernel_rfl) (by kernel_rfl) (fun _ _ _ h=>hP _ _ _ _ _ h) (Or.inl ⟨by rfl,fun W' hW=>?_⟩) hS ?_
         rotate_left
         · skip
           go_simp
           try with_reducible rfl
         try simp only [Act.put,List.getElem_toArray,List.getElem_cons_zero,List.getElem_cons_succ,List.setIfInBounds_toArray,List.set_cons_zero,List.set_cons_succ]
         refine wpAnyH_take (i:=13) (v:=?_) rfl (by kernel_rfl) (by kernel_rfl) (by kernel_rfl) (fun _ _ _ h=>hP _ _ _ _ _ h) (Or.inl ⟨by rfl,fun W' hW=>?_⟩) hS ?_
         rotate_left
         · skip
           go_simp
           try with_reducible rfl
         try simp only [Act.put,List.getElem_toArray,List.getElem_cons_zero,List.getElem_cons_succ,List.setIfInBounds_toArray,List.set_cons_zero,List.set_cons_succ]
         refine wpAnyH_take (i:=14) (v:=?_) rfl (by kernel_rfl) (by kernel_rfl) (by kernel_rfl) (fun _ _ _ h=>hP _ _ _ _ _ h) (Or.inl ⟨by rfl,fun W' hW=>?_⟩) hS ?_
         rotate_left
         · skip
           go_simp
           try with_reducible rfl
         try simp only [Act.put,List.getElem_toArray,List.getElem_cons_zero,List.getElem_cons_succ,List.setIfInBounds_toArray,List.set_cons_zero,List.set_cons_succ]
         refine wpAnyH_ready (rs:=[15]) (by kernel_rfl) (by simp) (AllReadyH.cons rfl (fun K hK=>?_) AllReadyH.nil);rw [if_pos (by rfl)]
         go_simp
         have hbk:=heap_alloc_last v3 attrO;have hge:=hS.size;refine hK.out _ _ (hS.alloc _) (fun hS=>?_);clear hK K;generalize v3.heap.size=bb at hbk hge ⊢;generalize World.alloc v3 attrO=WA at hbk hS ⊢
         try simp only [Act.put,List.getElem_toArray,List.getElem_cons_zero,List.getElem_cons_succ,List.setIfInBounds_toArray,List.set_cons_zero,List.set_cons_succ]
         obtain ⟨z0,z1,z2,z3,z4,z5,zl,zf⟩:=cellsA hbk;refine wpAnyH_ready (rs:=[16]) (by kernel_rfl) (by simp) (AllReadyH.cons rfl (fun K hK=>?_) AllReadyH.nil);rw [if_pos (by rfl)]
         go_simp
         have hbk2:=set6A hbk (.int .i64 2) (.int .i64 (c:Nat)) (.int .i64 Lr) (.int .i64 (c:Nat)) (.int .i64 UN) (.int .i64 UG);refine hK.out _ _ (setA hS hge _ _ _ _ _ _) (fun hS=>?_);clear hK K
         try simp only [Act.put,List.getElem_toArray,List.getElem_cons_zero,List.getElem_cons_succ,List.setIfInBounds_toArray,List.set_cons_zero,List.set_cons_succ]
         refine wpAnyH_take (i:=17) (v:=?_) rfl (by kernel_rfl) (by kernel_rfl) (by kernel_rfl) (fun _ _ _ h=>hP _ _ _ _ _ h) (Or.inl ⟨by rfl,fun W' hW=>?_⟩) hS ?_
         rotate_left
         · skip
           go_simp
           try with_reducible rfl
         try simp only [Act.put,List.getElem_toArray,List.getElem_cons_zero,List.getElem_cons_succ,List.setIfInBounds_toArray,List.set_cons_zero,List.set_cons_succ]
         refine wpAnyH_done (by kernel_rfl) ?_ _;exact hQ bb _ hbk2 hS hge
       · rw [if_pos (by rfl)]
         go_simp
         have hbk:=heap_alloc_last v2 attrO;have hge:=hS.size;refine hK.out _ _ (hS.alloc _) (fun hS=>?_);clear hK K;generalize v2.heap.size=bb at hbk hge ⊢;generalize World.alloc v2 attrO=WA at hbk hS ⊢
         try simp only [Act.put,List.getElem_toArray,List.getElem_cons_zero,List.getElem_cons_succ,List.setIfInBounds_toArray,List.set_cons_zero,List.set_cons_succ]
         refine wpAnyH_ready (rs:=[11]) (by kernel_rfl) (by simp) (AllReadyH.cons rfl (fun K hK=>?_) AllReadyH.nil);rw [if_pos (by rfl)]
         go_simp
         refine (HEN.out _ hS).2.2.mono ?_;rintro e v3 ⟨rfl,ho⟩;refine hK.out _ _ (hS.trans ho (fun _ h=>by cases h)) (fun hS=>?_);clear hK K;replace hbk:=(ho.block _ (Array.getElem?_eq_some_iff.1 hbk).1 (by simp)).trans hbk;clear ho
         try simp only [Act.put,List.getElem_toArray,List.getElem_cons_zero,List.getElem_cons_succ,List.setIfInBounds_toArray,List.set_cons_zero,List.set_cons_succ]
         refine wpAnyH_take (i:=12) (v:=?_) rfl (by kernel_rfl) (by kernel_rfl) (by kernel_rfl) (fun _ _ _ h=>hP _ _ _ _ _ h) (Or.inl ⟨by rfl,fun W' hW=>?_⟩) hS ?_
         rotate_left
         · skip
           go_simp
           try with_reducible rfl
         try simp only [Act.put,List.getElem_toArray,List.getElem_cons_zero,List.getElem_cons_succ,List.setIfInBounds_toArray,List.set_cons_zero,List.set_cons_succ]
         refine wpAnyH_take (i:=13) (v:=?_) rfl (by kernel_rfl) (by kernel_rfl) (by kernel_rfl) (fun _ _ _ h=>hP _ _ _ _ _ h) (Or.inl ⟨by rfl,fun W' hW=>?_⟩) hS ?_
         rotate_left
         · skip
           go_simp
           try with_reducible rfl
         try simp only [Act.put,List.getElem_toArray,List.getElem_cons_zero,List.getElem_cons_succ,List.setIfInBounds_toArray,List.set_cons_zero,List.set_cons_succ]
         refine wpAnyH_take (i:=14) (v:=?_) rfl (by kernel_rfl) (by kernel_rfl) (by kernel_rfl) (fun _ _ _ h=>hP _ _ _ _ _ h) (Or.inl ⟨by rfl,fun W' hW=>?_⟩) hS ?_
         rotate_left
         · skip
           go_simp
           try with_reducible rfl
         try simp only [Act.put,List.getElem_toArray,List.getElem_cons_zero,List.getElem_cons_succ,List.setIfInBounds_toArray,List.set_cons_zero,List.set_cons_succ]
         obtain ⟨z0,z1,z2,z3,z4,z5,zl,zf⟩:=cellsA hbk;refine wpAnyH_ready (rs:=[16]) (by kernel_rfl) (by simp) (AllReadyH.cons rfl (fun K hK=>?_) AllReadyH.nil);rw [if_pos (by rfl)]
         go_simp
         have hbk2:=set6A hbk (.int .i64 2) (.int .i64 (c:Nat)) (.int .i64 Lr) (.int .i64 (c:Nat)) (.int .i64 UN) (.int .i64 UG);refine hK.out _ _ (setA hS hge _ _ _ _ _ _) (fun hS=>?_);clear hK K
         try simp only [Act.put,List.getElem_toArray,List.getElem_cons_zero,List.getElem_cons_succ,List.setIfInBounds_toArray,List.set_cons_zero,List.set_cons_succ]
         refine wpAnyH_take (i:=17) (v:=?_) rfl (by kernel_rfl) (by kernel_rfl) (by kernel_rfl) (fun _ _ _ h=>hP _ _ _ _ _ h) (Or.inl ⟨by rfl,fun W' hW=>?_⟩) hS ?_
         rotate_left
         · skip
           go_simp
           try with_reducible rfl
         try simp only [Act.put,List.getElem_toArray,List.getElem_cons_zero,List.getElem_cons_succ,List.setIfInBounds_toArray,List.set_cons_zero,List.set_cons_succ]
         refine wpAnyH_done (by kernel_rfl) ?_ _;exact hQ bb _ hbk2 hS hge
     · rw [if_pos (by rfl)]
       go_simp
       have hbk:=heap_alloc_last v1 attrO;have hge:=hS.size;refine hK.out _ _ (hS.alloc _) (fun hS=>?_);clear hK K;generalize v1.heap.size=bb at hbk hge ⊢;generalize World.alloc v1 attrO=WA at hbk hS ⊢
       try simp only [Act.put,List.getElem_toArray,List.getElem_cons_zero,List.getElem_cons_succ,List.setIfInBounds_toArray,List.set_cons_zero,List.set_cons_succ]
       refine wpAnyH_ready (rs:=[10]) (by kernel_rfl) (by simp) (AllReadyH.cons rfl (fun K hK=>?_) AllReadyH.nil);rw [if_pos (by rfl)]
       go_simp
       refine (HEN.out _ hS).2.1.mono ?_;rintro e v2 ⟨rfl,ho⟩;refine hK.out _ _ (hS.trans ho (fun _ h=>by cases h)) (fun hS=>?_);clear hK K;replace hbk:=(ho.block _ (Array.getElem?_eq_some_iff.1 hbk).1 (by simp)).trans hbk;clear ho
       try simp only [Act.put,List.getElem_toArray,List.getElem_cons_zero,List.getElem_cons_succ,List.setIfInBounds_toArray,List.set_cons_zero,List.set_cons_succ]
       refine wpAnyH_ready (rs:=[11]) (by kernel_rfl) (by simp) (AllReadyH.cons rfl (fun K hK=>?_) AllReadyH.nil);rw [if_pos (by rfl)]
       go_simp
       refine (HEN.out _ hS).2.2.mono ?_;rintro e v3 ⟨rfl,ho⟩;refine hK.out _ _ (hS.trans ho (fun _ h=>by cases h)) (fun hS=>?_);clear hK K;replace hbk:=(ho.block _ (Array.getElem?_eq_some_iff.1 hbk).1 (by simp)).trans hbk;clear ho
       try simp only [Act.put,List.getElem_toArray,List.getElem_cons_zero,List.getElem_cons_succ,List.setIfInBounds_toArray,List.set_cons_zero,List.set_cons_succ]
       refine wpAnyH_take (i:=12) (v:=?_) rfl (by kernel_rfl) (by kernel_rfl) (by kernel_rfl) (fun _ _ _ h=>hP _ _ _ _ _ h) (Or.inl ⟨by rfl,fun W' hW=>?_⟩) hS ?_
       rotate_left
       · skip
         go_simp
         try with_reducible rfl
       try simp only [Act.put,List.getElem_toArray,List.getElem_cons_zero,List.getElem_cons_succ,List.setIfInBounds_toArray,List.set_cons_zero,List.set_cons_succ]
       refine wpAnyH_take (i:=13) (v:=?_) rfl (by kernel_rfl) (by kernel_rfl) (by kernel_rfl) (fun _ _ _ h=>hP _ _ _ _ _ h) (Or.inl ⟨by rfl,fun W' hW=>?_⟩) hS ?_
       rotate_left
       · skip
         go_simp
         try with_reducible rfl
       try simp only [Act.put,List.getElem_toArray,List.getElem_cons_zero,List.getElem_cons_succ,List.setIfInBounds_toArray,List.set_cons_zero,List.set_cons_succ]
       refine wpAnyH_take (i:=14) (v:=?_) rfl (by kernel_rfl) (by kernel_rfl) (by kernel_rfl) (fun _ _ _ h=>hP _ _ _ _ _ h) (Or.inl ⟨by rfl,fun W' hW=>?_⟩) hS ?_
       rotate_left
       · skip
         go_simp
         try with_reducible rfl
       try simp only [Act.put,List.getElem_toArray,List.getElem_cons_zero,List.getElem_cons_succ,List.setIfInBounds_toArray,List.set_cons_zero,List.set_cons_succ]
       obtain ⟨z0,z1,z2,z3,z4,z5,zl,zf⟩:=cellsA hbk;refine wpAnyH_ready (rs:=[16]) (by kernel_rfl) (by simp) (AllReadyH.cons rfl (fun K hK=>?_) AllReadyH.nil);rw [if_pos (by rfl)]
       go_simp
       have hbk2:=set6A hbk (.int .i64 2) (.int .i64 (c:Nat)) (.int .i64 Lr) (.int .i64 (c:Nat)) (.int .i64 UN) (.int .i64 UG);refine hK.out _ _ (setA hS hge _ _ _ _ _ _) (fun hS=>?_);clear hK K
       try simp only [Act.put,List.getElem_toArray,List.getElem_cons_zero,List.getElem_cons_succ,List.setIfInBounds_toArray,List.set_cons_zero,List.set_cons_succ]
       refine wpAnyH_take (i:=17) (v:=?_) rfl (by kernel_rfl) (by kernel_rfl) (by kernel_rfl) (fun _ _ _ h=>hP _ _ _ _ _ h) (Or.inl ⟨by rfl,fun W' hW=>?_⟩) hS ?_
       rotate_left
       · skip
         go_simp
         try with_reducible rfl
       try simp only [Act.put,List.getElem_toArray,List.getElem_cons_zero,List.getElem_cons_succ,List.setIfInBounds_toArray,List.set_cons_zero,List.set_cons_succ]
       refine wpAnyH_done (by kernel_rfl) ?_ _;exact hQ bb _ hbk2 hS hge
   · rw [if_pos (by rfl)]
     go_simp
     have hbk:=heap_alloc_last v0 attrO;have hge:=hS.size;refine hK.out _ _ (hS.alloc _) (fun hS=>?_);clear hK K;generalize v0.heap.size=bb at hbk hge ⊢;generalize World.alloc v0 attrO=WA at hbk hS ⊢
     try simp only [Act.put,List.getElem_toArray,List.getElem_cons_zero,List.getElem_cons_succ,List.setIfInBounds_toArray,List.set_cons_zero,List.set_cons_succ]
     refine wpAnyH_ready (rs:=[9]) (by kernel_rfl) (by simp) (AllReadyH.cons rfl (fun K hK=>?_) AllReadyH.nil);rw [if_pos (by rfl)]
     go_simp
     refine (HEN.out _ hS).1.mono ?_;rintro e v1 ⟨rfl,ho⟩;refine hK.out _ _ (hS.trans ho (fun _ h=>by cases h)) (fun hS=>?_);clear hK K;replace hbk:=(ho.block _ (Array.getElem?_eq_some_iff.1 hbk).1 (by simp)).trans hbk;clear ho
     try simp only [Act.put,List.getElem_toArray,List.getElem_cons_zero,List.getElem_cons_succ,List.setIfInBounds_toArray,List.set_cons_zero,List.set_cons_succ]
     refine wpAnyH_ready (rs:=[10]) (by kernel_rfl) (by simp) (AllReadyH.cons rfl (fun K hK=>?_) AllReadyH.nil);rw [if_pos (by rfl)]
     go_simp
     refine (HEN.out _ hS).2.1.mono ?_;rintro e v2 ⟨rfl,ho⟩;refine hK.out _ _ (hS.trans ho (fun _ h=>by cases h)) (fun hS=>?_);clear hK K;replace hbk:=(ho.block _ (Array.getElem?_eq_some_iff.1 hbk).1 (by simp)).trans hbk;clear ho
     try simp only [Act.put,List.getElem_toArray,List.getElem_cons_zero,List.getElem_cons_succ,List.setIfInBounds_toArray,List.set_cons_zero,List.set_cons_succ]
     refine wpAnyH_ready (rs:=[11]) (by kernel_rfl) (by simp) (AllReadyH.cons rfl (fun K hK=>?_) AllReadyH.nil);rw [if_pos (by rfl)]
     go_simp
     refine (HEN.out _ hS).2.2.mono ?_;rintro e v3 ⟨rfl,ho⟩;refine hK.out _ _ (hS.trans ho (fun _ h=>by cases h)) (fun hS=>?_);clear hK K;replace hbk:=(ho.block _ (Array.getElem?_eq_some_iff.1 hbk).1 (by simp)).trans hbk;clear ho
     try simp only [Act.put,List.getElem_toArray,List.getElem_cons_zero,List.getElem_cons_succ,List.setIfInBounds_toArray,List.set_cons_zero,List.set_cons_succ]
     refine wpAnyH_take (i:=12) (v:=?_) rfl (by kernel_rfl) (by kernel_rfl) (by kernel_rfl) (fun _ _ _ h=>hP _ _ _ _ _ h) (Or.inl ⟨by rfl,fun W' hW=>?_⟩) hS ?_
     rotate_left
     · skip
       go_simp
       try with_reducible rfl
     try simp only [Act.put,List.getElem_toArray,List.getElem_cons_zero,List.getElem_cons_succ,List.setIfInBounds_toArray,List.set_cons_zero,List.set_cons_succ]
     refine wpAnyH_take (i:=13) (v:=?_) rfl (by kernel_rfl) (by kernel_rfl) (by kernel_rfl) (fun _ _ _ h=>hP _ _ _ _ _ h) (Or.inl ⟨by rfl,fun W' hW=>?_⟩) hS ?_
     rotate_left
     · skip
       go_simp
       try with_reducible rfl
     try simp only [Act.put,List.getElem_toArray,List.getElem_cons_zero,List.getElem_cons_succ,List.setIfInBounds_toArray,List.set_cons_zero,List.set_cons_succ]
     refine wpAnyH_take (i:=14) (v:=?_) rfl (by kernel_rfl) (by kernel_rfl) (by kernel_rfl) (fun _ _ _ h=>hP _ _ _ _ _ h) (Or.inl ⟨by rfl,fun W' hW=>?_⟩) hS ?_
     rotate_left
     · skip
       go_simp
       try with_reducible rfl
     try simp only [Act.put,List.getElem_toArray,List.getElem_cons_zero,List.getElem_cons_succ,List.setIfInBounds_toArray,List.set_cons_zero,List.set_cons_succ]
     obtain ⟨z0,z1,z2,z3,z4,z5,zl,zf⟩:=cellsA hbk;refine wpAnyH_ready (rs:=[16]) (by kernel_rfl) (by simp) (AllReadyH.cons rfl (fun K hK=>?_) AllReadyH.nil);rw [if_pos (by rfl)]
     go_simp
     have hbk2:=set6A hbk (.int .i64 2) (.int .i64 (c:Nat)) (.int .i64 Lr) (.int .i64 (c:Nat)) (.int .i64 UN) (.int .i64 UG);refine hK.out _ _ (setA hS hge _ _ _ _ _ _) (fun hS=>?_);clear hK K
     try simp only [Act.put,List.getElem_toArray,List.getElem_cons_zero,List.getElem_cons_succ,List.setIfInBounds_toArray,List.set_cons_zero,List.set_cons_succ]
     refine wpAnyH_take (i:=17) (v:=?_) rfl (by kernel_rfl) (by kernel_rfl) (by kernel_rfl) (fun _ _ _ h=>hP _ _ _ _ _ h) (Or.inl ⟨by rfl,fun W' hW=>?_⟩) hS ?_
     rotate_left
     · skip
       go_simp
       try with_reducible rfl
     try simp only [Act.put,List.getElem_toArray,List.getElem_cons_zero,List.getElem_cons_succ,List.setIfInBounds_toArray,List.set_cons_zero,List.set_cons_succ]
     refine wpAnyH_done (by kernel_rfl) ?_ _;exact hQ bb _ hbk2 hS hge
 · rw [if_pos (by rfl)]
   go_simp
   have hbk:=heap_alloc_last W9 attrO;have hge:=hS.size;refine hK.out _ _ (hS.alloc _) (fun hS=>?_);clear hK K;generalize W9.heap.size=bb at hbk hge ⊢;generalize World.alloc W9 attrO=WA at hbk hS ⊢
   try simp only [Act.put,List.getElem_toArray,List.getElem_cons_zero,List.getElem_cons_succ,List.setIfInBounds_toArray,List.set_cons_zero,List.set_cons_succ]
   refine wpAnyH_ready (rs:=[4]) (by kernel_rfl) (by simp) (AllReadyH.cons rfl (fun K hK=>?_) AllReadyH.nil);rw [if_pos (by rfl)]
   go_simp
   refine (HEN.out _ hS).1.mono ?_;rintro e v0 ⟨rfl,ho⟩;refine hK.out _ _ (hS.trans ho (fun _ h=>by cases h)) (fun hS=>?_);clear hK K;replace hbk:=(ho.block _ (Array.getElem?_eq_some_iff.1 hbk).1 (by simp)).trans hbk;clear ho
   try simp only [Act.put,List.getElem_toArray,List.getElem_cons_zero,List.getElem_cons_succ,List.setIfInBounds_toArray,List.set_cons_zero,List.set_cons_succ]
   refine wpAnyH_ready (rs:=[9]) (by kernel_rfl) (by simp) (AllReadyH.cons rfl (fun K hK=>?_) AllReadyH.nil);rw [if_pos (by rfl)]
   go_simp
   refine (HEN.out _ hS).1.mono ?_;rintro e v1 ⟨rfl,ho⟩;refine hK.out _ _ (hS.trans ho (fun _ h=>by cases h)) (fun hS=>?_);clear hK K;replace hbk:=(ho.block _ (Array.getElem?_eq_some_iff.1 hbk).1 (by simp)).trans hbk;clear ho
   try simp only [Act.put,List.getElem_toArray,List.getElem_cons_zero,List.getElem_cons_succ,List.setIfInBounds_toArray,List.set_cons_zero,List.set_cons_succ]
   refine wpAnyH_ready (rs:=[10]) (by kernel_rfl) (by simp) (AllReadyH.cons rfl (fun K hK=>?_) AllReadyH.nil);rw [if_pos (by rfl)]
   go_simp
   refine (HEN.out _ hS).2.1.mono ?_;rintro e v2 ⟨rfl,ho⟩;refine hK.out _ _ (hS.trans ho (fun _ h=>by cases h)) (fun hS=>?_);clear hK K;replace hbk:=(ho.block _ (Array.getElem?_eq_some_iff.1 hbk).1 (by simp)).trans hbk;clear ho
   try simp only [Act.put,List.getElem_toArray,List.getElem_cons_zero,List.getElem_cons_succ,List.setIfInBounds_toArray,List.set_cons_zero,List.set_cons_succ]
   refine wpAnyH_ready (rs:=[11]) (by kernel_rfl) (by simp) (AllReadyH.cons rfl (fun K hK=>?_) AllReadyH.nil);rw [if_pos (by rfl)]
   go_simp
   refine (HEN.out _ hS).2.2.mono ?_;rintro e v3 ⟨rfl,ho⟩;refine hK.out _ _ (hS.trans ho (fun _ h=>by cases h)) (fun hS=>?_);clear hK K;replace hbk:=(ho.block _ (Array.getElem?_eq_some_iff.1 hbk).1 (by simp)).trans hbk;clear ho
   try simp only [Act.put,List.getElem_toArray,List.getElem_cons_zero,List.getElem_cons_succ,List.setIfInBounds_toArray,List.set_cons_zero,List.set_cons_succ]
   refine wpAnyH_take (i:=12) (v:=?_) rfl (by kernel_rfl) (by kernel_rfl) (by kernel_rfl) (fun _ _ _ h=>hP _ _ _ _ _ h) (Or.inl ⟨by rfl,fun W' hW=>?_⟩) hS ?_
   rotate_left
   · skip
     go_simp
     try with_reducible rfl
   try simp only [Act.put,List.getElem_toArray,List.getElem_cons_zero,List.getElem_cons_succ,List.setIfInBounds_toArray,List.set_cons_zero,List.set_cons_succ]
   refine wpAnyH_take (i:=13) (v:=?_) rfl (by kernel_rfl) (by kernel_rfl) (by kernel_rfl) (fun _ _ _ h=>hP _ _ _ _ _ h) (Or.inl ⟨by rfl,fun W' hW=>?_⟩) hS ?_
   rotate_left
   · skip
     go_simp
     try with_reducible rfl
   try simp only [Act.put,List.getElem_toArray,List.getElem_cons_zero,List.getElem_cons_succ,List.setIfInBounds_toArray,List.set_cons_zero,List.set_cons_succ]
   refine wpAnyH_take (i:=14) (v:=?_) rfl (by kernel_rfl) (by kernel_rfl) (by kernel_rfl) (fun _ _ _ h=>hP _ _ _ _ _ h) (Or.inl ⟨by rfl,fun W' hW=>?_⟩) hS ?_
   rotate_left
   · skip
     go_simp
     try with_reducible rfl
   try simp only [Act.put,List.getElem_toArray,List.getElem_cons_zero,List.getElem_cons_succ,List.setIfInBounds_toArray,List.set_cons_zero,List.set_cons_succ]
   obtain ⟨z0,z1,z2,z3,z4,z5,zl,zf⟩:=cellsA hbk;refine wpAnyH_ready (rs:=[16]) (by kernel_rfl) (by simp) (AllReadyH.cons rfl (fun K hK=>?_) AllReadyH.nil);rw [if_pos (by rfl)]
   go_simp
   have hbk2:=set6A hbk (.int .i64 2) (.int .i64 (c:Nat)) (.int .i64 Lr) (.int .i64 (c:Nat)) (.int .i64 UN) (.int .i64 UG);refine hK.out _ _ (setA hS hge _ _ _ _ _ _) (fun hS=>?_);clear hK K
   try simp only [Act.put,List.getElem_toArray,List.getElem_cons_zero,List.getElem_cons_succ,List.setIfInBounds_toArray,List.set_cons_zero,List.set_cons_succ]
   refine wpAnyH_take (i:=17) (v:=?_) rfl (by kernel_rfl) (by kernel_rfl) (by kernel_rfl) (fun _ _ _ h=>hP _ _ _ _ _ h) (Or.inl ⟨by rfl,fun W' hW=>?_⟩) hS ?_
   rotate_left
   · skip
     go_simp
     try with_reducible rfl
   try simp only [Act.put,List.getElem_toArray,List.getElem_cons_zero,List.getElem_cons_succ,List.setIfInBounds_toArray,List.set_cons_zero,List.set_cons_succ]
   refine wpAnyH_done (by kernel_rfl) ?_ _;exact hQ bb _ hbk2 hS hge
end
end Go.Proofs.YtmfcfkomdflhlaaGreatDoor
