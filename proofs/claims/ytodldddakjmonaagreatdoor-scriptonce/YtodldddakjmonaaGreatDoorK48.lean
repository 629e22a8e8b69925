import Derived.Laws.ResultCell
import Derived.Test.YtodldddakjmonaaGreatDoorK47
import Derived.Deep.Strs
import Derived.Deep.Slices
import Derived.OpenShut
import Derived.Lib.SmallJoins
set_option maxRecDepth 100000
set_option maxHeartbeats 8000000
namespace Go.Proofs.YtodldddakjmonaaGreatDoor
section
open Go Go.RowKit Go.Deep
theorem sameTexts_some (b1 o1 c1 b2 o2 c2 n:Nat)(T:Nat→ByteArray)(w:World)(h1:∀ i,i < n→w.cell? ⟨b1,o1+i,none⟩=some (.string (T i)))(h2:∀ i,i < n→w.cell? ⟨b2,o2+i,none⟩=some (.string (T i)))(hn:n≤1000000):
  Calls Tryz.prog 7 #[.slice (some ⟨b1,o1,none⟩) n c1,.slice (some ⟨b2,o2,none⟩) n c2] w fun e w'=>e = .returned (.bool true)∧Below w.heap.size w w':=by
 have H1:Hid _:=h1;have H2:Hid _:=h2;clear h1 h2
 go_enter Tryz.func7,Tryz.ntmps7
 go_wp2
 go_loopw [5] (fun i wr=>∃ j:Nat,j≤n∧i = .int .i64 j∧(∀ a,wr.cell? a=w.cell? a)∧Below w.heap.size w wr) (fun i _=>n - (intOf i).toNat)
 case atStart=>exact ⟨0,Nat.zero_le _,rfl,fun _=>rfl,Below.refl _ _⟩
 case round =>
  obtain ⟨j,hj,rfl,hall,hb⟩:=hrel
  by_cases hlt:j < n
  · have c1:wr.cell? ⟨b1,o1+j,none⟩=some (.string (T j)):=(hall _).trans (H1.out j hlt)
    have c2:wr.cell? ⟨b2,o2+j,none⟩=some (.string (T j)):=(hall _).trans (H2.out j hlt);have HA:Hid _:=hall;clear hall
    go_wp2
    go_region
    all_goals
     go_wp2
     go_roundw
     case rel=>exact ⟨j+1,by omega,by go_num,fun a=>HA.out a,hb.drew⟩
     case measure=>simp [intOf];omega
  · clear hall
    go_wp2
    go_ret
    exact ⟨rfl,hb⟩
end
section
open Go Go.RowKit Go.Deep Go.Maps
def helloC:Nat→Cmd
 | 0 => .go 0
 | 1 => .go 0
 | _ => .tree
theorem hello_out:outAt helloC 1=didB∧outAt helloC 2=okB∧outAt helloC 3=slX:=⟨by kernel_rfl,by kernel_rfl,by kernel_rfl⟩
theorem hello_ok (A:Nat→Addr)(w:World)(m:Int)(hE:Errs w A)(hm:w.cell? ⟨8,0,none⟩=some (.int .i64 m)):
   Calls Tryz.prog 4 #[] w fun e w'=>e = .returned (.bool true)∧Only [] w w':=by
 have o1:Only [] w (w.alloc (.cells #[.string ⟨#[109,97,107,101,32,97,32,47,120,32,102,105,108,101]⟩,.string ⟨#[103,111,32,48]⟩,.string ⟨#[103,111,32,48]⟩,.string ⟨#[116,114,101,101]⟩] 9)):=(Only.refl [] w).alloc _;have hb:BlkC (w.alloc (.cells #[.string ⟨#[109,97,107,101,32,97,32,47,120,32,102,105,108,101]⟩,.string ⟨#[103,111,32,48]⟩,.string ⟨#[103,111,32,48]⟩,.string ⟨#[116,114,101,101]⟩] 9)) w.heap.size #[.string ⟨#[109,97,107,101,32,97,32,47,120,32,102,105,108,101]⟩,.string ⟨#[103,111,32,48]⟩,.string ⟨#[103,111,32,48]⟩,.string ⟨#[116,114,101,101]⟩] 9:=BlkC.new _ _ _
 have HR:=srun_ok A (w.alloc (.cells #[.string ⟨#[109,97,107,101,32,97,32,47,120,32,102,105,108,101]⟩,.string ⟨#[103,111,32,48]⟩,.string ⟨#[103,111,32,48]⟩,.string ⟨#[116,114,101,101]⟩] 9)) m (hE.below (o1.to_below (Nat.le_refl _) (fun _ h=>by cases h)) (Nat.le_refl _)) ((o1.cell (p:=⟨8,0,none⟩) (lt_of_cell hm) (by simp)).trans hm) w.heap.size 0 4 4 (by decide) helloC (fun q=>by unfold helloC;split<;>first | exact Nat.zero_le _ | trivial) (fun q hq=>by
   rw [Nat.zero_add,hb.cell q];rcases q with _ | _ | _ | _ | q
   · kernel_rfl
   · kernel_rfl
   · kernel_rfl
   · kernel_rfl
   · omega)
 have HR':Hid (Calls Tryz.prog 6 #[.slice (some ⟨w.heap.size,0,none⟩) 4 4] (w.alloc (.cells #[.string ⟨#[109,97,107,101,32,97,32,47,120,32,102,105,108,101]⟩,.string ⟨#[103,111,32,48]⟩,.string ⟨#[103,111,32,48]⟩,.string ⟨#[116,114,101,101]⟩] 9)) fun e w'=>∃ R,e = .returned (.tuple #[.slice (some ⟨R,0,none⟩) 4 4,.nilIface])∧(∀ q,q < 4→w'.cell? ⟨R,q,none⟩=some (.string (outAt helloC q)))∧(w.alloc (.cells #[.string ⟨#[109,97,107,101,32,97,32,47,120,32,102,105,108,101]⟩,.string ⟨#[103,111,32,48]⟩,.string ⟨#[103,111,32,48]⟩,.string ⟨#[116,114,101,101]⟩] 9)).heap.size≤R∧Only [] (w.alloc (.cells #[.string ⟨#[109,97,107,101,32,97,32,47,120,32,102,105,108,101]⟩,.string ⟨#[103,111,32,48]⟩,.string ⟨#[103,111,32,48]⟩,.string ⟨#[116,114,101,101]⟩] 9)) w'):=HR;clear hE hm hb o1 HR
 go_enter Tryz.func4,Tryz.ntmps4
 go_wp2_with (first
   | (go_at_call 6;go_must (refine HR'.out.mono ?_);rintro e w2 ⟨R,rfl,hq,hR,ho⟩;have H2:Hid ((∀ q,q < 4→w2.cell? ⟨R,q,none⟩=some (.string (outAt helloC q)))∧Only [] w w2):=⟨hq,((Only.refl [] w).alloc _).trans ho (fun _ h=>by cases h)⟩;clear hq hR ho)
   | (go_at_call 7;go_must (refine (sameTexts_some R 0 4 w2.heap.size 0 4 4 (outAt helloC) _ (fun q hq=>?_) (fun q hq=>?_) (by decide)).mono ?_);rotate_left 2;rintro e w3 ⟨rfl,hb⟩;have H3:Hid (Only [] w w3):=(H2.out.2.alloc _).trans (Only.of_below hb []) (fun _ h=>by cases h);clear hb))
 · go_ret
   exact ⟨rfl,H3.out⟩
 · refine ((((Only.refl [] w2).alloc _).cell (p:=⟨R,0+q,none⟩) ?_ (by simp)).trans ((congrArg (fun z=>w2.cell? ⟨R,z,none⟩) (Nat.zero_add q)).trans (H2.out.1 q hq)))
   exact lt_of_cell ((congrArg (fun z=>w2.cell? ⟨R,z,none⟩) (Nat.zero_add q)).trans (H2.out.1 q hq))
 · rw [Nat.zero_add,(BlkC.new w2 _ _).cell q]
   rcases q with _ | _ | _ | _ | q
   · rfl
   · rw [hello_out.1];rfl
   · rw [hello_out.2.1];rfl
   · rw [hello_out.2.2];rfl
   · omega
theorem stepC_did (s:ScSt)(c:Cmd):((stepC s c).1=didB∧s.did=false∧(stepC s c).2.did=true)∨((stepC s c).1≠didB∧(stepC s c).2.did=s.did):=by
 have n1:noneB≠didB:=by decide +kernel
 have n2:okB≠didB:=by decide +kernel
 have n3:keptB≠didB:=by decide +kernel
 have n4:lateB≠didB:=by decide +kernel
 have n5:slX≠didB:=by decide +kernel
 have n6:nothB≠didB:=by decide +kernel
 obtain ⟨ms,did,ph⟩:=s
 cases c with
 | tw =>
  cases hm:ms[0]? with
  | none=>exact Or.inr (by simp [stepC,hm,n1])
  | some y=>exact Or.inr (by simp [stepC,hm,n2])
 | go i =>
  cases hm:ms[i]? with
  | none=>exact Or.inr (by simp [stepC,hm,n1])
  | some y =>
   cases y with
   | false =>
    cases did
    · exact Or.inl (by simp [stepC,hm])
    · exact Or.inr (by simp [stepC,hm,n3])
   | true=>exact Or.inr (by by_cases h:ph=1<;>simp [stepC,hm,h,n2,n4])
 | tree=>exact Or.inr (by cases did<;>simp [stepC,n5,n6])
def didN (cmd:Nat→Cmd):Nat→Nat
 | 0=>0
 | j+1=>didN cmd j+if outAt cmd j=didB then 1 else 0
theorem didN_is (cmd:Nat→Cmd):∀ j,didN cmd (j+1)=if (stAt cmd j).did then 1 else 0
 | 0=>by
  have h:outAt cmd 0≠didB:=(by decide +kernel:sentB≠didB);simp [didN,h,stAt]
 | j+1=>by
  have ih:=didN_is cmd j;have e1:didN cmd (j+1+1)=didN cmd (j+1)+if outAt cmd (j+1)=didB then 1 else 0:=rfl;have e2:outAt cmd (j+1)=(stepC (stAt cmd j) (cmd j)).1:=rfl;have e3:stAt cmd (j+1)=(stepC (stAt cmd j) (cmd j)).2:=rfl;rcases stepC_did (stAt cmd j) (cmd j) with ⟨h1,h2,h3⟩ | ⟨h1,h2⟩
  · rw [e1,e2,e3,ih,h1,h2,h3];rfl
  · rw [e1,e2,e3,ih,h2,if_neg h1];rfl
theorem tree_last (cmd:Nat→Cmd)(q:Nat)(h:cmd q = .tree):outAt cmd (q+1)=(if (stAt cmd q).did then slX else nothB)∧didN cmd (q+2)=if (stAt cmd q).did then 1 else 0:=by
 have e2:outAt cmd (q+1)=(stepC (stAt cmd q) (cmd q)).1:=rfl;have e3:stAt cmd (q+1)=(stepC (stAt cmd q) (cmd q)).2:=rfl;refine ⟨by rw [e2,h];rfl,?_⟩;rw [didN_is,e3,h];rfl
theorem didN_le (cmd:Nat→Cmd)(j:Nat):didN cmd j≤j:=by
 induction j with
 | zero=>exact Nat.le_refl _
 | succ j ih =>
  have:didN cmd (j+1)=didN cmd j+if outAt cmd j=didB then 1 else 0:=rfl
  split at this<;>omega
def kAt (n:Nat)(p:Int):Nat:=(if p.tmod ((n:Int)+1) < 0 then p.tmod ((n:Int)+1)+((n:Int)+1) else p.tmod ((n:Int)+1)).toNat
theorem kAt_le (n:Nat)(p:Int):kAt n p≤n:=by
 have h1:=Int.tmod_lt_of_pos p (b:=(n:Int)+1) (by omega);have h2:=Int.lt_tmod_of_pos p (b:=(n:Int)+1) (by omega);unfold kAt
 split<;>omega
def lawC (n len:Nat)(P:Nat→Int)(q:Nat):Cmd:=if q < n then .tw else if q < n+len then .go (kAt n (P (q - n))) else .tree
theorem lawC_ok (n len:Nat)(P:Nat→Int)(hn:n≤10)(q:Nat):(lawC n len P q).ok:=by
 have:=kAt_le n (P (q - n));unfold lawC
 split
 · trivial
 · split
   · show kAt n (P (q - n))≤10
     omega
   · trivial
theorem line_tw (n len:Nat)(P:Nat→Int)(j:Nat)(h:j < n):lineAt (lawC n len P) (1+j)=twL:=by
 have e:lineAt (lawC n len P) (1+j)=(lawC n len P j).line:=by rw [Nat.add_comm];rfl
 rw [e,lawC,if_pos h];rfl
theorem line_go (n len:Nat)(P:Nat→Int)(j:Nat)(h:j < len):lineAt (lawC n len P) (1+n+j)=goL (kAt n (P j)):=by
 have e:lineAt (lawC n len P) (1+n+j)=(lawC n len P (n+j)).line:=by
  rw [show 1+n+j=(n+j)+1 by omega];rfl
 rw [e,lawC,if_neg (by omega),if_pos (by omega),Nat.add_sub_cancel_left];rfl
theorem line_tree (n len:Nat)(P:Nat→Int):lineAt (lawC n len P) (1+n+len)=treeL:=by
 have e:lineAt (lawC n len P) (1+n+len)=(lawC n len P (n+len)).line:=by
  rw [show 1+n+len=(n+len)+1 by omega];rfl
 rw [e,lawC,if_neg (by omega),if_neg (by omega)];rfl
theorem lawC_tree (n len:Nat)(P:Nat→Int):lawC n len P (n+len) = .tree:=by
 rw [lawC,if_neg (by omega),if_neg (by omega)]
def linesV (cmd:Nat→Cmd)(m:Nat):List Value:=(List.range m).map (fun q => .string (lineAt cmd q))
theorem linesV_succ (cmd:Nat→Cmd)(m:Nat):linesV cmd (m+1)=linesV cmd m++[.string (lineAt cmd m)]:=by simp [linesV,List.range_succ]
theorem linesV_at (cmd:Nat→Cmd)(m q:Nat)(h:q < m):(linesV cmd m)[q]?=some (.string (lineAt cmd q)):=by simp [linesV,h]
theorem go_text (q:Nat)(h:q≤10):(⟨#[103,111,32]⟩:ByteArray)++bs (decL q)=goL q:=by
 rcases q with _ | _ | _ | _ | _ | _ | _ | _ | _ | _ | _ | q
 all_goals first
  | omega
  | decide +kernel
theorem lnsUnd:Tryz.prog.underlying 24=some (.slice 9):=by kernel_rfl
theorem lnsInfo:(Tryz.prog.info? 9).map (fun i=>(i.zero,i.size,i.bytes))=some (some (.string ⟨#[]⟩),1,16):=by kernel_rfl
theorem only_none {w W W':World}(h:Only [] w W)(ho:Only [] W W'):Only [] w W':=h.trans ho (fun _ k=>by cases k)
def LnS (w:World)(cmd:Nat→Cmd)(m g cap:Nat)(W:World):Prop:=W.ownsRow w.heap.size 9 1 (.slice (some ⟨g,0,none⟩) m cap) m (linesV cmd m)∧Only [] w W
abbrev oneT (t:ByteArray):Obj := .cells #[.string t] 9
theorem LnS.more {w W:World}{cmd:Nat→Cmd}{m g cap:Nat}(h:LnS w cmd m g cap W)(t:ByteArray):(W.alloc (oneT t)).ownsRow w.heap.size 9 1 (.slice (some ⟨g,0,none⟩) m cap) m (linesV cmd m):=World.ownsRow.alloc h.1 _
theorem LnS.grown {w W w':World}{cmd:Nat→Cmd}{m g cap g' cap':Nat}{t:ByteArray}(h:LnS w cmd m g cap W)(ht:lineAt cmd m=t)(ho:w'.ownsRow w.heap.size 9 1 (.slice (some ⟨g',0,none⟩) (m+1) cap') (m+1) (linesV cmd m++[.string t]))(hg:(W.alloc (oneT t)).grownBy w' (Value.slice (some ⟨g,0,none⟩) m cap).ownBlock):LnS w cmd (m+1) g' cap' w':=by
 refine ⟨by rw [linesV_succ,ht];exact ho,(only_none h.2 ((Only.refl [] W).alloc _)).grown hg (fun k hk=>Or.inr ?_)⟩;exact (h.1.lt k hk).1
theorem LnS.only {w W W':World}{cmd:Nat→Cmd}{m g cap:Nat}(h:LnS w cmd m g cap W)(ho:Only [] W W'):LnS w cmd m g cap W':=⟨ho.owns h.1 (fun _ _=>by simp),only_none h.2 ho⟩
theorem oneT_at (W:World)(t:ByteArray):∀ (j:Nat) (u:Value),[Value.string t][j]?=some u→(W.alloc (oneT t)).cell? ((⟨W.heap.size,0,none⟩:Addr).add j)=some u:=World.news_of_block (w:=W.alloc (oneT t)) (heap_alloc_last W (oneT t))
theorem oneT_one (t:ByteArray):∀ u∈[Value.string t],u.oneCell'=true:=fun u hu=>by simp at hu;subst hu;rfl
theorem LnS.start (w W:World)(cmd:Nat→Cmd)(h:Only [] w W):LnS w cmd 1 W.heap.size 1 (W.alloc (oneT makeL)):=⟨World.ownsRow_lit W #[.string makeL] 1 h.size (by decide) rfl,only_none h ((Only.refl [] W).alloc _)⟩
theorem eq_did (s:ByteArray):(s.toList==[100,105,100])=decide (s=didB):=by
 rw [Lib.toList_data]
 by_cases h:s=didB
 · subst h;rfl
 · rw [decide_eq_false h]
   exact beq_eq_false_iff_ne.2 (fun e=>h (data_inj e))
theorem dec_small (q:Nat):(bs (decL q)).size≤2:=by
 unfold decL
 split
 · exact Nat.le_succ 1
 · exact Nat.le_refl 2
theorem sonce_walk (A:Nat→Addr)(w:World)(m:Int)(n len cap:Nat)(ad:Option Addr)(hE:Errs w A)(hm:w.cell? ⟨8,0,none⟩=some (.int .i64 m))(hn:n≤10)(hlen:len≤40)(P:Nat→Int)(hP:∀ j,j < len→∃ ab ao,ad=some ⟨ab,ao,none⟩∧ab < w.heap.size∧w.cell? ⟨ab,ao+j,none⟩=some (.int .i64 (P j))):
  Calls Tryz.prog 3 #[.int .i64 n,.slice ad len cap] w fun e w'=>e = .returned (.bool true)∧Below w.heap.size w w':=by
 have H:Hid (Calls Tryz.prog 4 #[] w fun e w'=>e = .returned (.bool true)∧Only [] w w'):=hello_ok A w m hE hm;have HP:Hid (∀ j,j < len→∃ ab ao,ad=some ⟨ab,ao,none⟩∧ab < w.heap.size∧w.cell? ⟨ab,ao+j,none⟩=some (.int .i64 (P j))):=hP;have HE:Hid (Errs w A):=hE;have HM:Hid (w.cell? ⟨8,0,none⟩=some (.int .i64 m)):=hm;obtain ⟨cmd,hcmd⟩:∃ cmd,lawC n len P=cmd:=⟨_,rfl⟩;have HC:Hid (lawC n len P=cmd):=hcmd;obtain ⟨i0,hi0,hz⟩:=Option.map_eq_some_iff.1 lnsInfo;simp only [Prod.mk.injEq] at hz;obtain ⟨hz0,hz1,hz2⟩:=hz;have d1:decide ((n:Int) < 0)=false:=decide_eq_false (by omega);have d2:decide ((10:Int) < (n:Int))=false:=decide_eq_false (by omega);have d3:decide ((40:Int) < (len:Int))=false:=decide_eq_false (by omega);clear hE hm hP hcmd
 go_enter Tryz.func3,Tryz.ntmps3
 go_wp2_with (go_at_call 4;refine H.out.mono ?_;rintro e w1 ⟨rfl,hb⟩;have B1:Hid (Only [] w w1):=hb;clear hb)
 go_loopw [6,7] (fun v i wr=>∃ (j g cap:Nat),i = .int .i64 (j:Nat)∧j≤n∧v = .slice (some ⟨g,0,none⟩) (1+j) cap∧LnS w cmd (1+j) g cap wr) (fun _ i _=>n - (intOf i).toNat)
 case atStart =>
  exact ⟨0,_,_,rfl,Nat.zero_le _,rfl,LnS.start w w1 cmd B1.out⟩
 case round =>
  obtain ⟨j,g,cp,rfl,hj,rfl,hL⟩:=hrel;have HL:Hid (LnS w cmd (1+j) g cp wr):=hL
  by_cases hlt:j < n
  · have hl:decide ((j:Int) < (n:Int))=true:=decide_eq_true (by omega)
    have HX:Hid (w.heap.size≤(wr.alloc (oneT twL)).heap.size):=Nat.le_trans hL.2.size ((Only.refl [] wr).alloc _).size;have HT:Hid (lineAt cmd (1+j)=twL):=(by rw [← HC.out];exact line_tw n len P j hlt);clear hL
    go_wp2_with (at_builtin;refine wpList_append_lies _ rfl (.tmp 38) (.tmp 39) 24 rfl w.heap.size 9 i0 _ 1 16 lnsUnd hi0 hz0 hz1 hz2 rfl (by decide) _ (1+j) (linesV cmd (1+j)) rfl (HL.out.more twL) ⟨wr.heap.size,0,none⟩ 1 1 [.string twL] rfl rfl (oneT_at wr twL) (oneT_one twL) (by decide) (by unfold maxLen;omega) (by omega) HX.out _ rfl ?_;intro g2 cp2 w2 hown hgr _ _;have H2:Hid (LnS w cmd (1+j+1) g2 cp2 w2):=HL.out.grown HT.out hown hgr;clear hown hgr)
    go_roundw
    case rel=>exact ⟨j+1,g2,cp2,by go_num,by omega,rfl,H2.out⟩
    case measure=>simp [intOf];omega
  · obtain rfl:n=j:=by omega
    have hl:decide ((n:Int) < (n:Int))=false:=decide_eq_false (by omega);clear hL
    go_wp2
    go_loopw [6,9] (fun v i wx=>∃ (j g cap:Nat),i = .int .i64 (j:Nat)∧j≤len∧v = .slice (some ⟨g,0,none⟩) (1+n+j) cap∧LnS w cmd (1+n+j) g cap wx) (fun _ i _=>len - (intOf i).toNat)
    case atStart=>exact ⟨0,_,_,rfl,Nat.zero_le _,rfl,HL.out⟩
    case round =>
     clear HL hlt hl hj;obtain ⟨j,g,cp,rfl,hj,rfl,hL⟩:=hrel;have HL:Hid (LnS w cmd (1+n+j) g cp wr):=hL
     by_cases hlt:j < len
     · have hl:decide ((j:Int) < (len:Int))=true:=decide_eq_true (by omega)
       have he0:decide ((n:Int)+1=0)=false:=decide_eq_false (by omega);obtain ⟨ab,ao,rfl,hab,hcl⟩:=HP.out j hlt;have hcell:wr.cell? ⟨ab,ao+j,none⟩=some (.int .i64 (P j)):=(hL.2.cell (p:=⟨ab,ao+j,none⟩) hab (by simp)).trans hcl;clear hL hcl hab
       go_upto_region 14 with (fail)
       have hk:=kAt_le n (P j)
       have hk2:lineAt cmd (1+n+j)=goL (kAt n (P j)):=by rw [← HC.out];exact line_go n len P j hlt
       have hr1:=Int.tmod_lt_of_pos (P j) (b:=(n:Int)+1) (by omega);have hr2:=Int.lt_tmod_of_pos (P j) (b:=(n:Int)+1) (by omega);generalize hq:kAt n (P j)=q at hk hk2
       have hcc:¬ 9223372036854775807 < 3+(bs (decL q)).size:=by have:=dec_small q;omega
       have HQ:Hid (q≤n∧lineAt cmd (1+n+j)=(⟨#[103,111,32]⟩:ByteArray)++bs (decL q)):=⟨hk,by rw [hk2,go_text q (by omega)]⟩;unfold kAt at hq
       by_cases hneg:(P j).tmod ((n:Int)+1) < 0
       · rw [if_pos hneg] at hq
         have hr:(P j).tmod ((n:Int)+1)=(q:Int) - ((n:Int)+1):=by omega
         rw [hr];have dn:decide ((q:Int) - ((n:Int)+1) < 0)=true:=decide_eq_true (by omega)
         have hw:wrap64 (q:Int)=(q:Int):=by unfold wrap64;omega
         clear hr hr1 hr2 hq hneg hk hk2 hcell
         go_upto_region 16 with (fail)
         rw [hw]
         go_wp2_with (first
           | (go_at_call 5;refine (decimal_any q wr (by have:=HQ.out.1;omega)).mono ?_;rintro e w3 ⟨rfl,hb⟩;have HL3:Hid (LnS w cmd (1+n+j) g cp w3):=HL.out.only (Only.of_below hb []);have HX:Hid (w.heap.size≤(w3.alloc (oneT ((⟨#[103,111,32]⟩:ByteArray)++bs (decL q)))).heap.size):=Nat.le_trans HL3.out.2.size ((Only.refl [] w3).alloc _).size;clear hb)
           | (at_builtin;refine wpList_append_lies _ rfl (.tmp 60) (.tmp 64) 24 rfl w.heap.size 9 i0 _ 1 16 lnsUnd hi0 hz0 hz1 hz2 rfl (by decide) _ (1+n+j) (linesV cmd (1+n+j)) rfl (HL3.out.more ((⟨#[103,111,32]⟩:ByteArray)++bs (decL q))) ⟨w3.heap.size,0,none⟩ 1 1 [.string ((⟨#[103,111,32]⟩:ByteArray)++bs (decL q))] rfl rfl (oneT_at w3 _) (oneT_one _) (by decide) (by unfold maxLen;omega) (by omega) HX.out _ rfl ?_;intro g2 cp2 w4 hown hgr _ _;have H2:Hid (LnS w cmd (1+n+j+1) g2 cp2 w4):=HL3.out.grown HQ.out.2 hown hgr;clear hown hgr))
         go_roundw
         case rel=>exact ⟨j+1,g2,cp2,by go_num,by omega,rfl,H2.out⟩
         case measure=>simp [intOf];omega
       · rw [if_neg hneg] at hq
         have hr:(P j).tmod ((n:Int)+1)=(q:Int):=by omega
         rw [hr];have dn:decide ((q:Int) < 0)=false:=decide_eq_false (by omega);clear hr hr1 hr2 hq hneg hk hk2 hcell
         go_wp2_with (first
           | (go_at_call 5;refine (decimal_any q wr (by have:=HQ.out.1;omega)).mono ?_;rintro e w3 ⟨rfl,hb⟩;have HL3:Hid (LnS w cmd (1+n+j) g cp w3):=HL.out.only (Only.of_below hb []);have HX:Hid (w.heap.size≤(w3.alloc (oneT ((⟨#[103,111,32]⟩:ByteArray)++bs (decL q)))).heap.size):=Nat.le_trans HL3.out.2.size ((Only.refl [] w3).alloc _).size;clear hb)
           | (at_builtin;refine wpList_append_lies _ rfl (.tmp 60) (.tmp 64) 24 rfl w.heap.size 9 i0 _ 1 16 lnsUnd hi0 hz0 hz1 hz2 rfl (by decide) _ (1+n+j) (linesV cmd (1+n+j)) rfl (HL3.out.more ((⟨#[103,111,32]⟩:ByteArray)++bs (decL q))) ⟨w3.heap.size,0,none⟩ 1 1 [.string ((⟨#[103,111,32]⟩:ByteArray)++bs (decL q))] rfl rfl (oneT_at w3 _) (oneT_one _) (by decide) (by unfold maxLen;omega) (by omega) HX.out _ rfl ?_;intro g2 cp2 w4 hown hgr _ _;have H2:Hid (LnS w cmd (1+n+j+1) g2 cp2 w4):=HL3.out.grown HQ.out.2 hown hgr;clear hown hgr))
         go_roundw
         case rel=>exact ⟨j+1,g2,cp2,by go_num,by omega,rfl,H2.out⟩
         case measure=>simp [intOf];omega
     · obtain rfl:len=j:=by omega
       have hl:decide ((len:Int) < (len:Int))=false:=decide_eq_false (by omega);clear hL;have HX:Hid (w.heap.size≤(wr.alloc (oneT treeL)).heap.size):=Nat.le_trans HL.out.2.size ((Only.refl [] wr).alloc _).size;have HT:Hid (lineAt cmd (1+n+len)=treeL):=(by rw [← HC.out];exact line_tree n len P)
       go_upto_region 18 with (at_builtin;refine wpList_append_lies _ rfl (.tmp 66) (.tmp 67) 24 rfl w.heap.size 9 i0 _ 1 16 lnsUnd hi0 hz0 hz1 hz2 rfl (by decide) _ (1+n+len) (linesV cmd (1+n+len)) rfl (HL.out.more treeL) ⟨wr.heap.size,0,none⟩ 1 1 [.string treeL] rfl rfl (oneT_at wr treeL) (oneT_one treeL) (by decide) (by unfold maxLen;omega) (by omega) HX.out _ rfl ?_;intro g2 cp2 w2 hown hgr _ _;have H2:Hid (LnS w cmd (1+n+len+1) g2 cp2 w2):=HL.out.grown HT.out hown hgr;clear hown hgr)
       clear HX HT HL
       have HRUN:Hid (Calls Tryz.prog 6 #[.slice (some ⟨g2,0,none⟩) (1+n+len+1) cp2] w2 fun e w'=>∃ R,e = .returned (.tuple #[.slice (some ⟨R,0,none⟩) (1+n+len+1) (1+n+len+1),.nilIface])∧(∀ q,q < 1+n+len+1→w'.cell? ⟨R,q,none⟩=some (.string (outAt cmd q)))∧w2.heap.size≤R∧Only [] w2 w'):=by
         refine srun_ok A w2 m (errs_only HE.out H2.out.2) ((H2.out.2.cell (p:=⟨8,0,none⟩) (lt_of_cell HM.out) (by simp)).trans HM.out) g2 0 cp2 (1+n+len+1) ⟨by omega,by omega⟩ cmd (fun q=>by rw [← HC.out];exact lawC_ok n len P hn q) (fun q hq=>?_);rw [Nat.zero_add,H2.out.1.cellAt q (by omega)];exact linesV_at cmd _ q hq
       go_upto_region 23 with (go_at_call 6;go_must (refine HRUN.out.mono ?_);rintro e w5 ⟨R,rfl,hq,hR,ho⟩;have H5:Hid ((∀ q,q < 1+n+len+1→w5.cell? ⟨R,q,none⟩=some (.string (outAt cmd q)))∧Only [] w w5):=⟨hq,only_none H2.out.2 ho⟩;clear hq hR ho)
       clear HRUN H2 H HP;generalize hN:1+n+len+1=N at *;have HN:Hid (1+n+len+1=N∧N≤60):=⟨hN,by omega⟩
       have hlast:outAt cmd (N - 1)=(if (stAt cmd (n+len)).did then slX else nothB)∧didN cmd N=if (stAt cmd (n+len)).did then 1 else 0:=by
         have h:=tree_last cmd (n+len) (by rw [← HC.out];exact lawC_tree n len P)
         have e1:N - 1=n+len+1:=by omega
         have e2:N=n+len+2:=by omega
         rw [e1,e2];exact h
       have HLA:Hid (outAt cmd (N - 1)=(if (stAt cmd (n+len)).did then slX else nothB)∧didN cmd N=if (stAt cmd (n+len)).did then 1 else 0):=hlast;clear hlast hN
       go_loopw [13,14] (fun d i wx=>∃ j:Nat,i = .int .i64 (j:Nat)∧j≤N∧d = .int .i64 (didN cmd j:Nat)∧Only [] w5 wx) (fun _ i _=>N - (intOf i).toNat)
       case atStart=>exact ⟨0,rfl,Nat.zero_le _,rfl,Only.refl _ _⟩
       case round =>
         obtain ⟨j,rfl,hj,rfl,hO⟩:=hrel;have HO:Hid (Only [] w5 wr):=hO
         by_cases hlt:j < N
         · have hl:decide ((j:Int) < (N:Int))=true:=decide_eq_true (by omega)
           have hcell:wr.cell? ⟨R,j,none⟩=some (.string (outAt cmd j)):=(hO.cell (p:=⟨R,j,none⟩) (lt_of_cell (H5.out.1 j hlt)) (by simp)).trans (H5.out.1 j hlt);have hsm:=HN.out.2;have hdl:=didN_le cmd j;have hstep:didN cmd (j+1)=didN cmd j+if outAt cmd j=didB then 1 else 0:=rfl
           by_cases hd:outAt cmd j=didB
           · have hdd:((outAt cmd j).toList==[100,105,100])=true:=by rw [eq_did];exact decide_eq_true hd
             rw [if_pos hd] at hstep;have HST:Hid (didN cmd (j+1)=didN cmd j+1):=hstep;clear hO hd hstep
             go_wp2
             go_roundw
             case rel=>exact ⟨j+1,by go_num,by omega,by rw [HST.out];go_num,HO.out⟩
             case measure=>simp [intOf];omega
           · have hdd:((outAt cmd j).toList==[100,105,100])=false:=by rw [eq_did];exact decide_eq_false hd
             rw [if_neg hd,Nat.add_zero] at hstep;have HST:Hid (didN cmd (j+1)=didN cmd j):=hstep;clear hO hd hstep
             go_wp2
             go_roundw
             case rel=>exact ⟨j+1,by go_num,by omega,by rw [HST.out],HO.out⟩
             case measure=>simp [intOf];omega
         · obtain rfl:N=j:=by omega
           have hl:decide ((N:Int) < (N:Int))=false:=decide_eq_false (by omega);have hb:Below w.heap.size w wr:=(only_none H5.out.2 HO.out).to_below (Nat.le_refl _) (fun _ k=>by cases k);have HB:Hid (Below w.heap.size w wr):=hb
           have hcell:wr.cell? ⟨R,N - 1,none⟩=some (.string (outAt cmd (N - 1))):=by
             have h0:=H5.out.1 (N - 1) (by have:=HN.out.1;omega);exact (hO.cell (p:=⟨R,N - 1,none⟩) (lt_of_cell h0) (by simp)).trans h0
           clear hO hb;obtain ⟨h1,h2⟩:=HLA.out;rw [h1] at hcell;rw [h2]
           cases hdd:(stAt cmd (n+len)).did
           · rw [hdd] at hcell
             simp only [Bool.false_eq_true,if_false] at hcell ⊢;clear h1 h2 hdd;obtain ⟨M,rfl⟩:∃ M,N=M+1:=⟨N - 1,by have:=HN.out.1;omega⟩;rw [Nat.add_sub_cancel] at hcell;have hsm:=HN.out.2
             have hw:wrap64 (((M+1:Nat):Int) - 1)=(M:Int):=by unfold wrap64;omega
             have hw2:((M+1:Nat):Int) - 1=(M:Int):=by omega
             go_upto_region 28 with (fail)
             go_wp2
             go_ret
             exact ⟨rfl,HB.out⟩
           · rw [hdd] at hcell
             simp only [if_true] at hcell ⊢;clear h1 h2 hdd;obtain ⟨M,rfl⟩:∃ M,N=M+1:=⟨N - 1,by have:=HN.out.1;omega⟩;rw [Nat.add_sub_cancel] at hcell;have hsm:=HN.out.2
             have hw:wrap64 (((M+1:Nat):Int) - 1)=(M:Int):=by unfold wrap64;omega
             have hw2:((M+1:Nat):Int) - 1=(M:Int):=by omega
             go_upto_region 29 with (fail)
             go_wp2
             go_ret
             exact ⟨rfl,HB.out⟩
theorem sonce_short (A:Nat→Addr)(w:World)(m:Int)(n:Int)(len cap:Nat)(ad:Option Addr)(hE:Errs w A)(hm:w.cell? ⟨8,0,none⟩=some (.int .i64 m))(hc:n < 0∨10 < n∨40 < len):
   Calls Tryz.prog 3 #[.int .i64 n,.slice ad len cap] w fun e w'=>e = .returned (.bool true)∧Below w.heap.size w w':=by
 have H:Hid (Calls Tryz.prog 4 #[] w fun e w'=>e = .returned (.bool true)∧Below w.heap.size w w'):=(hello_ok A w m hE hm).mono fun e w' q=>⟨q.1,q.2.to_below (Nat.le_refl _) (fun _ k=>by cases k)⟩;clear hE hm
 by_cases h1:n < 0
 · have d1:decide (n < 0)=true:=decide_eq_true h1
   go_enter Tryz.func3,Tryz.ntmps3
   go_wp2_with (go_at_call 4;refine H.out.mono ?_;rintro e w1 ⟨rfl,hb⟩;have B1:Hid (Below w.heap.size w w1):=hb;clear hb)
   go_ret
   exact ⟨rfl,B1.out⟩
 · have d1:decide (n < 0)=false:=decide_eq_false h1
   by_cases h2:10 < n
   · have d2:decide (10 < n)=true:=decide_eq_true h2
     go_enter Tryz.func3,Tryz.ntmps3
     go_wp2_with (go_at_call 4;refine H.out.mono ?_;rintro e w1 ⟨rfl,hb⟩;have B1:Hid (Below w.heap.size w w1):=hb;clear hb)
     go_ret
     exact ⟨rfl,B1.out⟩
   · have d2:decide (10 < n)=false:=decide_eq_false h2
     have d3:decide ((40:Int) < (len:Int))=true:=decide_eq_true (by omega)
     go_enter Tryz.func3,Tryz.ntmps3
     go_wp2_with (go_at_call 4;refine H.out.mono ?_;rintro e w1 ⟨rfl,hb⟩;have B1:Hid (Below w.heap.size w w1):=hb;clear hb)
     go_ret
     exact ⟨rfl,B1.out⟩
def IsIntsS (w:World)(a:Option Addr)(len:Nat):Prop:=∃ P:Nat→Int,∀ j,j < len→∃ ab ao,a=some ⟨ab,ao,none⟩∧ab < w.heap.size∧w.cell? ⟨ab,ao+j,none⟩=some (.int .i64 (P j))
theorem Tryz.cellsIntS:Tryz.prog.cellsOf 3=1:=by kernel_rfl
theorem choose_ltS {α:Type}[Inhabited α]{n:Nat}{p:Nat→α→Prop}(h:∀ i,i < n→∃ a,p i a):∃ f:Nat→α,∀ i,i < n→p i (f i) :=
 ⟨fun i=>if hi:i < n then Classical.choose (h i hi) else default,fun i hi=>by simp only [hi,dif_pos];exact Classical.choose_spec (h i hi)⟩
theorem isIntsS_of {H:Type}{enc:TypeId×Value→H}{w:World}{base n:Nat}{sp:Nat→Bool}{held:Bool}{a:Option Addr}{len cap:Nat}{x:DataW H×List MemPlace}(h:DataW.trod enc Tryz.prog w base sp held n 22 [.slice a len cap]=some x):IsIntsS w a len:=by
 rcases open_slice Tryz.underlying22 h with ⟨e,_⟩ | ⟨ad,len',cap',m,n',D,Pl,e,_,hl,hm,hmm,_,hx⟩
 · simp at e
   obtain ⟨_,e2,_⟩:=e;exact ⟨fun _=>0,fun j hj=>by omega⟩
 · simp at e
   obtain ⟨rfl,rfl,rfl⟩:=e;rcases Nat.eq_zero_or_pos len with h0 | h0
   · exact ⟨fun _=>0,fun j hj=>by omega⟩
   have hle:len≤m:=by rw [hmm];split<;>omega
   rw [Tryz.cellsIntS] at hx
   obtain ⟨P,hP⟩:=choose_ltS (α:=Int) (n:=len) (p:=fun i p=>w.cells? base (ad.add (i*1)) 1=some [.int .i64 p]) (fun i hi=>by
     obtain ⟨cs',c1,c2⟩:=hx i (by omega);obtain ⟨k,rfl,_,_⟩:=DataW.trod_int Tryz.underlying3 c2
     exact ⟨k,c1⟩)
   obtain ⟨ab,ao,spot⟩:=ad;have cell:∀ i,i < len→w.cell? (((⟨ab,ao,spot⟩:Addr).add (i*1)).add 0)=some (.int .i64 (P i)):=fun i hi=>(World.cells?_some (hP i hi)).2.2 0 (by decide)
   have hspot:spot=none:=by
     have:=cell 0 h0;simp [Addr.add] at this;exact World.cell?_spot this
   subst hspot
   have hadd:∀ i,((⟨ab,ao,none⟩:Addr).add (i*1)).add 0=⟨ab,ao+i,none⟩:=fun i=>by
     unfold Addr.add
     split<;>split<;>simp_all
   refine ⟨P,fun i hi=>?_⟩;have c0:=cell i hi;rw [hadd] at c0;exact ⟨ab,ao,rfl,lt_of_cell c0,c0⟩
theorem sonce_all (A:Nat→Addr)(w:World)(m:Int)(n:Int)(len cap:Nat)(ad:Option Addr)(hE:Errs w A)(hm:w.cell? ⟨8,0,none⟩=some (.int .i64 m))(hp:IsIntsS w ad len):
   Calls Tryz.prog 3 #[.int .i64 n,.slice ad len cap] w fun e w'=>e = .returned (.bool true)∧Below w.heap.size w w':=by
 by_cases hc:n < 0∨10 < n∨40 < len
 · exact sonce_short A w m n len cap ad hE hm hc
 · obtain ⟨P,hP⟩:=hp
   obtain ⟨N,rfl⟩:∃ N:Nat,n=(N:Int):=⟨n.toNat,by omega⟩;exact sonce_walk A w m N len cap ad hE hm (by omega) (by omega) P hP
end
end Go.Proofs.YtodldddakjmonaaGreatDoor
