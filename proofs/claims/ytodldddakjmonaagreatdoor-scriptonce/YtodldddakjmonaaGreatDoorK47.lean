import Derived.Test.YtodldddakjmonaaGreatDoorK43
import Derived.Test.YtodldddakjmonaaGreatDoorK44
import Derived.Test.YtodldddakjmonaaGreatDoorK45
import Derived.Test.YtodldddakjmonaaGreatDoorK46
import Derived.Laws.MakeOwn
set_option maxRecDepth 100000
set_option maxHeartbeats 8000000
namespace Go.Proofs.YtodldddakjmonaaGreatDoor
section
open Go Go.RowKit Go.Deep Go.Maps
inductive Cmd where
 | tw
 | go (i:Nat)
 | tree
def Cmd.ok:Cmd→Prop
 | .go i=>i≤10
 | _=>True
def numB (i:Nat):ByteArray:=⟨(Lib.decDigits i).toArray⟩
def goL (i:Nat):ByteArray:=⟨#[103,111,32]++(Lib.decDigits i).toArray⟩
def twL:ByteArray:=⟨#[116,119,105,99,101,32,48]⟩
def treeL:ByteArray:=⟨#[116,114,101,101]⟩
def makeL:ByteArray:=⟨#[109,97,107,101,32,97,32,47,120,32,102,105,108,101]⟩
def sentB:ByteArray:=⟨#[115,101,110,116]⟩
def noneB:ByteArray:=⟨(errNames.getD 4 ("",[])).2.toArray⟩
def Cmd.line:Cmd→ByteArray
 | .tw=>twL
 | .go i=>goL i
 | .tree=>treeL
structure ScSt where
 ms:List Bool
 did:Bool
 ph:Nat
def stepC (s:ScSt):Cmd→ByteArray×ScSt
 | .tw=>match s.ms[0]? with
  | none=>(noneB,s)
  | some y=>(okB,⟨s.ms.take 0++[y,y]++s.ms.drop 1,s.did,s.ph⟩)
 | .go i=>match s.ms[i]? with
  | none=>(noneB,s)
  | some false=>(if s.did then keptB else didB,⟨s.ms.take i++s.ms.drop (i+1)++[true],true,s.ph⟩)
  | some true=>(if s.ph=1 then okB else lateB,⟨s.ms.take i++s.ms.drop (i+1),s.did,2⟩)
 | .tree=>(if s.did then slX else nothB,s)
theorem stepC_len (s:ScSt)(c:Cmd):(stepC s c).2.ms.length≤s.ms.length+1:=by
 cases c with
 | tw =>
  cases h:s.ms[0]? with
  | none=>simp only [stepC,h];omega
  | some y =>
   have:=(List.getElem?_eq_some_iff.1 h).1;simp only [stepC,h,List.length_append,List.length_take,List.length_drop,List.length_cons,List.length_nil];omega
 | go i =>
  cases h:s.ms[i]? with
  | none=>simp only [stepC,h];omega
  | some y =>
   have:=(List.getElem?_eq_some_iff.1 h).1
   cases y
   · simp only [stepC,h,List.length_append,List.length_take,List.length_drop,List.length_cons,List.length_nil]
     omega
   · simp only [stepC,h,List.length_append,List.length_take,List.length_drop]
     omega
 | tree=>simp only [stepC];omega
theorem stepC_ph (s:ScSt)(c:Cmd)(h:s.ph=1∨s.ph=2):(stepC s c).2.ph=1∨(stepC s c).2.ph=2:=by
 cases c with
 | tw=>cases hm:s.ms[0]?<;>simp only [stepC,hm]<;>exact h
 | go i =>
  cases hm:s.ms[i]? with
  | none=>simp only [stepC,hm];exact h
  | some y =>
   cases y
   · simp only [stepC,hm];exact h
   · simp [stepC,hm]
 | tree=>exact h
theorem goL_ok (i:Nat)(h:i≤10):(goL i).size≤1000∧Lib.countB (goL i) spB=1∧Lib.splitB spB 0 1 (goL i)=[⟨#[103,111]⟩,numB i]∧(numB i).size≤18∧Lib.atoi (numB i).data.toList=some (i:Int):=by
 rcases i with _ | _ | _ | _ | _ | _ | _ | _ | _ | _ | _ | i
 all_goals first
  | omega
  | exact ⟨by decide +kernel,by decide +kernel,by kernel_rfl,by decide +kernel,by decide +kernel⟩
theorem sErr_text {A:Nat→Addr}{w:World}(h:Errs w A):w.cell? (A 4)=some (.string noneB):=by
 obtain ⟨s,h1,h2⟩:=h.text 4 (by decide);have:s=noneB:=data_inj (by rw [h2];rfl);rw [← this];exact h1
section
variable {A:Nat→Addr}{k:ScK}{w w':World}{v:Value}
def Told (A:Nat→Addr)(t:ByteArray)(T E:Value):Prop:=(E = .nilIface∧T = .string t)∨(E=sErr A 4∧T = .string ⟨#[]⟩∧t=noneB)
abbrev StS (A:Nat→Addr)(k:ScK)(w:World)(s:ScSt):Prop:=∃ v,ScS A k w v s.ms s.did s.ph
theorem playStep (hk:k.Ok)(s:ScSt)(h:StS A k w s)(hph:s.ph=1∨s.ph=2)(hl:s.ms.length < 100)(c:Cmd)(hc:c.ok):
  Calls Tryz.prog 11 #[.pointer (some ⟨k.n,0,none⟩),.string c.line] w fun e w'=>∃ T E,e = .returned (.tuple #[T,E])∧Told A (stepC s c).1 T E∧StS A k w' (stepC s c).2:=by
 obtain ⟨v,h⟩:=h
 cases c with
 | tw =>
  cases hm:s.ms[0]? with
  | none =>
   have e1:stepC s .tw=(noneB,s):=by simp only [stepC,hm]
   rw [e1];refine (play_twice h hk twL ⟨#[48]⟩ 0 (by decide) (by decide +kernel) (by kernel_rfl) (by decide) (by decide +kernel) (by decide) (by decide +kernel) (.string ⟨#[]⟩) (sErr A 4) (fun w'=>StS A k w' s) (fun W x hS hx=>((twiceDo hk hS hl 0 hx).1 (by rw [List.getElem?_eq_none_iff] at hm;exact hm)).mono fun e w' q=>⟨q.1,v,q.2⟩)).mono fun e w' q=>?_;exact ⟨_,_,q.1,Or.inr ⟨rfl,rfl,rfl⟩,q.2⟩
  | some y =>
   have e1:stepC s .tw=(okB,⟨s.ms.take 0++[y,y]++s.ms.drop 1,s.did,s.ph⟩):=by simp only [stepC,hm]
   rw [e1];refine (play_twice h hk twL ⟨#[48]⟩ 0 (by decide) (by decide +kernel) (by kernel_rfl) (by decide) (by decide +kernel) (by decide) (by decide +kernel) (.string okB) .nilIface (fun w'=>StS A k w' ⟨s.ms.take 0++[y,y]++s.ms.drop 1,s.did,s.ph⟩) (fun W x hS hx=>(twiceDo hk hS hl 0 hx).2 y hm)).mono fun e w' q=>?_;exact ⟨_,_,q.1,Or.inl ⟨rfl,rfl⟩,q.2⟩
 | go i =>
  obtain ⟨g1,g2,g3,g4,g5⟩:=goL_ok i hc
  have hi:i < 100:=by have:i≤10:=hc;omega
  cases hm:s.ms[i]? with
  | none =>
   have e1:stepC s (.go i)=(noneB,s):=by simp only [stepC,hm]
   rw [e1];refine (play_go h hk (goL i) (numB i) i g1 g2 g3 hi rfl g4 g5 (.string ⟨#[]⟩) (sErr A 4) (fun w'=>StS A k w' s) (fun W hS=>(moveNone hk hS i (List.getElem?_eq_none_iff.1 hm)).mono fun e w' q=>⟨q.1,v,q.2⟩)).mono fun e w' q=>?_;exact ⟨_,_,q.1,Or.inr ⟨rfl,rfl,rfl⟩,q.2⟩
  | some y =>
   cases y with
   | false =>
    have e1:stepC s (.go i)=(if s.did then keptB else didB,⟨s.ms.take i++s.ms.drop (i+1)++[true],true,s.ph⟩):=by simp only [stepC,hm]
    rw [e1];refine (play_go h hk (goL i) (numB i) i g1 g2 g3 hi rfl g4 g5 (.string (if s.did then keptB else didB)) .nilIface (fun w'=>StS A k w' ⟨s.ms.take i++s.ms.drop (i+1)++[true],true,s.ph⟩) (fun W hS=>moveReq hk hS i hm (by omega))).mono fun e w' q=>?_;exact ⟨_,_,q.1,Or.inl ⟨rfl,rfl⟩,q.2⟩
   | true =>
    have e1:stepC s (.go i)=(if s.ph=1 then okB else lateB,⟨s.ms.take i++s.ms.drop (i+1),s.did,2⟩):=by simp only [stepC,hm]
    rw [e1];refine (play_go h hk (goL i) (numB i) i g1 g2 g3 hi rfl g4 g5 (.string (if s.ph=1 then okB else lateB)) .nilIface (fun w'=>StS A k w' ⟨s.ms.take i++s.ms.drop (i+1),s.did,2⟩) (fun W hS=>moveRep hk hS i hm (by omega) hph)).mono fun e w' q=>?_;exact ⟨_,_,q.1,Or.inl ⟨rfl,rfl⟩,q.2⟩
 | tree =>
  refine (play_tree h hk treeL (by decide) (by decide +kernel) (by kernel_rfl) (.string (if s.did then slX else nothB)) .nilIface (fun w'=>StS A k w' s) (fun W hS=>(treeDo hk hS).mono fun e w' q=>⟨q.1,v,q.2⟩)).mono fun e w' q=>?_;exact ⟨_,_,q.1,Or.inl ⟨rfl,rfl⟩,q.2⟩
theorem playMake (hk:k.Ok)(h:ScS A k w (.slice none 0 0) [] false 0):
  Calls Tryz.prog 11 #[.pointer (some ⟨k.n,0,none⟩),.string makeL] w fun e w'=>e = .returned (.tuple #[.string sentB,.nilIface])∧StS A k w' ⟨[false],false,1⟩ :=
 play_make h hk makeL (by decide) (by decide +kernel) (by kernel_rfl) (.string sentB) .nilIface (fun w'=>StS A k w' ⟨[false],false,1⟩) (fun W x y z ab ao hS hx hy hz=>(asksMake hk hS hx hy hz).mono fun e w' q=>⟨q.1,q.2⟩)
end
def stAt (cmd:Nat→Cmd):Nat→ScSt
 | 0=>⟨[false],false,1⟩
 | q+1=>(stepC (stAt cmd q) (cmd q)).2
def outAt (cmd:Nat→Cmd):Nat→ByteArray
 | 0=>sentB
 | q+1=>(stepC (stAt cmd q) (cmd q)).1
theorem stAt_len (cmd:Nat→Cmd):∀ q,(stAt cmd q).ms.length≤q+1
 | 0=>Nat.le_refl _
 | q+1=>by
  have h1:=stAt_len cmd q;have h2:=stepC_len (stAt cmd q) (cmd q);show (stepC (stAt cmd q) (cmd q)).2.ms.length≤_;omega
theorem stAt_ph (cmd:Nat→Cmd):∀ q,(stAt cmd q).ph=1∨(stAt cmd q).ph=2
 | 0=>Or.inl rfl
 | q+1=>stepC_ph _ _ (stAt_ph cmd q)
theorem undTx:Tryz.prog.underlying 24=some (.slice 9):=by kernel_rfl
theorem infoTx:(Tryz.prog.info? 9).map (fun i=>(i.zero,i.size,decide (i.bytes≤1000)))=some (some (.string ⟨#[]⟩),1,true):=by kernel_rfl
theorem mkAnswers (W:World)(n:Nat)(hn:n≤1000):∃ cs W',(Instr.makeSlice 24 (.int .i64 (n:Nat)) (.int .i64 (n:Nat))).run Tryz.prog W = .ok (.slice (some ⟨W.heap.size,0,none⟩) n n) W'∧BlkC W' W.heap.size cs 9∧cs.size=n∧Only [] W W':=by
 obtain ⟨i,hi,e⟩:=Option.map_eq_some_iff.1 infoTx
 obtain ⟨hz,hs,hb⟩:i.zero=some (.string ⟨#[]⟩)∧i.size=1∧i.bytes≤1000:=by simpa using e
 have hbb:(i.bytes:Int)*(n:Nat)≤281474976710656:=by
  have h1:i.bytes*n≤1000*1000:=Nat.mul_le_mul hb hn
  have h2:((i.bytes*n:Nat):Int)≤1000*1000:=by omega
  rw [Int.natCast_mul] at h2;omega
 have hr:=run_makeSlice (P:=Tryz.prog) W 24 9 i _ undTx hi hz .i64 .i64 (n:Nat) (n:Nat) (by omega) (Int.le_refl _) (by rw [hs];simp;omega) hbb (by omega);refine ⟨_,_,hr,BlkC.new _ _ _,?_,(Only.refl [] W).alloc _⟩;rw [hs];simp [madeCells,Value.cells]
def RunI (A:Nat→Addr)(cmd:Nat→Cmd)(k:ScK)(N j:Nat)(W:World):Prop:=∃ rc:Array Value,rc.size=N∧(∀ q,q < j→rc[q]?=some (.string (outAt cmd q)))∧ScK.Ok { k with rc:=rc }∧((j=0∧ScS A { k with rc:=rc } W (.slice none 0 0) [] false 0)∨∃ q,j=q+1∧StS A { k with rc:=rc } W (stAt cmd q))
theorem RunI.blk {A:Nat→Addr}{cmd:Nat→Cmd}{k:ScK}{N j:Nat}{W:World}(h:RunI A cmd k N j W):∃ rc:Array Value,rc.size=N∧(∀ q,q < j→rc[q]?=some (.string (outAt cmd q)))∧BlkC W k.r rc 9∧Below k.w0.heap.size k.w0 W:=by
 obtain ⟨rc,h1,h2,h3,⟨_,h4⟩ | ⟨q,_,v,h4⟩⟩:=h
 · exact ⟨rc,h1,h2,h4.lodger,h4.below⟩
 · exact ⟨rc,h1,h2,h4.lodger,h4.below⟩
def lineAt (cmd:Nat→Cmd):Nat→ByteArray
 | 0=>makeL
 | q+1=>(cmd q).line
theorem RunI.play {A:Nat→Addr}{cmd:Nat→Cmd}{k:ScK}{N j:Nat}{W:World}(h:RunI A cmd k N j W)(hj:j < 95)(hc:∀ q,(cmd q).ok):
   Calls Tryz.prog 11 #[.pointer (some ⟨k.n,0,none⟩),.string (lineAt cmd j)] W fun e w'=>∃ T E,e = .returned (.tuple #[T,E])∧Told A (outAt cmd j) T E∧Errs w' A∧∃ rc:Array Value,rc.size=N∧(∀ q,q < j→rc[q]?=some (.string (outAt cmd q)))∧ScK.Ok { k with rc:=rc }∧StS A { k with rc:=rc } w' (stAt cmd j):=by
 obtain ⟨rc,h1,h2,h3,⟨rfl,h4⟩ | ⟨q,rfl,h4⟩⟩:=h
 · refine (playMake h3 h4).mono fun e w' q=>?_
   obtain ⟨he,v,hs⟩:=q;exact ⟨_,_,he,Or.inl ⟨rfl,rfl⟩,hs.E,rc,h1,fun q hq=>absurd hq (Nat.not_lt_zero q),h3,v,hs⟩
 · refine (playStep h3 (stAt cmd q) h4 (stAt_ph cmd q) (by have:=stAt_len cmd q;omega) (cmd q) (hc q)).mono fun e w' r=>?_
   obtain ⟨T,E,he,ht,v,hs⟩:=r;exact ⟨T,E,he,ht,hs.E,rc,h1,h2,h3,v,hs⟩
theorem told_any {A:Nat→Addr}{t:ByteArray}{T E:Value}(h:Told A t T E)(w:World)(hE:Errs w A):Calls Tryz.prog 10 #[T,E] w fun e w'=>e = .returned (.string t)∧Only [] w w':=by
 rcases h with ⟨rfl,rfl⟩ | ⟨rfl,rfl,rfl⟩
 · exact (stold_ok t w).mono fun e w' q=>⟨q.1,q.2 ▸ Only.refl [] _⟩
 · exact stold_err A 4 ⟨#[]⟩ noneB w hE (sErr_text hE)
theorem RunI.keep {A:Nat→Addr}{cmd:Nat→Cmd}{k:ScK}{N j:Nat}{W:World}{rc:Array Value}(h1:rc.size=N)(hj:j < N)(h2:∀ q,q < j→rc[q]?=some (.string (outAt cmd q)))(h3:ScK.Ok { k with rc:=rc })(h4:StS A { k with rc:=rc } W (stAt cmd j)):RunI A cmd k N (j+1) (W.setCell ⟨k.r,j,none⟩ (.string (outAt cmd j))):=by
 obtain ⟨v,h4⟩:=h4;have hb:BlkC (W.setCell ⟨k.r,j,none⟩ (.string (outAt cmd j))) k.r (rc.setIfInBounds j (.string (outAt cmd j))) 9:=heap_setCell_same W k.r j _ _ _ h4.lodger;obtain ⟨g1,g2⟩:=h4.guest (rc:=rc.setIfInBounds j (.string (outAt cmd j))) h3 ((Only.refl [k.r] W).setCell (p:=⟨k.r,j,none⟩) (Or.inl (by simp)) _) hb;refine ⟨rc.setIfInBounds j (.string (outAt cmd j)),by simpa using h1,fun q hq=>?_,g1,Or.inr ⟨j,rfl,v,g2⟩⟩
 by_cases e:q=j
 · subst e
   simp [h1,hj]
 · rw [Array.getElem?_setIfInBounds_ne (fun x=>e x.symm)]
   exact h2 q (by omega)
theorem srun_ok (A:Nat→Addr)(w:World)(m:Int)(hE:Errs w A)(hm:w.cell? ⟨8,0,none⟩=some (.int .i64 m))(g o c N:Nat)(hN:0 < N∧N≤90)(cmd:Nat→Cmd)(hc:∀ q,(cmd q).ok)(hl:∀ q,q < N→w.cell? ⟨g,o+q,none⟩=some (.string (lineAt cmd q))):
  Calls Tryz.prog 6 #[.slice (some ⟨g,o,none⟩) N c] w fun e w'=>∃ R,e = .returned (.tuple #[.slice (some ⟨R,0,none⟩) N N,.nilIface])∧(∀ q,q < N→w'.cell? ⟨R,q,none⟩=some (.string (outAt cmd q)))∧w.heap.size≤R∧Only [] w w':=by
 have HP:Hid (Calls Tryz.prog 9 #[] w fun e w'=>∃ k:ScK,k.Ok∧e = .returned (.tuple #[.pointer (some ⟨k.n,0,none⟩),.nilIface])∧ScS A k w' (.slice none 0 0) [] false 0∧k.w0=w∧Only [] w w'):=newPlayer_ok A w m hE hm;have HL:Hid (∀ q,q < N→w.cell? ⟨g,o+q,none⟩=some (.string (lineAt cmd q))):=hl;have HC:Hid (∀ q,(cmd q).ok):=hc
 have h100:¬ (100:Int) < (N:Nat):=by omega
 clear hE hm hl hc
 go_enter Tryz.func6,Tryz.ntmps6
 go_wp2_with (first
  | (go_at_call 9;go_must (refine HP.out.mono ?_);rintro e w1 ⟨k,hk,rfl,hs,hw0,ho⟩;obtain ⟨cs,w2,hmk,hb,hcs,ho2⟩:=mkAnswers w1 N (by omega);have HB:Hid (BlkC w2 w1.heap.size cs 9∧cs.size=N∧Only [] w1 w2∧k.Ok∧ScS A k w1 (.slice none 0 0) [] false 0∧k.w0=w∧Only [] w w1):=⟨hb,hcs,ho2,hk,hs,hw0,ho⟩;clear hk hs hw0 ho hb hcs ho2))
 obtain ⟨k1,hn1,hr1,hw1,hI,hlo⟩:∃ k1:ScK,k1.n=k.n∧k1.r=w1.heap.size∧k1.w0=w∧RunI A cmd k1 N 0 w2∧w.heap.size≤k1.r:=by
  obtain ⟨hb,hcs,ho2,hk,hs,hw0,ho⟩:=HB.out;obtain ⟨q1,q2⟩:=hs.lodge (r:=w1.heap.size) (rc:=cs) hk ho2 hs.big hb;exact ⟨{ k with r:=w1.heap.size,rc:=cs,base:=w2.heap.size },rfl,rfl,hw0,⟨cs,hcs,fun q hq=>absurd hq (Nat.not_lt_zero q),q1,Or.inl ⟨rfl,q2⟩⟩,ho.size⟩
 rw [← hn1,← hr1];have HI0:Hid (RunI A cmd k1 N 0 w2):=hI;have HW:Hid (k1.w0=w∧w.heap.size≤k1.r):=⟨hw1,hlo⟩;clear hn1 hr1 hw1 hI hlo HB hmk
 go_loopw [25] (fun i wr=>∃ j:Nat,i = .int .i64 (j:Nat)∧j≤N∧RunI A cmd k1 N j wr) (fun i _=>N - (intOf i).toNat)
 case atStart=>exact ⟨0,rfl,Nat.zero_le _,HI0.out⟩
 case round =>
  obtain ⟨j,rfl,hj,hI⟩:=hrel;have HI:Hid (RunI A cmd k1 N j wr):=hI;obtain ⟨rc0,b1,b2,b3,b4⟩:=hI.blk;rw [HW.out.1] at b4;clear hI
  by_cases hlt:j < N
  · have c1:wr.cell? ⟨g,o+j,none⟩=some (.string (lineAt cmd j)):=(b4.cell (p:=⟨g,o+j,none⟩) (lt_of_cell (HL.out j hlt))).trans (HL.out j hlt)
    clear b1 b2 b3 b4
    go_wp2_with (first
      | (go_at_call 11;go_must (refine (HI.out.play (by omega) HC.out).mono ?_);rintro e w3 ⟨T,E,rfl,ht,hE3,rc,h1,h2,h3,h4⟩;have HT:Hid (Told A (outAt cmd j) T E∧Errs w3 A):=⟨ht,hE3⟩;have HR:Hid (rc.size=N∧(∀ q,q < j→rc[q]?=some (.string (outAt cmd q)))∧ScK.Ok { k1 with rc:=rc }∧StS A { k1 with rc:=rc } w3 (stAt cmd j)):=⟨h1,h2,h3,h4⟩;clear ht hE3 h1 h2 h3 h4 c1)
      | (go_at_call 10;go_must (refine (told_any HT.out.1 _ HT.out.2).mono ?_);rintro e w4 ⟨rfl,ho⟩;have H4:Hid (StS A { k1 with rc:=rc } w4 (stAt cmd j)):=(let ⟨v,hv⟩:=HR.out.2.2.2;⟨v,hv.quiet HR.out.2.2.1 ho⟩);have hld:BlkC w4 k1.r rc 9:=(let ⟨_,hv⟩:=H4.out;hv.lodger);have x0:w4.cell? ⟨k1.r,j,none⟩=some (rc[j]'(by rw [HR.out.1];exact hlt)):=(hld.cell j).trans (Array.getElem?_eq_getElem _);have xf:w4.frozen? ⟨k1.r,j,none⟩=false:=frozen_of_row _ _ _ _ _ hld;clear ho hld))
    go_round
    case rel=>exact ⟨j+1,by go_num,by omega,RunI.keep HR.out.1 hlt HR.out.2.1 HR.out.2.2.1 H4.out⟩
    case measure=>simp [intOf];omega
  · obtain rfl:j=N:=by omega
    have HF:Hid ((∀ q,q < j→wr.cell? ⟨k1.r,q,none⟩=some (.string (outAt cmd q)))∧Only [] w wr):=⟨fun q hq=>(b3.cell q).trans (b2 q hq),Only.of_below b4 _⟩;clear b1 b2 b3 b4
    go_wp2
    go_ret2
    exact ⟨k1.r,rfl,HF.out.1,HW.out.2,HF.out.2⟩
end
end Go.Proofs.YtodldddakjmonaaGreatDoor
