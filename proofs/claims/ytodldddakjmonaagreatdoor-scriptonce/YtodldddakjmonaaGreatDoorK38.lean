import Derived.Test.YtodldddakjmonaaGreatDoorK13
set_option maxHeartbeats 8000000
namespace Go.Proofs.YtodldddakjmonaaGreatDoor
section
open Go Go.RowKit Go.Deep
def ErrIs (W:World)(A:Nat→Addr)(code place:Int)(v:Value):Prop :=
 (code=0∧v = .nilIface)∨(∃ k:Nat,k < 15∧code=(k:Int)+1∧place = -1∧v = .iface 416 (.pointer (some (A k)))) ∨
 (∃ k pb:Nat,k < 15∧code=(k:Int)+1∧v = .iface 58 (.pointer (some ⟨pb,0,none⟩))∧W.cell? ⟨pb,0,none⟩=some (.int .i64 place)∧W.cell? ⟨pb,1,none⟩=some (.iface 416 (.pointer (some (A k)))))
def AllEnds (n:Nat)(T:Nat→ByteArray)(A:Nat→Addr)(w:World)(e:Ending)(w':World):Prop :=
 ∃ (code place:Int) (v:Value),PathIs n T code place∧ErrIs w' A code place v∧e = .returned v∧Below w.heap.size w w'
theorem checkAll_none (a:Option Addr)(c:Nat)(w:World):Calls Tryz.prog 101 #[.slice a 0 c] w fun e w'=>e = .returned .nilIface∧w=w':=by
 go_enter Tryz.func101,Tryz.ntmps101
 go_wp2
 refine wp_loop_rounds 1 ?_;rw [rounds_succ]
 go_wp2
 go_ret
 exact ⟨rfl,rfl⟩
theorem checkAll_some (ab ao c n:Nat)(T:Nat→ByteArray)(A:Nat→Addr)(w:World)(hE:Errs w A)(hc:∀ i,i < n→w.cell? ⟨ab,ao+i,none⟩=some (.string (T i)))(hn:n≤1000000):
  Calls Tryz.prog 101 #[.slice (some ⟨ab,ao,none⟩) n c] w (AllEnds n T A w):=by
 have HE:Hid _:=hE;have HC:Hid _:=hc;clear hc hE
 go_enter Tryz.func101,Tryz.ntmps101
 go_wp2
 go_loopw [7] (fun i wr=>∃ j:Nat,j≤n∧i = .int .i64 j∧(∀ k,k < j→OkN (T k))∧Below w.heap.size w wr) (fun i _=>n - (intOf i).toNat)
 case atStart=>exact ⟨0,Nat.zero_le _,rfl,fun k h=>absurd h (Nat.not_lt_zero _),Below.refl _ _⟩
 case round =>
  obtain ⟨j,hj,rfl,hall,hbr⟩:=hrel;have HA:Hid _:=hall;have HB:Hid _:=hbr;clear hall hbr
  by_cases hlt:j < n
  · have c0:=HC.out j hlt
    have lt0:ab < w.heap.size:=lt_of_cell c0;have c1:wr.cell? ⟨ab,ao+j,none⟩=some (.string (T j)):=(HB.out.cell (p:=⟨ab,ao+j,none⟩) lt0).trans c0;clear c0 lt0
    go_wp2_with fail
    refine (isName_any (T j) _).mono ?_;rintro e w1 ⟨⟨hok,rfl⟩ | ⟨hno,rfl⟩,hb1⟩
    · have HN:Hid (∀ k,k < j+1→OkN (T k)):=fun k hk=>by
       rcases Nat.lt_or_ge k j with h1 | h1
       · exact HA.out k h1
       · obtain rfl:k=j:=by omega
         exact hok
      have HB1:Hid (Below w.heap.size w w1):=HB.out.trans (hb1.mono HB.out.size);clear hok hb1 c1
      go_wp2
      go_round
      case rel=>exact ⟨j+1,by omega,by go_num,HN.out,HB1.out⟩
      case measure=>simp [intOf];omega
    · have HP:Hid (PathIs n T 4 (j:Int)):=Or.inl ⟨j,hlt,hno,HA.out,rfl,rfl⟩
      have HB1:Hid (Below w.heap.size w w1):=HB.out.trans (hb1.mono HB.out.size);have hcell:w1.cell? ⟨4,0,none⟩=some (.iface 416 (.pointer (some (A 3)))):=((HE.out.below HB1.out (Nat.le_refl _)).cell 3 (by decide));clear hno HA hb1 c1
      go_wp2
      go_ret
      exact ⟨4,j,_,HP.out,Or.inr (Or.inr ⟨3,w1.heap.size,by decide,rfl,rfl,by simp,by simp⟩),rfl,HB1.out.alloc HB1.out.size _⟩
  · have HK:Hid (∀ k,k < n→OkN (T k)):=fun k hk=>HA.out k (by omega)
    clear HA
    by_cases h12:12 < n
    · have HP:Hid (PathIs n T 2 (-1)):=Or.inr (Or.inl ⟨HK.out,h12,rfl,rfl⟩)
      have hcell:wr.cell? ⟨0,0,none⟩=some (.iface 416 (.pointer (some (A 1)))):=((HE.out.below HB.out (Nat.le_refl _)).cell 1 (by decide))
      go_wp2
      go_ret
      exact ⟨2,-1,_,HP.out,Or.inr (Or.inl ⟨1,by decide,rfl,rfl,rfl⟩),rfl,HB.out⟩
    · have HP:Hid (PathIs n T 0 (-1)):=Or.inr (Or.inr ⟨HK.out,by omega,rfl,rfl⟩)
      go_wp2
      go_ret
      exact ⟨0,-1,_,HP.out,Or.inl ⟨rfl,rfl⟩,rfl,HB.out⟩
theorem checkAll_any (a:Option Addr)(c n:Nat)(T:Nat→ByteArray)(A:Nat→Addr)(w:World)(hE:Errs w A)(h:TextsIn w a n T)(hn:n≤1000000):
   Calls Tryz.prog 101 #[.slice a n c] w (AllEnds n T A w):=by
 rcases h with rfl | ⟨ab,ao,rfl,h⟩
 · exact (checkAll_none a c w).mono fun e w' h=>⟨0,-1,.nilIface,Or.inr (Or.inr ⟨fun k hk=>absurd hk (Nat.not_lt_zero _),by omega,rfl,rfl⟩),Or.inl ⟨rfl,rfl⟩,h.1,h.2 ▸ Below.refl _ _⟩
 · exact checkAll_some ab ao c n T A w hE h hn
def pieces:List UInt8→List (List UInt8)
 | []=>[[]]
 | c::l=>if c.toNat=47 then []::pieces l else match pieces l with
  | []=>[[c]]
  | p::ps=>(c::p)::ps
theorem pieces_some (l:List UInt8):∃ p ps,pieces l=p::ps:=by
 cases l with
 | nil=>exact ⟨_,_,rfl⟩
 | cons c l =>
  unfold pieces
  split
  · exact ⟨_,_,rfl⟩
  · cases pieces l<;>exact ⟨_,_,rfl⟩
theorem scan_pieces (l:List UInt8)(L:List (List UInt8))(wd p:List UInt8)(ps:List (List UInt8))(h:pieces l=p::ps):
  (l.foldl sstep (L,wd)).1++[(l.foldl sstep (L,wd)).2]=L++(wd++p)::ps:=by
 induction l generalizing L wd p ps with
 | nil =>
  cases h
  simp
 | cons c l ih =>
  obtain ⟨q,qs,hq⟩:=pieces_some l;rw [pieces,hq] at h;rw [List.foldl_cons]
  by_cases hc:c.toNat=47
  · rw [if_pos hc] at h
    cases h
    rw [sstep,if_pos hc,ih _ _ _ _ hq];simp
  · rw [if_neg hc] at h
    cases h
    rw [sstep,if_neg hc,ih _ _ _ _ hq];simp
theorem words_pieces (l:List UInt8):wordsOf l=pieces (l.drop 1):=by
 obtain ⟨q,qs,hq⟩:=pieces_some (l.drop 1);have:=scan_pieces (l.drop 1) [] [] q qs hq;unfold wordsOf scan;rw [this,hq];simp
theorem index_yes (l:List UInt8):Lib.index ((47:UInt8)::l) [47]=0:=by rw [Lib.index];simp [List.isPrefixOf]
theorem index_no (c:UInt8)(l:List UInt8)(h:c≠47):Lib.index (c::l) [47]=if Lib.index l [47] == -1 then -1 else Lib.index l [47]+1:=by
 have hp:([47]:List UInt8).isPrefixOf (c::l)=false:=by simp [List.isPrefixOf,Ne.symm h]
 rw [Lib.index,hp];simp
theorem split_pieces (l:List UInt8):Lib.splitK [47] 0 (Lib.count l [47]) l=pieces l:=by
 induction l with
 | nil=>rw [show Lib.count [] [47]=0 from rfl];rfl
 | cons c l ih =>
  by_cases hc:c=47
  · subst hc
    rw [Lib.count_cons_eq,Nat.add_comm 1,Lib.splitK,index_yes,if_neg (by decide),pieces,if_pos (by decide)];simp [ih]
  · have hn:c.toNat≠47:=fun h=>hc (UInt8.toNat_inj.1 (by simpa using h))
    rw [Lib.count_cons_ne _ _ _ hc,pieces,if_neg hn,← ih]
    cases hk:Lib.count l [47] with
    | zero=>rfl
    | succ k =>
     rw [Lib.splitK,Lib.splitK,index_no _ _ hc]
     by_cases hi:Lib.index l [47] = -1
     · simp [hi]
     · have hge:=Lib.index_ge l [47]
       obtain ⟨j,hj⟩:∃ j:Nat,Lib.index l [47]=j:=⟨(Lib.index l [47]).toNat,by omega⟩
       have n1:¬ ((j:Int) == -1)=true:=by simp
       have n2:¬ ((j:Int)+1 == -1)=true:=by simp;omega
       rw [hj,if_neg n1,if_neg n2,if_neg n1];rw [show ((j:Int)+1).toNat=j+1 by omega,show ((j:Int)).toNat=j by omega];simp
theorem splitB_pieces (s:ByteArray):Lib.splitB ⟨#[47]⟩ 0 (Lib.countB s ⟨#[47]⟩) s=(pieces s.data.toList).map bs:=by
 have h:=Lib.splitB_data ⟨#[47]⟩ 0 (Lib.countB s ⟨#[47]⟩) s
 rw [show Lib.countB s ⟨#[47]⟩=Lib.count s.data.toList [47] from rfl] at h ⊢
 rw [show (⟨#[47]⟩:ByteArray).data.toList=[47] from rfl,split_pieces] at h
 rw [← h,List.map_map]
 conv=>lhs;rw [← List.map_id (Lib.splitB ⟨#[47]⟩ 0 (Lib.count s.data.toList [47]) s)]
 exact List.map_congr_left fun x _=>data_inj (bs_data _).symm
theorem strokes_any (s:ByteArray)(m:Int)(w:World)(hs:s.size≤1000000)(hm:w.cell? ⟨8,0,none⟩=some (.int .i64 m)):
  Calls Tryz.prog 17 #[.string s,.string ⟨#[47]⟩] w fun e w'=>e = .returned (.slice (some ⟨w.heap.size,0,none⟩) (pieces s.data.toList).length (pieces s.data.toList).length)∧w'=w.alloc (.cells (cellsT (pieces s.data.toList)).toArray 9):=by
 have hl:Lib.countB s ⟨#[47]⟩+1=(pieces s.data.toList).length:=by
  have:=Lib.splitB_all ⟨#[47]⟩ (by decide) 0 _ s rfl;rw [splitB_pieces,List.length_map] at this;exact this.symm
 refine (Tryz.strings_Split s ⟨#[47]⟩ m w (by omega) hm (by decide)).mono fun e w' ⟨he,hw⟩=>?_;rw [hl] at he;rw [splitB_pieces,List.map_map] at hw;exact ⟨he,hw⟩
theorem pieces_texts (L:List (List UInt8))(w:World)(t:TypeId):TextsIn (w.alloc (.cells (cellsT L).toArray t)) (some ⟨w.heap.size,0,none⟩) L.length (fun i=>bs (L.getD i [])):=by
 refine Or.inr ⟨_,_,rfl,fun i hi=>?_⟩
 have e:(⟨w.heap.size,0+i,none⟩:Addr)=⟨w.heap.size,i,none⟩:=by rw [Nat.zero_add]
 rw [e,World.cell?_alloc_new];simp [cellsT,hi]
theorem pieces_len (l:List UInt8):(pieces l).length≤l.length+1:=by
 induction l with
 | nil=>simp [pieces]
 | cons c l ih =>
  obtain ⟨q,qs,hq⟩:=pieces_some l;rw [pieces,hq];rw [hq] at ih
  split<;>simp at ih ⊢<;>omega
theorem ahead_any (s:ByteArray)(b:Bool)(w:World)(h:Lib.hasPrefix s.data.toList [47]=b):Calls Tryz.prog 99 #[.string s,.string ⟨#[47]⟩] w fun e w'=>e = .returned (.bool b)∧w=w' :=
 (Tryz.strings_HasPrefix s ⟨#[47]⟩ w).mono fun e w' ⟨he,hw⟩=>⟨by rw [he,← h],hw.symm⟩
theorem behind_any (s:ByteArray)(b:Bool)(w:World)(hs:s.size≤1000000)(h:Lib.hasSuffix s.data.toList [47]=b):Calls Tryz.prog 100 #[.string s,.string ⟨#[47]⟩] w fun e w'=>e = .returned (.bool b)∧w=w' :=
 (Tryz.strings_HasSuffix s ⟨#[47]⟩ w (by omega)).mono fun e w' ⟨he,hw⟩=>⟨by rw [he,← h],hw.symm⟩
theorem split_good (s:ByteArray)(A:Nat→Addr)(m:Int)(w:World)(hE:Errs w A)(hm:w.cell? ⟨8,0,none⟩=some (.int .i64 m))(hs:s.size≤1000000)(h1:1 < s.size)(h:Lib.hasPrefix s.data.toList [47]=true)(h':Lib.hasSuffix s.data.toList [47]=false)(hne:(s.toList==[47])=false):
   Calls Tryz.prog 69 #[.string s] w fun e w'=>∃ (code place:Int) (v:Value),PathIs (wordsOf s.data.toList).length (fun i=>bs ((wordsOf s.data.toList).getD i [])) code place∧ErrIs w' A code place v∧Below w.heap.size w w' ∧
   ((code=0∧∃ a,e = .returned (.tuple #[.slice a (wordsOf s.data.toList).length (wordsOf s.data.toList).length,.nilIface])∧TextsIn w' a (wordsOf s.data.toList).length (fun i=>bs ((wordsOf s.data.toList).getD i [])))∨(code≠0∧e = .returned (.tuple #[.slice none 0 0,v]))):=by
 have hp:=ahead_any s true w h;have hq:=behind_any s false w hs h';have hk:=strokes_any (s.extract 1 s.size) m w (by rw [ByteArray.size_extract];omega) hm;rw [Lib.extract_to_end,← words_pieces] at hk
 have hlen:(wordsOf s.data.toList).length≤1000000:=by
   rw [words_pieces];have:=pieces_len (s.data.toList.drop 1);have e:s.data.toList.length=s.size:=rfl;rw [List.length_drop] at this;omega
 generalize wordsOf s.data.toList=L at hk hlen ⊢;have hT:=pieces_texts L w 9;have hB1:Below w.heap.size w (w.alloc (.cells (cellsT L).toArray 9)):=(Below.refl _ _).alloc (Nat.le_refl _) _;have HK:=checkAll_any (some ⟨w.heap.size,0,none⟩) L.length L.length (fun i=>bs (L.getD i [])) A (w.alloc (.cells (cellsT L).toArray 9)) (hE.below hB1 (Nat.le_refl _)) hT hlen;have HT:Hid (TextsIn (w.alloc (.cells (cellsT L).toArray 9)) (some ⟨w.heap.size,0,none⟩) L.length (fun i=>bs (L.getD i []))):=hT;have HB:Hid _:=hB1;clear h h' hE hT hB1 hm
 go_enter Tryz.func69,Tryz.ntmps69
 go_wp2_with (first
   | (go_at_call 99;go_must (refine hp.mono ?_);rintro e w1 ⟨rfl,rfl⟩)
   | (go_at_call 100;go_must (refine hq.mono ?_);rintro e w1 ⟨rfl,rfl⟩)
   | (go_at_call 17;go_must (refine hk.mono ?_);rintro e w1 ⟨rfl,rfl⟩))
 refine HK.mono ?_;rintro e w2 ⟨code,place,v,hP,hEr,rfl,hb⟩;have HP:Hid (PathIs L.length (fun i=>bs (L.getD i [])) code place):=hP;have HB2:Hid (Below w.heap.size w w2):=HB.out.trans (hb.mono HB.out.size);have HT2:Hid (TextsIn w2 (some ⟨w.heap.size,0,none⟩) L.length (fun i=>bs (L.getD i []))):=HT.out.below hb (Nat.le_refl _);have HEr:Hid (ErrIs w2 A code place v):=hEr;clear hP hb HK HT HB;rcases hEr with ⟨rfl,rfl⟩ | ⟨k,hk1,rfl,rfl,rfl⟩ | ⟨k,pb,hk1,rfl,rfl,-,-⟩
 · go_wp2
   go_ret2
   exact ⟨0,place,.nilIface,HP.out,HEr.out,HB2.out,Or.inl ⟨rfl,_,rfl,HT2.out⟩⟩
 · go_wp2
   go_ret2
   exact ⟨_,_,_,HP.out,HEr.out,HB2.out,Or.inr ⟨by omega,rfl⟩⟩
 · go_wp2
   go_ret2
   exact ⟨_,_,_,HP.out,HEr.out,HB2.out,Or.inr ⟨by omega,rfl⟩⟩
end
end Go.Proofs.YtodldddakjmonaaGreatDoor
