import Derived.Test.YtodldddakjmonaaGreatDoorK27
namespace Go.Proofs.YtodldddakjmonaaGreatDoor
section
open Go Go.RowKit Go.Deep
abbrev erV (A:Nat→Addr)(k:Nat):Value := .iface 416 (.pointer (some (A k)))
def reqS (n:Nat)(s:ByteArray):ByteArray:=(⟨#[]⟩:ByteArray)++bs (be 8 n)++itemS s
theorem only_below {w W W':World}(hb:Below w.heap.size w W)(ho:Only [] W W'):Below w.heap.size w W':=hb.trans (ho.to_below hb.size (fun k hk=>by cases hk))
theorem empty_size:(⟨#[]⟩:ByteArray).size=0:=rfl
theorem reqS_size (n:Nat)(s:ByteArray):(reqS n s).size=12+s.size+fillN s.size:=by
 unfold reqS;rw [ByteArray.size_append,ByteArray.size_append,itemS_size,be_size,empty_size];omega
theorem reqS_data (n:Nat)(s:ByteArray):(reqS n s).data.toList=be 8 n++((itemS s).data.toList++[]):=by
 unfold reqS;simp [ByteArray.data_append,bs]
def reqX (s:ByteArray):ByteArray:=(cutAt s 8).extract 4 (4+numAt (cutAt s 8) 4)
def reqR (s:ByteArray):ByteArray:=cutAt (cutAt s 8) (4+numAt (cutAt s 8) 4+fillN (numAt (cutAt s 8) 4))
def ReqOk (s:ByteArray):Prop:=8≤s.size∧numAt s 8≤9223372036854775807∧ItemOk (cutAt s 8) 4000∧(reqR s).size=0
theorem size_of_nil {t:ByteArray}(h:t.data.toList=[]):t.size=0:=by
 rw [← data_length,h];rfl
theorem req_back (n:Nat)(s:ByteArray)(hn:n < 9223372036854775808)(hs:s.size≤4000):ReqOk (reqS n s)∧numAt (reqS n s) 8=n∧reqX (reqS n s)=s:=by
 obtain ⟨h1,h2,h3⟩:=read_num (reqS n s) 8 n _ (reqS_data n s) (by omega);obtain ⟨k1,k2,k3,k4,k5,k6⟩:=read_item (cutAt (reqS n s) 8) s [] h3 (by omega);refine ⟨⟨h1,by omega,⟨k1,by rw [k2];omega,by rw [k2];exact k3,by rw [k2];exact k4⟩,?_⟩,h2,?_⟩
 · unfold reqR
   rw [k2];exact size_of_nil k6
 · unfold reqX
   rw [k2];exact k5
abbrev encWC (w:World)(id:Int)(s:ByteArray):World:=(w.alloc (.cells #[.int .i64 id,.string s] 220)).alloc (.cells #[.string ⟨#[]⟩] 272)
theorem encW_below (w:World)(id:Int)(s:ByteArray):Below w.heap.size w (encWC w id s):=((Below.refl _ _).alloc (Nat.le_refl _) _).alloc (by simp) _
theorem enc_cells {w w1:World}{n:Nat}{s t:ByteArray}(hb:Below (encWC w n s).heap.size ((encWC w n s).setCell ⟨w.heap.size+1,0,none⟩ (.string t)) w1):
   w1.cell? ⟨w.heap.size,1,none⟩=some (.string s)∧w1.cell? ⟨w.heap.size+1,0,none⟩=some (.string t)∧w1.frozen? ⟨w.heap.size+1,0,none⟩=false∧Below w.heap.size w w1∧w.heap.size≤w1.heap.size:=by
 have cu:(encWC w n s).cell? ⟨w.heap.size+1,0,none⟩=some (.string ⟨#[]⟩):=by simp
 refine ⟨?_,put_cell hb cu,?_,(encW_below w n s).trans (put_below hb (Nat.le_succ _) (by simp;omega)),?_⟩
 · rw [hb.cell (by simp;omega),World.cell?_setCell_other _ _ _ _ (by intro e;have:=congrArg Addr.block e;simp at this)]
   simp
 · exact (put_frozen hb cu).trans (World.frozen?_alloc_at _ _ _ _ (by simp))
 · have:=hb.size
   simp at this;omega
theorem encode_full (A:Nat→Addr)(n:Nat)(s:ByteArray)(w:World)(hE:Errs w A)(hn:n < 9223372036854775808)(h0:s.size≤4000)(h:4000 < (reqS n s).size):
  Calls Tryz.prog 97 #[.agg #[.int .i64 n,.string s]] w fun e w'=>e = .returned (.tuple #[.string ⟨#[]⟩,erV A 8])∧Below w.heap.size w w':=by
 have HE:Hid (Errs w A):=hE;have hd:decide (4000 < s.size)=false:=decide_eq_false (by omega)
 have cu:(encWC w n s).cell? ⟨w.heap.size+1,0,none⟩=some (.string ⟨#[]⟩):=by simp
 have cf:(encWC w n s).frozen? ⟨w.heap.size+1,0,none⟩=false:=World.frozen?_alloc_at _ _ _ _ (by simp)
 have hz:((⟨#[]⟩:ByteArray)++bs (be 8 n)).size=8:=by rw [ByteArray.size_append,be_size,empty_size]
 have hz2:4000 < (itemS s).size+((⟨#[]⟩:ByteArray)++bs (be 8 n)).size:=by
  unfold reqS at h;rw [ByteArray.size_append] at h;omega
 have HZ:Hid _:=hz;have HZ2:Hid _:=hz2;clear hE h hz hz2
 go_enter Tryz.func97,Tryz.ntmps97
 go_wp2_with (first
  | (go_at_call 148;refine (long_ok (w.heap.size+1) ⟨#[]⟩ n _ cu cf (by decide) hn (by decide)).mono ?_;rintro e w1 ⟨rfl,hb⟩;obtain ⟨k1,k2,k3,k4,k5⟩:=enc_cells hb;clear hb;have ce:w1.cell? ⟨7,0,none⟩=some (erV A 8):=(HE.out.below k4 (Nat.le_refl _)).cell 8 (by decide);have HB:Hid (Below w.heap.size w w1):=k4;clear k4 k5)
  | (go_at_call 149;go_must (refine (bytes_full (w.heap.size+1) _ s _ w1 k2 (by rw [HZ.out];decide) ce (by omega) HZ2.out).mono ?_);rintro e w2 ⟨rfl,rfl⟩))
 go_ret2
 exact ⟨rfl,HB.out⟩
theorem encode_ok (A:Nat→Addr)(n:Nat)(s:ByteArray)(w:World)(_hE:Errs w A)(hn:n < 9223372036854775808)(h0:s.size≤4000)(h:(reqS n s).size≤4000):
  Calls Tryz.prog 97 #[.agg #[.int .i64 n,.string s]] w fun e w'=>e = .returned (.tuple #[.string (reqS n s),.nilIface])∧Below w.heap.size w w':=by
 have hd:decide (4000 < s.size)=false:=decide_eq_false (by omega)
 have cu:(encWC w n s).cell? ⟨w.heap.size+1,0,none⟩=some (.string ⟨#[]⟩):=by simp
 have cf:(encWC w n s).frozen? ⟨w.heap.size+1,0,none⟩=false:=World.frozen?_alloc_at _ _ _ _ (by simp)
 have hz:((⟨#[]⟩:ByteArray)++bs (be 8 n)).size=8:=by rw [ByteArray.size_append,be_size,empty_size]
 have hz2:(itemS s).size+((⟨#[]⟩:ByteArray)++bs (be 8 n)).size≤4000:=by
  unfold reqS at h;rw [ByteArray.size_append] at h;omega
 have HZ:Hid _:=hz;have HZ2:Hid _:=hz2;clear h hz hz2
 go_enter Tryz.func97,Tryz.ntmps97
 go_wp2_with (first
  | (go_at_call 148;refine (long_ok (w.heap.size+1) ⟨#[]⟩ n _ cu cf (by decide) hn (by decide)).mono ?_;rintro e w1 ⟨rfl,hb⟩;obtain ⟨k1,k2,k3,k4,k5⟩:=enc_cells hb;have HL:Hid (w.heap.size≤w1.heap.size):=k5;clear k5;clear hb;have HB:Hid (Below w.heap.size w w1):=k4;clear k4)
  | (go_at_call 149;go_must (refine (bytes_ok (w.heap.size+1) _ s w1 k2 k3 (by rw [HZ.out];decide) (by omega) HZ2.out).mono ?_);rintro e w2 ⟨rfl,hb2⟩;have k5:=put_cell hb2 k2;have HB2:Hid (Below w.heap.size w w2):=HB.out.trans (put_below hb2 (Nat.le_succ _) HL.out);clear hb2)
  | (go_at_call 144;go_must (refine (text_any (w.heap.size+1) _ w2 k5).mono ?_);rintro e w3 ⟨rfl,rfl⟩))
 go_ret2
 exact ⟨rfl,HB2.out⟩
abbrev decW (w:World)(s:ByteArray):World:=(w.alloc (.cells #[.int .i64 0,.string ⟨#[]⟩] 220)).alloc (.cells #[.string s] 284)
structure DecAt (w W:World):Prop where
 k0:W.cell? ⟨w.heap.size,0,none⟩=some (.int .i64 0)
 k1:W.cell? ⟨w.heap.size,1,none⟩=some (.string ⟨#[]⟩)
 f0:W.frozen? ⟨w.heap.size,0,none⟩=false
 f1:W.frozen? ⟨w.heap.size,1,none⟩=false
 below:Below w.heap.size w W
 size:w.heap.size+2≤W.heap.size
theorem decW_at (w:World)(s:ByteArray):DecAt w (decW w s):=⟨by simp,by simp,by simp,by simp,((Below.refl _ _).alloc (Nat.le_refl _) _).alloc (by simp) _,by simp⟩
theorem DecAt.later {w W W':World}(h:DecAt w W)(hb:Below W.heap.size W W'):DecAt w W':=by
 have hz:=h.size;exact ⟨(hb.cell (p:=⟨w.heap.size,0,none⟩) (by show w.heap.size < _;omega)).trans h.k0,(hb.cell (p:=⟨w.heap.size,1,none⟩) (by show w.heap.size < _;omega)).trans h.k1,(hb.frozen (p:=⟨w.heap.size,0,none⟩) (by show w.heap.size < _;omega)).trans h.f0,(hb.frozen (p:=⟨w.heap.size,1,none⟩) (by show w.heap.size < _;omega)).trans h.f1,h.below.trans (hb.mono (by omega)),by have:=hb.size;omega⟩
theorem DecAt.put {w W:World}(h:DecAt w W)(v:Value):DecAt w (W.setCell ⟨w.heap.size+1,0,none⟩ v):=by
 refine ⟨?_,?_,(World.frozen?_setCell _ _ _ _).trans h.f0,(World.frozen?_setCell _ _ _ _).trans h.f1,h.below.setCell (p:=⟨w.heap.size+1,0,none⟩) (Nat.le_succ _) v,by simpa using h.size⟩
 · rw [World.cell?_setCell_other _ _ _ _ (by intro e;have:=congrArg Addr.block e;simp at this)]
   exact h.k0
 · rw [World.cell?_setCell_other _ _ _ _ (by intro e;have:=congrArg Addr.block e;simp at this)]
   exact h.k1
theorem DecAt.done {w W:World}(h:DecAt w W)(u v:Value):Below w.heap.size w ((W.setCell ⟨w.heap.size,0,none⟩ u).setCell ⟨w.heap.size,1,none⟩ v):=(h.below.setCell (p:=⟨w.heap.size,0,none⟩) (Nat.le_refl _) u).setCell (p:=⟨w.heap.size,1,none⟩) (Nat.le_refl _) v
def DecR (A:Nat→Addr)(s:ByteArray)(r:Value):Prop :=
 (ReqOk s∧r = .tuple #[.agg #[.int .i64 (numAt s 8:Nat),.string (reqX s)],.nilIface])∨(¬ ReqOk s∧r = .tuple #[.agg #[.int .i64 0,.string ⟨#[]⟩],erV A 0])
theorem decode_long (A:Nat→Addr)(s:ByteArray)(w:World)(hE:Errs w A)(hs:s.size≤15000)(h:s.size < 8∨8≤s.size∧9223372036854775807 < numAt s 8):
  Calls Tryz.prog 121 #[.string s] w fun e w'=>e = .returned (.tuple #[.agg #[.int .i64 0,.string ⟨#[]⟩],erV A 0])∧Below w.heap.size w w':=by
 have HD:Hid (DecAt w (decW w s)):=decW_at w s;have ce:(decW w s).cell? ⟨1,0,none⟩=some (erV A 0):=(hE.below (decW_at w s).below (Nat.le_refl _)).cell 0 (by decide)
 have cu:(decW w s).cell? ⟨w.heap.size+1,0,none⟩=some (.string s):=by simp
 have HL:Hid (Calls Tryz.prog 169 #[.pointer (some ⟨w.heap.size+1,0,none⟩)] (decW w s) fun e w'=>e = .returned (.tuple #[.int .i64 0,erV A 0])∧Below (decW w s).heap.size (decW w s) w'):=by
  rcases h with h | ⟨h,h'⟩
  · exact rLong_short _ s _ _ _ cu ce h
  · exact rLong_great _ s _ _ _ cu ce h (by omega) h'
 clear hE ce cu h hs
 go_enter Tryz.func121,Tryz.ntmps121
 go_wp2_with (first
  | (go_at_call 113;go_must (refine (newReader_any s _).mono ?_);rintro e w2 ⟨rfl,rfl⟩)
  | (go_at_call 169;go_must (refine HL.out.mono ?_);rintro e w3 ⟨rfl,hb⟩;obtain ⟨k0,k1,k2,k3,kb,kz⟩:=HD.out.later hb;have HD2:Hid (DecAt w w3):=⟨k0,k1,k2,k3,kb,kz⟩;clear hb kb kz))
 refine bodyPost_ret (v := .tuple #[.agg #[.int .i64 0,.string ⟨#[]⟩],erV A 0]) (by simp [results,Tryz.results121,go_sem,k0,k1]) rfl ?_;exact ⟨rfl,HD2.out.done _ _⟩
theorem dec_pre (s:ByteArray)(w:World)(hs:s.size≤15000)(h8:8≤s.size)(hg:numAt s 8≤9223372036854775807):
  ∃ W2,Hid (Calls Tryz.prog 169 #[.pointer (some ⟨w.heap.size+1,0,none⟩)] (decW w s) fun e w'=>e = .returned (.tuple #[.int .i64 (numAt s 8),.nilIface])∧w'=W2)∧W2.cell? ⟨w.heap.size+1,0,none⟩=some (.string (cutAt s 8))∧W2.frozen? ⟨w.heap.size+1,0,none⟩=false∧DecAt w W2:=by
 have cu:(decW w s).cell? ⟨w.heap.size+1,0,none⟩=some (.string s):=by simp
 have cf:(decW w s).frozen? ⟨w.heap.size+1,0,none⟩=false:=World.frozen?_alloc_at _ _ _ _ (by simp);exact ⟨_,(rLong_ok _ s _ cu cf h8 (by omega) hg).mono fun e w' q=>⟨q.1,q.2.symm⟩,World.cell?_setCell_same _ _ _ cu,(World.frozen?_setCell _ _ _ _).trans cf,(decW_at w s).put _⟩
theorem decode_item (A:Nat→Addr)(s:ByteArray)(w:World)(hE:Errs w A)(hs:s.size≤15000)(h8:8≤s.size)(hg:numAt s 8≤9223372036854775807)(h:¬ ItemOk (cutAt s 8) 4000):
  Calls Tryz.prog 121 #[.string s] w fun e w'=>e = .returned (.tuple #[.agg #[.int .i64 0,.string ⟨#[]⟩],erV A 0])∧Below w.heap.size w w':=by
 obtain ⟨W2,HL,c2,f2,hd2⟩:=dec_pre s w hs h8 hg;have HD:Hid (DecAt w W2):=hd2
 have HI:Hid (Calls Tryz.prog 170 #[.pointer (some ⟨w.heap.size+1,0,none⟩),.int .i64 4000] W2 fun e w'=>e = .returned (.tuple #[.string (bs []),erV A 0])∧Below W2.heap.size W2 w') :=
  (rBytes_ends (w.heap.size+1) (cutAt s 8) 4000 _ _ _ c2 f2 ((hE.below hd2.below (Nat.le_refl _)).cell 0 (by decide)) (by rw [cutAt_size];omega)).mono fun e w' q=>by
   rcases q with ⟨q,_⟩ | ⟨_,q1,q2⟩
   ·  exact absurd q h
   ·  exact ⟨q1,q2⟩
 clear hE hs h8 hg h hd2 c2 f2
 go_enter Tryz.func121,Tryz.ntmps121
 go_wp2_with (first
  | (go_at_call 113;refine (newReader_any s _).mono ?_;rintro e w2 ⟨rfl,rfl⟩)
  | (go_at_call 169;refine HL.out.mono ?_;rintro e w3 ⟨rfl,rfl⟩)
  | (go_at_call 170;go_must (refine HI.out.mono ?_);rintro e w4 ⟨rfl,hb⟩;obtain ⟨k0,k1,k2,k3,kb,kz⟩:=HD.out.later hb;have HD2:Hid (DecAt w w4):=⟨k0,k1,k2,k3,kb,kz⟩;clear hb kb kz))
 refine bodyPost_ret (v := .tuple #[.agg #[.int .i64 0,.string ⟨#[]⟩],erV A 0]) (by simp [results,Tryz.results121,go_sem,k0,k1]) rfl ?_;exact ⟨rfl,HD2.out.done _ _⟩
theorem decode_tail (A:Nat→Addr)(s:ByteArray)(w:World)(hE:Errs w A)(hs:s.size≤15000)(h8:8≤s.size)(hg:numAt s 8≤9223372036854775807)(h:ItemOk (cutAt s 8) 4000):
   Calls Tryz.prog 121 #[.string s] w fun e w'=>(∃ r,e = .returned r∧DecR A s r)∧Below w.heap.size w w':=by
 obtain ⟨W2,HL,c2,f2,hd2⟩:=dec_pre s w hs h8 hg;have hd3:=hd2.put (.string (reqR s));obtain ⟨W3,eW3⟩:∃ W3,W3=W2.setCell ⟨w.heap.size+1,0,none⟩ (.string (reqR s)):=⟨_,rfl⟩
 have HI:Hid (Calls Tryz.prog 170 #[.pointer (some ⟨w.heap.size+1,0,none⟩),.int .i64 4000] W2 fun e w'=>e = .returned (.tuple #[.string (reqX s),.nilIface])∧w'=W3) :=
   (rBytes_ends (w.heap.size+1) (cutAt s 8) 4000 _ _ _ c2 f2 ((hE.below hd2.below (Nat.le_refl _)).cell 0 (by decide)) (by rw [cutAt_size];omega)).mono fun e w' q=>by
     rcases q with ⟨_,q1,q2⟩ | ⟨q,_⟩
     · exact ⟨q1,by rw [eW3];exact q2.symm⟩
     · exact absurd h q
 have c3:W3.cell? ⟨w.heap.size+1,0,none⟩=some (.string (reqR s)):=by rw [eW3];exact World.cell?_setCell_same _ _ _ c2
 rw [← eW3] at hd3;clear eW3;have ce:W3.cell? ⟨1,0,none⟩=some (erV A 0):=(hE.below hd3.below (Nat.le_refl _)).cell 0 (by decide);obtain ⟨k0,k1,k2,k3,kb,kz⟩:=hd3;have HD:Hid (DecAt w W3):=⟨k0,k1,k2,k3,kb,kz⟩
 have HF:Hid ((0 < (reqR s).size∧Hid (Calls Tryz.prog 164 #[.pointer (some ⟨w.heap.size+1,0,none⟩)] W3 fun e w'=>e = .returned (erV A 0)∧w'=W3))∨((reqR s).size=0∧Hid (Calls Tryz.prog 164 #[.pointer (some ⟨w.heap.size+1,0,none⟩)] W3 fun e w'=>e = .returned .nilIface∧w'=W3))):=by
   rcases Nat.eq_zero_or_pos (reqR s).size with z | z
   · refine Or.inr ⟨z,?_⟩
     have e:reqR s=bs []:=by
       apply data_inj;exact List.eq_nil_of_length_eq_zero (by rw [data_length];exact z)
     rw [e] at c3;exact (rEnd_none _ _ c3).mono fun e w' q=>⟨q.1,q.2.symm⟩
   · exact Or.inl ⟨z,(rEnd_some _ _ _ _ c3 ce z).mono fun e w' q=>⟨q.1,q.2.symm⟩⟩
 have HO:Hid (8≤s.size∧numAt s 8≤9223372036854775807∧ItemOk (cutAt s 8) 4000):=⟨h8,hg,h⟩;clear hE hs h8 hg h hd2 c2 f2 c3 ce kb kz;rcases HF.out with ⟨z,HF'⟩ | ⟨z,HF'⟩
 · have HZ:Hid (0 < (reqR s).size):=z
   clear z HF
   go_enter Tryz.func121,Tryz.ntmps121
   go_wp2_with (first
     | (go_at_call 113;refine (newReader_any s _).mono ?_;rintro e w2 ⟨rfl,rfl⟩)
     | (go_at_call 169;refine HL.out.mono ?_;rintro e w3 ⟨rfl,rfl⟩)
     | (go_at_call 170;refine HI.out.mono ?_;rintro e w4 ⟨rfl,rfl⟩)
     | (go_at_call 164;go_must (refine HF'.out.mono ?_);rintro e w5 ⟨rfl,rfl⟩))
   refine bodyPost_ret (v := .tuple #[.agg #[.int .i64 0,.string ⟨#[]⟩],erV A 0]) (by simp [results,Tryz.results121,go_sem,k0,k1]) rfl ?_;exact ⟨⟨_,rfl,Or.inr ⟨fun q=>by have:=q.2.2.2;have:=HZ.out;omega,rfl⟩⟩,HD.out.done _ _⟩
 · have HZ:Hid ((reqR s).size=0):=z
   clear z HF
   go_enter Tryz.func121,Tryz.ntmps121
   go_wp2_with (first
     | (go_at_call 113;refine (newReader_any s _).mono ?_;rintro e w2 ⟨rfl,rfl⟩)
     | (go_at_call 169;refine HL.out.mono ?_;rintro e w3 ⟨rfl,rfl⟩)
     | (go_at_call 170;refine HI.out.mono ?_;rintro e w4 ⟨rfl,rfl⟩)
     | (go_at_call 164;go_must (refine HF'.out.mono ?_);rintro e w5 ⟨rfl,rfl⟩))
   refine bodyPost_ret (v := .tuple #[.agg #[.int .i64 (numAt s 8:Nat),.string (reqX s)],.nilIface]) (by simp [results,Tryz.results121,go_sem,k0,k1]) rfl ?_;exact ⟨⟨_,rfl,Or.inl ⟨⟨HO.out.1,HO.out.2.1,HO.out.2.2,HZ.out⟩,rfl⟩⟩,HD.out.done _ _⟩
theorem decode_any (A:Nat→Addr)(s:ByteArray)(w:World)(hE:Errs w A)(hs:s.size≤15000):
   Calls Tryz.prog 121 #[.string s] w fun e w'=>(∃ r,e = .returned r∧DecR A s r)∧Below w.heap.size w w':=by
 have bad:∀ (hn:¬ ReqOk s) (e:Ending) (w':World),(e = .returned (.tuple #[.agg #[.int .i64 0,.string ⟨#[]⟩],erV A 0])∧Below w.heap.size w w')→(∃ r,e = .returned r∧DecR A s r)∧Below w.heap.size w w' :=
   fun hn e w' q=>⟨⟨_,q.1,Or.inr ⟨hn,rfl⟩⟩,q.2⟩
 by_cases h8:8≤s.size
 · by_cases hg:numAt s 8≤9223372036854775807
   · by_cases h:ItemOk (cutAt s 8) 4000
     · exact decode_tail A s w hE hs h8 hg h
     · exact (decode_item A s w hE hs h8 hg h).mono (bad (fun q=>h q.2.2.1))
   · exact (decode_long A s w hE hs (Or.inr ⟨h8,by omega⟩)).mono (bad (fun q=>hg q.2.1))
 · exact (decode_long A s w hE hs (Or.inl (by omega))).mono (bad (fun q=>h8 q.1))
theorem item_len (s:ByteArray):(Dt8 (itemS s)).length=4+s.size+fillN s.size:=itemS_size s
theorem bs_len (l:List UInt8):(Dt8 (bs l)).length=l.length:=by rw [Dt8_bs]
theorem sgn_zero:sgn 0=[some (bs (be 4 0)),some (bs (be 8 0))]:=sgn_pos 0
theorem sgn_one:sgn 1=[some (bs (be 4 0)),some (bs (be 8 1))]:=sgn_pos 1
theorem sgn_four:sgn 4=[some (bs (be 4 0)),some (bs (be 8 4))]:=sgn_pos 4
theorem ops_steps (nm:ByteArray):allS (listsW opW [opR,opM nm])=true∧(catW (listsW opW [opR,opM nm])).length≤260+nm.size:=by
 have h1:=fillN_lt kR.size;have h2:=fillN_lt kM.size;have h3:=fillN_lt nm.size;have h4:=fillN_lt (⟨#[]⟩:ByteArray).size;have z1:kR.size=4:=rfl;have z2:kM.size=4:=rfl;have z3:(⟨#[]⟩:ByteArray).size=0:=rfl
 constructor
 · simp [listsW,listW,opW,opR,opM,sgn_zero,sgn_one,allS]
 · simp only [listsW,listW,opW,opR,opM,sgn_zero,sgn_one,catW,List.cons_append,List.nil_append,List.append_nil,List.length_append,bs_len,be_length,item_len]
   omega
theorem i64z:I64 0:=⟨by decide,by decide⟩
theorem i64o:I64 1:=⟨by decide,by decide⟩
theorem i64f:I64 4:=⟨by decide,by decide⟩
theorem op_oks (nm:ByteArray):∀ x∈[opR,opM nm],x.ok:=fun x hx=>by
 simp only [List.mem_cons,List.not_mem_nil,or_false] at hx;rcases hx with rfl | rfl
 · exact ⟨i64z,i64z,i64z,i64z,i64z,i64z⟩
 · exact ⟨i64o,i64z,i64z,i64z,i64z,i64z⟩
theorem ops_text (nm:ByteArray)(h:nm.size≤100):∃ t,runW (S0,0) (listsW opW [opR,opM nm])=(t,0)∧t.size≤400∧pAll pOp t=some [opR,opM nm]:=by
 obtain ⟨h1,h2⟩:=ops_steps nm;obtain ⟨t,r1,r2⟩:=runW_all (s:=S0) h1 (show 0+_≤4000 by omega)
 have e:Dt8 t=catW (listsW opW [opR,opM nm])++[]:=by rw [r2,List.append_nil];rfl
 have hz:t.size≤400:=by
  have:(Dt8 t).length=t.size:=rfl;rw [e,List.append_nil] at this;omega
 obtain ⟨t',k1,k2,_⟩:=invB_list invB_op t [opR,opM nm] [] ⟨(show 2≤4294967295 by decide),op_oks nm⟩ h1 (by omega) e;exact ⟨t,r1,hz,pAll_some k1 (size_of_nil k2)⟩
theorem rp_ok {k:Int}(hk:I64 k):(rpv k).ok:=⟨hk,i64z,i64z,i64z,i64z,i64z,(show 0≤4294967295 by decide),fun a ha=>by cases ha⟩
theorem rp_oks (k:Int)(hk:k=0∨k=4):∀ x∈[(rpv 0,Value.slice none 0 0),(rpv k,Value.slice none 0 0)],x.1.ok:=fun x hx=>by
 simp only [List.mem_cons,List.not_mem_nil,or_false] at hx;rcases hx with rfl | rfl
 · exact rp_ok i64z
 · rcases hk with rfl | rfl
   · exact rp_ok i64z
   · exact rp_ok i64f
theorem reps_text (k:Int)(hk:k=0∨k=4):∃ t,runW (S0,0) (listsW (fun p:RpV×Value=>rpW p.1) [(rpv 0,Value.slice none 0 0),(rpv k,Value.slice none 0 0)])=(t,0)∧t.size≤400:=by
 have z3:(⟨#[]⟩:ByteArray).size=0:=rfl;have h4:=fillN_lt (⟨#[]⟩:ByteArray).size
 have h:allS (listsW (fun p:RpV×Value=>rpW p.1) [(rpv 0,Value.slice none 0 0),(rpv k,Value.slice none 0 0)])=true∧(catW (listsW (fun p:RpV×Value=>rpW p.1) [(rpv 0,Value.slice none 0 0),(rpv k,Value.slice none 0 0)])).length≤400:=by
  rcases hk with rfl | rfl
  all_goals constructor
  all_goals first
   | (simp [listsW,listW,rpW,rpv,sgn_zero,sgn_four,allS];done)
   | (simp only [listsW,listW,rpW,rpv,sgn_zero,sgn_four,catW,List.cons_append,List.nil_append,List.append_nil,List.length_append,bs_len,be_length,item_len];omega)
   | (simp only [listsW,listW,rpW,rpv,sgn_zero,catW,List.cons_append,List.nil_append,List.append_nil,List.length_append,bs_len,be_length,item_len];omega)
 obtain ⟨t,r1,r2⟩:=runW_all (s:=S0) h.1 (show 0+_≤4000 by omega);refine ⟨t,r1,?_⟩;have:(Dt8 t).length=t.size:=rfl;rw [r2] at this;have e:(Dt8 S0).length=0:=rfl;rw [List.length_append,e] at this;omega
end
end Go.Proofs.YtodldddakjmonaaGreatDoor
