import Derived.Test.YtkcabopgajlmdaaGreatDoorK28
import Derived.Test.YtkcabopgajlmdaaGreatDoorK29
set_option maxRecDepth 100000
set_option maxHeartbeats 8000000
namespace Go.Proofs.YtkcabopgajlmdaaGreatDoor
section
open Go Go.RowKit Go.Deep Go.Maps
section
variable {w:World}{base m:Nat}{lv tv:Value}{ns:List Nm}{D:Dt}
theorem dat_at (h:DtM w base m lv tv ns D)(hk:DOk D){n:Nm}(hm:n∈ns):zO 48 #[zP m,zG n.x.i n.x.c] w (zP n.b) :=
 (dat_any w base m lv tv ns D _ _ h hk.nos (h.nlen hk)).mono fun e w' hh=>by
  obtain ⟨h1,ho⟩:=hh;have hz:D.atZ (n.x.i:Int) (n.x.c:Int)=some n.x:=atZ_of hk.nos (h.inL hm) (isB_iff.2 ⟨rfl,rfl⟩);rcases h1 with ⟨a,ha,hz2,_,_,he⟩ | ⟨hz2,_⟩
  · rw [hz] at hz2
    have:a=n:=h.same hk.nos ha hm (by rw [Option.some.inj hz2]);rw [this] at he;exact ⟨he,ho⟩
  · rw [hz] at hz2
    cases hz2
theorem ddir_is (h:DtM w base m lv tv ns D)(hk:DOk D){N G:Int}{c:Nat}(hc:dirN D N G=c):zO 46 #[zP m,zG N G] w (zI c):=by
 have:=ddirE_any w base m lv tv ns D N G h hk.nos (h.nlen hk);rw [hc] at this;exact this
theorem dfile_is (h:DtM w base m lv tv ns D)(hk:DOk D){N G:Int}{c:Nat}(hc:fileN D N G=c):zO 70 #[zP m,zG N G] w (zI c):=by
 have:=dfileE_any w base m lv tv ns D N G h hk.nos (h.nlen hk);rw [hc] at this;exact this
end
theorem rise_at {l:List Ent}(hr:RisingE l){j k:Nat}{x y:Ent}(hj:l[j]?=some x)(hk:l[k]?=some y)(e:x.s=y.s):j=k:=by
 obtain ⟨h1,e1⟩:=List.getElem?_eq_some_iff.1 hj;obtain ⟨h2,e2⟩:=List.getElem?_eq_some_iff.1 hk;have hp:=List.pairwise_iff_getElem.1 hr;rcases Nat.lt_trichotomy j k with hlt | rfl | hlt
 · have:=before_lt (hp j k h1 h2 hlt)
   rw [e1,e2,e] at this;exact (List.lt_irrefl _ this).elim
 · rfl
 · have:=before_lt (hp k j h2 h1 hlt)
   rw [e1,e2,e] at this;exact (List.lt_irrefl _ this).elim
theorem dfind_at {w:World}{n:Nm}(h:NmAt w n)(hl:n.x.es.length≤1000)(hr:RisingE n.x.es){s:ByteArray}{e:Ent}{k:Nat}(hf:findE n.x.es s.data.toList=some e)(hk:n.x.es[k]?=some e):
  zE 49 #[zP n.b,.string s] w (zI k) :=
 (dfind_any w n s h hl).mono fun x w' hh=>by
  obtain ⟨h1,ho⟩:=hh;rcases h1 with ⟨j,y,hj,hf2,he⟩ | ⟨hf2,_⟩
  · rw [hf] at hf2
    have hy:=Option.some.inj hf2;subst hy;rw [rise_at hr hk hj rfl];exact ⟨he,ho⟩
  · rw [hf] at hf2
    cases hf2
theorem dfind_no {w:World}{n:Nm}(h:NmAt w n)(hl:n.x.es.length≤1000){s:ByteArray}(hf:findE n.x.es s.data.toList=none):
  zE 49 #[zP n.b,.string s] w (zI (-1)) :=
 (dfind_any w n s h hl).mono fun x w' hh=>by
  obtain ⟨h1,ho⟩:=hh;rcases h1 with ⟨j,y,hj,hf2,_⟩ | ⟨_,he⟩
  · rw [hf] at hf2
    cases hf2
  · exact ⟨he,ho⟩
theorem findE_idx {l:List Ent}{s:List UInt8}{e:Ent}(h:findE l s=some e):∃ k:Nat,l[k]?=some e∧e.s=s:=by
 have h1:=List.mem_of_find?_eq_some h;have h2:=List.find?_some h;obtain ⟨k,hk⟩:=List.mem_iff_getElem?.1 h1;exact ⟨k,hk,by simpa using h2⟩
theorem name_yes {s:ByteArray}(hs:OkN s)(w:World):zE 47 #[.string s] w (zI 0) :=
 (nameError_any s w).mono fun e w' hh=>by
  rcases hh with ⟨⟨_,he⟩ | ⟨h,_⟩,hw⟩
  · exact ⟨he,hw⟩
  · exact (h hs).elim
theorem name_bad {s:ByteArray}(hs:¬ OkN s)(w:World):zE 47 #[.string s] w (zI 4) :=
 (nameError_any s w).mono fun e w' hh=>by
  rcases hh with ⟨⟨h,_⟩ | ⟨_,he⟩,hw⟩
  · exact (hs h).elim
  · exact ⟨he,hw⟩
theorem dir_no {D:Dt}{N G:Int}{x:Dn}(h:D.atZ N G=some x)(hK:x.K=2):dirN D N G=0:=by unfold dirN;rw [h];simp [hK]
theorem dir_cases (D:Dt)(N G:Int):(∃ x,D.atZ N G=some x∧x.K=2∧dirN D N G=0)∨(dirN D N G=7∧∃ x,D.atZ N G=some x∧x.K≠2)∨dirN D N G=10∧D.atZ N G=none:=by
 unfold dirN
 cases h:D.atZ N G with
 | none=>exact Or.inr (Or.inr ⟨rfl,rfl⟩)
 | some x =>
  by_cases hK:x.K=2
  · exact Or.inl ⟨x,rfl,hK,by simp [hK]⟩
  · exact Or.inr (Or.inl ⟨by simp [hK],x,rfl,hK⟩)
def LookR (D:Dt)(N G:Int)(s:ByteArray)(c i k:Nat):Prop :=
 (dirN D N G≠0∧c=dirN D N G∧i=0∧k=0)∨(dirN D N G=0∧¬ OkN s∧c=4∧i=0∧k=0) ∨
 ∃ x,D.atZ N G=some x∧x.K=2∧OkN s∧((findE x.es s.data.toList=none∧c=5∧i=0∧k=0)∨∃ e,findE x.es s.data.toList=some e∧c=0∧i=e.i∧k=e.c)
theorem dlook_any (w:World)(base m:Nat)(lv tv:Value)(ns:List Nm)(D:Dt)(N G:Int)(s:ByteArray)(h:DtM w base m lv tv ns D)(hk:DOk D)(hri:∀ x∈D.L,RisingE x.es):
   zK 12 #[zP m,zG N G,.string s] w fun e w'=>(∃ c i k:Nat,LookR D N G s c i k∧e = .returned (.tuple #[zG i k,zI c]))∧zQ w w':=by
 have HT:Hid (TwoH ((w.alloc (zH N G)).alloc (zH 0 0)) w.heap.size N G 0 0):=TwoH.made w _ _;have o1:zQ w ((w.alloc (zH N G)).alloc (zH 0 0)):=((Only.refl [] w).alloc _).alloc _;have HO1:Hid (zQ w ((w.alloc (zH N G)).alloc (zH 0 0))):=o1;have H:Hid (∀ W,zQ w W→DtM W base m lv tv ns D):=fun W ho=>h.only ho;have HK:Hid (DOk D):=hk;have HRI:Hid (∀ x∈D.L,RisingE x.es):=hri;have HDL:Hid (∀ n∈ns,n.x∈D.L):=fun n hn=>h.inL hn;clear hri;obtain ⟨b0,b1,v0,v1,f0,f1,hbl⟩:=HT.out.cells;have HSET:Hid (∀ W a b,zQ w W→zQ w ((W.setCell (zA (w.heap.size+1) 0) a).setCell (zA (w.heap.size+1) 1) b)):=fun W a b ho=>(ho.setCell (p:=⟨w.heap.size+1,0,none⟩) (Or.inr (Nat.le_succ _)) _).setCell (p:=⟨w.heap.size+1,1,none⟩) (Or.inr (Nat.le_succ _)) _;rcases dir_cases D N G with ⟨x,hx,hxK,hd⟩ | hbad
 · have hdir:=ddir_is (h.only o1) hk hd
   obtain ⟨hxm,hxN,hxG⟩:=atZ_some hx;obtain ⟨n,hn,rfl⟩:=h.mem hxm;subst hxN hxG;have HX:Hid (D.atZ (n.x.i:Int) (n.x.c:Int)=some n.x∧n.x.K=2∧dirN D (n.x.i:Int) (n.x.c:Int)=0):=⟨hx,hxK,hd⟩;have HAT:Hid (∀ W,zQ w W→zO 48 #[zP m,zG n.x.i n.x.c] W (zP n.b)):=fun W ho=>dat_at (H.out W ho) HK.out hn;have HNM:Hid (∀ W,zQ w W→NmAt W n):=fun W ho=>((H.out W ho).each n hn).2;have hes:n.x.es.length≤1000:=hk.es _ hxm;clear h hk o1 hx hxK hd hxm
   by_cases hs:OkN s
   · have HS:Hid (OkN s):=hs
     cases hf:findE n.x.es s.data.toList with
     | none =>
      have HF:Hid (∀ W,zQ w W→zE 49 #[zP n.b,.string s] W (zI (-1))):=fun W ho=>dfind_no (HNM.out W ho) hes hf;have HFF:Hid (findE n.x.es s.data.toList=none):=hf;clear hf hs
      go_enter Tryz.func12,Tryz.ntmps12
      go_wp2_with (first
       | (go_at_call 46;refine hdir.mono ?_;rintro e w2 ⟨rfl,ho2⟩;have HO2:Hid (zQ w w2):=zo HO1.out ho2;have hnm:=name_yes HS.out w2;clear b0 b1 v0 v1 f0 f1 hbl;obtain ⟨b0,b1,v0,v1,f0,f1,hbl⟩:=(HT.out.kept ho2 (by simp) (by simp)).cells;have HT2:Hid (TwoH w2 w.heap.size (n.x.i:Nat) (n.x.c:Nat) 0 0):=HT.out.kept ho2 (by simp) (by simp);clear hdir ho2)
       | (go_at_call 47;refine hnm.mono ?_;rintro e w3 ⟨rfl,rfl⟩;have hat:=HAT.out w2 HO2.out;clear hnm)
       | (go_at_call 48;refine hat.mono ?_;rintro e w4 ⟨rfl,ho4⟩;have HO4:Hid (zQ w w4):=zo HO2.out ho4;have hfi:=HF.out w4 HO4.out;clear b0 b1 v0 v1 f0 f1 hbl;obtain ⟨b0,b1,v0,v1,f0,f1,hbl⟩:=(HT2.out.kept ho4 (by simp) (by simp)).cells;clear hat ho4)
       | (go_at_call 49;refine hfi.mono ?_;rintro e w5 ⟨rfl,rfl⟩;clear hfi)
       | go_in)
      exact bodyPost_ret (v := .tuple #[zG 0 0,zI 5]) (by simp [results,Tryz.results12,go_sem,v0,v1]) rfl ⟨⟨5,0,0,Or.inr (Or.inr ⟨n.x,HX.out.1,HX.out.2.1,HS.out,Or.inl ⟨HFF.out,rfl,rfl,rfl⟩⟩),rfl⟩,HSET.out _ _ _ HO4.out⟩
     | some e =>
      obtain ⟨k,hk,_⟩:=findE_idx hf;have HF:Hid (∀ W,zQ w W→zE 49 #[zP n.b,.string s] W (zI k)):=fun W ho=>dfind_at (HNM.out W ho) hes (HRI.out n.x (HDL.out n hn)) hf hk;have HFF:Hid (findE n.x.es s.data.toList=some e):=hf;have hkl:k < n.x.es.length:=(List.getElem?_eq_some_iff.1 hk).1;obtain ⟨q,hq⟩:∃ q,n.x.es.length=q:=⟨_,rfl⟩;rw [hq] at hkl hes;obtain ⟨ad,cap,_,hrow⟩:=ent_row (HNM.out w (Only.refl _ _)) hq
      have HCE:Hid (∀ W,zQ w W→∃ g,W.cell? (zA n.b 6)=some (.slice (some ⟨g,0,none⟩) q cap)∧W.cell? ⟨g,k*3+1,none⟩=some (zI e.i)∧W.cell? ⟨g,k*3+2,none⟩=some (zI e.c)):=fun W ho=>by
       obtain ⟨r1,_,_,r2⟩:=hrow W ho;obtain ⟨g,rfl,_,r3,r4⟩:=r2 k e hk;exact ⟨g,r1,r3,r4⟩
      clear hf hs hk hq hrow hn
      go_enter Tryz.func12,Tryz.ntmps12
      go_wp2_with (first
       | (go_at_call 46;refine hdir.mono ?_;rintro e w2 ⟨rfl,ho2⟩;have HO2:Hid (zQ w w2):=zo HO1.out ho2;have hnm:=name_yes HS.out w2;clear b0 b1 v0 v1 f0 f1 hbl;obtain ⟨b0,b1,v0,v1,f0,f1,hbl⟩:=(HT.out.kept ho2 (by simp) (by simp)).cells;have HT2:Hid (TwoH w2 w.heap.size (n.x.i:Nat) (n.x.c:Nat) 0 0):=HT.out.kept ho2 (by simp) (by simp);clear hdir ho2)
       | (go_at_call 47;refine hnm.mono ?_;rintro e w3 ⟨rfl,rfl⟩;have hat:=HAT.out w2 HO2.out;clear hnm)
       | (go_at_call 48;refine hat.mono ?_;rintro e w4 ⟨rfl,ho4⟩;have HO4:Hid (zQ w w4):=zo HO2.out ho4;have hfi:=HF.out w4 HO4.out;clear b0 b1 v0 v1 f0 f1 hbl;obtain ⟨b0,b1,v0,v1,f0,f1,hbl⟩:=(HT2.out.kept ho4 (by simp) (by simp)).cells;obtain ⟨g,q6,q1,q2⟩:=HCE.out w4 HO4.out;clear hat ho4)
       | (go_at_call 49;refine hfi.mono ?_;rintro e w5 ⟨rfl,rfl⟩;clear hfi)
       | go_in)
      exact bodyPost_ret (v := .tuple #[zG e.i e.c,zI 0]) (by simp [results,Tryz.results12,go_sem,v0,v1]) rfl ⟨⟨0,e.i,e.c,Or.inr (Or.inr ⟨n.x,HX.out.1,HX.out.2.1,HS.out,Or.inr ⟨e,HFF.out,rfl,rfl,rfl⟩⟩),rfl⟩,HSET.out _ _ _ HO4.out⟩
   · have HS:Hid (¬ OkN s):=hs
     clear hs
     go_enter Tryz.func12,Tryz.ntmps12
     go_wp2_with (first
      | (go_at_call 46;refine hdir.mono ?_;rintro e w2 ⟨rfl,ho2⟩;have HO2:Hid (zQ w w2):=zo HO1.out ho2;have hnm:=name_bad HS.out w2;clear b0 b1 v0 v1 f0 f1 hbl;obtain ⟨b0,b1,v0,v1,f0,f1,hbl⟩:=(HT.out.kept ho2 (by simp) (by simp)).cells;clear hdir ho2)
      | (go_at_call 47;refine hnm.mono ?_;rintro e w3 ⟨rfl,rfl⟩;clear hnm)
      | go_in)
     exact bodyPost_ret (v := .tuple #[zG 0 0,zI 4]) (by simp [results,Tryz.results12,go_sem,v0,v1]) rfl ⟨⟨4,0,0,Or.inr (Or.inl ⟨HX.out.2.2,HS.out,rfl,rfl,rfl⟩),rfl⟩,HSET.out _ _ _ HO2.out⟩
 · have hd:dirN D N G=7∨dirN D N G=10:=hbad.elim (fun h=>Or.inl h.1) (fun h=>Or.inr h.1)
   obtain ⟨c,hc⟩:∃ c,dirN D N G=c:=⟨_,rfl⟩;have HC:Hid (dirN D N G=c):=hc;have hdir:=ddir_is (h.only o1) hk hc
   have hc0:c=7∨c=10:=by rw [← hc];exact hd
   clear h hk o1 hbad hd hc;rcases hc0 with rfl | rfl
   · go_enter Tryz.func12,Tryz.ntmps12
     go_wp2_with (first
      | (go_at_call 46;refine hdir.mono ?_;rintro e w2 ⟨rfl,ho2⟩;have HO2:Hid (zQ w w2):=zo HO1.out ho2;clear b0 b1 v0 v1 f0 f1 hbl;obtain ⟨b0,b1,v0,v1,f0,f1,hbl⟩:=(HT.out.kept ho2 (by simp) (by simp)).cells;clear hdir ho2)
      | go_in)
     exact bodyPost_ret (v := .tuple #[zG 0 0,zI 7]) (by simp [results,Tryz.results12,go_sem,v0,v1]) rfl ⟨⟨7,0,0,Or.inl ⟨by rw [HC.out];decide,HC.out.symm,rfl,rfl⟩,rfl⟩,HSET.out _ _ _ HO2.out⟩
   · go_enter Tryz.func12,Tryz.ntmps12
     go_wp2_with (first
      | (go_at_call 46;refine hdir.mono ?_;rintro e w2 ⟨rfl,ho2⟩;have HO2:Hid (zQ w w2):=zo HO1.out ho2;clear b0 b1 v0 v1 f0 f1 hbl;obtain ⟨b0,b1,v0,v1,f0,f1,hbl⟩:=(HT.out.kept ho2 (by simp) (by simp)).cells;clear hdir ho2)
      | go_in)
     exact bodyPost_ret (v := .tuple #[zG 0 0,zI 10]) (by simp [results,Tryz.results12,go_sem,v0,v1]) rfl ⟨⟨10,0,0,Or.inl ⟨by rw [HC.out];decide,HC.out.symm,rfl,rfl⟩,rfl⟩,HSET.out _ _ _ HO2.out⟩
def DM (w:World)(base m:Nat)(D:Dt):Prop:=∃ lv tv ns,DtM w base m lv tv ns D
theorem DM.only {w w':World}{base m:Nat}{D:Dt}(h:DM w base m D)(ho:zQ w w'):DM w' base m D:=by
 obtain ⟨lv,tv,ns,h⟩:=h;exact ⟨lv,tv,ns,h.only ho⟩
def DB (D:Dt)(B:Nat):Prop:=(∀ x∈D.L,0≤x.C∧x.C≤(B:Int)∧x.p≤B)∧∀ i,D.t i≤B
theorem DInv.ok {D:Dt}(h:DInv D){B:Nat}(hb:DB D B)(hB:B≤999000):DOk D:=(h.mid 0).ok (fun x hx=>by
 obtain ⟨h1,h2,h3⟩:=hb.1 x hx
 exact ⟨h1,by omega,by omega⟩)
theorem turn_turn {D:Dt}{i c:Nat}{f g:Dn→Dn}(hf:∀ x,(f x).i=x.i∧(f x).c=x.c):(D.turn i c f).turn i c g=D.turn i c (fun x=>g (f x)):=by
 unfold Dt.turn;congr 1;show turnL i c g (turnL i c f D.L)=_;unfold turnL;rw [List.map_map];apply List.map_congr_left;intro x _;show (if (if x.is i c=true then f x else x).is i c=true then _ else _)=_
 by_cases h:x.is i c=true
 · rw [if_pos h,if_pos h]
   have:(f x).is i c=true:=is_iff.2 ⟨by rw [(hf x).1];exact (is_iff.1 h).1,by rw [(hf x).2];exact (is_iff.1 h).2⟩;rw [if_pos this];show g (if x.is i c=true then f x else x)=g (f x);rw [if_pos h]
 · rw [if_neg h,if_neg h,if_neg h]
theorem DtM.left {w w1:World}{base m:Nat}{lv tv:Value}{ns:List Nm}{D:Dt}(h:DtM w base m lv tv ns D)(hn:(D.L.map (·.i)).Nodup){n:Nm}(hm:n∈ns)(hr:RisingE n.x.es){k:Nat}{e:Ent}(hk:n.x.es[k]?=some e)(hR:EnterR w w1 n (n.x.es.take k++n.x.es.drop (k+1))):
  ∃ v',w1.cell? (zA n.b 3)=some (zI n.x.C)∧w1.frozen? ⟨n.b,3,none⟩=false∧n.b < w1.heap.size∧DtM (w1.setCell (zA n.b 3) (zI (n.x.C+1))) base m lv tv (putNm { n with ev:=v',x:=Dn.left e.s n.x } ns) (D.turn n.x.i n.x.c (Dn.left e.s))∧Only [n.b] w (w1.setCell (zA n.b 3) (zI (n.x.C+1))):=by
 obtain ⟨v',h1,ho⟩:=hR;obtain ⟨h2,ho2⟩:=h1.touch (n.x.C+1);have ho3:=ho.trans ho2 (fun k hk=>Or.inl hk);refine ⟨v',h1.c3,h1.fz 3,h1.lt,h.turned (n':={ n with ev:=v',x:=Dn.left e.s n.x }) hn hm rfl rfl ho3 (fun k hk=>Or.inl (by simpa using hk)) ?_ (fun k hk=>Or.inl hk) rfl,ho3⟩;have e1:=cut_drop hr hk;rw [e1] at h2;exact h2
theorem DtM.entered {w w1:World}{base m:Nat}{lv tv:Value}{ns:List Nm}{D:Dt}(h:DtM w base m lv tv ns D)(hn:(D.L.map (·.i)).Nodup){n:Nm}(hm:n∈ns){e:Ent}(hR:EnterR w w1 n (insE e n.x.es)):
  ∃ v',w1.cell? (zA n.b 3)=some (zI n.x.C)∧w1.frozen? ⟨n.b,3,none⟩=false∧n.b < w1.heap.size∧DtM (w1.setCell (zA n.b 3) (zI (n.x.C+1))) base m lv tv (putNm { n with ev:=v',x:=Dn.entered e n.x } ns) (D.turn n.x.i n.x.c (Dn.entered e))∧Only [n.b] w (w1.setCell (zA n.b 3) (zI (n.x.C+1))):=by
 obtain ⟨v',h1,ho⟩:=hR;obtain ⟨h2,ho2⟩:=h1.touch (n.x.C+1);have ho3:=ho.trans ho2 (fun k hk=>Or.inl hk);exact ⟨v',h1.c3,h1.fz 3,h1.lt,h.turned (n':={ n with ev:=v',x:=Dn.entered e n.x }) hn hm rfl rfl ho3 (fun k hk=>Or.inl (by simpa using hk)) h2 (fun k hk=>Or.inl hk) rfl,ho3⟩
theorem left_ok {D:Dt}(h:DInv D){B:Nat}(hb:DB D B)(hB:B≤999000){x:Dn}(hx:x∈D.L){e:Ent}(he:e∈x.es):DOk (D.turn x.i x.c (Dn.left e.s)):=(h.left hx he).ok (fun y hy=>by
 obtain ⟨z,hz,e1⟩:=mem_turnL.1 hy;obtain ⟨h1,h2,h3⟩:=hb.1 z hz
 split at e1
 · rw [e1]
   exact ⟨by show 0≤z.C+1;omega,by show z.C+1≤1000000;omega,by show z.p≤1000000;omega⟩
 · rw [e1]
   exact ⟨h1,by omega,by omega⟩)
def RemR (D:Dt)(N G:Int)(s:ByteArray)(c:Nat)(D':Dt):Prop :=
 (∃ i k,LookR D N G s c i k∧c≠0∧D'=D)∨∃ x e y,D.atZ N G=some x∧x.K=2∧OkN s∧findE x.es s.data.toList=some e∧y∈D.L∧y.i=e.i∧y.c=e.c∧((y.es≠[]∧c=11∧D'=D)∨(y.es=[]∧c=0∧D'=(D.turn x.i x.c (Dn.left e.s)).lost y))
theorem dremove_any (w:World)(base m:Nat)(D:Dt)(N G:Int)(s:ByteArray)(B:Nat)(h0:DM w base m D)(hI:DInv D)(hb:DB D B)(hB:B≤999000)(hbs:base≤w.heap.size):
   zK 32 #[zP m,zG N G,.string s] w fun r w'=>∃ c D',r = .returned (zI ((c:Nat):Int))∧RemR D N G s c D'∧DM w' base m D'∧DocW base w w':=by
 obtain ⟨lv,tv,ns,h⟩:=h0;have hk:=hI.ok hb hB;have o1:zQ w (w.alloc (zH N G)):=(Only.refl [] w).alloc _;have hlk:=dlook_any _ base m lv tv ns D N G s (h.only o1) hk (fun x hx=>(hI.rise x hx).1);have HO1:Hid (zQ w (w.alloc (zH N G))):=o1;have HBX:Hid ((w.alloc (zH N G)).heap[w.heap.size]?=some (.cells #[zI N,zI G] 35 (0,0))):=zh w _;have H:Hid (∀ W,zQ w W→DtM W base m lv tv ns D):=fun W ho=>h.only ho;have HK:Hid (DOk D):=hk;have HI:Hid (DInv D):=hI;have HDB:Hid (DB D B):=hb;have HBB:Hid (B≤999000):=hB;have HBS:Hid (base≤w.heap.size):=hbs;clear h hk o1 hI hb hbs
 go_enter Tryz.func32,Tryz.ntmps32
 go_wp2_with fail
 refine hlk.mono ?_;rintro e w2 ⟨⟨c,i,k,hR,rfl⟩,ho2⟩;have HO2:Hid (zQ w w2):=zo HO1.out ho2;have HX2:Hid (w2.heap[w.heap.size]?=some (.cells #[zI N,zI G] 35 (0,0))):=(ho2.block _ (Array.getElem?_eq_some_iff.1 HBX.out).1 (by simp)).trans HBX.out;have HR:Hid (LookR D N G s c i k):=hR;clear hlk ho2
 by_cases hc:c=0
 · subst hc
   obtain ⟨x,e,hx,hxK,hs,hf,hei,hek⟩:∃ x e,D.atZ N G=some x∧x.K=2∧OkN s∧findE x.es s.data.toList=some e∧i=e.i∧k=e.c:=by
     rcases hR with ⟨h1,h2,_⟩ | ⟨_,_,h2,_⟩ | ⟨x,h1,h2,h3,h4⟩
     · exact (h1 h2.symm).elim
     · cases h2
     · rcases h4 with ⟨_,h5,_⟩ | ⟨e,h5,_,h6,h7⟩
       · cases h5
       · exact ⟨x,e,h1,h2,h3,h5,h6,h7⟩
   obtain ⟨hxm,hxN,hxG⟩:=atZ_some hx;have hT:=H.out w (Only.refl _ _);obtain ⟨nx,hnx,rfl⟩:=hT.mem hxm;obtain ⟨q,hq,hes⟩:=findE_idx hf;obtain ⟨y,hy,hyi,hyc⟩:=HK.out.live _ hxm e (List.mem_of_getElem? hq);obtain ⟨ny,hny,rfl⟩:=hT.mem hy;subst hei hek hxN hxG;have hrx:=(HI.out.rise _ hxm).1;have hlx:=HK.out.es _ hxm;have hly:=HK.out.es _ hy;have HD1:Hid (D.atZ (nx.x.i:Int) (nx.x.c:Int)=some nx.x∧nx.x.K=2∧OkN s∧findE nx.x.es s.data.toList=some e∧ny.x∈D.L∧ny.x.i=e.i∧ny.x.c=e.c):=⟨hx,hxK,hs,hf,hy,hyi,hyc⟩
   have hay:∀ W,zQ w W→zO 48 #[zP m,zG e.i e.c] W (zP ny.b):=fun W ho=>by
     have:=dat_at (H.out W ho) HK.out hny;rw [hyi,hyc] at this;exact this
   have HAY:Hid (∀ W,zQ w W→zO 48 #[zP m,zG e.i e.c] W (zP ny.b)):=hay;obtain ⟨ly,hlyy⟩:∃ ly,ny.x.es.length=ly:=⟨_,rfl⟩;have HLY:Hid (ny.x.es.length=ly):=hlyy;rw [hlyy] at hly;obtain ⟨ady,capy,_,hrowy⟩:=ent_row (hT.each ny hny).2 hlyy;have HROWY:Hid (∀ W,zQ w W→W.cell? (zA ny.b 6)=some (.slice ady ly capy)):=fun W ho=>(hrowy W ho).1;have o3:zQ w (w2.alloc (zH e.i e.c)):=HO2.out.alloc _;have HO3:Hid (zQ w (w2.alloc (zH e.i e.c))):=o3;have HE3:Hid (HBox (w2.alloc (zH e.i e.c)) w2.heap.size e.i e.c):=zh w2 _;have HX3:Hid (HBox (w2.alloc (zH e.i e.c)) w.heap.size nx.x.i nx.x.c):=(((Only.refl [] w2).alloc _).block _ (Array.getElem?_eq_some_iff.1 HX2.out).1 (by simp)).trans HX2.out;have hat:=hay _ o3;clear hR hx hxK hs hf hxm hy hyi hyc hay hlyy hrowy
   by_cases hly0:ly=0
   · have hyes:ny.x.es=[]:=List.eq_nil_of_length_eq_zero (by rw [HLY.out];exact hly0)
     subst hly0;have hat2:=fun W (ho:zQ w W)=>dat_at (H.out W ho) HK.out hnx;have HAT2:Hid (∀ W,zQ w W→zO 48 #[zP m,zG nx.x.i nx.x.c] W (zP nx.b)):=hat2;have HFI:Hid (∀ W,zQ w W→zE 49 #[zP nx.b,.string s] W (zI q)):=fun W ho=>dfind_at (((H.out W ho).each nx hnx).2) hlx hrx HD1.out.2.2.2.1 hq;have HLE:Hid (∀ W,zQ w W→zK 62 #[zP nx.b,zI q] W fun r w'=>r = .returned (.tuple #[])∧EnterR W w' nx (nx.x.es.take q++nx.x.es.drop (q+1))):=fun W ho=>dleave_any W nx q (((H.out W ho).each nx hnx).2) hlx (List.getElem?_eq_some_iff.1 hq).1
     have hne:ny.b≠nx.b:=fun e2=>by
       have:=hT.byB hny hnx e2;rw [this] at hyes;rw [hyes] at hq;simp at hq
     have hkey:∀ W W1,zQ w W→EnterR W W1 nx (nx.x.es.take q++nx.x.es.drop (q+1))→W1.cell? (zA nx.b 3)=some (zI nx.x.C)∧W1.frozen? ⟨nx.b,3,none⟩=false∧nx.b < W1.heap.size∧DocW base w (W1.setCell (zA nx.b 3) (zI (nx.x.C+1)))∧zK 63 #[zP m,zG e.i e.c] (W1.setCell (zA nx.b 3) (zI (nx.x.C+1))) fun r w'=>r = .returned (.tuple #[])∧DM w' base m ((D.turn nx.x.i nx.x.c (Dn.left e.s)).lost ny.x)∧DocW base (W1.setCell (zA nx.b 3) (zI (nx.x.C+1))) w':=fun W W1 ho hE=>by
       have hW:=H.out W ho;obtain ⟨v',k1,k2,k3,hD,hoD⟩:=hW.left HK.out.nos hnx hrx hq hE;have hdw:DocW base w (W1.setCell (zA nx.b 3) (zI (nx.x.C+1))):=(DocW.none ho).trans (hW.docW hoD (fun k hk=>Or.inr (Or.inr (Or.inr ⟨nx,hnx,Or.inl (by simpa using hk)⟩))));refine ⟨k1,k2,k3,hdw,?_⟩;have hlo:=dlose_any _ base m lv tv _ _ ny hD (left_ok HI.out HDB.out HBB.out (hT.inL hnx) (List.mem_of_getElem? hq)) (mem_putNm hny hne) (Nat.le_trans HBS.out hdw.size) (by have:=(HDB.out.1 _ (hT.inL hny)).2.1;have:=HBB.out;omega);rw [HD1.out.2.2.2.2.2.1,HD1.out.2.2.2.2.2.2] at hlo;refine hlo.mono fun r w' hh=>?_;obtain ⟨hr,v2,ns2,h1,h2,_⟩:=hh;exact ⟨hr,⟨v2,tv,ns2,h1⟩,h2⟩
     have HKEY:Hid (∀ W W1,zQ w W→EnterR W W1 nx (nx.x.es.take q++nx.x.es.drop (q+1))→W1.cell? (zA nx.b 3)=some (zI nx.x.C)∧W1.frozen? ⟨nx.b,3,none⟩=false∧nx.b < W1.heap.size∧DocW base w (W1.setCell (zA nx.b 3) (zI (nx.x.C+1)))∧zK 63 #[zP m,zG e.i e.c] (W1.setCell (zA nx.b 3) (zI (nx.x.C+1))) fun r w'=>r = .returned (.tuple #[])∧DM w' base m ((D.turn nx.x.i nx.x.c (Dn.left e.s)).lost ny.x)∧DocW base (W1.setCell (zA nx.b 3) (zI (nx.x.C+1))) w'):=hkey;have HYE:Hid (ny.x.es=[]):=hyes;obtain ⟨hC0,hC1,_⟩:=HDB.out.1 _ (hT.inL hnx);have HBK:Hid (∀ W W1,zQ (w2.alloc (zH e.i e.c)) W→Only [nx.b] W W1→nx.b < w.heap.size→HBox W1 w2.heap.size e.i e.c):=fun W W1 h1 h2 h3=>(HE3.out.kept h1 (by simp)).kept h2 (by have:=HO2.out.size;simp;omega);have hnl:nx.b < w.heap.size:=(hT.each nx hnx).2.lt;obtain ⟨z0,z1⟩:=HE3.out.cells;have zy:=HROWY.out _ o3;clear hat2 hyes hkey hT o3 hnx hny hne hrx hq hes hlx
     go_wp2_with (first
       | (go_at_call 48;refine hat.mono ?_;rintro e4 w4 ⟨rfl,ho4⟩;have HO4:Hid (zQ w w4):=zo HO3.out ho4;have HP4:Hid (zQ (w2.alloc (zH e.i e.c)) w4):=ho4;clear zy z0 z1 hat;have zy:=HROWY.out w4 HO4.out;have hat2:=HAT2.out w4 HO4.out;obtain ⟨x0,x1⟩:=(HX3.out.kept ho4 (by simp)).cells;clear ho4)
       | (go_at_call 48;refine hat2.mono ?_;rintro e5 w5 ⟨rfl,ho5⟩;have HO5:Hid (zQ w w5):=zo HO4.out ho5;have HP5:Hid (zQ (w2.alloc (zH e.i e.c)) w5):=zo HP4.out ho5;have hfi:=HFI.out w5 HO5.out;have hle:=HLE.out w5 HO5.out;clear hat2 ho5 zy x0 x1)
       | (go_at_call 49;refine hfi.mono ?_;rintro e6 w6 ⟨rfl,rfl⟩;clear hfi)
       | (go_at_call 62;refine hle.mono ?_;rintro e7 w7 ⟨rfl,hE7⟩;obtain ⟨k1,k2,k3,kd,klo⟩:=HKEY.out w5 w7 HO5.out hE7;have HKD:Hid (DocW base w (w7.setCell (zA nx.b 3) (zI (nx.x.C+1)))):=kd;obtain ⟨v7,_,hO7⟩:=hE7;have hz:=HBK.out w5 (w7.setCell (zA nx.b 3) (zI (nx.x.C+1))) HP5.out (hO7.setCell (Or.inl (by simp)) _) hnl;obtain ⟨z0,z1⟩:=hz.cells;clear hle kd hO7 hz)
       | (go_at_call 63;refine klo.mono ?_;rintro e8 w8 ⟨rfl,hD8,hw8⟩;have HD8:Hid (DM w8 base m ((D.turn nx.x.i nx.x.c (Dn.left e.s)).lost ny.x)∧DocW base w w8):=⟨hD8,HKD.out.trans hw8⟩;clear klo hD8 hw8)
       | go_in)
     go_ret
     exact ⟨0,_,rfl,Or.inr ⟨nx.x,e,ny.x,HD1.out.1,HD1.out.2.1,HD1.out.2.2.1,HD1.out.2.2.2.1,HD1.out.2.2.2.2.1,HD1.out.2.2.2.2.2.1,HD1.out.2.2.2.2.2.2,Or.inr ⟨HYE.out,rfl,rfl⟩⟩,HD8.out.1,HD8.out.2⟩
   · have HYE:Hid (ny.x.es≠[]):=fun e2=>hly0 (by rw [← HLY.out,e2];rfl)
     have hpos:0 < ly:=by omega
     obtain ⟨z0,z1⟩:=HE3.out.cells;clear hly0 hT o3 hnx hny hrx hq hes hlx
     go_wp2_with (first
       | (go_at_call 48;refine hat.mono ?_;rintro e4 w4 ⟨rfl,ho4⟩;have HO4:Hid (zQ w w4):=zo HO3.out ho4;have zy:=HROWY.out w4 HO4.out;clear hat ho4)
       | go_in)
     go_ret
     exact ⟨11,D,rfl,Or.inr ⟨nx.x,e,ny.x,HD1.out.1,HD1.out.2.1,HD1.out.2.2.1,HD1.out.2.2.2.1,HD1.out.2.2.2.2.1,HD1.out.2.2.2.2.2.1,HD1.out.2.2.2.2.2.2,Or.inl ⟨HYE.out,rfl,rfl⟩⟩,⟨lv,tv,ns,H.out w4 HO4.out⟩,DocW.none HO4.out⟩
 · have hpos:0 < c:=by omega
   have HC:Hid (c≠0):=hc;clear hR hc
   go_wp2
   go_ret
   have ho:=HO2.out.alloc (zH i k);exact ⟨c,D,rfl,Or.inl ⟨i,k,HR.out,HC.out,rfl⟩,⟨lv,tv,ns,H.out _ ho⟩,DocW.none ho⟩
end
end Go.Proofs.YtkcabopgajlmdaaGreatDoor
