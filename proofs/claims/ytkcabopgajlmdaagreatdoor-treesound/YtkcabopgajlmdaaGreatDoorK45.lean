import Derived.Test.YtkcabopgajlmdaaGreatDoorK44
namespace Go.Proofs.YtkcabopgajlmdaaGreatDoor
section
open Go Go.RowKit Go.Deep Go.Maps
section
variable {D:Dt}{B:Nat}
theorem look_det {N G:Int}{s:ByteArray}{c i k c' i' k':Nat}(h:LookR D N G s c i k)(h':LookR D N G s c' i' k'):c'=c∧i'=i∧k'=k:=by
 rcases h with ⟨a1,rfl,rfl,rfl⟩ | ⟨a1,a2,rfl,rfl,rfl⟩ | ⟨x,a1,a2,a3,a4⟩<;>rcases h' with ⟨b1,rfl,rfl,rfl⟩ | ⟨b1,b2,rfl,rfl,rfl⟩ | ⟨x',b1,b2,b3,b4⟩
 · exact ⟨rfl,rfl,rfl⟩
 · exact absurd b1 a1
 · exact absurd (dir_no b1 b2) a1
 · exact absurd a1 b1
 · exact ⟨rfl,rfl,rfl⟩
 · exact absurd b3 a2
 · exact absurd (dir_no a1 a2) b1
 · exact absurd a3 b2
 · rw [a1] at b1
   cases b1
   rcases a4 with ⟨a4,rfl,rfl,rfl⟩ | ⟨e,a4,rfl,rfl,rfl⟩<;>rcases b4 with ⟨b4,rfl,rfl,rfl⟩ | ⟨e',b4,rfl,rfl,rfl⟩
   · exact ⟨rfl,rfl,rfl⟩
   · rw [a4] at b4;cases b4
   · rw [a4] at b4;cases b4
   · rw [a4] at b4;cases b4;exact ⟨rfl,rfl,rfl⟩
theorem rem_det (I:DInv D){N G:Int}{s:ByteArray}{c c':Nat}{D1 D2:Dt}(h:RemR D N G s c D1)(h':RemR D N G s c' D2):c'=c∧D2=D1:=by
 rcases h with ⟨i,k,a1,a2,rfl⟩ | ⟨x,e,y,a1,a2,a3,a4,a5,a6,a7,a8⟩<;>rcases h' with ⟨i',k',b1,b2,rfl⟩ | ⟨x',e',y',b1,b2,b3,b4,b5,b6,b7,b8⟩
 · exact ⟨(look_det a1 b1).1,rfl⟩
 · exact absurd (look_det (Or.inr (Or.inr ⟨x',b1,b2,b3,Or.inr ⟨e',b4,rfl,rfl,rfl⟩⟩)) a1).1 a2
 · exact absurd (look_det (Or.inr (Or.inr ⟨x,a1,a2,a3,Or.inr ⟨e,a4,rfl,rfl,rfl⟩⟩)) b1).1 b2
 · rw [a1] at b1
   cases b1
   rw [a4] at b4
   cases b4
   obtain rfl:=same_no I.nos b5 a5 (b6.trans a6.symm);rcases a8 with ⟨q,rfl,rfl⟩ | ⟨q,rfl,rfl⟩<;>rcases b8 with ⟨q',rfl,rfl⟩ | ⟨q',rfl,rfl⟩
   · exact ⟨rfl,rfl⟩
   · exact absurd q' q
   · exact absurd q q'
   · exact ⟨rfl,rfl⟩
theorem link_det {N G M F:Int}{s:ByteArray}{c c':Nat}{D1 D2:Dt}(h:LinkR D N G M F s c D1)(h':LinkR D N G M F s c' D2):c'=c∧D2=D1:=by
 rcases h with ⟨a0,rfl,rfl⟩ | ⟨y,a0,h⟩<;>rcases h' with ⟨b0,rfl,rfl⟩ | ⟨y',b0,h'⟩
 · exact ⟨rfl,rfl⟩
 · rw [a0] at b0;cases b0
 · rw [a0] at b0;cases b0
 · rw [a0] at b0
   cases b0
   rcases h with ⟨a1,rfl,rfl⟩ | ⟨a1,a2,rfl,rfl⟩ | ⟨x,a1,a2,a3,a4⟩<;>rcases h' with ⟨b1,rfl,rfl⟩ | ⟨b1,b2,rfl,rfl⟩ | ⟨x',b1,b2,b3,b4⟩
   · exact ⟨rfl,rfl⟩
   · exact absurd b1 a1
   · exact absurd (dir_no b1 b2) a1
   · exact absurd a1 b1
   · exact ⟨rfl,rfl⟩
   · exact absurd b3 a2
   · exact absurd (dir_no a1 a2) b1
   · exact absurd a3 b2
   · rw [a1] at b1
     cases b1
     rcases a4 with ⟨p1,rfl,rfl⟩ | ⟨p1,p2,rfl,rfl⟩ | ⟨p1,p2,p3,rfl,rfl⟩ | ⟨p1,p2,p3,p4,rfl,rfl⟩<;>rcases b4 with ⟨q1,rfl,rfl⟩ | ⟨q1,q2,rfl,rfl⟩ | ⟨q1,q2,q3,rfl,rfl⟩ | ⟨q1,q2,q3,q4,rfl,rfl⟩<;>first | exact ⟨rfl,rfl⟩ | exact absurd p1 q1 | exact absurd q1 p1 | exact absurd q2 p2 | exact absurd p2 q2 | exact absurd q3 (by omega) | exact absurd p3 (by omega)
theorem ren_e {N1 G1 N2 G2:Int}{s1 s2:ByteArray}{c c':Nat}(h:RenE D N1 G1 N2 G2 s1 s2 c)(h':RenE D N1 G1 N2 G2 s1 s2 c'):c'=c:=by
 rcases h with ⟨a1,rfl⟩ | ⟨a1,a2,rfl⟩ | ⟨a1,a2,a3,rfl⟩ | ⟨x,a1,a2,a3,a4,a5,a6,rfl⟩<;>rcases h' with ⟨b1,rfl⟩ | ⟨b1,b2,rfl⟩ | ⟨b1,b2,b3,rfl⟩ | ⟨x',b1,b2,b3,b4,b5,b6,rfl⟩<;>first | rfl | exact absurd a1 b1 | exact absurd b1 a1 | exact absurd a2 b2 | exact absurd b2 a2 | exact absurd (dir_no a1 a2) b1 | exact absurd (dir_no b1 b2) a1 | exact absurd a3 b2 | exact absurd b3 a2 | exact (a3.elim (fun q=>absurd b4 q) (fun q=>absurd b5 q)) | exact (b3.elim (fun q=>absurd a4 q) (fun q=>absurd a5 q))
theorem ren_ne {N1 G1 N2 G2:Int}{s1 s2:ByteArray}{c:Nat}{a b:Dn}{e:Ent}(h:RenE D N1 G1 N2 G2 s1 s2 c)(ha:D.atZ N1 G1=some a)(haK:a.K=2)(hb:D.atZ N2 G2=some b)(hbK:b.K=2)(ho1:OkN s1)(ho2:OkN s2)(hf:findE a.es s1.data.toList=some e):False:=by
 rcases h with ⟨a1,_⟩ | ⟨_,a2,_⟩ | ⟨_,_,a3,_⟩ | ⟨x,a1,_,_,_,_,a6,_⟩
 · exact a1 (dir_no ha haK)
 · exact a2 (dir_no hb hbK)
 · exact a3.elim (fun q=>q ho1) (fun q=>q ho2)
 · rw [ha] at a1
   cases a1
   rw [hf] at a6
   cases a6
theorem ren_det (I:DInv D){N1 G1 N2 G2:Int}{s1 s2:ByteArray}{c c':Nat}{D1 D2:Dt}(h:RenR D N1 G1 N2 G2 s1 s2 c D1)(h':RenR D N1 G1 N2 G2 s1 s2 c' D2):c'=c∧D2=D1:=by
 rcases h with ⟨a1,rfl⟩ | ⟨a,b,e,y,a1,a2,a3,a4,a5,a6,a7,a8,a9,a10,h⟩<;>rcases h' with ⟨b1,rfl⟩ | ⟨a',b',e',y',b1,b2,b3,b4,b5,b6,b7,b8,b9,b10,h'⟩
 · exact ⟨ren_e a1 b1,rfl⟩
 · exact (ren_ne a1 b1 b2 b3 b4 b5 b6 b7).elim
 · exact (ren_ne b1 a1 a2 a3 a4 a5 a6 a7).elim
 · rw [a1] at b1
   cases b1
   rw [a3] at b3
   cases b3
   rw [a7] at b7
   cases b7
   obtain rfl:=same_no I.nos b8 a8 (b9.trans a9.symm);rcases h with ⟨p1,p2,rfl,rfl⟩ | ⟨p1,h⟩<;>rcases h' with ⟨q1,q2,rfl,rfl⟩ | ⟨q1,h'⟩
   · exact ⟨rfl,rfl⟩
   · exact absurd p2 (q1 p1)
   · exact absurd q2 (p1 q1)
   · rcases h with ⟨r1,r2,r3,rfl,rfl⟩ | ⟨r1,r2,r3,rfl,rfl⟩ | ⟨r1,r2,rfl,rfl⟩ | ⟨f,z,r1,r2,r3,r4,h⟩<;>rcases h' with ⟨t1,t2,t3,rfl,rfl⟩ | ⟨t1,t2,t3,rfl,rfl⟩ | ⟨t1,t2,rfl,rfl⟩ | ⟨f',z',t1,t2,t3,t4,h'⟩
     · exact ⟨rfl,rfl⟩
     · omega
     · exact absurd t2 r2
     · rw [r1] at t1;cases t1
     · omega
     · exact ⟨rfl,rfl⟩
     · exact absurd t2 r2
     · rw [r1] at t1;cases t1
     · exact absurd r2 t2
     · exact absurd r2 t2
     · exact ⟨rfl,rfl⟩
     · rw [r1] at t1;cases t1
     · rw [r1] at t1;cases t1
     · rw [r1] at t1;cases t1
     · rw [r1] at t1;cases t1
     · rw [r1] at t1
       cases t1
       obtain rfl:=same_no I.nos t2 r2 (t3.trans r3.symm);rcases h with ⟨u1,rfl,rfl⟩ | ⟨u0,u1,u2,rfl,rfl⟩ | ⟨u0,u1,u2,rfl,rfl⟩ | ⟨u0,u1,u2,u3,rfl,rfl⟩ | ⟨u0,u1,u2,u3,rfl,rfl⟩ | ⟨u0,u1,u2,u3,rfl,rfl⟩<;>rcases h' with ⟨v1,rfl,rfl⟩ | ⟨v0,v1,v2,rfl,rfl⟩ | ⟨v0,v1,v2,rfl,rfl⟩ | ⟨v0,v1,v2,v3,rfl,rfl⟩ | ⟨v0,v1,v2,v3,rfl,rfl⟩ | ⟨v0,v1,v2,v3,rfl,rfl⟩<;>first | exact ⟨rfl,rfl⟩ | exact absurd u1 v0 | exact absurd v1 u0 | exact absurd u3 v3 | exact absurd v3 u3 | exact absurd v2 u3 | exact absurd u2 v3 | (exfalso;omega)
theorem write_det {N G a:Int}{s:ByteArray}{c c':Nat}{D1 D2:Dt}(h:WriteR D N G a s c D1)(h':WriteR D N G a s c' D2):c'=c∧D2=D1:=by
 have key:∀ y,D.atZ N G=some y→y.K=1→fileN D N G=0:=fun y h1 h2=>by unfold fileN;rw [h1];exact if_pos h2
 rcases h with ⟨a1,rfl,rfl⟩ | ⟨y,a1,a2,h⟩<;>rcases h' with ⟨b1,rfl,rfl⟩ | ⟨y',b1,b2,h'⟩
 · exact ⟨rfl,rfl⟩
 · exact absurd (key _ b1 b2) a1
 · exact absurd (key _ a1 a2) b1
 · rw [a1] at b1
   cases b1
   rcases h with ⟨p1,rfl,rfl⟩ | ⟨p1,p2,p3,rfl,rfl⟩ | ⟨p1,p2,p3,rfl,rfl⟩<;>rcases h' with ⟨q1,rfl,rfl⟩ | ⟨q1,q2,q3,rfl,rfl⟩ | ⟨q1,q2,q3,rfl,rfl⟩<;>first | exact ⟨rfl,rfl⟩ | (exfalso;omega)
theorem size_det {N G a:Int}{c c':Nat}{D1 D2:Dt}(h:SizeR D N G a c D1)(h':SizeR D N G a c' D2):c'=c∧D2=D1:=by
 have key:∀ y,D.atZ N G=some y→y.K=1→fileN D N G=0:=fun y h1 h2=>by unfold fileN;rw [h1];exact if_pos h2
 rcases h with ⟨a1,rfl,rfl⟩ | ⟨y,a1,a2,h⟩<;>rcases h' with ⟨b1,rfl,rfl⟩ | ⟨y',b1,b2,h'⟩
 · exact ⟨rfl,rfl⟩
 · exact absurd (key _ b1 b2) a1
 · exact absurd (key _ a1 a2) b1
 · rw [a1] at b1
   cases b1
   rcases h with ⟨p1,rfl,rfl⟩ | ⟨p1,p2,rfl,rfl⟩<;>rcases h' with ⟨q1,rfl,rfl⟩ | ⟨q1,q2,rfl,rfl⟩<;>first | exact ⟨rfl,rfl⟩ | (exfalso;omega)
theorem pin_det {N G:Int}{c c':Nat}{D1 D2:Dt}(h:PinR D N G c D1)(h':PinR D N G c' D2):c'=c∧D2=D1:=by
 have key:∀ y,D.atZ N G=some y→y.K=1→fileN D N G=0:=fun y h1 h2=>by unfold fileN;rw [h1];exact if_pos h2
 rcases h with ⟨a1,rfl,rfl⟩ | ⟨y,a1,a2,rfl,rfl⟩<;>rcases h' with ⟨b1,rfl,rfl⟩ | ⟨y',b1,b2,rfl,rfl⟩
 · exact ⟨rfl,rfl⟩
 · exact absurd (key _ b1 b2) a1
 · exact absurd (key _ a1 a2) b1
 · rw [a1] at b1
   cases b1
   exact ⟨rfl,rfl⟩
theorem unpin_det {N G:Int}{c c':Nat}{D1 D2:Dt}(h:UnpinR D N G c D1)(h':UnpinR D N G c' D2):c'=c∧D2=D1:=by
 have key:∀ y,D.atZ N G=some y→y.K=1→fileN D N G=0:=fun y h1 h2=>by unfold fileN;rw [h1];exact if_pos h2
 rcases h with ⟨a1,rfl,rfl⟩ | ⟨y,a1,a2,h⟩<;>rcases h' with ⟨b1,rfl,rfl⟩ | ⟨y',b1,b2,h'⟩
 · exact ⟨rfl,rfl⟩
 · exact absurd (key _ b1 b2) a1
 · exact absurd (key _ a1 a2) b1
 · rw [a1] at b1
   cases b1
   rcases h with ⟨p1,rfl,rfl⟩ | ⟨p1,rfl,rfl⟩<;>rcases h' with ⟨q1,rfl,rfl⟩ | ⟨q1,rfl,rfl⟩<;>first | exact ⟨rfl,rfl⟩ | (exfalso;omega)
theorem make_det {N G:Int}{s:ByteArray}{K:Int}{c i g c' i' g':Nat}{D1 D2:Dt}(h:MakeR D N G s K c i g D1)(h':MakeR D N G s K c' i' g' D2):c'=c∧i'=i∧g'=g∧D2=D1:=by
 rcases h with ⟨a1,rfl,rfl,rfl,rfl⟩ | ⟨a1,a2,rfl,rfl,rfl,rfl⟩ | ⟨x,a1,a2,a3,h⟩<;>rcases h' with ⟨b1,rfl,rfl,rfl,rfl⟩ | ⟨b1,b2,rfl,rfl,rfl,rfl⟩ | ⟨x',b1,b2,b3,h'⟩
 · exact ⟨rfl,rfl,rfl,rfl⟩
 · exact absurd b1 a1
 · exact absurd (dir_no b1 b2) a1
 · exact absurd a1 b1
 · exact ⟨rfl,rfl,rfl,rfl⟩
 · exact absurd b3 a2
 · exact absurd (dir_no a1 a2) b1
 · exact absurd a3 b2
 · rw [a1] at b1
   cases b1
   rcases h with ⟨p1,rfl,rfl,rfl,rfl⟩ | ⟨p1,p2,rfl,rfl,rfl,rfl⟩ | ⟨p1,p2,p3,rfl,rfl,rfl,rfl⟩ | ⟨p1,p2,p3,p4,p5,p6,rfl,rfl,rfl⟩<;>rcases h' with ⟨q1,rfl,rfl,rfl,rfl⟩ | ⟨q1,q2,rfl,rfl,rfl,rfl⟩ | ⟨q1,q2,q3,rfl,rfl,rfl,rfl⟩ | ⟨q1,q2,q3,q4,q5,q6,rfl,rfl,rfl⟩
   · exact ⟨rfl,rfl,rfl,rfl⟩
   · omega
   · omega
   · omega
   · omega
   · exact ⟨rfl,rfl,rfl,rfl⟩
   · exact absurd q2 p2
   · exact absurd q2 p2
   · omega
   · exact absurd p2 q2
   · exact ⟨rfl,rfl,rfl,rfl⟩
   · rcases p3 with p3 | p3
     · omega
     · obtain ⟨y,hy,e⟩:=p3 _ q4
       exact absurd e (q6 y hy)
   · omega
   · exact absurd p2 q2
   · rcases q3 with q3 | q3
     · omega
     · obtain ⟨y,hy,e⟩:=q3 _ p4
       exact absurd e (p6 y hy)
   · have:i'=i:=by
       rcases Nat.lt_trichotomy i' i with h | h | h
       · obtain ⟨y,hy,e⟩:=p5 _ h
         exact absurd e (q6 y hy)
       · exact h
       · obtain ⟨y,hy,e⟩:=q5 _ h
         exact absurd e (p6 y hy)
     subst this;exact ⟨rfl,rfl,rfl,rfl⟩
theorem look_tot (D:Dt)(N G:Int)(s:ByteArray):∃ c i k,LookR D N G s c i k:=by
 rcases dir_cases D N G with ⟨x,h1,h2,h3⟩ | ⟨h1,_⟩ | ⟨h1,_⟩
 · by_cases ho:OkN s
   · cases hf:findE x.es s.data.toList with
     | none=>exact ⟨5,0,0,Or.inr (Or.inr ⟨x,h1,h2,ho,Or.inl ⟨hf,rfl,rfl,rfl⟩⟩)⟩
     | some e=>exact ⟨0,e.i,e.c,Or.inr (Or.inr ⟨x,h1,h2,ho,Or.inr ⟨e,hf,rfl,rfl,rfl⟩⟩)⟩
   · exact ⟨4,0,0,Or.inr (Or.inl ⟨h3,ho,rfl,rfl,rfl⟩)⟩
 · exact ⟨_,0,0,Or.inl ⟨by rw [h1];decide,rfl,rfl,rfl⟩⟩
 · exact ⟨_,0,0,Or.inl ⟨by rw [h1];decide,rfl,rfl,rfl⟩⟩
theorem rem_tot (I:DInv D)(N G:Int)(s:ByteArray):∃ c D',RemR D N G s c D':=by
 obtain ⟨c,i,k,h⟩:=look_tot D N G s
 by_cases hc:c=0
 · rcases h with ⟨h1,h2,_⟩ | ⟨_,_,h2,_⟩ | ⟨x,h1,h2,h3,⟨_,h4,_⟩ | ⟨e,h4,_⟩⟩
   · rw [hc] at h2;exact absurd h2.symm h1
   · rw [hc] at h2;cases h2
   · rw [hc] at h4;cases h4
   · obtain ⟨_,hm,_⟩:=findE_idx h4
     obtain ⟨_,⟨y,hy,y1,y2⟩,_⟩:=I.live x (atZ_some h1).1 e (List.mem_of_getElem? hm)
     by_cases hes:y.es=[]
     · exact ⟨0,_,Or.inr ⟨x,e,y,h1,h2,h3,h4,hy,y1,y2,Or.inr ⟨hes,rfl,rfl⟩⟩⟩
     · exact ⟨11,_,Or.inr ⟨x,e,y,h1,h2,h3,h4,hy,y1,y2,Or.inl ⟨hes,rfl,rfl⟩⟩⟩
 · exact ⟨c,D,Or.inl ⟨i,k,h,hc,rfl⟩⟩
theorem link_tot (D:Dt)(N G M F:Int)(s:ByteArray):∃ c D',LinkR D N G M F s c D':=by
 cases h0:D.atZ N G with
 | none=>exact ⟨10,D,Or.inl ⟨h0,rfl,rfl⟩⟩
 | some y =>
  rcases dir_cases D M F with ⟨x,h1,h2,h3⟩ | ⟨h1,_⟩ | ⟨h1,_⟩
  · by_cases ho:OkN s
    · by_cases hy:y.K=2
      · exact ⟨8,D,Or.inr ⟨y,h0,Or.inr (Or.inr ⟨x,h1,h2,ho,Or.inl ⟨hy,rfl,rfl⟩⟩)⟩⟩
      · by_cases hf:findE x.es s.data.toList=none
        · by_cases hl:60≤x.es.length∨8≤D.links y
          · exact ⟨9,D,Or.inr ⟨y,h0,Or.inr (Or.inr ⟨x,h1,h2,ho,Or.inr (Or.inr (Or.inl ⟨hy,hf,hl,rfl,rfl⟩))⟩)⟩⟩
          · exact ⟨0,_,Or.inr ⟨y,h0,Or.inr (Or.inr ⟨x,h1,h2,ho,Or.inr (Or.inr (Or.inr ⟨hy,hf,by omega,by omega,rfl,rfl⟩))⟩)⟩⟩
        · exact ⟨6,D,Or.inr ⟨y,h0,Or.inr (Or.inr ⟨x,h1,h2,ho,Or.inr (Or.inl ⟨hy,hf,rfl,rfl⟩)⟩)⟩⟩
    · exact ⟨4,D,Or.inr ⟨y,h0,Or.inr (Or.inl ⟨h3,ho,rfl,rfl⟩)⟩⟩
  · exact ⟨_,D,Or.inr ⟨y,h0,Or.inl ⟨by rw [h1];decide,rfl,rfl⟩⟩⟩
  · exact ⟨_,D,Or.inr ⟨y,h0,Or.inl ⟨by rw [h1];decide,rfl,rfl⟩⟩⟩
theorem ren_tot (I:DInv D)(N1 G1 N2 G2:Int)(s1 s2:ByteArray):∃ c D',RenR D N1 G1 N2 G2 s1 s2 c D':=by
 by_cases hd1:dirN D N1 G1=0
 case neg=>exact ⟨_,D,Or.inl ⟨Or.inl ⟨hd1,rfl⟩,rfl⟩⟩
 by_cases hd2:dirN D N2 G2=0
 case neg=>exact ⟨_,D,Or.inl ⟨Or.inr (Or.inl ⟨hd1,hd2,rfl⟩),rfl⟩⟩
 by_cases ho:OkN s1∧OkN s2
 case neg=>exact ⟨4,D,Or.inl ⟨Or.inr (Or.inr (Or.inl ⟨hd1,hd2,by by_cases h:OkN s1;exact Or.inr (fun q=>ho ⟨h,q⟩);exact Or.inl h,rfl⟩)),rfl⟩⟩
 obtain ⟨ho1,ho2⟩:=ho
 have dirOf:∀ N G,dirN D N G=0→∃ x,D.atZ N G=some x∧x.K=2:=fun N G hd=>by
  rcases dir_cases D N G with ⟨x,h1,h2,_⟩ | ⟨h1,_⟩ | ⟨h1,_⟩
  · exact ⟨x,h1,h2⟩
  · omega
  · omega
 obtain ⟨a,ha,haK⟩:=dirOf _ _ hd1;obtain ⟨b,hb,hbK⟩:=dirOf _ _ hd2
 cases hf:findE a.es s1.data.toList with
 | none=>exact ⟨5,D,Or.inl ⟨Or.inr (Or.inr (Or.inr ⟨a,ha,haK,hd2,ho1,ho2,hf,rfl⟩)),rfl⟩⟩
 | some e =>
  obtain ⟨_,hm,_⟩:=findE_idx hf;obtain ⟨_,⟨y,hy,y1,y2⟩,_⟩:=I.live a (atZ_some ha).1 e (List.mem_of_getElem? hm);have fin:∀ {c D'},((y.K=2∧InD D b.i b.c e.i e.c∧c=3∧D'=D)∨((y.K=2→¬ InD D b.i b.c e.i e.c)∧RenM D a b y e s2 c D'))→∃ c D',RenR D N1 G1 N2 G2 s1 s2 c D':=fun hh=>⟨_,_,Or.inr ⟨a,b,e,y,ha,haK,hb,hbK,ho1,ho2,hf,hy,y1,y2,hh⟩⟩
  by_cases hin:y.K=2∧InD D b.i b.c e.i e.c
  · exact fin (Or.inl ⟨hin.1,hin.2,rfl,rfl⟩)
  have hout:y.K=2→¬ InD D b.i b.c e.i e.c:=fun h1 h2=>hin ⟨h1,h2⟩
  cases hf2:findE b.es s2.data.toList with
  | none =>
    by_cases hab:a=b
    · exact fin (Or.inr ⟨hout,Or.inr (Or.inr (Or.inl ⟨hf2,hab,rfl,rfl⟩))⟩)
    · by_cases h60:60≤b.es.length
      · exact fin (Or.inr ⟨hout,Or.inl ⟨hf2,hab,h60,rfl,rfl⟩⟩)
      · exact fin (Or.inr ⟨hout,Or.inr (Or.inl ⟨hf2,hab,by omega,rfl,rfl⟩)⟩)
  | some f =>
    obtain ⟨_,hm2,_⟩:=findE_idx hf2;obtain ⟨_,⟨z,hz,z1,z2⟩,_⟩:=I.live b (atZ_some hb).1 f (List.mem_of_getElem? hm2);have fin2:∀ {c D'},RenO D a b y e f s2 z c D'→∃ c D',RenR D N1 G1 N2 G2 s1 s2 c D':=fun hh=>fin (Or.inr ⟨hout,Or.inr (Or.inr (Or.inr ⟨f,z,hf2,hz,z1,z2,hh⟩))⟩)
    by_cases hzy:z=y
    · exact fin2 (Or.inl ⟨hzy,rfl,rfl⟩)
    rcases I.kind y hy with ⟨k1,_⟩ | ⟨k1,_⟩<;>rcases I.kind z hz with ⟨k2,k3⟩ | ⟨k2,_⟩
    · by_cases hab:a=b
      · exact fin2 (Or.inr (Or.inr (Or.inr (Or.inr (Or.inr ⟨hzy,k1.trans k2.symm,k3,hab,rfl,rfl⟩)))))
      · exact fin2 (Or.inr (Or.inr (Or.inr (Or.inr (Or.inl ⟨hzy,k1.trans k2.symm,k3,hab,rfl,rfl⟩)))))
    · exact fin2 (Or.inr (Or.inl ⟨hzy,k1,k2,rfl,rfl⟩))
    · exact fin2 (Or.inr (Or.inr (Or.inl ⟨hzy,k1,k2,rfl,rfl⟩)))
    · by_cases hes:z.es=[]
      · by_cases hab:a=b
        · exact fin2 (Or.inr (Or.inr (Or.inr (Or.inr (Or.inr ⟨hzy,k1.trans k2.symm,hes,hab,rfl,rfl⟩)))))
        · exact fin2 (Or.inr (Or.inr (Or.inr (Or.inr (Or.inl ⟨hzy,k1.trans k2.symm,hes,hab,rfl,rfl⟩)))))
      · exact fin2 (Or.inr (Or.inr (Or.inr (Or.inl ⟨hzy,k1,k2,hes,rfl,rfl⟩))))
theorem file_or (D:Dt)(N G:Int):fileN D N G≠0∨∃ y,D.atZ N G=some y∧y.K=1:=by
 rcases file_cases D N G with ⟨x,h1,h2,_⟩ | h | h
 · exact Or.inr ⟨x,h1,h2⟩
 · exact Or.inl (by omega)
 · exact Or.inl (by omega)
theorem write_tot (D:Dt)(N G a:Int)(s:ByteArray):∃ c D',WriteR D N G a s c D':=by
 rcases file_or D N G with h | ⟨y,h1,h2⟩
 · exact ⟨_,D,Or.inl ⟨h,rfl,rfl⟩⟩
 · by_cases hb:a < 0∨4096 < a+(s.size:Int)
   · exact ⟨2,D,Or.inr ⟨y,h1,h2,Or.inl ⟨hb,rfl,rfl⟩⟩⟩
   · by_cases hs:s.size=0
     · exact ⟨0,D,Or.inr ⟨y,h1,h2,Or.inr (Or.inl ⟨by omega,by omega,hs,rfl,rfl⟩)⟩⟩
     · exact ⟨0,_,Or.inr ⟨y,h1,h2,Or.inr (Or.inr ⟨by omega,by omega,by omega,rfl,rfl⟩)⟩⟩
theorem size_tot (D:Dt)(N G a:Int):∃ c D',SizeR D N G a c D':=by
 rcases file_or D N G with h | ⟨y,h1,h2⟩
 · exact ⟨_,D,Or.inl ⟨h,rfl,rfl⟩⟩
 · by_cases hb:a < 0∨4096 < a
   · exact ⟨2,D,Or.inr ⟨y,h1,h2,Or.inl ⟨hb,rfl,rfl⟩⟩⟩
   · exact ⟨0,_,Or.inr ⟨y,h1,h2,Or.inr ⟨by omega,by omega,rfl,rfl⟩⟩⟩
theorem pin_tot (D:Dt)(N G:Int):∃ c D',PinR D N G c D':=by
 rcases file_or D N G with h | ⟨y,h1,h2⟩
 · exact ⟨_,D,Or.inl ⟨h,rfl,rfl⟩⟩
 · exact ⟨0,_,Or.inr ⟨y,h1,h2,rfl,rfl⟩⟩
theorem unpin_tot (D:Dt)(N G:Int):∃ c D',UnpinR D N G c D':=by
 rcases file_or D N G with h | ⟨y,h1,h2⟩
 · exact ⟨_,D,Or.inl ⟨h,rfl,rfl⟩⟩
 · by_cases hp:y.p=0
   · exact ⟨5,D,Or.inr ⟨y,h1,h2,Or.inl ⟨hp,rfl,rfl⟩⟩⟩
   · exact ⟨0,_,Or.inr ⟨y,h1,h2,Or.inr ⟨by omega,rfl,rfl⟩⟩⟩
theorem least (p:Nat→Prop):∀ n,(∃ i,i < n∧p i)→∃ i,i < n∧p i∧∀ j,j < i→¬ p j:=by
 intro n
 induction n with
 | zero=>rintro ⟨i,h,_⟩;omega
 | succ n ih =>
  rintro ⟨i,hi,hp⟩
  by_cases h:∃ i,i < n∧p i
  · obtain ⟨k,k1,k2,k3⟩:=ih h
    exact ⟨k,by omega,k2,k3⟩
  · have:i=n:=by
     apply Classical.byContradiction;intro q;exact h ⟨i,by omega,hp⟩
    subst this;exact ⟨i,by omega,hp,fun j hj q=>h ⟨j,hj,q⟩⟩
theorem make_tot (D:Dt)(N G:Int)(s:ByteArray)(K:Int):∃ c i g D',MakeR D N G s K c i g D':=by
 rcases dir_cases D N G with ⟨x,h1,h2,h3⟩ | ⟨h1,_⟩ | ⟨h1,_⟩
 · by_cases ho:OkN s
   · have fin:∀ {c i g D'},_→∃ c i g D',MakeR D N G s K c i g D':=fun {c i g D'} hh=>⟨c,i,g,D',Or.inr (Or.inr ⟨x,h1,h2,ho,hh⟩)⟩
     by_cases hK:K=1∨K=2
     · by_cases hf:findE x.es s.data.toList=none
       · by_cases h60:60≤x.es.length
         · exact fin (Or.inr (Or.inr (Or.inl ⟨hK,hf,Or.inl h60,rfl,rfl,rfl,rfl⟩)))
         · by_cases hall:∀ j,j < D.most→∃ y∈D.L,y.i=j
           · exact fin (Or.inr (Or.inr (Or.inl ⟨hK,hf,Or.inr hall,rfl,rfl,rfl,rfl⟩)))
           · obtain ⟨i,k1,k2,k3⟩:=least (fun j=>∀ y∈D.L,y.i≠j) D.most (Classical.byContradiction fun q=>hall fun j hj=>Classical.byContradiction fun q2=>q ⟨j,hj,fun y hy e=>q2 ⟨y,hy,e⟩⟩)
             exact fin (i:=i) (Or.inr (Or.inr (Or.inr ⟨hK,hf,by omega,k1,fun j hj=>Classical.byContradiction fun q2=>k3 j hj fun y hy e=>q2 ⟨y,hy,e⟩,k2,rfl,rfl,rfl⟩)))
       · exact fin (Or.inr (Or.inl ⟨hK,hf,rfl,rfl,rfl,rfl⟩))
     · exact fin (Or.inl ⟨⟨fun q=>hK (Or.inl q),fun q=>hK (Or.inr q)⟩,rfl,rfl,rfl,rfl⟩)
   · exact ⟨4,0,0,D,Or.inr (Or.inl ⟨h3,ho,rfl,rfl,rfl,rfl⟩)⟩
 · exact ⟨_,0,0,D,Or.inl ⟨by rw [h1];decide,rfl,rfl,rfl,rfl⟩⟩
 · exact ⟨_,0,0,D,Or.inl ⟨by rw [h1];decide,rfl,rfl,rfl,rfl⟩⟩
end
structure Bd (D:Dt)(B:Nat):Prop where
 db:DB D B
 dz:DZ D
section
variable {D:Dt}{B:Nat}
theorem Bd.mono {B':Nat}(h:Bd D B)(hB:B≤B'):Bd D B':=⟨⟨fun x hx=>by have:=h.db.1 x hx;omega,fun i=>Nat.le_trans (h.db.2 i) hB⟩,h.dz⟩
theorem Bd.turn {f:Dn→Dn}{B':Nat}(h:Bd D B)(hB:B≤B')(hf:∀ x∈D.L,0≤(f x).C∧(f x).C≤(B':Int)∧(f x).p≤B'∧(f x).S.size≤4096∧(f x).H.length≤64)(i c:Nat):Bd (D.turn i c f) B':=by
 refine ⟨⟨fun x hx=>?_,fun i=>Nat.le_trans (h.db.2 i) hB⟩,fun x hx=>?_⟩
 · obtain ⟨y,hy,rfl⟩:=mem_turnL.1 hx
   split
   · exact ⟨(hf y hy).1,(hf y hy).2.1,(hf y hy).2.2.1⟩
   · have:=h.db.1 y hy
     omega
 · obtain ⟨y,hy,rfl⟩:=mem_turnL.1 hx
   split
   · exact (hf y hy).2.2.2
   · exact h.dz y hy
theorem Bd.keep {f:Dn→Dn}(h:Bd D B)(hf:∀ x,(f x).C=x.C∧(f x).p=x.p∧(f x).S=x.S∧(f x).H=x.H)(i c:Nat):Bd (D.turn i c f) B:=h.turn (Nat.le_refl _) (fun x hx=>by
 obtain ⟨h1,h2,h3,h4⟩:=hf x;rw [h1,h2,h3,h4]
 exact ⟨(h.db.1 x hx).1,(h.db.1 x hx).2.1,(h.db.1 x hx).2.2,h.dz x hx⟩) i c
theorem Bd.more {f:Dn→Dn}(h:Bd D B)(hf:∀ x,(f x).C=x.C+1∧(f x).p=x.p∧(f x).S=x.S∧(f x).H=x.H)(i c:Nat):Bd (D.turn i c f) (B+1):=h.turn (Nat.le_succ _) (fun x hx=>by
 obtain ⟨h1,h2,h3,h4⟩:=hf x;rw [h1,h2,h3,h4];have:=h.db.1 x hx
 exact ⟨by omega,by omega,by omega,h.dz x hx⟩) i c
theorem Bd.sub {p:Dn→Bool}(h:Bd D B):Bd { D with L:=D.L.filter p } B:=⟨⟨fun x hx=>h.db.1 x (List.mem_filter.1 hx).1,h.db.2⟩,fun x hx=>h.dz x (List.mem_filter.1 hx).1⟩
theorem Bd.touch (h:Bd D B)(i c:Nat):Bd (D.turn i c Dn.touched) (B+1):=h.more (f:=Dn.touched) (fun _=>⟨rfl,rfl,rfl,rfl⟩) i c
theorem Bd.lost (h:Bd D B)(z:Dn):Bd (D.lost z) (B+1):=by
 unfold Dt.lost
 split
 · exact (h.sub (p:=fun x=>!x.is z.i z.c)).mono (Nat.le_succ _)
 · exact (h.touch z.i z.c).sub
theorem kd (s:List UInt8)(x:Dn):(Dn.drop s x).C=x.C∧(Dn.drop s x).p=x.p∧(Dn.drop s x).S=x.S∧(Dn.drop s x).H=x.H:=⟨rfl,rfl,rfl,rfl⟩
theorem ki (e:Ent)(x:Dn):(Dn.ins e x).C=x.C∧(Dn.ins e x).p=x.p∧(Dn.ins e x).S=x.S∧(Dn.ins e x).H=x.H:=⟨rfl,rfl,rfl,rfl⟩
theorem rem_bd (h:Bd D B){N G:Int}{s:ByteArray}{c:Nat}{D':Dt}(hR:RemR D N G s c D'):Bd D' (B+4):=by
 rcases hR with ⟨_,_,_,_,rfl⟩ | ⟨x,e,y,_,_,_,_,_,_,_,⟨_,_,rfl⟩ | ⟨_,_,rfl⟩⟩
 · exact h.mono (by omega)
 · exact h.mono (by omega)
 · exact ((h.more (f:=Dn.left e.s) (fun _=>⟨rfl,rfl,rfl,rfl⟩) x.i x.c).lost y).mono (by omega)
theorem link_bd (h:Bd D B){N G M F:Int}{s:ByteArray}{c:Nat}{D':Dt}(hR:LinkR D N G M F s c D'):Bd D' (B+4):=by
 rcases hR with ⟨_,_,rfl⟩ | ⟨y,_,⟨_,_,rfl⟩ | ⟨_,_,_,rfl⟩ | ⟨x,_,_,_,⟨_,_,rfl⟩ | ⟨_,_,_,rfl⟩ | ⟨_,_,_,_,rfl⟩ | ⟨_,_,_,_,_,rfl⟩⟩⟩
 all_goals first
  | exact h.mono (by omega)
  | exact ((h.more (f:=Dn.entered ⟨s.data.toList,y.i,y.c⟩) (fun _=>⟨rfl,rfl,rfl,rfl⟩) x.i x.c).touch y.i y.c).mono (by omega)
theorem ren_bd (h:Bd D B){N1 G1 N2 G2:Int}{s1 s2:ByteArray}{c:Nat}{D':Dt}(hR:RenR D N1 G1 N2 G2 s1 s2 c D'):Bd D' (B+4):=by
 rcases hR with ⟨_,rfl⟩ | ⟨a,b,e,y,_,_,_,_,_,_,_,_,_,_,hR⟩
 · exact h.mono (by omega)
 rcases hR with ⟨_,_,_,rfl⟩ | ⟨_,hR⟩
 · exact h.mono (by omega)
 rcases hR with ⟨_,_,_,_,rfl⟩ | ⟨_,_,_,_,rfl⟩ | ⟨_,_,_,rfl⟩ | ⟨f,z,_,_,_,_,hR⟩
 · exact h.mono (by omega)
 · exact ((((h.keep (kd _) _ _).keep (ki _) _ _).touch _ _).touch _ _).mono (by omega)
 · exact (((h.keep (kd _) _ _).keep (ki _) _ _).touch _ _).mono (by omega)
 rcases hR with ⟨_,_,rfl⟩ | ⟨_,_,_,_,rfl⟩ | ⟨_,_,_,_,rfl⟩ | ⟨_,_,_,_,_,rfl⟩ | ⟨_,_,_,_,_,rfl⟩ | ⟨_,_,_,_,_,rfl⟩
 · exact h.mono (by omega)
 · exact h.mono (by omega)
 · exact h.mono (by omega)
 · exact h.mono (by omega)
 · exact ((((((h.keep (kd _) _ _).keep (kd _) _ _).keep (ki _) _ _).lost z).touch _ _).touch _ _).mono (by omega)
 · exact (((((h.keep (kd _) _ _).keep (kd _) _ _).keep (ki _) _ _).lost z).touch _ _).mono (by omega)
theorem shrink_len (H:List Bool)(n k:Nat):(shrinkTo H n k).length≤H.length:=by
 rw [shrinkTo_len];exact Nat.le_refl _
theorem write_bd (h:Bd D B){N G a:Int}{s:ByteArray}{c:Nat}{D':Dt}(hR:WriteR D N G a s c D'):Bd D' (B+4):=by
 rcases hR with ⟨_,_,rfl⟩ | ⟨y,_,_,⟨_,_,rfl⟩ | ⟨_,_,_,_,rfl⟩ | ⟨h0,h1,h2,_,rfl⟩⟩
 · exact h.mono (by omega)
 · exact h.mono (by omega)
 · exact h.mono (by omega)
 · obtain ⟨a',rfl⟩:=Int.eq_ofNat_of_zero_le h0
   refine h.turn (by omega) (fun x hx=>?_) _ _;have:=h.db.1 x hx;have hz:=h.dz x hx;have h4:=marksH_len x.H (a' / 64) ((a'+s.size - 1) / 64+1 - a' / 64);refine ⟨?_,?_,?_,?_,?_⟩
   · show 0≤x.C+1;omega
   · show x.C+1≤_;omega
   · show x.p≤_;omega
   · show (writeS x.S a' s).size≤4096
     rw [writeS_size];omega
   · show (marksH x.H (a' / 64) ((a'+s.size - 1) / 64+1 - a' / 64)).length≤64
     omega
theorem size_bd (h:Bd D B){N G a:Int}{c:Nat}{D':Dt}(hR:SizeR D N G a c D'):Bd D' (B+4):=by
 rcases hR with ⟨_,_,rfl⟩ | ⟨y,_,_,⟨_,_,rfl⟩ | ⟨h0,h1,_,rfl⟩⟩
 · exact h.mono (by omega)
 · exact h.mono (by omega)
 · obtain ⟨a',rfl⟩:=Int.eq_ofNat_of_zero_le h0
   refine h.turn (by omega) (fun x hx=>?_) _ _;have:=h.db.1 x hx;have hz:=h.dz x hx;refine ⟨?_,?_,?_,?_,?_⟩
   · show 0≤x.C+1;omega
   · show x.C+1≤_;omega
   · show x.p≤_;omega
   · show (resizeS x.S a').size≤4096
     unfold resizeS
     split
     · rw [ByteArray.size_append,zer_size];omega
     · rw [ByteArray.size_extract];omega
   · show (resizeH x.S x.H a').length≤64
     unfold resizeH
     split
     · exact hz.2
     · exact Nat.le_trans (shrink_len _ _ _) hz.2
theorem pinT (h:Bd D B){y:Dn}(k:Nat)(hk:k≤B+1):Bd (D.turn y.i y.c (Dn.pinned k)) (B+4):=h.turn (by omega) (fun x hx=>by
 have:=h.db.1 x hx
 exact ⟨by show 0≤x.C;omega,by show x.C≤_;omega,by show k≤_;omega,h.dz x hx⟩) _ _
theorem pin_bd (h:Bd D B){N G:Int}{c:Nat}{D':Dt}(hR:PinR D N G c D'):Bd D' (B+4):=by
 rcases hR with ⟨_,_,rfl⟩ | ⟨y,hy,_,_,rfl⟩
 · exact h.mono (by omega)
 · have:=(h.db.1 y (atZ_some hy).1).2.2
   exact pinT h _ (by omega)
theorem unpin_bd (h:Bd D B){N G:Int}{c:Nat}{D':Dt}(hR:UnpinR D N G c D'):Bd D' (B+4):=by
 rcases hR with ⟨_,_,rfl⟩ | ⟨y,hy,_,⟨_,_,rfl⟩ | ⟨_,_,rfl⟩⟩
 · exact h.mono (by omega)
 · exact h.mono (by omega)
 · have:=(h.db.1 y (atZ_some hy).1).2.2
   exact (pinT h _ (by omega)).sub
theorem make_bd (h:Bd D B){N G:Int}{s:ByteArray}{K:Int}{c i g:Nat}{D':Dt}(hR:MakeR D N G s K c i g D'):Bd D' (B+4)∧(c=0→g≤B+4):=by
 rcases hR with ⟨h1,rfl,_,_,rfl⟩ | ⟨_,_,rfl,_,_,rfl⟩ | ⟨x,_,_,_,⟨_,rfl,_,_,rfl⟩ | ⟨_,_,rfl,_,_,rfl⟩ | ⟨_,_,_,rfl,_,_,rfl⟩ | ⟨_,_,_,_,_,_,rfl,rfl,rfl⟩⟩
 · exact ⟨h.mono (by omega),fun e=>absurd e h1⟩
 · exact ⟨h.mono (by omega),fun e=>by cases e⟩
 · exact ⟨h.mono (by omega),fun e=>by cases e⟩
 · exact ⟨h.mono (by omega),fun e=>by cases e⟩
 · exact ⟨h.mono (by omega),fun e=>by cases e⟩
 · have hm:=h.more (f:=Dn.entered ⟨s.data.toList,i,D.t i⟩) (fun _=>⟨rfl,rfl,rfl,rfl⟩) x.i x.c
   have ht:=h.db.2;refine ⟨⟨⟨fun y hy=>?_,fun j=>?_⟩,fun y hy=>?_⟩,fun _=>by have:=ht i;omega⟩
   · rcases List.mem_append.1 hy with h1 | h1
     · have:=hm.db.1 y h1
       omega
     · rw [List.mem_singleton.1 h1]
       exact ⟨Int.le_refl _,by show (0:Int)≤_;omega,Nat.zero_le _⟩
   · show setN D.t i (D.t i+1) j≤B+4
     by_cases e:j=i
     · rw [e,setN_same];have:=ht i;omega
     · rw [setN_other _ _ e];have:=ht j;omega
   · rcases List.mem_append.1 hy with h1 | h1
     · exact hm.dz y h1
     · rw [List.mem_singleton.1 h1]
       exact ⟨Nat.zero_le _,Nat.zero_le _⟩
theorem dir_le (D:Dt)(N G:Int):dirN D N G≤10:=by
 rcases dir_cases D N G with ⟨_,_,_,h⟩ | ⟨h,_⟩ | ⟨h,_⟩<;>omega
theorem file_le (D:Dt)(N G:Int):fileN D N G≤10:=by
 rcases file_cases D N G with ⟨_,_,_,h⟩ | h | h<;>omega
theorem look_le {N G:Int}{s:ByteArray}{c i k:Nat}(h:LookR D N G s c i k):c≤14:=by
 have:=dir_le D N G;rcases h with ⟨_,rfl,_⟩ | ⟨_,_,rfl,_⟩ | ⟨_,_,_,_,⟨_,rfl,_⟩ | ⟨_,_,rfl,_⟩⟩<;>omega
theorem rem_le {N G:Int}{s:ByteArray}{c:Nat}{D':Dt}(h:RemR D N G s c D'):c≤14:=by
 rcases h with ⟨_,_,h,_⟩ | ⟨_,_,_,_,_,_,_,_,_,_,⟨_,rfl,_⟩ | ⟨_,rfl,_⟩⟩
 · exact look_le h
 · omega
 · omega
theorem link_le {N G M F:Int}{s:ByteArray}{c:Nat}{D':Dt}(h:LinkR D N G M F s c D'):c≤14:=by
 have:=dir_le D M F;rcases h with ⟨_,rfl,_⟩ | ⟨y,_,⟨_,rfl,_⟩ | ⟨_,_,rfl,_⟩ | ⟨x,_,_,_,⟨_,rfl,_⟩ | ⟨_,_,rfl,_⟩ | ⟨_,_,_,rfl,_⟩ | ⟨_,_,_,_,rfl,_⟩⟩⟩<;>omega
theorem ren_le {N1 G1 N2 G2:Int}{s1 s2:ByteArray}{c:Nat}{D':Dt}(h:RenR D N1 G1 N2 G2 s1 s2 c D'):c≤14:=by
 have:=dir_le D N1 G1;have:=dir_le D N2 G2;rcases h with ⟨⟨_,rfl⟩ | ⟨_,_,rfl⟩ | ⟨_,_,_,rfl⟩ | ⟨_,_,_,_,_,_,_,rfl⟩,_⟩ | ⟨a,b,e,y,_,_,_,_,_,_,_,_,_,_,⟨_,_,rfl,_⟩ | ⟨_,⟨_,_,_,rfl,_⟩ | ⟨_,_,_,rfl,_⟩ | ⟨_,_,rfl,_⟩ | ⟨f,z,_,_,_,_,⟨_,rfl,_⟩ | ⟨_,_,_,rfl,_⟩ | ⟨_,_,_,rfl,_⟩ | ⟨_,_,_,_,rfl,_⟩ | ⟨_,_,_,_,rfl,_⟩ | ⟨_,_,_,_,rfl,_⟩⟩⟩⟩<;>omega
theorem write_le {N G a:Int}{s:ByteArray}{c:Nat}{D':Dt}(h:WriteR D N G a s c D'):c≤14:=by
 have:=file_le D N G;rcases h with ⟨_,rfl,_⟩ | ⟨y,_,_,⟨_,rfl,_⟩ | ⟨_,_,_,rfl,_⟩ | ⟨_,_,_,rfl,_⟩⟩<;>omega
theorem size_le {N G a:Int}{c:Nat}{D':Dt}(h:SizeR D N G a c D'):c≤14:=by
 have:=file_le D N G;rcases h with ⟨_,rfl,_⟩ | ⟨y,_,_,⟨_,rfl,_⟩ | ⟨_,_,rfl,_⟩⟩<;>omega
theorem pin_le {N G:Int}{c:Nat}{D':Dt}(h:PinR D N G c D'):c≤14:=by
 have:=file_le D N G;rcases h with ⟨_,rfl,_⟩ | ⟨y,_,_,rfl,_⟩<;>omega
theorem unpin_le {N G:Int}{c:Nat}{D':Dt}(h:UnpinR D N G c D'):c≤14:=by
 have:=file_le D N G;rcases h with ⟨_,rfl,_⟩ | ⟨y,_,_,⟨_,rfl,_⟩ | ⟨_,rfl,_⟩⟩<;>omega
theorem make_le {N G:Int}{s:ByteArray}{K:Int}{c i g:Nat}{D':Dt}(h:MakeR D N G s K c i g D'):c≤14:=by
 have:=dir_le D N G;rcases h with ⟨_,rfl,_⟩ | ⟨_,_,rfl,_⟩ | ⟨x,_,_,_,⟨_,rfl,_⟩ | ⟨_,_,rfl,_⟩ | ⟨_,_,_,rfl,_⟩ | ⟨_,_,_,_,_,_,rfl,_⟩⟩<;>omega
end
def NoPin (D:Dt):Prop:=∀ x∈D.L,x.p=0
section
variable {D:Dt}
theorem NoPin.turn {f:Dn→Dn}(h:NoPin D)(hf:∀ x,(f x).p=x.p)(i c:Nat):NoPin (D.turn i c f):=fun x hx=>by
 obtain ⟨y,hy,rfl⟩:=mem_turnL.1 hx
 split
 · rw [hf];exact h y hy
 · exact h y hy
theorem NoPin.sub {p:Dn→Bool}(h:NoPin D):NoPin { D with L:=D.L.filter p }:=fun x hx=>h x (List.mem_filter.1 hx).1
theorem NoPin.lost (h:NoPin D)(z:Dn):NoPin (D.lost z):=by
 unfold Dt.lost
 split
 · exact h.sub (p:=fun x=>!x.is z.i z.c)
 · exact NoPin.sub (p:=Dt.held (D.turn z.i z.c Dn.touched)) (h.turn (f:=Dn.touched) (fun _=>rfl) z.i z.c)
theorem rem_np (h:NoPin D){N G:Int}{s:ByteArray}{c:Nat}{D':Dt}(hR:RemR D N G s c D'):NoPin D':=by
 rcases hR with ⟨_,_,_,_,rfl⟩ | ⟨x,e,y,_,_,_,_,_,_,_,⟨_,_,rfl⟩ | ⟨_,_,rfl⟩⟩
 · exact h
 · exact h
 · exact (h.turn (f:=Dn.left e.s) (fun _=>rfl) x.i x.c).lost y
theorem link_np (h:NoPin D){N G M F:Int}{s:ByteArray}{c:Nat}{D':Dt}(hR:LinkR D N G M F s c D'):NoPin D':=by
 rcases hR with ⟨_,_,rfl⟩ | ⟨y,_,⟨_,_,rfl⟩ | ⟨_,_,_,rfl⟩ | ⟨x,_,_,_,⟨_,_,rfl⟩ | ⟨_,_,_,rfl⟩ | ⟨_,_,_,_,rfl⟩ | ⟨_,_,_,_,_,rfl⟩⟩⟩
 all_goals first
  | exact h
  | exact (h.turn (f:=Dn.entered ⟨s.data.toList,y.i,y.c⟩) (fun _=>rfl) x.i x.c).turn (f:=Dn.touched) (fun _=>rfl) y.i y.c
theorem NoPin.drop (h:NoPin D)(s:List UInt8)(i c:Nat):NoPin (D.turn i c (Dn.drop s)):=h.turn (f:=Dn.drop s) (fun _=>rfl) i c
theorem NoPin.ins (h:NoPin D)(e:Ent)(i c:Nat):NoPin (D.turn i c (Dn.ins e)):=h.turn (f:=Dn.ins e) (fun _=>rfl) i c
theorem NoPin.touch (h:NoPin D)(i c:Nat):NoPin (D.turn i c Dn.touched):=h.turn (f:=Dn.touched) (fun _=>rfl) i c
theorem ren_np (h:NoPin D){N1 G1 N2 G2:Int}{s1 s2:ByteArray}{c:Nat}{D':Dt}(hR:RenR D N1 G1 N2 G2 s1 s2 c D'):NoPin D':=by
 rcases hR with ⟨_,rfl⟩ | ⟨a,b,e,y,_,_,_,_,_,_,_,_,_,_,hR⟩
 · exact h
 rcases hR with ⟨_,_,_,rfl⟩ | ⟨_,hR⟩
 · exact h
 rcases hR with ⟨_,_,_,_,rfl⟩ | ⟨_,_,_,_,rfl⟩ | ⟨_,_,_,rfl⟩ | ⟨f,z,_,_,_,_,hR⟩
 · exact h
 · exact (((h.drop _ _ _).ins _ _ _).touch _ _).touch _ _
 · exact ((h.drop _ _ _).ins _ _ _).touch _ _
 rcases hR with ⟨_,_,rfl⟩ | ⟨_,_,_,_,rfl⟩ | ⟨_,_,_,_,rfl⟩ | ⟨_,_,_,_,_,rfl⟩ | ⟨_,_,_,_,_,rfl⟩ | ⟨_,_,_,_,_,rfl⟩
 · exact h
 · exact h
 · exact h
 · exact h
 · exact (((((h.drop _ _ _).drop _ _ _).ins _ _ _).lost z).touch _ _).touch _ _
 · exact ((((h.drop _ _ _).drop _ _ _).ins _ _ _).lost z).touch _ _
theorem write_np (h:NoPin D){N G a:Int}{s:ByteArray}{c:Nat}{D':Dt}(hR:WriteR D N G a s c D'):NoPin D':=by
 rcases hR with ⟨_,_,rfl⟩ | ⟨y,_,_,⟨_,_,rfl⟩ | ⟨_,_,_,_,rfl⟩ | ⟨h0,h1,h2,_,rfl⟩⟩
 · exact h
 · exact h
 · exact h
 · exact h.turn (f:=Dn.wroteD a.toNat s) (fun _=>rfl) y.i y.c
theorem size_np (h:NoPin D){N G a:Int}{c:Nat}{D':Dt}(hR:SizeR D N G a c D'):NoPin D':=by
 rcases hR with ⟨_,_,rfl⟩ | ⟨y,_,_,⟨_,_,rfl⟩ | ⟨h0,h1,_,rfl⟩⟩
 · exact h
 · exact h
 · exact h.turn (f:=Dn.sizedD a.toNat) (fun _=>rfl) y.i y.c
theorem unpin_np (h:NoPin D){N G:Int}{c:Nat}{D':Dt}(hR:UnpinR D N G c D'):NoPin D':=by
 rcases hR with ⟨_,_,rfl⟩ | ⟨y,hy,_,⟨_,_,rfl⟩ | ⟨h0,_,rfl⟩⟩
 · exact h
 · exact h
 · have:=h y (atZ_some hy).1
   exact absurd this (by omega)
theorem make_np (h:NoPin D){N G:Int}{s:ByteArray}{K:Int}{c i g:Nat}{D':Dt}(hR:MakeR D N G s K c i g D'):NoPin D':=by
 rcases hR with ⟨h1,rfl,_,_,rfl⟩ | ⟨_,_,rfl,_,_,rfl⟩ | ⟨x,_,_,_,⟨_,rfl,_,_,rfl⟩ | ⟨_,_,rfl,_,_,rfl⟩ | ⟨_,_,_,rfl,_,_,rfl⟩ | ⟨_,_,_,_,_,_,rfl,rfl,rfl⟩⟩
 · exact h
 · exact h
 · exact h
 · exact h
 · exact h
 · intro y hy
   rcases List.mem_append.1 hy with h1 | h1
   · exact NoPin.turn h (f:=Dn.entered ⟨s.data.toList,i,D.t i⟩) (fun _=>rfl) x.i x.c y h1
   · rw [List.mem_singleton.1 h1]
end
structure Pair6 (W w:World)(base tr m hb:Nat)(D D':Dt)(hl:List (Nat×Nat))(B:Nat):Prop where
 prg:∃ T,Prg W.heap.size w tr T∧Rep T D'
 doc:DM w base m D
 I:DInv D
 I':DInv D'
 bd:Bd D B
 hands:∃ v,HandsAt w base hb v hl
 below:Below W.heap.size W w
 lo:W.heap.size≤base
 hi:base≤w.heap.size
 hlo:W.heap.size≤hb
def Both (W w:World)(base tr m hb:Nat)(D:Dt)(hl:List (Nat×Nat))(B:Nat):Prop:=Pair6 W w base tr m hb D D hl B
section
variable {W w w':World}{base tr m hb B:Nat}{D D':Dt}{hl:List (Nat×Nat)}{A:Nat→Addr}
theorem HandsAt.stays {v:Value}(h:HandsAt w base hb v hl)(hk:∀ (k:Nat) (cs:Array Value) (ty:TypeId) (fr:Nat×Nat),w.heap[k]?=some (.cells cs ty fr)→(ty=38∨ty=35)→w'.heap[k]?=some (.cells cs ty fr)):HandsAt w' base hb v hl:=by
 refine ⟨hk _ _ _ _ h.tab (Or.inl rfl),?_⟩;obtain ⟨h1,h2⟩:=h.row;refine ⟨h1,?_⟩;rcases h2 with h2 | ⟨g,cap,cur,hv,hg,hh,r⟩
 · exact Or.inl h2
 · exact Or.inr ⟨g,cap,cur,hv,hg,hk _ _ _ _ hh (Or.inr rfl),r⟩
theorem hand_tys:(38:TypeId)∉treeTys∧(35:TypeId)∉treeTys∧(42:TypeId)∉treeTys∧(38:TypeId)∉docTys∧(35:TypeId)∉docTys∧(42:TypeId)∉docTys:=by decide
theorem Pair6.only (h:Pair6 W w base tr m hb D D' hl B)(ho:zQ w w'):Pair6 W w' base tr m hb D D' hl B:=by
 obtain ⟨T,hP,hR⟩:=h.prg;obtain ⟨v,hv⟩:=h.hands;exact ⟨⟨T,hP.only ho,hR⟩,h.doc.only ho,h.I,h.I',h.bd,⟨v,hv.kept ho (by simp) (by simp)⟩,h.below.trans (ho.to_below h.below.size (fun k hk=>by cases hk)),h.lo,Nat.le_trans h.hi ho.size,h.hlo⟩
theorem Pair6.errs (h:Pair6 W w base tr m hb D D' hl B)(hE:Errs W A):Errs w A:=hE.below h.below (Nat.le_refl _)
theorem Both.prog {T':Tr}(h:Both W w base tr m hb D hl B)(hP:Prg W.heap.size w' tr T')(hR:Rep T' D')(hI:DInv D')(hw:TreeW W.heap.size w w'):Pair6 W w' base tr m hb D D' hl B:=by
 obtain ⟨v,hv⟩:=h.hands;have hb2:=hw.below h.below.size;refine ⟨⟨T',hP,hR⟩,hw.dm h.doc,h.I,hI,h.bd,⟨v,hv.stays fun k cs ty fr hk ht=>hw.stays hk ?_⟩,h.below.trans hb2,h.lo,Nat.le_trans h.hi hb2.size,h.hlo⟩;rcases ht with rfl | rfl
 · exact hand_tys.1
 · exact hand_tys.2.1
theorem Pair6.docs {B':Nat}(h:Pair6 W w base tr m hb D D' hl B)(hd:DM w' base m D')(hw:DocW base w w')(hB:Bd D' B'):Both W w' base tr m hb D' hl B':=by
 obtain ⟨T,hP,hR⟩:=h.prg;obtain ⟨v,hv⟩:=h.hands;have hb2:=hw.below h.hi;refine ⟨⟨T,hP.doc hw,hR⟩,hd,h.I',h.I',hB,⟨v,hv.stays fun k cs ty fr hk ht=>hw.stays hk ?_⟩,h.below.trans (hb2.mono h.lo),h.lo,Nat.le_trans h.hi hw.size,h.hlo⟩;rcases ht with rfl | rfl
 · exact hand_tys.2.2.2.1
 · exact hand_tys.2.2.2.2.1
def BoxAt (w:World)(b:Nat)(cs:Array Value)(ty:TypeId):Prop:=w.heap[b]?=some (.cells cs ty (0,0))
theorem BoxAt.only {b:Nat}{cs:Array Value}{ty:TypeId}(h:BoxAt w b cs ty)(ho:zQ w w'):BoxAt w' b cs ty:=(ho.block b (Array.getElem?_eq_some_iff.1 h).1 (by simp)).trans h
theorem BoxAt.tree {b:Nat}{cs:Array Value}{ty:TypeId}(h:BoxAt w b cs ty)(hw:TreeW B w w')(ht:ty∉treeTys):BoxAt w' b cs ty:=hw.stays h ht
theorem BoxAt.doc {b:Nat}{cs:Array Value}{ty:TypeId}(h:BoxAt w b cs ty)(hw:DocW base w w')(ht:ty∉docTys):BoxAt w' b cs ty:=hw.stays h ht
def ProgP (W w:World)(base tr m hb:Nat)(D D':Dt)(hl:List (Nat×Nat))(B:Nat)(v:Value)(r:Ending)(w':World):Prop:=r = .returned v∧Pair6 W w' base tr m hb D D' hl B∧TreeW W.heap.size w w'
def DocP (W w:World)(base tr m hb:Nat)(D':Dt)(hl:List (Nat×Nat))(B:Nat)(v:Value)(r:Ending)(w':World):Prop:=r = .returned v∧Both W w' base tr m hb D' hl B∧DocW base w w'
theorem ProgP.of {c:Nat}{r:Ending}(h:Both W w base tr m hb D hl B)(hI:DInv D')(ha:Acts W.heap.size w tr A D' c r w'):ProgP W w base tr m hb D D' hl B (codeE A c) r w':=by
 obtain ⟨T',h1,h2,h3,h4⟩:=ha;exact ⟨h1,h.prog h2 h3 hI h4,h4⟩
def Sides (W w:World)(base tr m hb:Nat)(D:Dt)(hl:List (Nat×Nat))(B:Nat)(A:Nat→Addr)(f g:Nat)(af ag:Array Value)(qn:Prop):Prop :=
 ∃ c D',c≤14∧(∀ W1,zQ w W1→zK f af W1 fun r w'=>ProgP W W1 base tr m hb D D' hl B (codeE A c) r w')∧(∀ W1,Pair6 W W1 base tr m hb D D' hl B→zK g ag W1 fun r w'=>DocP W W1 base tr m hb D' hl (B+4) (.int .i64 ((c:Nat):Int)) r w')∧(qn→NoPin D→NoPin D')
theorem link_both (N G M F:Int)(s:ByteArray)(h:Both W w base tr m hb D hl B)(hE:Errs W A)(hB:B≤800):Sides W w base tr m hb D hl B A 29 30 (linkArgs tr N G M F s) (linkArgs m N G M F s) True:=by
 obtain ⟨c,D',hR⟩:=link_tot D N G M F s;refine ⟨c,D',link_le hR,fun W1 ho=>?_,fun W1 hM=>?_,fun _ hn=>link_np hn hR⟩
 · have h1:Both W W1 base tr m hb D hl B:=Pair6.only h ho
   obtain ⟨T,P,R⟩:=h1.prg;obtain ⟨hI,hc⟩:=link_rep P R h.I (h1.errs hE) h.bd.db (by omega) hR;exact hc.mono fun r w' hh=>ProgP.of h1 hI hh
 · unfold linkArgs
   refine (dlink_any W1 base m D N G M F s B hM.doc hM.I hM.bd.db (by omega)).mono fun r w' hh=>?_;obtain ⟨c2,D2,hr,hR2,hd,hw⟩:=hh;obtain ⟨rfl,rfl⟩:=link_det hR hR2;exact ⟨hr,hM.docs hd hw (link_bd hM.bd hR2),hw⟩
theorem remove_both (N G:Int)(s:ByteArray)(h:Both W w base tr m hb D hl B)(hE:Errs W A)(hB:B≤800):Sides W w base tr m hb D hl B A 31 32 (remArgs tr N G s) (remArgs m N G s) True:=by
 obtain ⟨c,D',hR⟩:=rem_tot h.I N G s;refine ⟨c,D',rem_le hR,fun W1 ho=>?_,fun W1 hM=>?_,fun _ hn=>rem_np hn hR⟩
 · have h1:Both W W1 base tr m hb D hl B:=Pair6.only h ho
   obtain ⟨T,P,R⟩:=h1.prg;obtain ⟨hI,hc⟩:=remove_rep P R h.I (h1.errs hE) h.bd.db (by omega) hR;exact hc.mono fun r w' hh=>ProgP.of h1 hI hh
 · unfold remArgs
   refine (dremove_any W1 base m D N G s B hM.doc hM.I hM.bd.db (by omega) hM.hi).mono fun r w' hh=>?_;obtain ⟨c2,D2,hr,hR2,hd,hw⟩:=hh;obtain ⟨rfl,rfl⟩:=rem_det h.I hR hR2;exact ⟨hr,hM.docs hd hw (rem_bd hM.bd hR2),hw⟩
theorem rename_both (N G M F:Int)(s u:ByteArray)(h:Both W w base tr m hb D hl B)(hE:Errs W A)(hB:B≤800):Sides W w base tr m hb D hl B A 33 34 (renArgs tr N G s M F u) (renArgs m N G s M F u) True:=by
 obtain ⟨c,D',hR⟩:=ren_tot h.I N G M F s u;refine ⟨c,D',ren_le hR,fun W1 ho=>?_,fun W1 hM=>?_,fun _ hn=>ren_np hn hR⟩
 · have h1:Both W W1 base tr m hb D hl B:=Pair6.only h ho
   obtain ⟨T,P,R⟩:=h1.prg;obtain ⟨hI,hc⟩:=rename_rep P R h.I (h1.errs hE) h.bd.db (by omega) hR;exact hc.mono fun r w' hh=>ProgP.of h1 hI hh
 · unfold renArgs
   refine (drename_any W1 base m D N G M F s u B hM.doc hM.I hM.bd.db (by omega) hM.hi).mono fun r w' hh=>?_;obtain ⟨c2,D2,hr,hR2,hd,hw⟩:=hh;obtain ⟨rfl,rfl⟩:=ren_det h.I hR hR2;exact ⟨hr,hM.docs hd hw (ren_bd hM.bd hR2),hw⟩
theorem write_both (N G a:Int)(s:ByteArray)(hs:s.size≤5000)(ha1:a < 9223372036854775808)(ha2 : -9223372036854775808≤a)(h:Both W w base tr m hb D hl B)(hE:Errs W A)(hB:B≤800):Sides W w base tr m hb D hl B A 35 36 (writeArgs tr N G a s) (writeArgs m N G a s) True:=by
 obtain ⟨c,D',hR⟩:=write_tot D N G a s;refine ⟨c,D',write_le hR,fun W1 ho=>?_,fun W1 hM=>?_,fun _ hn=>write_np hn hR⟩
 · have h1:Both W W1 base tr m hb D hl B:=Pair6.only h ho
   obtain ⟨T,P,R⟩:=h1.prg;obtain ⟨hI,hc⟩:=write_rep P R h.I (h1.errs hE) h.bd.db (by omega) hs ha1 ha2 hR;exact hc.mono fun r w' hh=>ProgP.of h1 hI hh
 · unfold writeArgs
   refine (dtwrite_any W1 base m D N G a s B hM.doc hM.I hM.bd.db (by omega) hM.bd.dz ha1).mono fun r w' hh=>?_;obtain ⟨c2,D2,hr,hR2,hd,hw⟩:=hh;obtain ⟨rfl,rfl⟩:=write_det hR hR2;exact ⟨hr,hM.docs hd hw (write_bd hM.bd hR2),hw⟩
theorem resize_both (N G a:Int)(h:Both W w base tr m hb D hl B)(hE:Errs W A)(hB:B≤800):Sides W w base tr m hb D hl B A 37 38 (sizeArgs tr N G a) (sizeArgs m N G a) True:=by
 obtain ⟨c,D',hR⟩:=size_tot D N G a;refine ⟨c,D',size_le hR,fun W1 ho=>?_,fun W1 hM=>?_,fun _ hn=>size_np hn hR⟩
 · have h1:Both W W1 base tr m hb D hl B:=Pair6.only h ho
   obtain ⟨T,P,R⟩:=h1.prg;obtain ⟨hI,hc⟩:=resize_rep P R h.I (h1.errs hE) h.bd.db (by omega) hR;exact hc.mono fun r w' hh=>ProgP.of h1 hI hh
 · unfold sizeArgs
   refine (dtresize_any W1 base m D N G a B hM.doc hM.I hM.bd.db (by omega) hM.bd.dz).mono fun r w' hh=>?_;obtain ⟨c2,D2,hr,hR2,hd,hw⟩:=hh;obtain ⟨rfl,rfl⟩:=size_det hR hR2;exact ⟨hr,hM.docs hd hw (size_bd hM.bd hR2),hw⟩
theorem pin_both (N G:Int)(h:Both W w base tr m hb D hl B)(hE:Errs W A)(hB:B≤800):Sides W w base tr m hb D hl B A 39 40 (pinArgs tr N G) (pinArgs m N G) False:=by
 obtain ⟨c,D',hR⟩:=pin_tot D N G;refine ⟨c,D',pin_le hR,fun W1 ho=>?_,fun W1 hM=>?_,fun hq=>hq.elim⟩
 · have h1:Both W W1 base tr m hb D hl B:=Pair6.only h ho
   obtain ⟨T,P,R⟩:=h1.prg;obtain ⟨hI,hc⟩:=pin_rep P R h.I (h1.errs hE) h.bd.db (by omega) hR;exact hc.mono fun r w' hh=>ProgP.of h1 hI hh
 · unfold pinArgs
   refine (dtpin_any W1 base m D N G B hM.doc hM.I hM.bd.db (by omega) hM.bd.dz).mono fun r w' hh=>?_;obtain ⟨c2,D2,hr,hR2,hd,hw⟩:=hh;obtain ⟨rfl,rfl⟩:=pin_det hR hR2;exact ⟨hr,hM.docs hd hw (pin_bd hM.bd hR2),hw⟩
theorem unpin_both (N G:Int)(h:Both W w base tr m hb D hl B)(hE:Errs W A)(hB:B≤800):Sides W w base tr m hb D hl B A 41 42 (pinArgs tr N G) (pinArgs m N G) True:=by
 obtain ⟨c,D',hR⟩:=unpin_tot D N G;refine ⟨c,D',unpin_le hR,fun W1 ho=>?_,fun W1 hM=>?_,fun _ hn=>unpin_np hn hR⟩
 · have h1:Both W W1 base tr m hb D hl B:=Pair6.only h ho
   obtain ⟨T,P,R⟩:=h1.prg;obtain ⟨hI,hc⟩:=unpin_rep P R h.I (h1.errs hE) h.bd.db (by omega) hR;exact hc.mono fun r w' hh=>ProgP.of h1 hI hh
 · unfold pinArgs
   refine (dtunpin_any W1 base m D N G B hM.doc hM.I hM.bd.db (by omega) hM.bd.dz hM.hi).mono fun r w' hh=>?_;obtain ⟨c2,D2,hr,hR2,hd,hw⟩:=hh;obtain ⟨rfl,rfl⟩:=unpin_det hR hR2;exact ⟨hr,hM.docs hd hw (unpin_bd hM.bd hR2),hw⟩
theorem make_both (N G:Int)(s:ByteArray)(K:Int)(h:Both W w base tr m hb D hl B)(hE:Errs W A)(hB:B≤800):∃ c i g D',c≤14∧i≤300∧g≤900∧(∀ W1,zQ w W1→zK 24 (makeArgs tr N G s K) W1 fun r w'=>ProgP W W1 base tr m hb D D' hl B (.tuple #[.agg #[.int .i64 (i:Nat),.int .i64 (g:Nat)],codeE A c]) r w')∧(∀ W1,Pair6 W W1 base tr m hb D D' hl B→zK 28 (makeArgs m N G s K) W1 fun r w'=>DocP W W1 base tr m hb D' hl (B+4) (.tuple #[.agg #[.int .i64 ((i:Nat):Int),.int .i64 ((g:Nat):Int)],.int .i64 ((c:Nat):Int)]) r w')∧(NoPin D→NoPin D'):=by
 obtain ⟨c,i,g,D',hR⟩:=make_tot D N G s K
 have hbig:i≤300∧g≤900:=by
   have hm:=h.I.most;have ht:=h.bd.db.2;rcases hR with ⟨_,_,rfl,rfl,_⟩ | ⟨_,_,_,rfl,rfl,_⟩ | ⟨x,_,_,_,⟨_,_,rfl,rfl,_⟩ | ⟨_,_,_,rfl,rfl,_⟩ | ⟨_,_,_,_,rfl,rfl,_⟩ | ⟨_,_,_,hi,_,_,_,rfl,_⟩⟩
   all_goals first | omega | (have:=ht i;omega)
 refine ⟨c,i,g,D',make_le hR,hbig.1,hbig.2,fun W1 ho=>?_,fun W1 hM=>?_,fun hn=>make_np hn hR⟩
 · have h1:Both W W1 base tr m hb D hl B:=Pair6.only h ho
   obtain ⟨T,P,R⟩:=h1.prg;obtain ⟨hI,hc⟩:=make_rep P R h.I (h1.errs hE) h.bd.db (by omega) hR;refine hc.mono fun r w' hh=>?_;obtain ⟨T',q1,q2,q3,q4⟩:=hh;exact ⟨q1,h1.prog q2 q3 hI q4,q4⟩
 · unfold makeArgs
   refine (dmake_any W1 base m D N G s K B hM.doc hM.I hM.bd.db (by omega) hM.hi).mono fun r w' hh=>?_;obtain ⟨c2,i2,g2,D2,hr,hR2,hd,hw⟩:=hh;obtain ⟨rfl,rfl,rfl,rfl⟩:=make_det hR hR2;exact ⟨hr,hM.docs hd hw (make_bd hM.bd hR2).1,hw⟩
end
end
end Go.Proofs.YtkcabopgajlmdaaGreatDoor
