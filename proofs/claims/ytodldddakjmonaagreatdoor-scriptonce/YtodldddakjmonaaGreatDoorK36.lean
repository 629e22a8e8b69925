import Derived.Test.YtodldddakjmonaaGreatDoorK35
set_option maxHeartbeats 8000000
namespace Go.Proofs.YtodldddakjmonaaGreatDoor
section
open Go Go.RowKit Go.Deep Go.Maps
def CmdsAt (base:Nat)(w:World)(n z:Nat):Prop:=∀ E∈cmdE n,∃ g x y u,(∀ W,Only [] w W→LkT W z E.key (cmdV n E g x y u))∧slW base E.rd g w∧dkW n base E.fn x y u w
def kchk (kinds:List Kd):Bool:=kinds.zipIdx.all fun x=>match x.1 with
 | .ins E=>decide (E.key.size≤1000)&&(decide (0 < E.key.size)&&kinds.zipIdx.all fun y=>match y.1 with
  | .ins E'=>(E'.key.data.toList != E.key.data.toList) || y.2==x.2
  | _=>true)
 | _=>true
theorem kchk_spec {kinds:List Kd}(h:kchk kinds=true)(i j:Nat)(E:EntC)(hj:kinds[j]?=some (.ins E)):E.key.size≤1000∧(keyAt kinds i=E.key→i=j):=by
 have h1:=List.all_eq_true.1 h (.ins E,j) (List.mem_zipIdx_iff_getElem?.2 hj);simp only [Bool.and_eq_true,decide_eq_true_eq] at h1;refine ⟨h1.1,fun e=>?_⟩;unfold keyAt at e
 split at e
 · rename_i E' hi
   have h2:=List.all_eq_true.1 h1.2.2 (.ins E',i) (List.mem_zipIdx_iff_getElem?.2 hi);simp only [e,Bool.or_eq_true,beq_iff_eq] at h2;rcases h2 with h2 | h2
   · simp at h2
   · exact h2
 · rw [← e] at h1
   exact absurd h1.2.1 (by decide)
theorem cmdKeys (n:Nat):kchk (cmdK n)=true:=by kernel_rfl
def mchk (l:List Oper)(kinds:List Kd):Bool:=(l.zip kinds).zipIdx.all fun x=>match x.1.2 with
 | .ins _=>x.1.1.after.toList.any fun e=>Region.binds .any e&&e.on==0
 | .res=>x.1.1.after.toList.any fun e=>Region.binds .any e&&e.on==0
 | _=>true
theorem mchk_spec {n base:Nat}{l:List Oper}{kinds:List Kd}(h:mchk l kinds=true)(j:Nat)(o:Oper)(m m':Option Value)(v:Value)(w:World)(hj:l[j]?=some o)(_:j≠0)(hn:(o.after.toList.any fun e=>Region.binds .any e&&e.on==0)=false)(hv:ValC n base kinds j m v w):ValC n base kinds j m' v w:=by
 unfold ValC at hv ⊢
 cases hk:kinds[j]? with
 | none=>trivial
 | some k =>
  rw [hk] at hv
  have hz:(l.zip kinds)[j]?=some (o,k):=by rw [List.getElem?_zip_eq_some];exact ⟨hj,hk⟩
  have h1:=List.all_eq_true.1 h ((o,k),j) (List.mem_zipIdx_iff_getElem?.2 hz)
  cases k with
  | ins E=>exact absurd (hn.symm.trans h1) (by decide)
  | res=>exact absurd (hn.symm.trans h1) (by decide)
  | val u=>exact hv
  | sl L=>exact hv
  | dk d=>exact hv
  | bld E=>exact hv
  | mp=>exact hv
theorem cmdJobs {n:Nat}{w0:World}{l:List Oper}{Q:Exit→Act→World→Prop}{a0:Act}(hl:IsOps l)(h0:a0.tmps[0]?=some (ptrV n)):Jobs 3 (JC n (cmdE n) w0) (RC w0.heap.size (cmdK n)) (ValC n w0.heap.size (cmdK n)) Tryz.prog Q .any l a0 0 l:=by
 refine Jobs.of _ _ _ _ fun i o hi=>?_;have hlt:=(List.getElem?_eq_some_iff.1 hi).1;rw [cmdLen hl] at hlt;rw [cmdAt l i o hi]
 have key:∀ k,k≤81→i < k→JobC n (cmdE n) (cmdK n) w0 Q l a0 i (oprC l i):=by
  intro k _ hk;rcases Nat.lt_or_ge i 1 with k0 | k0
  · obtain rfl:i=0:=by omega
    exact cj0 hl
  rcases Nat.lt_or_ge i 2 with k1 | k1
  · obtain rfl:i=1:=by omega
    exact cj1 hl h0
  rcases Nat.lt_or_ge i 3 with k2 | k2
  · obtain rfl:i=2:=by omega
    exact cj2 hl h0
  rcases Nat.lt_or_ge i 4 with k3 | k3
  · obtain rfl:i=3:=by omega
    exact cj3 hl h0
  rcases Nat.lt_or_ge i 5 with k4 | k4
  · obtain rfl:i=4:=by omega
    exact cj4 hl h0
  rcases Nat.lt_or_ge i 6 with k5 | k5
  · obtain rfl:i=5:=by omega
    exact cj5 hl h0
  rcases Nat.lt_or_ge i 7 with k6 | k6
  · obtain rfl:i=6:=by omega
    exact cj6 hl h0
  rcases Nat.lt_or_ge i 8 with k7 | k7
  · obtain rfl:i=7:=by omega
    exact cj7 hl h0
  rcases Nat.lt_or_ge i 9 with k8 | k8
  · obtain rfl:i=8:=by omega
    exact cj8 hl h0
  rcases Nat.lt_or_ge i 10 with k9 | k9
  · obtain rfl:i=9:=by omega
    exact cj9 hl h0
  rcases Nat.lt_or_ge i 11 with k10 | k10
  · obtain rfl:i=10:=by omega
    exact cj10 hl h0
  rcases Nat.lt_or_ge i 12 with k11 | k11
  · obtain rfl:i=11:=by omega
    exact cj11 hl h0
  rcases Nat.lt_or_ge i 13 with k12 | k12
  · obtain rfl:i=12:=by omega
    exact cj12 hl h0
  rcases Nat.lt_or_ge i 14 with k13 | k13
  · obtain rfl:i=13:=by omega
    exact cj13 hl h0
  rcases Nat.lt_or_ge i 15 with k14 | k14
  · obtain rfl:i=14:=by omega
    exact cj14 hl h0
  rcases Nat.lt_or_ge i 16 with k15 | k15
  · obtain rfl:i=15:=by omega
    exact cj15 hl h0
  rcases Nat.lt_or_ge i 17 with k16 | k16
  · obtain rfl:i=16:=by omega
    exact cj16 hl h0
  rcases Nat.lt_or_ge i 18 with k17 | k17
  · obtain rfl:i=17:=by omega
    exact cj17 hl h0
  rcases Nat.lt_or_ge i 19 with k18 | k18
  · obtain rfl:i=18:=by omega
    exact cj18 hl h0
  rcases Nat.lt_or_ge i 20 with k19 | k19
  · obtain rfl:i=19:=by omega
    exact cj19 hl h0
  rcases Nat.lt_or_ge i 21 with k20 | k20
  · obtain rfl:i=20:=by omega
    exact cj20 hl h0
  rcases Nat.lt_or_ge i 22 with k21 | k21
  · obtain rfl:i=21:=by omega
    exact cj21 hl h0
  rcases Nat.lt_or_ge i 23 with k22 | k22
  · obtain rfl:i=22:=by omega
    exact cj22 hl h0
  rcases Nat.lt_or_ge i 24 with k23 | k23
  · obtain rfl:i=23:=by omega
    exact cj23 hl h0
  rcases Nat.lt_or_ge i 25 with k24 | k24
  · obtain rfl:i=24:=by omega
    exact cj24 hl h0
  rcases Nat.lt_or_ge i 26 with k25 | k25
  · obtain rfl:i=25:=by omega
    exact cj25 hl h0
  rcases Nat.lt_or_ge i 27 with k26 | k26
  · obtain rfl:i=26:=by omega
    exact cj26 hl h0
  rcases Nat.lt_or_ge i 28 with k27 | k27
  · obtain rfl:i=27:=by omega
    exact cj27 hl h0
  rcases Nat.lt_or_ge i 29 with k28 | k28
  · obtain rfl:i=28:=by omega
    exact cj28 hl h0
  rcases Nat.lt_or_ge i 30 with k29 | k29
  · obtain rfl:i=29:=by omega
    exact cj29 hl h0
  rcases Nat.lt_or_ge i 31 with k30 | k30
  · obtain rfl:i=30:=by omega
    exact cj30 hl h0
  rcases Nat.lt_or_ge i 32 with k31 | k31
  · obtain rfl:i=31:=by omega
    exact cj31 hl h0
  rcases Nat.lt_or_ge i 33 with k32 | k32
  · obtain rfl:i=32:=by omega
    exact cj32 hl h0
  rcases Nat.lt_or_ge i 34 with k33 | k33
  · obtain rfl:i=33:=by omega
    exact cj33 hl h0
  rcases Nat.lt_or_ge i 35 with k34 | k34
  · obtain rfl:i=34:=by omega
    exact cj34 hl h0
  rcases Nat.lt_or_ge i 36 with k35 | k35
  · obtain rfl:i=35:=by omega
    exact cj35 hl h0
  rcases Nat.lt_or_ge i 37 with k36 | k36
  · obtain rfl:i=36:=by omega
    exact cj36 hl h0
  rcases Nat.lt_or_ge i 38 with k37 | k37
  · obtain rfl:i=37:=by omega
    exact cj37 hl h0
  rcases Nat.lt_or_ge i 39 with k38 | k38
  · obtain rfl:i=38:=by omega
    exact cj38 hl h0
  rcases Nat.lt_or_ge i 40 with k39 | k39
  · obtain rfl:i=39:=by omega
    exact cj39 hl h0
  rcases Nat.lt_or_ge i 41 with k40 | k40
  · obtain rfl:i=40:=by omega
    exact cj40 hl h0
  rcases Nat.lt_or_ge i 42 with k41 | k41
  · obtain rfl:i=41:=by omega
    exact cj41 hl h0
  rcases Nat.lt_or_ge i 43 with k42 | k42
  · obtain rfl:i=42:=by omega
    exact cj42 hl h0
  rcases Nat.lt_or_ge i 44 with k43 | k43
  · obtain rfl:i=43:=by omega
    exact cj43 hl h0
  rcases Nat.lt_or_ge i 45 with k44 | k44
  · obtain rfl:i=44:=by omega
    exact cj44 hl h0
  rcases Nat.lt_or_ge i 46 with k45 | k45
  · obtain rfl:i=45:=by omega
    exact cj45 hl h0
  rcases Nat.lt_or_ge i 47 with k46 | k46
  · obtain rfl:i=46:=by omega
    exact cj46 hl h0
  rcases Nat.lt_or_ge i 48 with k47 | k47
  · obtain rfl:i=47:=by omega
    exact cj47 hl h0
  rcases Nat.lt_or_ge i 49 with k48 | k48
  · obtain rfl:i=48:=by omega
    exact cj48 hl h0
  rcases Nat.lt_or_ge i 50 with k49 | k49
  · obtain rfl:i=49:=by omega
    exact cj49 hl h0
  rcases Nat.lt_or_ge i 51 with k50 | k50
  · obtain rfl:i=50:=by omega
    exact cj50 hl h0
  rcases Nat.lt_or_ge i 52 with k51 | k51
  · obtain rfl:i=51:=by omega
    exact cj51 hl h0
  rcases Nat.lt_or_ge i 53 with k52 | k52
  · obtain rfl:i=52:=by omega
    exact cj52 hl h0
  rcases Nat.lt_or_ge i 54 with k53 | k53
  · obtain rfl:i=53:=by omega
    exact cj53 hl h0
  rcases Nat.lt_or_ge i 55 with k54 | k54
  · obtain rfl:i=54:=by omega
    exact cj54 hl h0
  rcases Nat.lt_or_ge i 56 with k55 | k55
  · obtain rfl:i=55:=by omega
    exact cj55 hl h0
  rcases Nat.lt_or_ge i 57 with k56 | k56
  · obtain rfl:i=56:=by omega
    exact cj56 hl h0
  rcases Nat.lt_or_ge i 58 with k57 | k57
  · obtain rfl:i=57:=by omega
    exact cj57 hl h0
  rcases Nat.lt_or_ge i 59 with k58 | k58
  · obtain rfl:i=58:=by omega
    exact cj58 hl h0
  rcases Nat.lt_or_ge i 60 with k59 | k59
  · obtain rfl:i=59:=by omega
    exact cj59 hl h0
  rcases Nat.lt_or_ge i 61 with k60 | k60
  · obtain rfl:i=60:=by omega
    exact cj60 hl h0
  rcases Nat.lt_or_ge i 62 with k61 | k61
  · obtain rfl:i=61:=by omega
    exact cj61 hl h0
  rcases Nat.lt_or_ge i 63 with k62 | k62
  · obtain rfl:i=62:=by omega
    exact cj62 hl h0
  rcases Nat.lt_or_ge i 64 with k63 | k63
  · obtain rfl:i=63:=by omega
    exact cj63 hl h0
  rcases Nat.lt_or_ge i 65 with k64 | k64
  · obtain rfl:i=64:=by omega
    exact cj64 hl h0
  rcases Nat.lt_or_ge i 66 with k65 | k65
  · obtain rfl:i=65:=by omega
    exact cj65 hl h0
  rcases Nat.lt_or_ge i 67 with k66 | k66
  · obtain rfl:i=66:=by omega
    exact cj66 hl h0
  rcases Nat.lt_or_ge i 68 with k67 | k67
  · obtain rfl:i=67:=by omega
    exact cj67 hl h0
  rcases Nat.lt_or_ge i 69 with k68 | k68
  · obtain rfl:i=68:=by omega
    exact cj68 hl h0
  rcases Nat.lt_or_ge i 70 with k69 | k69
  · obtain rfl:i=69:=by omega
    exact cj69 hl h0
  rcases Nat.lt_or_ge i 71 with k70 | k70
  · obtain rfl:i=70:=by omega
    exact cj70 hl h0
  rcases Nat.lt_or_ge i 72 with k71 | k71
  · obtain rfl:i=71:=by omega
    exact cj71 hl h0
  rcases Nat.lt_or_ge i 73 with k72 | k72
  · obtain rfl:i=72:=by omega
    exact cj72 hl h0
  rcases Nat.lt_or_ge i 74 with k73 | k73
  · obtain rfl:i=73:=by omega
    exact cj73 hl h0
  rcases Nat.lt_or_ge i 75 with k74 | k74
  · obtain rfl:i=74:=by omega
    exact cj74 hl h0
  rcases Nat.lt_or_ge i 76 with k75 | k75
  · obtain rfl:i=75:=by omega
    exact cj75 hl h0
  rcases Nat.lt_or_ge i 77 with k76 | k76
  · obtain rfl:i=76:=by omega
    exact cj76 hl h0
  rcases Nat.lt_or_ge i 78 with k77 | k77
  · obtain rfl:i=77:=by omega
    exact cj77 hl h0
  rcases Nat.lt_or_ge i 79 with k78 | k78
  · obtain rfl:i=78:=by omega
    exact cj78 hl h0
  rcases Nat.lt_or_ge i 80 with k79 | k79
  · obtain rfl:i=79:=by omega
    exact cj79 hl h0
  rcases Nat.lt_or_ge i 81 with k80 | k80
  · obtain rfl:i=80:=by omega
    exact cj80 hl h0
  omega
 exact key 81 (by omega) hlt
theorem commands_ok (w:World)(n:Nat):
   Calls Tryz.prog 18 #[.pointer (some ⟨n,0,none⟩)] w fun e w'=>∃ z,e = .returned (.map (some z))∧w.heap.size≤z∧CmdsAt w.heap.size w' n z∧Only [] w w':=by
 go_enter Tryz.func18,Tryz.ntmps18
 go_wp2
 obtain ⟨l,hl⟩:∃ l,IsOps l:=⟨_,rfl⟩;have hl':l=regAt Tryz.f18.body 1:=hl;refine wp_region_jobs (l:=regAt Tryz.f18.body 1) 3 (JC n (cmdE n) w) (RC w.heap.size (cmdK n)) (ValC n w.heap.size (cmdK n)) (by kernel_rfl) _ 0 (oprC (regAt Tryz.f18.body 1) 0) ?_ ?_ ?_ ?_ ?_ ?_ ?_ ?_ ?_ ?_
 · kernel_rfl
 · kernel_rfl
 · kernel_rfl
 · kernel_rfl
 · have h:((regAt Tryz.f18.body 1).all fun o=>match o.dst with | some d=>decide (d < 71) | none=>true)=true:=by kernel_rfl
   intro o ho d hd;have:=List.all_eq_true.1 h o ho;rw [hd] at this
   simpa using this
 · exact fun i j m v w w' hij hv hr=>ValC.keep (fun i j E hj=>kchk_spec (cmdKeys n) i j E hj) i j m v hij hv hr
 · exact fun j o m m' v w'=>mchk_spec (n:=n) (base:=w.heap.size) (l:=regAt Tryz.f18.body 1) (kinds:=cmdK n) (by kernel_rfl) j o m m' v w'
 · exact cmdJobs rfl rfl
 · have e:(regAt Tryz.f18.body 1).length=81:=cmdLen rfl
   rw [e];refine ⟨(Only.refl [] w).drew,by omega,fun z hz hm=>?_⟩;obtain ⟨es,clock,hm⟩:=hm;have:=(Array.getElem?_eq_some_iff.1 hm).1;exact absurd hz (Nat.not_le.2 this)
 · intro a w' hr hJ hL
   subst hl';have look:∀ j k d,(cmdK n)[j]?=some k→(regAt Tryz.f18.body 1)[j]?=some (oprC (regAt Tryz.f18.body 1) j)→(oprC (regAt Tryz.f18.body 1) j).dst=some d→∃ v,a.tmps[d]?=some v∧k.P n w.heap.size a.tmps[3]? v w':=fun j k d h1 h2 h3=>left_at (hL j) h2 h3 h1;obtain ⟨v,q3,z,rfl,hz1,hz2⟩:=look 0 .mp 3 rfl (by kernel_rfl) (by kernel_rfl);obtain ⟨v,q2,e2⟩:=look 80 .res 2 rfl (by kernel_rfl) (by kernel_rfl);have e2:a.tmps[3]?=some v:=e2;rw [q3] at e2
   cases e2
   have HC:Hid (CmdsAt w.heap.size w' n z):=by
    have ins:∀ j E,(cmdK n)[j]?=some (.ins E)→(regAt Tryz.f18.body 1)[j]?=some (oprC (regAt Tryz.f18.body 1) j)→(oprC (regAt Tryz.f18.body 1) j).dst=none→∃ g x y u,(∀ W,Only [] w' W→LkT W z E.key (cmdV n E g x y u))∧slW w.heap.size E.rd g w'∧dkW n w.heap.size E.fn x y u w':=fun j E h1 h2 h3=>by
      have h:=hL j;unfold Left at h;rw [h2] at h;simp only [h3] at h;unfold ValC at h;rw [h1] at h;obtain ⟨t,h4,_,_,h5⟩:=h;rw [q3] at h4
      cases h4
      obtain ⟨g,x,y,u,k1,k2⟩:=h5;obtain ⟨f,c,m1,_⟩:=hJ.maps z hz1 hz2;exact ⟨g,x,y,u,fun W hW=>LkT.keep (kchk_spec (cmdKeys n) 0 j E h1).1 m1 (m1.only hW (by simp)) rfl k1,k2⟩
    intro E hE;simp only [cmdE,List.mem_cons,List.not_mem_nil,or_false] at hE;rcases hE with rfl | rfl | rfl | rfl | rfl | rfl | rfl | rfl | rfl | rfl | rfl | rfl
    · exact ins 7 _ rfl (by kernel_rfl) (by kernel_rfl)
    · exact ins 14 _ rfl (by kernel_rfl) (by kernel_rfl)
    · exact ins 21 _ rfl (by kernel_rfl) (by kernel_rfl)
    · exact ins 28 _ rfl (by kernel_rfl) (by kernel_rfl)
    · exact ins 35 _ rfl (by kernel_rfl) (by kernel_rfl)
    · exact ins 42 _ rfl (by kernel_rfl) (by kernel_rfl)
    · exact ins 49 _ rfl (by kernel_rfl) (by kernel_rfl)
    · exact ins 54 _ rfl (by kernel_rfl) (by kernel_rfl)
    · exact ins 62 _ rfl (by kernel_rfl) (by kernel_rfl)
    · exact ins 70 _ rfl (by kernel_rfl) (by kernel_rfl)
    · exact ins 74 _ rfl (by kernel_rfl) (by kernel_rfl)
    · exact ins 78 _ rfl (by kernel_rfl) (by kernel_rfl)
   have HO:Hid (Only [] w w'):=hJ.ho;have HZ:Hid (w.heap.size≤z):=hz1;obtain ⟨tm,df⟩:=a;obtain rfl:df=[]:=hr.1;clear hL look hJ hz1 hz2 q3
   go_wp2
   go_ret
   have q:tm[2]?=some (.map (some z)):=q2;exact ⟨z,by show Ending.returned (tm.getD 2 undef)=_;simp [q],HZ.out,HC.out,HO.out⟩
end
end Go.Proofs.YtodldddakjmonaaGreatDoor
