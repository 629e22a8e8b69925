import Derived.Test.YtodldddakjmonaaGreatDoorK9
import Derived.Orders
import Derived.Great.BuildSlice
import Derived.Shelf.Abstract
namespace Go.Proofs.YtodldddakjmonaaGreatDoor
section
open Go Go.RowKit Go.Deep Go.Maps
theorem exists_reader (V:List Nat→Value):∃ (R:Value→Option (DataW Unit×List MemPlace)) (val:List Nat→DataW Unit),(∀ i,R (V i)=some (val i,[]))∧∀ v i ps,R v=some (val i,ps)→v=V i:=by
 classical
 have inj:∀ l l':List Nat,(l.map fun n:Nat=>(DataW.lit (.int .i64 (n:Int)):DataW Unit))=l'.map (fun n:Nat => .lit (.int .i64 (n:Int)))→l=l':=by
   intro l
   induction l with
   | nil=>intro l' h;cases l'<;>simp_all
   | cons x l ih =>
     intro l' h
     cases l' with
     | nil=>simp at h
     | cons y l' =>
      simp only [List.map_cons,List.cons.injEq,DataW.lit.injEq,Lit.int.injEq,true_and] at h;rw [Int.ofNat.inj h.1,ih l' h.2]
 refine ⟨fun v=>if h:∃ j,V j=v then some (.agg ((Classical.choose h).map fun n:Nat => .lit (.int .i64 (n:Int))),[]) else none,fun i => .agg ((Classical.choose (⟨i,rfl⟩:∃ j,V j=V i)).map fun n:Nat => .lit (.int .i64 (n:Int))),fun i=>?_,fun v i ps h=>?_⟩
 · have h:∃ j,V j=V i:=⟨i,rfl⟩
   simp only [h,dite_true]
 · simp only at h
   split at h
   · rename_i hv
     have e:Classical.choose hv=Classical.choose (⟨i,rfl⟩:∃ j,V j=V i):=by
      simp only [Option.some.injEq,Prod.mk.injEq,DataW.agg.injEq] at h;exact inj _ _ h.1
     rw [← Classical.choose_spec hv,e,Classical.choose_spec (⟨i,rfl⟩:∃ j,V j=V i)]
   · cases h
def MapV (V:List Nat→Value)(w:World)(b:Nat)(f:List UInt8→Option (List Nat))(n:Nat):Prop :=
 ∃ (R:Value→Option (DataW Unit×List MemPlace)) (val:List Nat→DataW Unit),(∀ i,R (V i)=some (val i,[]))∧(∀ v i ps,R v=some (val i,ps)→v=V i)∧n≤1000∧∃ D,w.ownsMap Tryz.prog 9 R b n D∧Reads skey val D f
def updV (f:List UInt8→Option (List Nat))(s:ByteArray)(i:List Nat):List UInt8→Option (List Nat):=fun k=>if k=s.data.toList then some i else f k
section
variable {V:List Nat→Value}{w w':World}{b n:Nat}{f:List UInt8→Option (List Nat)}{mt E:TypeId}
theorem MapV.new (V:List Nat→Value)(w:World):MapV V (w.alloc (.map #[] 0)) w.heap.size (fun _=>none) 0:=by
 obtain ⟨R,val,h1,h2⟩:=exists_reader V;exact ⟨R,val,h1,h2,by omega,.map [],World.ownsMap_made _ _ _ _,Reads.empty⟩
theorem MapV.only {L:List Nat}(h:MapV V w b f n)(ho:Only L w w')(hb:b∉L):MapV V w' b f n:=by
 obtain ⟨R,val,h1,h2,h3,D,h4,h5⟩:=h;exact ⟨R,val,h1,h2,h3,D,own_only h4 ho hb,h5⟩
theorem MapV.lt (h:MapV V w b f n):b < w.heap.size:=by
 obtain ⟨R,val,h1,h2,h3,D,h4,h5⟩:=h;exact h4.lt
theorem MapV.put (h:MapV V w b f n)(und:Tryz.prog.underlying mt=some (.map 9 E))(hn:n < 1000)(s:ByteArray)(hs:s.size≤1000)(i:List Nat)(v:Value)(hv:v=V i):
  ∃ w',(Instr.mapUpdate mt (.map (some b)) (.string s) v).run Tryz.prog w = .ok () w'∧MapV V w' b (updV f s i) (n+1)∧Only [b] w w'∧w'.heap.size=w.heap.size:=by
 obtain ⟨R,val,h1,h2,h3,D,h4,h5⟩:=h;subst hv;obtain ⟨w',hr,hown,ht⟩:=h4.store lawS und (by unfold maxLen;omega) (WideMaps.keyOf_string_mk Tryz.underlying9 (s:=s) (by unfold maxLen;omega)) (h1 i);refine ⟨w',hr,⟨R,val,h1,h2,by omega,_,hown,h5.put h4.isMap skey_key (fun j e=>by cases e;rfl) (by simp [updV]) (fun j hj=>if_neg hj)⟩,only_turned ht,?_⟩;obtain ⟨es,clock,es',clock',_,rfl⟩:=ht;exact Array.size_setIfInBounds
theorem MapV.look (h:MapV V w b f n)(und:Tryz.prog.underlying mt=some (.map 9 E))(hz:∀ w,(zeroValue E).run Tryz.prog w = .ok (V []) w)(s:ByteArray)(hs:s.size≤1000):
  (Instr.lookup mt (.map (some b)) (.string s) true).run Tryz.prog w = .ok (.tuple #[V ((f s.data.toList).getD []),.bool (f s.data.toList).isSome]) w:=by
 obtain ⟨R,val,h1,h2,h3,D,h4,h5⟩:=h;obtain ⟨v,ps,hr,hv⟩:=h4.look_ok lawS und (hz _) (zd:=val []) (zp:=[]) (h1 []) (WideMaps.keyOf_string_mk Tryz.underlying9 (s:=s) (by unfold maxLen;omega));have e1:=h5.isSome s.data.toList;have e2:=h5.look s.data.toList (val [])
 rw [show (Lit.string s.data.toList)=skey s.data.toList from rfl] at hr hv
 rw [e1] at hr;rw [e2] at hv
 cases hf:f s.data.toList with
 | none =>
  rw [hf] at hv hr;rw [hr,h2 _ _ _ hv];rfl
 | some x =>
  rw [hf] at hv hr;rw [hr,h2 _ _ _ hv];rfl
theorem MapV.fetch (h:MapV V w b f n)(und:Tryz.prog.underlying mt=some (.map 9 E))(hz:∀ w,(zeroValue E).run Tryz.prog w = .ok (V []) w)(s:ByteArray)(hs:s.size≤1000):
  (Instr.lookup mt (.map (some b)) (.string s) false).run Tryz.prog w = .ok (V ((f s.data.toList).getD [])) w:=by
 obtain ⟨R,val,h1,h2,h3,D,h4,h5⟩:=h;obtain ⟨v,ps,hr,hv⟩:=h4.lookup lawS und (hz _) (zd:=val []) (zp:=[]) (h1 []) (WideMaps.keyOf_string_mk Tryz.underlying9 (s:=s) (by unfold maxLen;omega));have e2:=h5.look s.data.toList (val [])
 rw [show (Lit.string s.data.toList)=skey s.data.toList from rfl] at hv
 rw [e2] at hv
 cases hf:f s.data.toList with
 | none =>
  rw [hf] at hv;rw [hr,h2 _ _ _ hv];rfl
 | some x =>
  rw [hf] at hv;rw [hr,h2 _ _ _ hv];rfl
end
def toCome (listed:Array Bool):Nat→Nat
 | 0=>0
 | n+1=>toCome listed n+if listed.getD n true then 0 else 1
theorem toCome_zero {listed:Array Bool}:∀ {n:Nat},toCome listed n=0→∀ j,j < n→listed.getD j true=true
 | 0,_,j,hj=>absurd hj (Nat.not_lt_zero j)
 | n+1,h,j,hj=>by
  unfold toCome at h
  have h1:toCome listed n=0:=by omega
  by_cases e:j=n
  · subst e
    cases hb:listed.getD j true
    · rw [hb] at h;simp at h
    · rfl
  · exact toCome_zero h1 j (by omega)
theorem toCome_set {listed:Array Bool}{i:Nat}(hi:listed.getD i true=false):∀ {n:Nat},i < n→toCome (listed.setIfInBounds i true) n+1=toCome listed n∧True
 | 0,h=>absurd h (Nat.not_lt_zero i)
 | n+1,h=>by
  have hlt:i < listed.size:=by
    rcases Nat.lt_or_ge i listed.size with h' | h'
    · exact h'
    · simp [Array.getD,Nat.not_lt.2 h'] at hi
  by_cases e:i=n
  · subst e
    have same:∀ m,m≤i→toCome (listed.setIfInBounds i true) m=toCome listed m:=by
      intro m
      induction m with
      | zero=>intro _;rfl
      | succ m ih =>
       intro hm;unfold toCome;rw [ih (by omega),getD_set_ne true (by omega:i≠m)]
    unfold toCome;rw [same i (Nat.le_refl _),hi]
    have:(listed.setIfInBounds i true).getD i true=true:=by simp [Array.getD,hlt]
    rw [this];simp
  · have h2:=(toCome_set hi (show i < n by omega)).1
    unfold toCome;rw [getD_set_ne true e];exact ⟨by omega,trivial⟩
def ahead (md:Region.Mode)(i:Nat):List Oper→Bool
 | []=>true
 | o::l=>(o.after.all fun e=>!Region.binds md e || decide (e.on < i))&&ahead md (i+1) l
theorem ahead_get {md:Region.Mode}:∀ {l:List Oper} {i:Nat},ahead md i l=true→∀ {j:Nat} {o:Oper},l[j]?=some o→∀ e∈o.after,Region.binds md e=true→e.on < i+j
 | [],_,_,j,o,h=>by simp at h
 | x::l,i,ha,j,o,h=>by
  unfold ahead at ha;rw [Bool.and_eq_true] at ha;intro e he hb
  cases j with
  | zero =>
   obtain rfl:x=o:=by simpa using h
   have h1:=Array.all_eq_true_iff_forall_mem.1 ha.1 e he;rw [hb] at h1
   have:e.on < i:=by simpa using h1
   omega
  | succ j =>
   have:=ahead_get ha.2 (show l[j]?=some o by simpa using h) e he hb;omega
section
variable {P:Program}{Q:Exit→Act→World→Prop}{md:Region.Mode}{l:List Oper}(s0:Tmp)(J:Nat→World→Prop)(R:Nat→World→World→Prop)(Val:Nat→Option Value→Value→World→Prop)
def Left (Val:Nat→Option Value→Value→World→Prop)(l:List Oper)(s0:Tmp)(j:Nat)(a:Act)(w:World):Prop :=
 match l[j]? with
 | none=>True
 | some o=>match o.dst with
  | none=>Val j a.tmps[s0]? undef w
  | some d=>∃ v,a.tmps[d]?=some v∧Val j a.tmps[s0]? v w
def Rest (l:List Oper)(a0 a:Act):Prop:=a.defers=a0.defers∧a.tmps.size=a0.tmps.size∧∀ t,(∀ o∈l,o.dst≠some t)→a.tmps[t]?=a0.tmps[t]?
def Job (P:Program)(Q:Exit→Act→World→Prop)(md:Region.Mode)(l:List Oper)(a0:Act)(i:Nat)(o:Oper):Prop :=
 ∀ n a w,Rest l a0 a→J (n+1) w→(∀ j,(o.after.toList.any fun e=>Region.binds md e&&e.on==j)=true→Left Val l s0 j a w) →
  ∀ K:Act→World→Prop,(∀ v w',J n w'→R i w w'→Val i ((a.put o.dst v).tmps[s0]?) (match o.dst with | none=>undef | some _=>v) w'→K (a.put o.dst v) w') →
   if Region.wanted o (yielded l.toArray a.tmps)=true then Oper.wp P o a w K Q else K (a.put o.dst undef) w
def Jobs (P:Program)(Q:Exit→Act→World→Prop)(md:Region.Mode)(l:List Oper)(a0:Act):Nat→List Oper→Prop
 | _,[]=>True
 | i,o::r=>Job s0 J R Val P Q md l a0 i o∧Jobs P Q md l a0 (i+1) r
theorem Jobs.get {a0:Act}:∀ {r:List Oper} {i:Nat},Jobs s0 J R Val P Q md l a0 i r→∀ {j:Nat} {o:Oper},r[j]?=some o→Job s0 J R Val P Q md l a0 (i+j) o
 | [],_,_,j,o,h=>by simp at h
 | x::r,i,hj,j,o,h=>by
  cases j with
  | zero =>
   obtain rfl:x=o:=by simpa using h
   exact hj.1
  | succ j =>
   have:=Jobs.get hj.2 (show r[j]?=some o by simpa using h);rw [show i+(j+1)=i+1+j by omega];exact this
def apartD:List Oper→Bool
 | []=>true
 | o::l=>(l.all fun x=>match o.dst,x.dst with | some d,some e=>d != e | _,_=>true)&&apartD l
theorem apartD_get:∀ {l:List Oper},apartD l=true→∀ {i j:Nat} {x y:Oper},i < j→l[i]?=some x→l[j]?=some y→∀ d,x.dst=some d→y.dst≠some d
 | [],_,i,j,x,y,_,h,_=>by simp at h
 | z::l,ha,i,j,x,y,hij,hx,hy=>by
  unfold apartD at ha;rw [Bool.and_eq_true] at ha;intro d hd hy2
  cases j with
  | zero=>omega
  | succ j =>
   cases i with
   | zero =>
    obtain rfl:z=x:=by simpa using hx
    have:=List.all_eq_true.1 ha.1 y (List.mem_of_getElem? (show l[j]?=some y by simpa using hy));rw [hd,hy2] at this;simp at this
   | succ i=>exact apartD_get ha.2 (show i < j by omega) (show l[i]?=some x by simpa using hx) (show l[j]?=some y by simpa using hy) d hd hy2
theorem apartD_ne {l:List Oper}(ha:apartD l=true){i j:Nat}{x y:Oper}(hij:i≠j)(hx:l[i]?=some x)(hy:l[j]?=some y)(d:Tmp)(hd:x.dst=some d):y.dst≠some d:=by
 rcases Nat.lt_or_gt_of_ne hij with h | h
 · exact apartD_get ha h hx hy d hd
 · exact fun e=>apartD_get ha h hy hx d e hd
theorem wpAny_jobs (a0:Act)(i0:Nat)(o0:Oper)(h0:l[i0]?=some o0)(hd0:o0.dst=some s0)(hah:ahead md 0 l=true)(hap:apartD l=true)(hin:∀ o∈l,∀ d,o.dst=some d→d < a0.tmps.size)
  (hR:∀ i j m v w w',i≠j→Val j m v w→R i w w'→Val j m v w')
  (hm:∀ j o m m' v w,l[j]?=some o→j≠i0→(o.after.toList.any fun e=>Region.binds md e&&e.on==i0)=false→Val j m v w→Val j m' v w)
  (hjobs:Jobs s0 J R Val P Q md l a0 0 l)
  (hend:∀ a w,Rest l a0 a→J 0 w→(∀ j,Left Val l s0 j a w)→Q .normal a w) :
  ∀ (fuel:Nat) (listed:Array Bool) (a:Act) (w:World),listed.size=l.length→toCome listed l.length=fuel→Rest l a0 a→J fuel w →
    (∀ j o,l[j]?=some o→listed.getD j true=true→Left Val l s0 j a w∧∀ e∈o.after,Region.binds md e=true→listed.getD e.on true=true) →
    wpAny P md l.toArray Q fuel listed a w:=by
 have fin:∀ (listed:Array Bool) (a:Act) (w:World),(∀ j,j < l.length→listed.getD j true=true)→Rest l a0 a→J 0 w→(∀ j o,l[j]?=some o→listed.getD j true=true→Left Val l s0 j a w∧∀ e∈o.after,Region.binds md e=true→listed.getD e.on true=true)→Q .normal a w:=by
  intro listed a w h1 h2 h3 h4;refine hend a w h2 h3 (fun j=>?_)
  cases hj:l[j]? with
  | none=>unfold Left;rw [hj];trivial
  | some o=>exact (h4 j o hj (h1 j (List.getElem?_eq_some_iff.1 hj).1)).1
 intro fuel
 induction fuel with
 | zero =>
  intro listed a w hs hc hr hJ hl;have hall:=toCome_zero hc;refine ⟨List.eq_nil_iff_forall_not_mem.2 fun i hi=>?_,fin listed a w hall hr hJ hl⟩;obtain ⟨h1,o,h2,_⟩:=mem_ready.1 hi
  have h3:l[i]?=some o:=by simpa using h2
  rw [hall i (List.getElem?_eq_some_iff.1 h3).1] at h1
  cases h1
 | succ fuel ih =>
  intro listed a w hs hc hr hJ hl;refine ⟨fun hn=>?_,fun i hi=>?_⟩
  ·
    exfalso
    have hex:∃ i,i < l.length∧listed.getD i true=false:=by
      by_cases h:∃ i,i < l.length∧listed.getD i true=false
      · exact h
      · exfalso
        have hall:∀ m,m≤l.length→toCome listed m=0:=by
          intro m
          induction m with
          | zero=>intro _;rfl
          | succ m ihm =>
            intro hm;unfold toCome;rw [ihm (by omega)]
            cases hb:listed.getD m true
            · exact absurd ⟨m,by omega,hb⟩ h
            · rfl
        rw [hall _ (Nat.le_refl _)] at hc;omega
    have hmin:∀ m,∀ i,i≤m→i < l.length→listed.getD i true=false→∃ k,k < l.length∧listed.getD k true=false∧∀ j,j < k→listed.getD j true=true:=by
      intro m
      induction m with
      | zero=>intro i h1 h2 h3;exact ⟨i,h2,h3,fun j hj=>by omega⟩
      | succ m ihm =>
        intro i h1 h2 h3
        by_cases h:∃ j,j < i∧listed.getD j true=false
        · obtain ⟨j,h4,h5⟩:=h
          exact ihm j (by omega) (by omega) h5
        · refine ⟨i,h2,h3,fun j hj=>?_⟩
          cases hb:listed.getD j true
          · exact absurd ⟨j,hj,hb⟩ h
          · rfl
    obtain ⟨i,h1,h2⟩:=hex;obtain ⟨k,h3,h4,h5⟩:=hmin i i (Nat.le_refl _) h1 h2
    have hk:k∈Region.ready md l.toArray listed:=by
      refine mem_ready.2 ⟨h4,l[k],by simp [h3],fun e he hb=>?_⟩;have h6:=ahead_get hah (List.getElem?_eq_getElem h3) e he hb;have h7:=h5 e.on (by omega)
      have h8:e.on < listed.size:=by omega
      simp [Array.getD,h8] at h7 ⊢;exact h7
    rw [hn] at hk
    cases hk
  · obtain ⟨h1,o,h2,h3⟩:=mem_ready.1 hi
    have ho:l[i]?=some o:=by simpa using h2
    have hil:=(List.getElem?_eq_some_iff.1 ho).1
    have hdep:∀ e∈o.after,Region.binds md e=true→listed.getD e.on true=true:=fun e he hb=>by
      have h4:=h3 e he hb;have h5:=ahead_get hah ho e he hb
      have h8:e.on < listed.size:=by omega
      simp [Array.getD,h8] at h4 ⊢;exact h4
    refine wpOp_step h2 fun K hK=>?_;have hjob:=Jobs.get s0 J R Val hjobs ho;rw [Nat.zero_add] at hjob;refine hjob fuel a w hr hJ (fun j hj=>?_) K (fun v w' hJ' hR' hV=>hK _ _ ?_)
    · obtain ⟨e,he,hb⟩:=List.any_eq_true.1 hj
      have he:e∈o.after:=Array.mem_toList_iff.1 he;rw [Bool.and_eq_true] at hb
      obtain rfl:e.on=j:=by simpa using hb.2
      have h5:=ahead_get hah ho e he hb.1;exact (hl e.on _ (List.getElem?_eq_getElem (show e.on < l.length by omega)) (hdep e he hb.1)).1
    · have hput:∀ d,o.dst=some d→d < a.tmps.size:=fun d hd=>by rw [hr.2.1];exact hin o (List.mem_of_getElem? ho) d hd
      have hoth:∀ d,o.dst≠some d→(a.put o.dst v).tmps[d]?=a.tmps[d]?:=fun d hd=>by
        cases hdo:o.dst with
        | none=>rfl
        | some t =>
          have hne:t≠d:=fun e=>hd (by rw [hdo,e]);simp [Act.put,Array.getElem?_setIfInBounds_ne hne]
      have hown:∀ d,o.dst=some d→(a.put o.dst v).tmps[d]?=some v:=fun d hd=>by
        have:=hput d hd;rw [hd];simp [Act.put,this]
      refine ih _ _ _ (by simpa using hs) ?_ ⟨?_,?_,fun t ht=>?_⟩ hJ' (fun j oj hoj hj=>?_)
      · have:=(toCome_set h1 hil).1
        omega
      · have:=hr.1
        cases hdo:o.dst<;>exact this
      · have:=hr.2.1
        cases hdo:o.dst with
        | none=>exact this
        | some d=>simpa [Act.put] using this
      · rw [hoth t (ht o (List.mem_of_getElem? ho))]
        exact hr.2.2 t ht
      · have hset:∀ k,listed.getD k true=true→(listed.setIfInBounds i true).getD k true=true:=fun k hk=>by
          by_cases e:i=k
          · subst e
            rw [hk] at h1
            cases h1
          · rw [getD_set_ne true e]
            exact hk
        by_cases e:j=i
        · subst e
          rw [ho] at hoj
          cases hoj
          refine ⟨?_,fun e he hb=>hset _ (hdep e he hb)⟩;unfold Left;rw [ho]
          cases hdo:o.dst with
          | none =>
            rw [hdo] at hV;simp only [hdo];exact hV
          | some d =>
            have h9:=hown d hdo;rw [hdo] at hV h9;simp only [hdo];exact ⟨v,h9,hV⟩
        · rw [getD_set_ne true (fun q=>e q.symm)] at hj
          obtain ⟨hL,hD⟩:=hl j oj hoj hj;refine ⟨?_,fun e he hb=>hset _ (hD e he hb)⟩
          have hval:∀ u,Val j a.tmps[s0]? u w→Val j (a.put o.dst v).tmps[s0]? u w':=fun u hu=>by
            have hu':Val j (a.put o.dst v).tmps[s0]? u w:=by
              by_cases ei:i=i0
              · subst ei
                refine hm j oj _ _ u w hoj e ?_ hu
                cases hb:(oj.after.toList.any fun e=>Region.binds md e&&e.on==i) with
                | false=>rfl
                | true =>
                 obtain ⟨e',he',hb'⟩:=List.any_eq_true.1 hb;have he':e'∈oj.after:=Array.mem_toList_iff.1 he';rw [Bool.and_eq_true] at hb';have hd:=hD e' he' hb'.1;rw [show e'.on=i by simpa using hb'.2,h1] at hd
                 cases hd
              · rw [hoth s0 (fun q=>apartD_ne hap ei ho h0 s0 q hd0)]
                exact hu
            exact hR i j _ u w w' (fun q=>e q.symm) hu' hR'
          unfold Left at hL ⊢;rw [hoj] at hL ⊢
          cases hdj:oj.dst with
          | none =>
            simp only [hdj] at hL ⊢;exact hval _ hL
          | some d =>
            simp only [hdj] at hL ⊢;obtain ⟨u,hu1,hu2⟩:=hL;refine ⟨u,?_,hval u hu2⟩;rw [hoth d (fun q=>apartD_ne hap (fun q=>e q.symm) ho hoj d q hdj)];exact hu1
theorem wp_region_jobs {id:Nat}{w:World}(hmx:P.follows .mixedOrders=true)(a0:Act)(i0:Nat)(o0:Oper)(h0:l[i0]?=some o0)(hd0:o0.dst=some s0)(hah:ahead .any 0 l=true)(hap:apartD l=true)(hin:∀ o∈l,∀ d,o.dst=some d→d < a0.tmps.size)
   (hR:∀ i j m v w w',i≠j→Val j m v w→R i w w'→Val j m v w')
   (hm:∀ j o m m' v w,l[j]?=some o→j≠i0→(o.after.toList.any fun e=>Region.binds .any e&&e.on==i0)=false→Val j m v w→Val j m' v w)
   (hjobs:Jobs s0 J R Val P Q .any l a0 0 l)
   (hJ:J l.length w.drew)
   (hend:∀ a w,Rest l a0 a→J 0 w→(∀ j,Left Val l s0 j a w)→Q .normal a w):(Code.region id l.toArray true).wp P Q a0 w:=by
 refine wp_region_any hmx ?_
 have hf:∀ j,j < l.length→(Array.replicate l.toArray.size false).getD j true=false:=fun j hj=>by simp [Array.getD,hj]
 refine wpAny_jobs s0 J R Val a0 i0 o0 h0 hd0 hah hap hin hR hm hjobs hend _ _ a0 _ (by simp) ?_ ⟨rfl,rfl,fun _ _=>rfl⟩ (by simpa using hJ) (fun j o hj hb=>?_)
 · have:∀ m,m≤l.length→toCome (Array.replicate l.toArray.size false) m=m:=by
    intro m
    induction m with
    | zero=>intro _;rfl
    | succ m ih =>
     intro hm;unfold toCome;rw [ih (by omega),hf m (by omega)];rfl
   simpa using this _ (Nat.le_refl _)
 · rw [hf j (List.getElem?_eq_some_iff.1 hj).1] at hb
   cases hb
theorem Jobs.of {a0:Act}(h:∀ i o,l[i]?=some o→Job s0 J R Val P Q md l a0 i o):Jobs s0 J R Val P Q md l a0 0 l:=by
 have go:∀ (r:List Oper) (i:Nat),(∀ j o,r[j]?=some o→Job s0 J R Val P Q md l a0 (i+j) o)→Jobs s0 J R Val P Q md l a0 i r:=by
  intro r
  induction r with
  | nil=>intro i _;trivial
  | cons x r ih =>
   intro i h;refine ⟨h 0 x rfl,ih (i+1) fun j o hj=>?_⟩;rw [show i+1+j=i+(j+1) by omega];exact h (j+1) o (by simpa using hj)
 exact go l 0 (fun j o hj=>by rw [Nat.zero_add];exact h j o hj)
end
def BlkC (w:World)(x:Nat)(cs:Array Value)(t:TypeId):Prop:=w.heap[x]?=some (.cells cs t (0,0))
theorem BlkC.only {w w':World}{x:Nat}{t:TypeId}{cs:Array Value}{L:List Nat}(h:BlkC w x cs t)(ho:Only L w w')(hx:x∉L):BlkC w' x cs t:=(ho.block x (Array.getElem?_eq_some_iff.1 h).1 hx).trans h
theorem BlkC.new (w:World)(t:TypeId)(cs:Array Value):BlkC (w.alloc (.cells cs t)) w.heap.size cs t:=(show (w.heap.push _)[w.heap.size]?=_ by simp)
theorem BlkC.cell {w:World}{x:Nat}{t:TypeId}{cs:Array Value}(h:BlkC w x cs t)(i:Nat):w.cell? ⟨x,i,none⟩=cs[i]?:=by
 simp [World.cell?,show w.heap[x]?=_ from h]
theorem BlkC.lt {w:World}{x:Nat}{t:TypeId}{cs:Array Value}(h:BlkC w x cs t):x < w.heap.size:=(Array.getElem?_eq_some_iff.1 h).1
theorem pasks_any (n z:Nat)(o s:Nat)(w:World)(hz:w.heap.size=z):Calls Tryz.prog 32 #[.pointer (some ⟨n,0,none⟩),.func (.func o) #[] #[],.func (.func s) #[] #[]] w fun e w'=>e = .returned (.func (.func 65) #[] #[.pointer (some ⟨z+1,0,none⟩),.pointer (some ⟨z,0,none⟩),.pointer (some ⟨z+2,0,none⟩)])∧w'=((w.alloc (.cells #[.pointer (some ⟨n,0,none⟩)] 32)).alloc (.cells #[.func (.func o) #[] #[]] 106)).alloc (.cells #[.func (.func s) #[] #[]] 55):=by
 have hmf:∀ (fn:Fn) (first cap:Array Value) (w:World),(Instr.makeFunc fn first cap).run Tryz.prog w = .ok (.func fn first cap) w:=fun _ _ _ _=>rfl
 subst hz
 go_enter Tryz.func32,Tryz.ntmps32
 go_wp2
 go_ret
 exact ⟨by simp,rfl⟩
theorem pokOf_any (fn:Fn)(x y:Array Value)(z:Nat)(w:World)(hz:w.heap.size=z):Calls Tryz.prog 49 #[.func fn x y] w fun e w'=>e = .returned (.func (.func 80) #[] #[.pointer (some ⟨z,0,none⟩)])∧w'=w.alloc (.cells #[.func fn x y] 108):=by
 have hmf:∀ (fn:Fn) (first cap:Array Value) (w:World),(Instr.makeFunc fn first cap).run Tryz.prog w = .ok (.func fn first cap) w:=fun _ _ _ _=>rfl
 subst hz
 go_enter Tryz.func49,Tryz.ntmps49
 go_wp2
 go_ret
 exact ⟨by simp,rfl⟩
theorem undCmd:Tryz.prog.underlying 70=some (.map 9 68):=by kernel_rfl
theorem infoCmd:(Tryz.prog.info? 68).map (fun i=>(i.zero,i.size))=some (some (.agg #[.slice none 0 0,.nilFunc]),2):=by kernel_rfl
theorem zeroCmd (w:World):(zeroValue 68).run Tryz.prog w = .ok (.agg #[.slice none 0 0,.nilFunc]) w:=(zero_of_info infoCmd).1 w
theorem undRd:Tryz.prog.underlying 65=some (.slice 109):=by kernel_rfl
theorem infoRd:(Tryz.prog.info? 109).map (fun i=>(i.zero,i.size))=some (some .nilFunc,1):=by kernel_rfl
theorem rdSlice (W:World)(len:Nat)(parts:Array (Nat×Value))(cells:Array Value)(h0:0 < len)(h1:len≤4)(h:Instr.fill (fun i=>some (i*1,1)) ((Array.range (len*1)).map (Value.nilFunc.cells[· % Value.nilFunc.cells.size]!)) parts.toList=some cells):
  (Instr.buildSlice 65 len parts).run Tryz.prog W = .ok (.slice (some ⟨W.heap.size,0,none⟩) len len) (W.alloc (.cells cells 109)):=by
 obtain ⟨i,hi,e⟩:=Option.map_eq_some_iff.1 infoRd
 obtain ⟨hz,hs⟩:i.zero=some .nilFunc∧i.size=1:=by simpa using e
 exact run_buildSlice W _ _ len parts cells i .nilFunc undRd hi hz (by rw [hs];omega) (by rw [hs];omega) (by rw [hs];exact h)
inductive Dk where
 | asks (o s:Nat)
 | okof (f:Nat)
 | bound (f:Nat)
structure EntC where
 key:ByteArray
 rd:List Value
 fn:Dk
abbrev ptrV (b:Nat):Value := .pointer (some ⟨b,0,none⟩)
def dkV (n:Nat)(d:Dk)(x y z:Nat):Value:=match d with
 | .asks _ _ => .func (.func 65) #[] #[ptrV y,ptrV x,ptrV z]
 | .okof _ => .func (.func 80) #[] #[ptrV x]
 | .bound f => .func (.func f) #[ptrV n] #[]
def dkW (n base:Nat)(d:Dk)(x y z:Nat)(w:World):Prop:=match d with
 | .asks o s=>(base≤x∧BlkC w x #[ptrV n] 32)∧(base≤y∧BlkC w y #[.func (.func o) #[] #[]] 106)∧base≤z∧BlkC w z #[.func (.func s) #[] #[]] 55
 | .okof f=>base≤x∧BlkC w x #[.func (.func f) #[ptrV n] #[]] 108
 | .bound _=>True
def slV (l:List Value)(g:Nat):Value:=match l with
 | [] => .slice none 0 0
 | l => .slice (some ⟨g,0,none⟩) l.length l.length
def slW (base:Nat)(l:List Value)(g:Nat)(w:World):Prop:=l=[]∨base≤g∧BlkC w g l.toArray 109
def cmdV (n:Nat)(E:EntC)(g x y z:Nat):Value := .agg #[slV E.rd g,dkV n E.fn x y z]
def zeroV:Value := .agg #[.slice none 0 0,.nilFunc]
inductive Kd where
 | val (v:Value)
 | sl (l:List Value)
 | dk (d:Dk)
 | bld (E:EntC)
 | ins (E:EntC)
 | mp
 | res
def IsMapB (w:World)(z:Nat):Prop:=∃ es clock,w.heap[z]?=some (.map es clock)
def LkT (w:World)(z:Nat)(s:ByteArray)(v:Value):Prop:=(Instr.lookup 70 (.map (some z)) (.string s) true).run Tryz.prog w = .ok (.tuple #[v,.bool true]) w
def Kd.P (n base:Nat)(k:Kd)(m:Option Value)(v:Value)(w:World):Prop:=match k with
 | .val u=>v=u
 | .sl l=>∃ g,v=slV l g∧slW base l g w
 | .dk d=>∃ x y z,v=dkV n d x y z∧dkW n base d x y z w
 | .bld E=>∃ g x y z,v=cmdV n E g x y z∧slW base E.rd g w∧dkW n base E.fn x y z w
 | .ins E=>∃ t,m=some (.map (some t))∧base≤t∧IsMapB w t∧∃ g x y z,LkT w t E.key (cmdV n E g x y z)∧slW base E.rd g w∧dkW n base E.fn x y z w
 | .mp=>∃ t,v = .map (some t)∧base≤t∧IsMapB w t
 | .res=>m=some v
section
variable (n base:Nat)(ents:List EntC)(kinds:List Kd)
def ValC (j:Nat)(m:Option Value)(v:Value)(w:World):Prop:=match kinds[j]? with
 | none=>True
 | some k=>k.P n base m v w
def keyAt (i:Nat):ByteArray:=match kinds[i]? with
 | some (.ins E)=>E.key
 | _=>⟨#[]⟩
def decV:List Nat→Value
 | [e,g,x,y,z]=>match ents[e]? with
  | some E=>cmdV n E g x y z
  | none=>zeroV
 | _=>zeroV
structure JC (w0:World)(k:Nat)(w:World):Prop where
 ho:Only [] w0 w
 le:k≤900
 maps:∀ z,w0.heap.size≤z→IsMapB w z→∃ f c,MapV (decV n ents) w z f c∧c+k≤900
structure RC (i:Nat)(w w':World):Prop where
 cells:∀ b cs ty,BlkC w b cs ty→BlkC w' b cs ty
 maps:∀ z,base≤z→IsMapB w z→IsMapB w' z∧∀ (s:ByteArray) v,s.size≤1000→s≠keyAt kinds i→LkT w z s v→LkT w' z s v
end
section
variable {n base:Nat}{ents:List EntC}{kinds:List Kd}{w0 w w':World}
theorem slW.keep {l:List Value}{g:Nat}(hc:∀ b cs ty,BlkC w b cs ty→BlkC w' b cs ty)(h:slW base l g w):slW base l g w':=h.imp id (fun h=>⟨h.1,hc _ _ _ h.2⟩)
theorem dkW.keep {d:Dk}{x y z:Nat}(hc:∀ b cs ty,BlkC w b cs ty→BlkC w' b cs ty)(h:dkW n base d x y z w):dkW n base d x y z w':=by
 cases d with
 | asks o s=>exact ⟨⟨h.1.1,hc _ _ _ h.1.2⟩,⟨h.2.1.1,hc _ _ _ h.2.1.2⟩,h.2.2.1,hc _ _ _ h.2.2.2⟩
 | okof f=>exact ⟨h.1,hc _ _ _ h.2⟩
 | bound f=>trivial
theorem ValC.keep (hk:∀ (i j:Nat) (E:EntC),kinds[j]?=some (.ins E)→E.key.size≤1000∧(keyAt kinds i=E.key→i=j))(i j:Nat)(m:Option Value)(v:Value)(hij:i≠j)(h:ValC n base kinds j m v w)(hr:RC base kinds i w w'):ValC n base kinds j m v w':=by
 unfold ValC at h ⊢
 cases hj:kinds[j]? with
 | none=>trivial
 | some k =>
  rw [hj] at h
  cases k with
  | val u=>exact h
  | sl l =>
   obtain ⟨g,h1,h2⟩:=h;exact ⟨g,h1,h2.keep hr.cells⟩
  | dk d =>
   obtain ⟨x,y,z,h1,h2⟩:=h;exact ⟨x,y,z,h1,h2.keep hr.cells⟩
  | bld E =>
   obtain ⟨g,x,y,z,h1,h2,h3⟩:=h;exact ⟨g,x,y,z,h1,h2.keep hr.cells,h3.keep hr.cells⟩
  | ins E =>
   obtain ⟨t,h1,h2,h3,g,x,y,z,h4,h5,h6⟩:=h;obtain ⟨h7,h8⟩:=hr.maps t h2 h3;obtain ⟨k1,k2⟩:=hk i j E hj;exact ⟨t,h1,h2,h7,g,x,y,z,h8 _ _ k1 (fun e=>hij (k2 e.symm)) h4,h5.keep hr.cells,h6.keep hr.cells⟩
  | mp =>
   obtain ⟨t,h1,h2,h3⟩:=h;exact ⟨t,h1,h2,(hr.maps t h2 h3).1⟩
  | res=>exact h
theorem MapV.isMap {V:List Nat→Value}{b c:Nat}{f:List UInt8→Option (List Nat)}(h:MapV V w b f c):IsMapB w b:=by
 obtain ⟨R,val,h1,h2,h3,D,⟨es,clock,hb,_⟩,h5⟩:=h;exact ⟨es,clock,hb⟩
theorem LkT.keep {z c c':Nat}{f f':List UInt8→Option (List Nat)}{s:ByteArray}{v:Value}(hs:s.size≤1000)(h1:MapV (decV n ents) w z f c)(h2:MapV (decV n ents) w' z f' c')(hf:f' s.data.toList=f s.data.toList)(h:LkT w z s v):LkT w' z s v:=by
 have e1:=h1.look undCmd (fun w=>zeroCmd w) s hs;have e2:=h2.look undCmd (fun w=>zeroCmd w) s hs;unfold LkT at h ⊢;rw [hf] at e2;rw [e1] at h;simp only [Result.ok.injEq,Value.tuple.injEq,Array.mk.injEq,List.cons.injEq,and_true,Value.bool.injEq] at h;rw [e2,h.1,h.2]
theorem newMap_old {w w':World}{o:Array Value}{t:TypeId}{z:Nat}(hw:w'=w.alloc (.cells o t))(h:IsMapB w' z):IsMapB w z:=by
 subst hw;obtain ⟨es,clock,h⟩:=h;have h':(w.heap.push (.cells o t))[z]?=some (.map es clock):=h;rw [Array.getElem?_push] at h'
 split at h'
 · cases h'
 · exact ⟨es,clock,h'⟩
structure GrowC (w w':World):Prop where
 ho:Only [] w w'
 maps:∀ z,IsMapB w' z→IsMapB w z
theorem GrowC.refl (w:World):GrowC w w:=⟨Only.refl [] w,fun _ h=>h⟩
theorem GrowC.alloc (h:GrowC w w')(o:Array Value)(t:TypeId):GrowC w (w'.alloc (.cells o t)):=⟨h.ho.alloc _,fun z hz=>h.maps z (newMap_old rfl hz)⟩
theorem IsMapB.only {z:Nat}(h:IsMapB w z)(ho:Only [] w w'):IsMapB w' z:=by
 obtain ⟨es,clock,h⟩:=h;exact ⟨es,clock,(ho.block z (Array.getElem?_eq_some_iff.1 h).1 (by simp)).trans h⟩
theorem JC.grow {k:Nat}(i:Nat)(hJ:JC n ents w0 (k+1) w)(hb:base=w0.heap.size)(h:GrowC w w'):JC n ents w0 k w'∧RC base kinds i w w':=by
 subst hb;refine ⟨⟨hJ.ho.trans h.ho (fun _ hk=>by cases hk),by have:=hJ.le;omega,fun z hz hm=>?_⟩,⟨fun b cs ty hb=>hb.only h.ho (by simp),fun z hz hm=>⟨hm.only h.ho,fun s v hs _ hl=>?_⟩⟩⟩
 · obtain ⟨f,c,h1,h2⟩:=hJ.maps z hz (h.maps z hm)
   exact ⟨f,c,h1.only h.ho (by simp),by omega⟩
 · obtain ⟨f,c,h1,h2⟩:=hJ.maps z hz hm
   exact LkT.keep hs h1 (h1.only h.ho (by simp)) rfl hl
theorem JC.mkMap {k:Nat}(i:Nat)(hJ:JC n ents w0 (k+1) w)(hb:base=w0.heap.size):JC n ents w0 k (w.alloc (.map #[] 0))∧RC base kinds i w (w.alloc (.map #[] 0))∧base≤w.heap.size∧IsMapB (w.alloc (.map #[] 0)) w.heap.size:=by
 subst hb;have ho:Only [] w (w.alloc (.map #[] 0)):=(Only.refl [] w).alloc _;refine ⟨⟨hJ.ho.trans ho (fun _ hk=>by cases hk),by have:=hJ.le;omega,fun z hz hm=>?_⟩,⟨fun b cs ty hb=>hb.only ho (by simp),fun z hz hm=>⟨hm.only ho,fun s v hs _ hl=>?_⟩⟩,hJ.ho.size,(MapV.new (decV n ents) w).isMap⟩
 · by_cases e:z=w.heap.size
   · subst e
     exact ⟨_,0,MapV.new _ w,by have:=hJ.le;omega⟩
   · obtain ⟨es,clock,hm⟩:=hm
     have h':(w.heap.push (.map #[] 0))[z]?=some (.map es clock):=hm;rw [Array.getElem?_push,if_neg e] at h';obtain ⟨f,c,h1,h2⟩:=hJ.maps z hz ⟨es,clock,h'⟩;exact ⟨f,c,h1.only ho (by simp),by omega⟩
 · obtain ⟨f,c,h1,h2⟩:=hJ.maps z hz hm
   exact LkT.keep hs h1 (h1.only ho (by simp)) rfl hl
theorem BlkC.notMap {z:Nat}{cs:Array Value}{ty:TypeId}(h:BlkC w z cs ty):¬ IsMapB w z:=fun ⟨es,clock,h'⟩=>by
 have h2:w.heap[z]?=_:=h;rw [h2] at h'
 cases h'
theorem JC.put {k t:Nat}(i:Nat)(hJ:JC n ents w0 (k+1) w)(hb:base=w0.heap.size)(ht:base≤t)(hm:IsMapB w t)(e:Nat)(E:EntC)(he:ents[e]?=some E)(hk:keyAt kinds i=E.key)(hs:E.key.size≤1000)(g x y z:Nat):
   ∃ w',(Instr.mapUpdate 70 (.map (some t)) (.string E.key) (cmdV n E g x y z)).run Tryz.prog w = .ok () w'∧JC n ents w0 k w'∧RC base kinds i w w'∧IsMapB w' t∧LkT w' t E.key (cmdV n E g x y z):=by
 subst hb;obtain ⟨f,c,h1,h2⟩:=hJ.maps t ht hm;obtain ⟨w',hr,h3,ho,hz⟩:=h1.put undCmd (by omega) E.key hs [e,g,x,y,z] (cmdV n E g x y z) (by simp [decV,he]);have hlt:=h1.lt
 have hback:∀ u,u≠t→IsMapB w' u→IsMapB w u:=fun u hu ⟨es,clock,h⟩=>by
   have hul:u < w.heap.size:=by rw [← hz];exact (Array.getElem?_eq_some_iff.1 h).1
   exact ⟨es,clock,(ho.block u hul (by simpa using hu)).symm.trans h⟩
 refine ⟨w',hr,⟨hJ.ho.trans ho (fun j hj=>by rw [List.mem_singleton.1 hj];exact Or.inr ht),by have:=hJ.le;omega,fun u hu hm'=>?_⟩,⟨fun b cs ty hb=>hb.only ho (fun hx=>?_),fun u hu hm'=>⟨?_,fun s v hs' hne hl=>?_⟩⟩,h3.isMap,?_⟩
 · by_cases e1:u=t
   · subst e1
     exact ⟨_,c+1,h3,by omega⟩
   · obtain ⟨f',c',k1,k2⟩:=hJ.maps u hu (hback u e1 hm')
     exact ⟨f',c',k1.only ho (by simpa using e1),by omega⟩
 · rw [List.mem_singleton.1 hx] at hb
   exact hb.notMap hm
 · by_cases e1:u=t
   · subst e1
     exact h3.isMap
   · obtain ⟨es,clock,h⟩:=hm'
     exact ⟨es,clock,(ho.block u (Array.getElem?_eq_some_iff.1 h).1 (by simpa using e1)).trans h⟩
 · by_cases e1:u=t
   · subst e1
     refine LkT.keep hs' h1 h3 ?_ hl;unfold updV;refine if_neg (fun q=>hne ?_);rw [hk];exact ByteArray.ext (Array.toList_inj.1 q)
   · obtain ⟨f',c',k1,k2⟩:=hJ.maps u hu hm'
     exact LkT.keep hs' k1 (k1.only ho (by simpa using e1)) rfl hl
 · have e2:=h3.look undCmd (fun w=>zeroCmd w) E.key hs
   unfold LkT;rw [e2];simp [updV,decV,he]
end
theorem eval_tmp {a:Act}{t:Tmp}{v:Value}(h:a.tmps[t]?=some v):a.eval (.tmp t)=v:=by
 simp [Act.eval,h]
section
variable {a:Act}{o:Oper}{w w':World}{t n:Nat}{v:Value}
theorem rn_move (hop:o.op = .move (.tmp t))(h:a.tmps[t]?=some v):(execOp a.eval o).run Tryz.prog w = .ok (.value v) w:=by
 simp only [execOp,hop,eval_tmp h];rfl
theorem rn_assign (hop:o.op = .assign (.tmp t))(h:a.tmps[t]?=some v):(execOp a.eval o).run Tryz.prog w = .ok (.value v) w:=by
 simp only [execOp,hop,eval_tmp h];rfl
theorem rn_nil (hop:o.op = .nilCheck (.tmp t))(h:a.tmps[t]?=some (ptrV n)):(execOp a.eval o).run Tryz.prog w = .ok (.value (ptrV n)) w:=by
 simp only [execOp,hop,eval_tmp h];rfl
theorem rn_fa (hop:o.op = .fieldAddr 49 (.tmp t) 0)(h:a.tmps[t]?=some (ptrV n)):(execOp a.eval o).run Tryz.prog w = .ok (.value (ptrV n)) w:=by
 simp only [execOp,hop,eval_tmp h];kernel_rfl
theorem rn_mk {f:Nat}(hop:o.op = .makeFunc (.func f) #[.tmp t] #[])(h:a.tmps[t]?=some v):(execOp a.eval o).run Tryz.prog w = .ok (.value (.func (.func f) #[v] #[])) w:=by
 simp only [execOp,hop,List.map_toArray,List.map_cons,List.map_nil,eval_tmp h];rfl
theorem rn_sl {k:Nat}{parts:Array (Nat×Operand)}{ps:Array (Nat×Value)}{cells:Array Value}(hop:o.op = .buildSlice 65 k parts)(hp:(parts.map fun (i,x)=>(i,a.eval x))=ps)(h0:0 < k)(h1:k≤4)(h:Instr.fill (fun i=>some (i*1,1)) ((Array.range (k*1)).map (Value.nilFunc.cells[· % Value.nilFunc.cells.size]!)) ps.toList=some cells):
  (execOp a.eval o).run Tryz.prog w = .ok (.value (.slice (some ⟨w.heap.size,0,none⟩) k k)) (w.alloc (.cells cells 109)):=by
 have e:=rdSlice w k ps cells h0 h1 h;simp only [execOp,hop,hp,Sem.run_bind,e,Result.andThen_ok];rfl
theorem rn_bld {x y:Operand}{l:List Value}{g:Nat}{d:Dk}{p q r:Nat}(hop:o.op = .build 68 #[(0,x),(1,y)])(hx:a.eval x=slV l g)(hy:a.eval y=dkV n d p q r):(execOp a.eval o).run Tryz.prog w = .ok (.value (.agg #[slV l g,dkV n d p q r])) w:=by
 simp only [execOp,hop,List.map_toArray,List.map_cons,List.map_nil,hx,hy]
 cases l<;>cases d<;>kernel_rfl
theorem rn_ins {z:Nat}{key:ByteArray}(hop:o.op = .insert 70 (.tmp 3) (.const (.string key)) (.tmp t))(h3:a.tmps[3]?=some (.map (some z)))(h:a.tmps[t]?=some v)(hr:(Instr.mapUpdate 70 (.map (some z)) (.string key) v).run Tryz.prog w = .ok () w'):(execOp a.eval o).run Tryz.prog w = .ok .skip w':=by
 have ec:a.eval (.const (.string key)) = .string key:=rfl;simp only [execOp,hop,eval_tmp h,eval_tmp h3,ec,Sem.run_bind,hr,Result.andThen_ok];rfl
theorem rn_mp (hop:o.op = .makeMap 70 none):(execOp a.eval o).run Tryz.prog w = .ok (.value (.map (some w.heap.size))) (w.alloc (.map #[] 0)):=by
 simp only [execOp,hop];rfl
theorem rn_asks {y z:Nat}{ts:Array TypeId}(hop:o.op = .call { callee := .value (.func 32),args:=#[.tmp t,.func y,.func z],argTypes:=ts })(h:a.tmps[t]?=some (ptrV n)):(execOp a.eval o).run Tryz.prog w = .ok (.enter 32 #[ptrV n,.func (.func y) #[] #[],.func (.func z) #[] #[]]) w:=by
 have e:(callFunc 32 #[ptrV n,.func (.func y) #[] #[],.func (.func z) #[] #[]]).run Tryz.prog w = .ok (.enter 32 #[ptrV n,.func (.func y) #[] #[],.func (.func z) #[] #[]]) w:=enters_of Tryz.func32 (by kernel_rfl) rfl _ _;have ef:∀ g:Nat,a.eval (.func g) = .func (.func g) #[] #[]:=fun _=>rfl;simp only [execOp,hop,resolve,List.map_toArray,List.map_cons,List.map_nil,eval_tmp h,ef];exact Eq.trans rfl e
theorem rn_okof {f:Nat}{ts:Array TypeId}(hop:o.op = .call { callee := .value (.func 49),args:=#[.tmp t],argTypes:=ts })(h:a.tmps[t]?=some (.func (.func f) #[ptrV n] #[])):(execOp a.eval o).run Tryz.prog w = .ok (.enter 49 #[.func (.func f) #[ptrV n] #[]]) w:=by
 have e:(callFunc 49 #[.func (.func f) #[ptrV n] #[]]).run Tryz.prog w = .ok (.enter 49 #[.func (.func f) #[ptrV n] #[]]) w:=enters_of Tryz.func49 (by kernel_rfl) rfl _ _;have ef:∀ g:Nat,a.eval (.func g) = .func (.func g) #[] #[]:=fun _=>rfl;simp only [execOp,hop,resolve,List.map_toArray,List.map_cons,List.map_nil,eval_tmp h,ef];exact Eq.trans rfl e
end
section
variable {n:Nat}{ents:List EntC}{kinds:List Kd}{w0:World}{Q:Exit→Act→World→Prop}{l:List Oper}{a0:Act}{i:Nat}{o:Oper}{k:Kd}{a:Act}{w:World}{m:Option Value}
theorem left_at {j:Nat}{d:Tmp}(h:Left (ValC n w0.heap.size kinds) l 3 j a w)(ho:l[j]?=some o)(hd:o.dst=some d)(hk:kinds[j]?=some k):∃ v,a.tmps[d]?=some v∧k.P n w0.heap.size a.tmps[3]? v w:=by
 unfold Left at h;rw [ho] at h;simp only [hd] at h;obtain ⟨v,h1,h2⟩:=h;unfold ValC at h2;rw [hk] at h2;exact ⟨v,h1,h2⟩
abbrev JobC (n:Nat)(ents:List EntC)(kinds:List Kd)(w0:World)(Q:Exit→Act→World→Prop)(l:List Oper)(a0:Act)(i:Nat)(o:Oper):Prop:=Job 3 (JC n ents w0) (RC w0.heap.size kinds) (ValC n w0.heap.size kinds) Tryz.prog Q .any l a0 i o
abbrev Deps (n:Nat)(kinds:List Kd)(w0:World)(l:List Oper)(o:Oper)(a:Act)(w:World):Prop:=∀ j,(o.after.toList.any fun e=>Region.binds .any e&&e.on==j)=true→Left (ValC n w0.heap.size kinds) l 3 j a w
theorem valC_of {v:Value}{w:World}(hk:kinds[i]?=some k)(h:k.P n w0.heap.size m v w):ValC n w0.heap.size kinds i m v w:=by
 unfold ValC;rw [hk];exact h
theorem jb_val {d:Tmp}(hg:o.guard=none)(hd:o.dst=some d)(hk:kinds[i]?=some k)
  (h:∀ a w,w0.heap.size≤w.heap.size→Rest l a0 a→Deps n kinds w0 l o a w→∃ v w',(execOp a.eval o).run Tryz.prog w = .ok (.value v) w'∧GrowC w w'∧∀ m,k.P n w0.heap.size m v w'):JobC n ents kinds w0 Q l a0 i o:=by
 intro c a w hr hJ hdep K hK;obtain ⟨v,w',h1,h2,h3⟩:=h a w hJ.ho.size hr hdep;rw [if_pos (by simp [Region.wanted,hg])];unfold Oper.wp;rw [h1,Oper.upon_value];obtain ⟨j1,j2⟩:=hJ.grow (base:=w0.heap.size) (kinds:=kinds) i rfl h2;exact hK v w' j1 j2 (by rw [hd];exact valC_of hk (h3 _))
theorem jb_call {d f:Nat}{args:Array Value}(hg:o.guard=none)(hd:o.dst=some d)(hk:kinds[i]?=some k)
  (h:∀ a w,w0.heap.size≤w.heap.size→Rest l a0 a→Deps n kinds w0 l o a w→(execOp a.eval o).run Tryz.prog w = .ok (.enter f args) w∧Calls Tryz.prog f args w fun e w'=>∃ v,e = .returned v∧GrowC w w'∧∀ m,k.P n w0.heap.size m v w'):JobC n ents kinds w0 Q l a0 i o:=by
 intro c a w hr hJ hdep K hK;obtain ⟨h1,h2⟩:=h a w hJ.ho.size hr hdep;rw [if_pos (by simp [Region.wanted,hg])];unfold Oper.wp;rw [h1,Oper.upon_enter];refine h2.mono fun e w' q=>?_;obtain ⟨v,rfl,h3,h4⟩:=q;obtain ⟨j1,j2⟩:=hJ.grow (base:=w0.heap.size) (kinds:=kinds) i rfl h3;exact hK v w' j1 j2 (by rw [hd];exact valC_of hk (h4 _))
theorem jb_mp (hg:o.guard=none)(hd:o.dst=some 3)(hk:kinds[i]?=some .mp)(hop:o.op = .makeMap 70 none):JobC n ents kinds w0 Q l a0 i o:=by
 intro c a w hr hJ hdep K hK;rw [if_pos (by simp [Region.wanted,hg])];unfold Oper.wp;rw [rn_mp hop,Oper.upon_value];obtain ⟨j1,j2,j3,j4⟩:=hJ.mkMap (base:=w0.heap.size) (kinds:=kinds) i rfl;exact hK _ _ j1 j2 (by rw [hd];exact valC_of hk ⟨_,rfl,j3,j4⟩)
theorem jb_ins {E:EntC}{t j0 jb e:Nat}{o0 ob:Oper}(hg:o.guard=none)(hd:o.dst=none)(hk:kinds[i]?=some (.ins E))(hop:o.op = .insert 70 (.tmp 3) (.const (.string E.key)) (.tmp t))(hs:E.key.size≤1000)(he:ents[e]?=some E)
  (h0:l[j0]?=some o0) (hd0:o0.dst=some 3) (hk0:kinds[j0]?=some .mp) (ha0:(o.after.toList.any fun e=>Region.binds .any e&&e.on==j0)=true)
  (hb:l[jb]?=some ob) (hdb:ob.dst=some t) (hkb:kinds[jb]?=some (.bld E)) (hab:(o.after.toList.any fun e=>Region.binds .any e&&e.on==jb)=true):JobC n ents kinds w0 Q l a0 i o:=by
 intro c a w hr hJ hdep K hK;obtain ⟨v3,q3,z,rfl,hz1,hz2⟩:=left_at (hdep j0 ha0) h0 hd0 hk0;obtain ⟨vb,qb,g,x,y,u,rfl,s1,s2⟩:=left_at (hdep jb hab) hb hdb hkb;obtain ⟨w',r1,r2,r3,r4,r5⟩:=hJ.put (base:=w0.heap.size) (kinds:=kinds) i rfl hz1 hz2 e E he (by simp [keyAt,hk]) hs g x y u;rw [if_pos (by simp [Region.wanted,hg])];unfold Oper.wp;rw [rn_ins hop q3 qb r1,Oper.upon_skip];refine hK _ w' r2 r3 ?_;rw [hd];exact valC_of hk ⟨z,q3,hz1,r4,g,x,y,u,r5,s1.keep r3.cells,s2.keep r3.cells⟩
theorem jb_res {d t jb:Nat}{ob:Oper}(hg:o.guard=none)(hd:o.dst=some d)(hd3:d≠3)(hk:kinds[i]?=some .res)(hop:o.op = .move (.tmp t)∨o.op = .assign (.tmp t))
  (hb:l[jb]?=some ob) (hdb:ob.dst=some t) (hkb:kinds[jb]?=some .mp∧t=3∨kinds[jb]?=some .res) (hab:(o.after.toList.any fun e=>Region.binds .any e&&e.on==jb)=true):JobC n ents kinds w0 Q l a0 i o:=by
 intro c a w hr hJ hdep K hK
 have hv:∃ v,a.tmps[t]?=some v∧a.tmps[3]?=some v:=by
  rcases hkb with ⟨h1,rfl⟩ | h1
  · obtain ⟨v,q,_⟩:=left_at (hdep jb hab) hb hdb h1
    exact ⟨v,q,q⟩
  · obtain ⟨v,q,q2⟩:=left_at (hdep jb hab) hb hdb h1
    exact ⟨v,q,q2⟩
 obtain ⟨v,q,q3⟩:=hv;have hrun:(execOp a.eval o).run Tryz.prog w = .ok (.value v) w:=hop.elim (fun h=>rn_move h q) (fun h=>rn_assign h q);rw [if_pos (by simp [Region.wanted,hg])];unfold Oper.wp;rw [hrun,Oper.upon_value];obtain ⟨j1,j2⟩:=hJ.grow (base:=w0.heap.size) (kinds:=kinds) i rfl (GrowC.refl w);refine hK _ _ j1 j2 ?_
 have e3:(a.put o.dst v).tmps[3]?=some v:=by
  rw [hd];simp [Act.put,Array.getElem?_setIfInBounds_ne hd3,q3]
 rw [e3,hd];exact valC_of hk rfl
variable {t d f jb y z:Nat}{ob:Oper}{u:Value}
theorem jv_p0 (hg:o.guard=none)(hd:o.dst=some d)(hk:kinds[i]?=some (.val (ptrV n)))(hop:o.op = .move (.tmp 0))(h0:a0.tmps[0]?=some (ptrV n))(hn:∀ x∈l,x.dst≠some 0):JobC n ents kinds w0 Q l a0 i o :=
 jb_val hg hd hk fun _ w _ hr _=>⟨ptrV n,w,rn_move hop ((hr.2.2 0 hn).trans h0),GrowC.refl w,fun _=>rfl⟩
theorem jv_nil (hg:o.guard=none)(hd:o.dst=some d)(hk:kinds[i]?=some (.val (ptrV n)))(hop:o.op = .nilCheck (.tmp t))(hb:l[jb]?=some ob)(hdb:ob.dst=some t)(hkb:kinds[jb]?=some (.val (ptrV n)))(hab:(o.after.toList.any fun e=>Region.binds .any e&&e.on==jb)=true):JobC n ents kinds w0 Q l a0 i o :=
 jb_val hg hd hk fun a w hb' hr hdep=>by
  obtain ⟨v,q,rfl⟩:=left_at (hdep jb hab) hb hdb hkb;exact ⟨_,w,rn_nil hop q,GrowC.refl w,fun _=>rfl⟩
theorem jv_fa (hg:o.guard=none)(hd:o.dst=some d)(hk:kinds[i]?=some (.val (ptrV n)))(hop:o.op = .fieldAddr 49 (.tmp t) 0)(hb:l[jb]?=some ob)(hdb:ob.dst=some t)(hkb:kinds[jb]?=some (.val (ptrV n)))(hab:(o.after.toList.any fun e=>Region.binds .any e&&e.on==jb)=true):JobC n ents kinds w0 Q l a0 i o :=
 jb_val hg hd hk fun a w hb' hr hdep=>by
  obtain ⟨v,q,rfl⟩:=left_at (hdep jb hab) hb hdb hkb;exact ⟨_,w,rn_fa hop q,GrowC.refl w,fun _=>rfl⟩
theorem jv_mk (hg:o.guard=none)(hd:o.dst=some d)(hk:kinds[i]?=some (.val (.func (.func f) #[ptrV n] #[])))(hop:o.op = .makeFunc (.func f) #[.tmp t] #[])(hb:l[jb]?=some ob)(hdb:ob.dst=some t)(hkb:kinds[jb]?=some (.val (ptrV n)))(hab:(o.after.toList.any fun e=>Region.binds .any e&&e.on==jb)=true):JobC n ents kinds w0 Q l a0 i o :=
 jb_val hg hd hk fun a w hb' hr hdep=>by
  obtain ⟨v,q,rfl⟩:=left_at (hdep jb hab) hb hdb hkb;exact ⟨_,w,rn_mk hop q,GrowC.refl w,fun _=>rfl⟩
theorem jv_mkd (hg:o.guard=none)(hd:o.dst=some d)(hk:kinds[i]?=some (.dk (.bound f)))(hop:o.op = .makeFunc (.func f) #[.tmp t] #[])(hb:l[jb]?=some ob)(hdb:ob.dst=some t)(hkb:kinds[jb]?=some (.val (ptrV n)))(hab:(o.after.toList.any fun e=>Region.binds .any e&&e.on==jb)=true):JobC n ents kinds w0 Q l a0 i o :=
 jb_val hg hd hk fun a w hb' hr hdep=>by
  obtain ⟨v,q,rfl⟩:=left_at (hdep jb hab) hb hdb hkb;exact ⟨_,w,rn_mk hop q,GrowC.refl w,fun _=>⟨0,0,0,rfl,trivial⟩⟩
theorem sl_done {base:Nat}{c:Array Value}{L:List Value}(hc:c=L.toArray)(hL:L≠[])(w:World)(hb:base≤w.heap.size):∃ g,(Value.slice (some ⟨w.heap.size,0,none⟩) L.length L.length)=slV L g∧slW base L g (w.alloc (.cells c 109)):=by
 subst hc;refine ⟨w.heap.size,?_,Or.inr ⟨hb,BlkC.new _ _ _⟩⟩
 cases L with
 | nil=>exact absurd rfl hL
 | cons x L=>rfl
theorem jv_sl0 {L:List Value}{parts:Array (Nat×Operand)}{ps:Array (Nat×Value)}(hg:o.guard=none)(hd:o.dst=some d)(hk:kinds[i]?=some (.sl L))(hop:o.op = .buildSlice 65 L.length parts)(hp:∀ b:Act,(parts.map fun (i,x)=>(i,b.eval x))=ps)(hL:0 < L.length)(h4:L.length≤4)(h:Instr.fill (fun i=>some (i*1,1)) ((Array.range (L.length*1)).map (Value.nilFunc.cells[· % Value.nilFunc.cells.size]!)) ps.toList=some L.toArray):JobC n ents kinds w0 Q l a0 i o :=
 jb_val hg hd hk fun a w hb' _ _=>⟨_,_,rn_sl hop (hp a) hL h4 h,(GrowC.refl w).alloc _ _,fun _=>sl_done rfl (fun e=>by rw [e] at hL;cases hL) w hb'⟩
theorem jv_sl {L:List Value}{parts:Array (Nat×Operand)}{ps:Array (Nat×Value)}(hg:o.guard=none)(hd:o.dst=some d)(hk:kinds[i]?=some (.sl L))(hop:o.op = .buildSlice 65 L.length parts)(hp:∀ a:Act,a.eval (.tmp t)=u→(parts.map fun (i,x)=>(i,a.eval x))=ps)(hL:0 < L.length)(h4:L.length≤4)(h:Instr.fill (fun i=>some (i*1,1)) ((Array.range (L.length*1)).map (Value.nilFunc.cells[· % Value.nilFunc.cells.size]!)) ps.toList=some L.toArray)
  (hb:l[jb]?=some ob) (hdb:ob.dst=some t) (hkb:kinds[jb]?=some (.val u)) (hab:(o.after.toList.any fun e=>Region.binds .any e&&e.on==jb)=true):JobC n ents kinds w0 Q l a0 i o :=
 jb_val hg hd hk fun a w hb' hr hdep=>by
  obtain ⟨v,q,hv⟩:=left_at (hdep jb hab) hb hdb hkb;have hv:v=u:=hv;subst hv;exact ⟨_,_,rn_sl hop (hp a (eval_tmp q)) hL h4 h,(GrowC.refl w).alloc _ _,fun _=>sl_done rfl (fun e=>by rw [e] at hL;cases hL) w hb'⟩
theorem jv_asks {ts:Array TypeId}(hg:o.guard=none)(hd:o.dst=some d)(hk:kinds[i]?=some (.dk (.asks y z)))(hop:o.op = .call { callee := .value (.func 32),args:=#[.tmp t,.func y,.func z],argTypes:=ts })(hb:l[jb]?=some ob)(hdb:ob.dst=some t)(hkb:kinds[jb]?=some (.val (ptrV n)))(hab:(o.after.toList.any fun e=>Region.binds .any e&&e.on==jb)=true):JobC n ents kinds w0 Q l a0 i o :=
 jb_call (f:=32) (args:=#[ptrV n,.func (.func y) #[] #[],.func (.func z) #[] #[]]) hg hd hk fun a w hb' hr hdep=>by
  obtain ⟨v,q,rfl⟩:=left_at (hdep jb hab) hb hdb hkb;refine ⟨rn_asks hop q,(pasks_any n _ y z w rfl).mono fun e w' r=>?_⟩;obtain ⟨rfl,rfl⟩:=r;refine ⟨_,rfl,(((GrowC.refl w).alloc _ _).alloc _ _).alloc _ _,fun _=>⟨w.heap.size,w.heap.size+1,w.heap.size+2,rfl,⟨hb',?_⟩,⟨by omega,?_⟩,by omega,?_⟩⟩
  · exact ((BlkC.new _ _ _).only ((Only.refl [] _).alloc _) (by simp)).only ((Only.refl [] _).alloc _) (by simp)
  · rw [show w.heap.size+1=(w.alloc (.cells #[.pointer (some ⟨n,0,none⟩)] 32)).heap.size by rw [World.size_alloc]]
    exact (BlkC.new _ _ _).only ((Only.refl [] _).alloc _) (by simp)
  · rw [show w.heap.size+2=((w.alloc (.cells #[.pointer (some ⟨n,0,none⟩)] 32)).alloc (.cells #[.func (.func y) #[] #[]] 106)).heap.size by rw [World.size_alloc,World.size_alloc]]
    exact BlkC.new _ _ _
theorem jv_okof {ts:Array TypeId}(hg:o.guard=none)(hd:o.dst=some d)(hk:kinds[i]?=some (.dk (.okof f)))(hop:o.op = .call { callee := .value (.func 49),args:=#[.tmp t],argTypes:=ts })(hb:l[jb]?=some ob)(hdb:ob.dst=some t)(hkb:kinds[jb]?=some (.val (.func (.func f) #[ptrV n] #[])))(hab:(o.after.toList.any fun e=>Region.binds .any e&&e.on==jb)=true):JobC n ents kinds w0 Q l a0 i o :=
 jb_call (f:=49) (args:=#[.func (.func f) #[ptrV n] #[]]) hg hd hk fun a w hb' hr hdep=>by
  obtain ⟨v,q,rfl⟩:=left_at (hdep jb hab) hb hdb hkb;refine ⟨rn_okof hop q,(pokOf_any _ _ _ _ w rfl).mono fun e w' r=>?_⟩;obtain ⟨rfl,rfl⟩:=r;exact ⟨_,rfl,(GrowC.refl w).alloc _ _,fun _=>⟨w.heap.size,0,0,rfl,hb',BlkC.new _ _ _⟩⟩
theorem jv_bld {E:EntC}{s js:Nat}{os:Oper}(hg:o.guard=none)(hd:o.dst=some d)(hk:kinds[i]?=some (.bld E))(hop:o.op = .build 68 #[(0,.tmp s),(1,.tmp t)])
  (hs:l[js]?=some os) (hds:os.dst=some s) (hks:kinds[js]?=some (.sl E.rd)) (has:(o.after.toList.any fun e=>Region.binds .any e&&e.on==js)=true)
  (hb:l[jb]?=some ob) (hdb:ob.dst=some t) (hkb:kinds[jb]?=some (.dk E.fn)) (hab:(o.after.toList.any fun e=>Region.binds .any e&&e.on==jb)=true):JobC n ents kinds w0 Q l a0 i o :=
 jb_val hg hd hk fun a w hb' hr hdep=>by
  obtain ⟨v1,q1,g,rfl,h1⟩:=left_at (hdep js has) hs hds hks;obtain ⟨v2,q2,x,y,z,rfl,h2⟩:=left_at (hdep jb hab) hb hdb hkb;exact ⟨_,w,rn_bld hop (eval_tmp q1) (eval_tmp q2),GrowC.refl w,fun _=>⟨g,x,y,z,rfl,h1,h2⟩⟩
theorem jv_bld0 {E:EntC}(hg:o.guard=none)(hd:o.dst=some d)(hk:kinds[i]?=some (.bld E))(hop:o.op = .build 68 #[(0,.const (.slice none 0 0)),(1,.tmp t)])(hE:E.rd=[])
  (hb:l[jb]?=some ob) (hdb:ob.dst=some t) (hkb:kinds[jb]?=some (.dk E.fn)) (hab:(o.after.toList.any fun e=>Region.binds .any e&&e.on==jb)=true):JobC n ents kinds w0 Q l a0 i o :=
 jb_val hg hd hk fun a w hb' hr hdep=>by
  obtain ⟨v2,q2,x,y,z,rfl,h2⟩:=left_at (hdep jb hab) hb hdb hkb;exact ⟨_,w,rn_bld (l:=[]) (g:=0) hop rfl (eval_tmp q2),GrowC.refl w,fun _=>⟨0,x,y,z,by rw [cmdV,hE],Or.inl hE,h2⟩⟩
end
end
end Go.Proofs.YtodldddakjmonaaGreatDoor
