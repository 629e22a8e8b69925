import Derived.Test.YtodldddakjmonaaGreatDoorK14
set_option maxRecDepth 100000
namespace Go.Proofs.YtodldddakjmonaaGreatDoor
section
open Go Go.RowKit Go.Deep Go.Maps
theorem okN_a:OkN ⟨#[97]⟩:=by
 refine ⟨by decide,by decide,by rw [Lib.toList_data];decide,by rw [Lib.toList_data];decide,fun x hx=>?_⟩
 have:x=0:=by have h:x < 1:=hx;omega
 subst this;rfl
end
section
open Go Go.RowKit Go.Deep
theorem ref_byte (n:Nat)(w:World)(hn:n < 256):Calls Tryz.prog 12 #[.int .i64 n] w fun e w'=>e = .returned (.string (bs [UInt8.ofNat n]))∧Below w.heap.size w w':=by
 have hcv:=run_convert_bytes_back (P:=Tryz.prog) (w.alloc (.cells #[.int .u8 n] 5)) 76 9 5 ⟨w.heap.size,0,none⟩ 1 [UInt8.ofNat n] Tryz.underlying76 Tryz.underlying5 Tryz.underlying9 (fun x hx=>by
  obtain rfl:x=0:=by simpa using hx
  have e0:(⟨w.heap.size,0,none⟩:Addr).add 0=⟨w.heap.size,0,none⟩:=by unfold Addr.add;split<;>simp_all
  rw [e0,World.cell?_alloc_new]
  have:(UInt8.ofNat n).toNat=n:=by rw [UInt8.toNat_ofNat'];omega
  simp [this])
 have hcv':(convert 76 9 (.slice (some ⟨w.heap.size,0,none⟩) 1 1)).run Tryz.prog (w.alloc (.cells #[.int .u8 n] 5)) = .ok (.string (bs [UInt8.ofNat n])) (w.alloc (.cells #[.int .u8 n] 5)):=hcv;clear hcv
 go_enter Tryz.func12,Tryz.ntmps12
 go_wp2
 go_ret
 exact ⟨rfl,(Below.refl _ _).alloc (Nat.le_refl _) _⟩
theorem ref_byte_int (x:Int)(n:Nat)(w:World)(hx:x=(n:Int))(hn:n < 256):Calls Tryz.prog 12 #[.int .i64 x] w fun e w'=>e = .returned (.string (bs [UInt8.ofNat n]))∧Below w.heap.size w w':=by
 subst hx;exact ref_byte n w hn
def dgt (q:Nat):UInt8:=UInt8.ofNat (48+q)
theorem dgt_toNat {q:Nat}(h:q < 10):(dgt q).toNat=48+q:=by
 unfold dgt;rw [UInt8.toNat_ofNat'];omega
def decL (q:Nat):List UInt8:=if q < 10 then [dgt q] else [dgt (q / 10),dgt (q % 10)]
theorem byte_dgt (x:Int)(q:Nat)(w:World)(hx:x=48+(q:Int))(hn:q < 10):Calls Tryz.prog 12 #[.int .i64 x] w fun e w'=>e = .returned (.string (bs [dgt q]))∧Below w.heap.size w w':=ref_byte_int x (48+q) w (by omega) (by omega)
theorem below_one (x:Int)(q:Nat)(w:World)(hx:x = -(q:Int))(hq:q < 10):Calls Tryz.prog 8 #[.int .i64 x] w fun e w'=>e = .returned (.string (bs [dgt q]))∧Below w.heap.size w w':=by
 have hd:decide (-10 < x)=true:=decide_eq_true (by omega);have hb:=byte_dgt (48 - x) q w (by omega) hq
 have hw:wrap64 (48 - x)=48 - x:=by unfold wrap64;omega
 clear hx
 go_enter Tryz.func8,Tryz.ntmps8
 go_wp2_with (go_at_call 12;go_must (refine hb.mono ?_);rintro e w1 ⟨rfl,hb1⟩)
 go_ret
 exact ⟨rfl,hb1⟩
theorem below_two (x:Int)(q:Nat)(w:World)(hx:x = -(q:Int))(hq:10≤q)(hq2:q < 100):Calls Tryz.prog 8 #[.int .i64 x] w fun e w'=>e = .returned (.string (bs [dgt (q / 10),dgt (q % 10)]))∧Below w.heap.size w w':=by
 have hd:decide (-10 < x)=false:=decide_eq_false (by omega);have h1:=fun w=>below_one (x.tdiv 10) (q / 10) w (by subst hx;rw [Int.neg_tdiv,Int.tdiv_eq_ediv_of_nonneg (by omega)];omega) (by omega);have h2:=fun w=>byte_dgt (48 - x.tmod 10) (q % 10) w (by subst hx;rw [Int.neg_tmod,Int.tmod_eq_emod_of_nonneg (by omega)];omega) (by omega)
 have hs:bs [dgt (q / 10)]++bs [dgt (q % 10)]=bs [dgt (q / 10),dgt (q % 10)]:=by rw [bs_append];rfl
 rw [← hs]
 have b1 : -100 < x:=by omega
 have b2:x ≤ -10:=by omega
 have hw:wrap64 (48 - x.tmod 10)=48 - x.tmod 10:=by
  have:x.tmod 10 = -((q:Int) % 10):=by subst hx;rw [Int.neg_tmod,Int.tmod_eq_emod_of_nonneg (by omega)]
  unfold wrap64;omega
 clear hx hs
 go_enter Tryz.func8,Tryz.ntmps8
 go_wp2_with (first
  | (go_at_call 8;go_must (refine (h1 _).mono ?_);rintro e w1 ⟨rfl,hb1⟩)
  | (go_at_call 12;go_must (refine (h2 _).mono ?_);rintro e w2 ⟨rfl,hb2⟩)
  | go_in)
 go_ret
 exact ⟨rfl,hb1.trans (hb2.mono hb1.size)⟩
theorem decimal_any (q:Nat)(w:World)(hq:q < 100):Calls Tryz.prog 5 #[.int .i64 q] w fun e w'=>e = .returned (.string (bs (decL q)))∧Below w.heap.size w w':=by
 unfold decL
 by_cases h:q < 10
 · rw [if_pos h]
   have hb:=below_one (-(q:Int)) q w rfl h
   go_enter Tryz.func5,Tryz.ntmps5
   go_wp2_with (go_at_call 8;go_must (refine hb.mono ?_);rintro e w1 ⟨rfl,hb1⟩)
   go_ret
   exact ⟨rfl,hb1⟩
 · rw [if_neg h]
   have hb:=below_two (-(q:Int)) q w rfl (by omega) hq
   go_enter Tryz.func5,Tryz.ntmps5
   go_wp2_with (go_at_call 8;go_must (refine hb.mono ?_);rintro e w1 ⟨rfl,hb1⟩)
   go_ret
   exact ⟨rfl,hb1⟩
def lettered (c:UInt8)(q:Nat):ByteArray:=bs (c::decL q)
theorem lettered_inj {c:UInt8}{q r:Nat}(hq:q < 100)(hr:r < 100)(h:(lettered c q).data.toList=(lettered c r).data.toList):q=r:=by
 have e:∀ q,(lettered c q).data.toList=c::decL q:=fun q=>by simp [lettered,bs]
 rw [e,e] at h;have h:=(List.cons.inj h).2;unfold decL at h
 split at h<;>split at h
 · have h:=congrArg UInt8.toNat (List.cons.inj h).1
   rw [dgt_toNat (by omega),dgt_toNat (by omega)] at h;omega
 · simp at h
 · simp at h
 · have h1:=congrArg UInt8.toNat (List.cons.inj h).1
   have h2:=congrArg UInt8.toNat (List.cons.inj (List.cons.inj h).2).1;rw [dgt_toNat (by omega),dgt_toNat (by omega)] at h1 h2;omega
end
section
open Go Go.RowKit Go.Deep Go.Maps
theorem foot_step {tr k:Nat}{T T':Tr}(h1:T'.t=T.t)(h2:T'.db=T.db)(h3:T'.pb=T.pb)(hk:FootT tr T' k):FootT tr T k∨T'.p.a=some k∨(∃ j x,T'.nd j=some x∧k∈x.foot)∨∃ j x,T'.ds j=some x∧k=x.b:=by
 rcases hk with e | e | e | h | hk
 · exact Or.inl (Or.inl e)
 · exact Or.inl (Or.inr (Or.inl (e.trans h2)))
 · exact Or.inl (Or.inr (Or.inr (Or.inl (e.trans h3))))
 · exact Or.inr (Or.inr (Or.inr h))
 · rcases hk with e | e | h
   · exact Or.inl (Or.inr (Or.inr (Or.inr (Or.inr (Or.inl (e.trans h1))))))
   · exact Or.inr (Or.inl e)
   · exact Or.inr (Or.inr (Or.inl h))
theorem foot_dir {tr a k:Nat}{T:Tr}{d:DirM}(hd:T.ds a=some d)(hk:k=d.b):FootT tr T k:=Or.inr (Or.inr (Or.inr (Or.inl ⟨a,d,hd,hk⟩)))
theorem foot_t {tr:Nat}{T:Tr}:FootT tr T T.t:=Or.inr (Or.inr (Or.inr (Or.inr (Or.inl rfl))))
theorem foot_p {tr k:Nat}{T:Tr}(h:T.p.a=some k):FootT tr T k:=Or.inr (Or.inr (Or.inr (Or.inr (Or.inr (Or.inl h)))))
theorem foot_node {tr i k:Nat}{T:Tr}{n:Nod}(h:T.nd i=some n)(hk:k∈n.foot):FootT tr T k:=Or.inr (Or.inr (Or.inr (Or.inr (.node h hk))))
def entF (c:UInt8)(q i:Nat):Ent:=⟨(lettered c q).data.toList,i,0⟩
def Named (c:UInt8)(f:Nat→Nat)(l:List Ent)(n:Nat):Prop:=l.length=n∧∀ e∈l,∃ q,q < n∧e=entF c q (f q)
theorem Named.free {c:UInt8}{f:Nat→Nat}{l:List Ent}{n q:Nat}(h:Named c f l n)(hn:n≤q)(hq:q < 100):findE l (lettered c q).data.toList=none:=by
 unfold findE;rw [List.find?_eq_none];intro e he;obtain ⟨r,hr,rfl⟩:=h.2 e he;intro hh
 have:(lettered c r).data.toList=(lettered c q).data.toList:=by simpa [entF] using hh
 have:=lettered_inj (by omega) hq this;omega
theorem Named.first {c:UInt8}{f:Nat→Nat}{l:List Ent}{n:Nat}(h:Named c f l n)(hn:n < 100)(h0:0 < n→findE l (lettered c 0).data.toList=some (entF c 0 (f 0))):findE (insE (entF c n (f n)) (dropE l (lettered c n).data.toList)) (lettered c 0).data.toList=some (entF c 0 (f 0)):=by
 rw [dropE_none (h.free (Nat.le_refl _) hn)]
 by_cases e:n=0
 · subst e
   exact findE_ins_same (entF c 0 (f 0)) (h.free (Nat.le_refl _) hn)
 · rw [findE_ins_other _ _ (fun x=>e (lettered_inj (by omega) (by omega) x).symm)]
   exact h0 (by omega)
end
end Go.Proofs.YtodldddakjmonaaGreatDoor
