import Derived.Test.YtmfcfkomdflhlaaGreatDoorK35
namespace Go.Proofs.YtmfcfkomdflhlaaGreatDoor
section
open Go Go.RowKit Go.Deep Go.Maps
def ClrAt (w:World)(c:Nat)(a b:ByteArray)(last:Int)(t:ByteArray):Prop:=w.heap[c]?=some (.cells #[.string a,.string b,.int .i64 last,.string t] 84 (0,0))
theorem check_yes0 (A:Nat→Addr)(s:ByteArray)(h:OkN s)(W:World)(hE:Errs W A):Calls Tryz.prog 40 #[.string s] W fun e w'=>e = .returned .nilIface∧Below W.heap.size W w' :=
 (check_any s A W hE).mono fun e w' q=>by
  rcases q with ⟨⟨_,q⟩ | ⟨q,_⟩,hb⟩
  · exact ⟨q,hb⟩
  · exact absurd h q
theorem check_no0 (A:Nat→Addr)(s:ByteArray)(h:¬ OkN s)(W:World)(hE:Errs W A):Calls Tryz.prog 40 #[.string s] W fun e w'=>e = .returned (erV A 3)∧Below W.heap.size W w' :=
 (check_any s A W hE).mono fun e w' q=>by
  rcases q with ⟨⟨q,_⟩ | ⟨_,q⟩,hb⟩
  · exact absurd q h
  · exact ⟨q,hb⟩
theorem pair_cells {w w':World}{x y:Value}{t:TypeId}(hb:Below (w.alloc (.cells #[x,y] t)).heap.size (w.alloc (.cells #[x,y] t)) w'):w'.cell? ⟨w.heap.size,1,none⟩=some y∧Below w.heap.size w w':=by
 refine ⟨?_,((Below.refl _ _).alloc (Nat.le_refl _) _).trans (hb.mono (by simp))⟩;rw [hb.cell (p:=⟨w.heap.size,1,none⟩) (by simp)];simp
theorem newCaller_no2 (A:Nat→Addr)(a b:ByteArray)(w:World)(hE:Errs w A)(ha:OkN a)(hb:¬ OkN b):
  Calls Tryz.prog 20 #[.string a,.string b] w fun e w'=>e = .returned (.tuple #[.pointer none,erV A 3])∧Below w.heap.size w w':=by
 have H1:Hid (∀ W,Errs W A→Calls Tryz.prog 40 #[.string a] W fun e w'=>e = .returned .nilIface∧Below W.heap.size W w'):=check_yes0 A a ha;have H2:Hid (∀ W,Errs W A→Calls Tryz.prog 40 #[.string b] W fun e w'=>e = .returned (erV A 3)∧Below W.heap.size W w'):=check_no0 A b hb;have HE0:Hid (∀ W,Below w.heap.size w W→Errs W A):=fun W h=>hE.below h (Nat.le_refl _);have HE:Hid (∀ o,Errs (w.alloc o) A):=fun o=>hE.below ((Below.refl _ _).alloc (Nat.le_refl _) _) (Nat.le_refl _);clear hE ha hb
 go_enter Tryz.func20,Tryz.ntmps20
 go_wp2
 refine wp_loop_rounds 3 ?_;rw [rounds_succ]
 go_wp2_with (go_at_call 40;go_must (refine (H1.out _ (HE.out _)).mono ?_);rintro e w1 ⟨rfl,hb⟩;obtain ⟨c1,B1⟩:=pair_cells hb;have HB1:Hid (Below w.heap.size w w1):=B1;clear B1 hb)
 rw [rounds_succ]
 go_wp2_with (go_at_call 40;go_must (refine (H2.out w1 (HE0.out _ HB1.out)).mono ?_);rintro e w2 ⟨rfl,hb⟩)
 go_ret2
 exact ⟨rfl,HB1.out.trans (hb.mono HB1.out.size)⟩
theorem newCaller_ok (A:Nat→Addr)(a b:ByteArray)(w:World)(hE:Errs w A)(ha:OkN a)(hb:OkN b):
  Calls Tryz.prog 20 #[.string a,.string b] w fun e w'=>∃ c,e = .returned (.tuple #[.pointer (some ⟨c,0,none⟩),.nilIface])∧ClrAt w' c a b 0 ⟨#[]⟩∧w.heap.size≤c∧Below w.heap.size w w':=by
 have H1:Hid (∀ W,Errs W A→Calls Tryz.prog 40 #[.string a] W fun e w'=>e = .returned .nilIface∧Below W.heap.size W w'):=check_yes0 A a ha;have H2:Hid (∀ W,Errs W A→Calls Tryz.prog 40 #[.string b] W fun e w'=>e = .returned .nilIface∧Below W.heap.size W w'):=check_yes0 A b hb;have HE0:Hid (∀ W,Below w.heap.size w W→Errs W A):=fun W h=>hE.below h (Nat.le_refl _);have HE:Hid (∀ o,Errs (w.alloc o) A):=fun o=>hE.below ((Below.refl _ _).alloc (Nat.le_refl _) _) (Nat.le_refl _);clear hE ha hb
 go_enter Tryz.func20,Tryz.ntmps20
 go_wp2
 refine wp_loop_rounds 3 ?_;rw [rounds_succ]
 go_wp2_with (go_at_call 40;go_must (refine (H1.out _ (HE.out _)).mono ?_);rintro e w1 ⟨rfl,hb⟩;obtain ⟨c1,B1⟩:=pair_cells hb;have HB1:Hid (Below w.heap.size w w1):=B1;clear B1 hb)
 rw [rounds_succ]
 go_wp2_with (go_at_call 40;go_must (refine (H2.out w1 (HE0.out _ HB1.out)).mono ?_);rintro e w2 ⟨rfl,hb⟩;have HB2:Hid (Below w.heap.size w w2):=HB1.out.trans (hb.mono HB1.out.size);clear hb)
 rw [rounds_succ]
 go_wp2
 go_ret2
 exact ⟨_,rfl,(show (w2.heap.push _)[w2.heap.size]?=_ by simp),HB2.out.size,HB2.out.alloc HB2.out.size _⟩
theorem leaseNew0 (w:World):Calls Tryz.prog 70 #[] w fun e w'=>(∃ t,e = .returned (.pointer (some ⟨t,0,none⟩)))∧Below w.heap.size w w':=by
 have hmm:=@run_makeMap Tryz.prog
 go_enter Tryz.func70,Tryz.ntmps70
 go_wp2
 go_ret
 exact ⟨⟨_,rfl⟩,((Below.refl _ _).alloc (Nat.le_refl _) _).alloc (by simp) _⟩
theorem cell_new0 (w:World)(a:Array Value)(ty:TypeId)(k:Nat)(v:Value)(h:k=w.heap.size∧a[0]?=some v):(w.alloc (.cells a ty)).cell? ⟨k,0,none⟩=some v:=by
 obtain ⟨rfl,h⟩:=h;rw [World.cell?_alloc_new];exact h
theorem serve_over (w:World)(tr:Nat):Calls Tryz.prog 39 #[.pointer (some ⟨tr,0,none⟩)] w fun e w'=>∃ s,e = .returned (.pointer (some ⟨s,0,none⟩))∧(w'.cell? ⟨s,0,none⟩=some (.pointer (some ⟨tr,0,none⟩))∧w.heap.size≤s∧s+1≤w'.heap.size)∧Below w.heap.size w w':=by
 have hmm:=@run_makeMap Tryz.prog
 go_enter Tryz.func39,Tryz.ntmps39
 go_wp2_with (go_at_call 70;go_must (refine (leaseNew0 _).mono ?_);rintro e w2 ⟨⟨lt,rfl⟩,hb2⟩)
 go_ret
 have hs:=hb2.size;exact ⟨w2.heap.size+1+1,rfl,⟨cell_new0 _ _ _ _ _ (by simp),by omega,by simp⟩,((hb2.alloc hs _).alloc (by simp;omega) _).alloc (by simp;omega) _⟩
def LsnAt (w:World)(l c:Nat)(a:ByteArray)(s:Nat):Prop:=w.heap[l]?=some (.cells #[.pointer (some ⟨c,0,none⟩),.string a,.pointer (some ⟨s,0,none⟩)] 96 (0,0))
theorem newListener_ok (A:Nat→Addr)(a:ByteArray)(s:Nat)(m:Nat)(w:World)(hE:Errs w A)(ha:OkN a)(h1:1≤m)(h2:m≤20):
  Calls Tryz.prog 21 #[.string a,.pointer (some ⟨s,0,none⟩),.int .i64 m] w fun e w'=>∃ l c b,e = .returned (.tuple #[.pointer (some ⟨l,0,none⟩),.nilIface])∧LsnAt w' l c a s∧(∀ base,CaAt w' base c b (.slice none 0 0) m [])∧w.heap.size≤l∧w.heap.size≤c∧w.heap.size≤b∧Below w.heap.size w w':=by
 have H1:Hid (Calls Tryz.prog 40 #[.string a] w fun e w'=>e = .returned .nilIface∧Below w.heap.size w w'):=check_yes0 A a ha w hE
 have H2:Hid (∀ W,Below w.heap.size w W→Calls Tryz.prog 41 #[.int .i64 m] W fun e w'=>∃ c b,e = .returned (.tuple #[.pointer (some ⟨c,0,none⟩),.nilIface])∧(∀ base,CaAt w' base c b (.slice none 0 0) m [])∧W.heap.size≤c∧W.heap.size≤b∧Below w.heap.size w w'):=fun W hb=>(new_ok W m h1 h2).mono fun e w' q=>by
  obtain ⟨t,b,he,hc,ho,k1,k2⟩:=q;exact ⟨t,b,he,hc,k1,k2,only_below hb ho⟩
 clear hE ha h1 h2
 go_enter Tryz.func21,Tryz.ntmps21
 go_wp2_with (first
  | (go_at_call 40;go_must (refine H1.out.mono ?_);rintro e w1 ⟨rfl,hb⟩;have HB:Hid (Below w.heap.size w w1):=hb;clear hb)
  | (go_at_call 41;go_must (refine (H2.out w1 HB.out).mono ?_);rintro e w2 ⟨c,b,rfl,hq⟩;have HQ:Hid ((∀ base,CaAt w2 base c b (.slice none 0 0) m [])∧w1.heap.size≤c∧w1.heap.size≤b∧Below w.heap.size w w2):=hq;clear hq))
 go_ret2
 obtain ⟨q1,q2,q3,q4⟩:=HQ.out;have:=HB.out.size;exact ⟨_,c,b,rfl,(show (w2.heap.push _)[w2.heap.size]?=_ by simp),fun base=>(q1 base).only ((Only.refl [] _).alloc _),q4.size,by omega,by omega,q4.alloc q4.size _⟩
end
end Go.Proofs.YtmfcfkomdflhlaaGreatDoor
