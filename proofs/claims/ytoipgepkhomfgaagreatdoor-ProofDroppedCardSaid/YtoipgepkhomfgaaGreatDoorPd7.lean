/-
 Contracts of the plain answers' Of and Sum.
-/
import Derived.Test.YtoipgepkhomfgaaGreatDoorPd6
import Derived.Test.YtoipgepkhomfgaaGreatDoorPd5
import Derived.WideKeyArr2
import Derived.Test.YtoipgepkhomfgaaGreatDoorPd3
open Go.Lib (hid)
open Go.Proofs.Tryz
set_option linter.unusedSimpArgs false
set_option linter.unusedVariables false
set_option maxHeartbeats 40000000
set_option maxRecDepth 100000
namespace Go.Proofs.YtoipgepkhomfgaaGreatDoor
variable {c i j:Nat} {ev:Operand->Value} {o:Oper} {w:World} {a:aK} {ops:Array Oper} {act:Act} {Q:Exit->Act->World->Prop}
section
open Go.RowKit
namespace Sh
end Sh
end
section
open Go.RowKit
namespace Sm
open Sh
theorem OB:prog.eqGuardType prog.depth 48=false:=by kernel_rfl
theorem qj (ev:Operand->Value) (o:Oper) (w:World) (g:Nat) (l:aM) (hl:l.length=32) (h:∃ x,o.op = .load 48 x/\ev x = .pointer (some ⟨g,0,none⟩)) (hg:Rg.Own w g (kc l) 48) :
  (execOp ev o).run prog w = .ok (.value (.agg (kc l))) w:=by
 obtain ⟨x,ho,hx⟩:=h;have hr:=run_loadVar_row (P:=prog) w g 48 48 (kc l) (0,0) _ hg.2 underlying48 rfl (jk l hl);unfold execOp;simp only [ho,hx,Instr.loadAt,Instr.sureAddr,Sem.run_bind,Sem.run_pure,Result.andThen_ok,hr]
end Sm
end
section
open Go.RowKit Go.WideMaps
namespace Rf
open Sh Sm Ni
def oh (s:aL):aM:=uy s.data.toList
theorem jX (s:aL):(oh s).length=32:=rF _
end Rf
end
section
open Go.RowKit
namespace Sm
open Sh
end Sm
end
section
open Go.RowKit
namespace No
open Rl Ni
theorem PX (x:It):∀ {d e:Nat},Fits d x->e<=d->Fits e x:=by
 induction x using It.ind with
 | h l s xs ih =>
  intro d e h he;cases h with
  | mk ha hs hx hy=>exact .mk (by omega) hs hx (λy hm=>ih y hm (hy y hm) (by omega))
theorem Eh (a:aK) (n cap:Nat) (w:World) :
  Calls prog 201 #[.slice a n cap] w λe w'=>e = .returned (.func (Fn.func 210) #[] #[.pointer (some ⟨w.heap.size,0,none⟩)])/\w'=w.alloc (.cells #[.slice a n cap] 100):=by
 go_enter func201,ntmps201;go_wp2;go_ret;exact ⟨rfl,rfl⟩
theorem XO (s:aL) (w:World):Calls prog 143 #[.string s] w λe w'=>e = .returned (.bool (dN s))/\w'=w.drewN 0:=by
 refine (wF s w).mono ?_;rintro e w' ⟨rfl,rfl⟩;exact ⟨rfl,rfl⟩
def XE (w:World) (x:It) (e:Ending) (w':World):Prop:=∃ (s:aL) (b:Bool),e = .returned (.tuple #[.string s,.bool b])/\(b=true/\kU x=some s\/b=false/\kU x=none)/\Below w.heap.size w w'
theorem Ap (c i:Nat) (xs:List It) (a:aK) (n cap:Nat) (x:It) (w:World) (hc:w.cell? ⟨c,0,none⟩=some (.slice a n cap)) (h:iR w xs a n cap) (hx:xs[i]? = some x) (hF:Fits 0 x) (hk:x.size<=4096) (hb:x.bytes.length<=4294967296) :
  Calls prog 210 #[.int .i64 i,.pointer (some ⟨c,0,none⟩)] w (XE w x):=by
 have hm:=h.max;have hnc:=h.le;unfold maxLen at hm;have hi:i<n:=by rw [<-h.len]; exact (List.getElem?_eq_some_iff.1 hx).1
 obtain ⟨y,b,off,A,N,C,hy,rfl,hblt,hL,hI⟩:=h.at' i hi;obtain rfl:=Option.some.inj (hx.symm.trans hy);have Mz:=World.block_lt_of_cell? w _ hc;obtain ⟨e0,e1,e2⟩:=hL;have hO:Rg.Own (w.alloc (.cells #[.bool x.l,.string x.s,.slice A N C] 102)) w.heap.size (itC x A N C) 102:=Rg.Own.new _ _ _;have HB:Hid (Below w.heap.size w (w.alloc (.cells #[.bool x.l,.string x.s,.slice A N C] 102))):=hid (al1 _ _);cases hl:x.l with
 | false =>
  have HK:Hid (kU x=if dN x.s then some x.s else none):=hid (by unfold kU; rw [hl]; rfl);have HP:=hid (λw=>XO x.s w);rw [hl] at e0 hO HB;obtain ⟨f0,f1,f2⟩:=cB hO.2;rw [hl] at f0;clear h hI hx hy hF hk hb hO;go_enter func210,ntmps210;go_wp2;go_quiet ((go_at_call 143; exact Calls.quiet_of_same (HP.out _)))
  go_wp2;go_ret2
  refine ⟨x.s,dN x.s,rfl,?_,below_drewN HB.out _⟩;rw [HK.out];cases dN x.s
  .exact .inr ⟨rfl,rfl⟩
  .exact .inl ⟨rfl,rfl⟩
 | true =>
  have HK:Hid (kU x=if x.bytes.length<32 then some ⟨x.bytes.toArray⟩ else none):=hid (by unfold kU; rw [hl]; rfl);have nF:=hid (λw1 (hb1:Below w.heap.size w w1)=>yL x w1 (itV x A N C) ⟨A,N,C,rfl,hI.stays hb1⟩ hF hk (by omega));have HS:Hid ((⟨x.bytes.toArray⟩:aL).size=x.bytes.length):=hid (vJ _);have lg:=hid hb;unfold itV at nF;rw [hl] at e0 hO HB nF;obtain ⟨f0,f1,f2⟩:=cB hO.2;rw [hl] at f0;have g0:=(HB.out.cell (p:=⟨b,off+i*3,none⟩) hblt).trans e0;have g1:=(HB.out.cell (p:=⟨b,off+i*3+1,none⟩) hblt).trans e1
  have g2:=(HB.out.cell (p:=⟨b,off+i*3+2,none⟩) hblt).trans e2;have gc:=(HB.out.cell (p:=⟨c,0,none⟩) Mz).trans hc;obtain ⟨X,hX⟩:=ay (⟨x.bytes.toArray⟩:aL)
  have hxs:X.size=x.bytes.length:=by rw [<-hX]; exact HS.out
  rw [hX] at nF HK;have hxb:X.size<=4294967296:=by omega
  rw [<-hxs] at HK;clear h hI hx hy hF hk hb hO HS lg hxs hX;go_enter func210,ntmps210;go_wp2_with fail
  refine (nF.out _ HB.out).mono ?_;rintro e w1 ⟨rfl,hb1⟩;have HB1:=hid (bst HB.out hb1);clear hb1 nF e0 e1 e2 f0 f1 f2 g0 g1 g2 gc hc;by_cases h32:X.size<32
  .have hd:decide ((X.size:Int)<32)=true:=by simp; omega
   go_wp2;go_ret2
   exact ⟨X,true,rfl,.inl ⟨rfl,by rw [HK.out,if_pos h32]⟩,HB1.out⟩
  .have hd:decide ((X.size:Int)<32)=false:=by simp; omega
   go_wp2;go_ret2
   exact ⟨X,false,rfl,.inr ⟨rfl,by rw [HK.out,if_neg h32]⟩,HB1.out⟩
def nM (w:World) (r:Option Nd) (e:Ending) (w':World):Prop:=∃ (N:Nd) (a:aK) (n c:Nat) (b:Bool),e = .returned (.tuple #[.agg (ndC N a n c),.bool b])/\(b=true/\r=some N\/b=false/\r=none)/\
 BsF w.heap.size w' a n c N.p/\N.ks.length=16/\Below w.heap.size w w'
def Good (x:It):Prop:=Fits 0 x/\x.size<=4096/\x.bytes.length<=4294967296/\x.s.size<=1000000
theorem getD_at {xs:List It} (h:i<xs.length):xs[i]? = some (xs.getD i it0):=by simp [h]
theorem EP (xs:List It) (a:aK) (n cap:Nat) (w:World) (h:iR w xs a n cap) (h2:xs.length=2) (hG:∀ x∈xs,Good x) (hbad:(xs.getD 0 it0).s.size=0\/Bad (xs.getD 0 it0).s) :
  Calls prog 187 #[.slice a n cap] w (nM w (eu xs)):=by
 have hR:eu xs=none:=by unfold eu iw; rw [if_pos h2,if_pos hbad]
 rw [hR];have hm:=h.max;have hnc:=h.le;have hl:=h.len;unfold maxLen at hm;obtain ⟨y,b,off,A,N,C,hy,rfl,hblt,hL,hI⟩:=h.at' 0 (by omega);have hyx:xs.getD 0 it0=y:=Option.some.inj ((getD_at (xs:=xs) (i:=0) (by omega)).symm.trans hy);obtain ⟨_,_,_,hs6⟩:=hG y (List.mem_of_getElem? hy);rw [hyx] at hbad;have hcall:Hid (∃ c:Int,c≠0/\∀ w:World,Calls prog 200 #[.string y.s] w λe w'=>e = .returned (.tuple #[.slice none 0 0,.bool false,.int .i64 c])/\Below w.heap.size w w'):=hid (by
  by_cases h0:y.s.size=0
  .refine ⟨5,by decide,λw=>?_⟩;rw [dP h0];refine (Lu w).mono ?_;rintro e w' ⟨rfl,rfl⟩;exact ⟨rfl,aH⟩
  .refine ⟨6,by decide,λw=>?_⟩;exact MC y.s (by omega) hs6 (hbad.resolve_left h0) w)
 obtain ⟨w2,hw2⟩:=au (w.alloc (.cells (ndC nd0 none 0 0) 69))
 have hO:dZ w2 w.heap.size nd0 none 0 0:=by rw [hw2]; exact Rg.Own.new _ _ _
 have hB2:Below w.heap.size w w2:=by rw [hw2]; exact al1 _ _
 obtain ⟨e0,e1,e2⟩:=hL.stays hB2 hblt;rw [Nat.zero_mul,Nat.add_zero] at e0 e1 e2;have HO:=hid hO;have HB2:=hid hB2;obtain ⟨c,hc,hcl⟩:=hcall.out;have hcb:(c != 0)=true:=by simp; exact hc
 have HC:=hid hcl;clear h hL hI hO hB2 hbad hR hG hcall hcl hc hyx hy;subst hw2;go_enter func187,ntmps187;go_wp2_with (refine aA (bD _ _ _ w.heap.size rfl rfl) ?_)
 refine (HC.out _).mono ?_;rintro e w3 ⟨rfl,hb3⟩;have ag:=hid (HO.out.below hb3);have HB3:=hid (bst HB2.out hb3);clear hb3;go_wp2_with (first
  | (refine aA (bL qH ?_) ?_; · exact ⟨_,rfl,rfl⟩)
  | (refine bH ag.out rfl nd0 none 0 0 rfl rfl _ _ rfl rfl rfl rfl ?_))
 exact bodyPost_ret (ig rfl _ rfl (dM ag.out) rfl) rfl ⟨nd0,none,0,0,false,rfl,.inr ⟨rfl,rfl⟩,BsF.nil _ _,rfl,bZ HB3.out aG _⟩
theorem Ib (xs:List It) (a:aK) (n cap:Nat) (w:World) (h:iR w xs a n cap) (h2:xs.length=2) (hG:∀ x∈xs,Good x) (hbad:¬ ((xs.getD 0 it0).s.size=0\/Bad (xs.getD 0 it0).s)) :
  Calls prog 187 #[.slice a n cap] w (nM w (eu xs)):=by
 have hR:eu xs=if oO (xs.getD 0 it0).s then some ⟨1,mO (xs.getD 0 it0).s,(xs.getD 1 it0).s,zks⟩ else (kU (xs.getD 1 it0)).map λk=>⟨2,mO (xs.getD 0 it0).s,eB,fM k⟩:=by unfold eu iw; rw [if_pos h2,if_neg hbad]
 rw [hR];have hm:=h.max;have hnc:=h.le;have hl:=h.len;unfold maxLen at hm;have hn2:n=2:=by omega
 obtain ⟨y,b,off,A,N,C,hy,rfl,hblt,hL,hI⟩:=h.at' 0 (by omega);obtain ⟨z,b',off',A2,N2,C2,hz,e,r7,hL2,hI2⟩:=h.at' 1 (by omega);obtain ⟨rfl,rfl,_⟩:b=b'/\off=off'/\True:=by cases e; exact ⟨rfl,rfl,trivial⟩
 have hyx:xs.getD 0 it0=y:=Option.some.inj ((getD_at (xs:=xs) (i:=0) (by omega)).symm.trans hy);have hzx:xs.getD 1 it0=z:=Option.some.inj ((getD_at (xs:=xs) (i:=1) (by omega)).symm.trans hz);obtain ⟨hf1,hf2,hf3,_⟩:=hG z (List.mem_of_getElem? hz);rw [hyx] at hbad ⊢;rw [hzx];have h0:0<y.s.size:=by omega
 have hB0:¬ Bad y.s:=λe=>hbad (.inr e);have MA:=Xz y.s hB0;have HC:=hid (λw=>Qn y.s h0 hB0 w);obtain ⟨w2,hw2⟩:=au (w.alloc (.cells (ndC nd0 none 0 0) 69))
 have hO:dZ w2 w.heap.size nd0 none 0 0:=by rw [hw2]; exact Rg.Own.new _ _ _
 have hB2:Below w.heap.size w w2:=by rw [hw2]; exact al1 _ _
 obtain ⟨e0,e1,e2⟩:=hL.stays hB2 hblt;rw [Nat.zero_mul,Nat.add_zero] at e0 e1 e2;have HO:=hid hO;have HB2:=hid hB2;have HI:=hid h;have HL2:=hid hL2;have HZ:=hid hz;obtain ⟨P,hP⟩:=ay (mO y.s)
 obtain ⟨lf,hlf⟩:=ay (oO y.s)
 unfold Unp at HC;rw [hP,hlf] at HC;rw [hP] at MA;rw [hP,hlf];clear h hL hI hO hB2 hbad hR hG hyx hy hzx hz hL2 hI2 hB0 hP hlf e;subst hw2;subst hn2;cases lf with
 | true =>
  go_enter func187,ntmps187;go_wp2_with (refine aA (bD _ _ _ w.heap.size rfl rfl) ?_)
  refine (HC.out _).mono ?_;rintro e w3 ⟨a3,n3,c3,rfl,hx3,hb3⟩;have ag:=hid (HO.out.below hb3);have hB3:=bst HB2.out hb3;have HB3:=hid hB3;obtain ⟨f0,f1,f2⟩:=HL2.out.stays hB3 r7;rw [Nat.one_mul] at f0 f1 f2;have ec:n3<=1000000:=by rw [<-hx3.len]; omega
  have oT:=hid (nL a3 n3 c3 P ec z.s w3 hx3);have hz3:=ag.out.1;clear hb3 hB3 hx3 HC e0 e1 e2;go_wp2_with fail
  refine oT.out.mono ?_;rintro e w4 ⟨a4,n4,c4,rfl,hx4,hl4,hb4⟩;have b8:=hid (ag.out.below hb4);have bc:=hid (bst HB3.out hb4);have di:=hid hx4;clear hb4 hx4 oT;go_wp2_with (refine bH b8.out rfl ⟨1,P,z.s,zks⟩ a4 n4 c4 rfl rfl _ _ rfl rfl rfl rfl ?_)
  exact bodyPost_ret (ig rfl _ rfl (dM b8.out) rfl) rfl ⟨⟨1,P,z.s,zks⟩,a4,n4,c4,true,rfl,.inl ⟨rfl,rfl⟩,(di.out.row hz3 _).weak (by omega),rfl,bZ bc.out aG _⟩
 | false =>
  go_enter func187,ntmps187;go_wp2_with (refine aA (bD _ _ _ w.heap.size rfl rfl) ?_)
  refine (HC.out _).mono ?_;rintro e w3 ⟨a3,n3,c3,rfl,hx3,hb3⟩;have ag:=hid (HO.out.below hb3);have HB3:=hid (bst HB2.out hb3);have ec:n3<=1000000:=by rw [<-hx3.len]; omega
  have hz3:=ag.out.1;have cN:=hid hx3;clear hb3 hx3 HC e0 e1 e2;go_wp2_with fail
  refine (Eh _ _ _ _).mono ?_;rintro e w4 ⟨rfl,hw4⟩;have hb4:Below w3.heap.size w3 w4:=by rw [hw4]; exact al1 _ _
  have hc4:w4.cell? ⟨w3.heap.size,0,none⟩=some (.slice (some ⟨b,off,none⟩) 2 cap):=by rw [hw4,World.cell?_alloc_mark]; rfl
  have HK:=hid (Ap w3.heap.size 1 xs (some ⟨b,off,none⟩) 2 cap z w4 hc4 (HI.out.stays (bst HB3.out hb4)) HZ.out hf1 hf2 hf3);have b8:=hid (ag.out.below hb4);have bc:=hid (bst HB3.out hb4);have di:=hid (cN.out.below hb4);have zc:=hb4.size;clear hw4 hb4 hc4;go_wp2_with fail
  refine HK.out.mono ?_;rintro e w5 ⟨s5,b5,rfl,hk5,hb5⟩;have az:=hid (b8.out.below hb5);have aa:=hid (bst bc.out hb5);have HE:=hid (Nb a3 n3 c3 P ec s5 w5 (di.out.below hb5));have MD:=hid hk5;have DO:=hb5.size;clear hb5 hk5 HK;go_wp2_with fail
  refine HE.out.mono ?_;rintro e w6 ⟨a6,n6,c6,rfl,hx6,nj,hb6⟩;have cA:=hid (az.out.below hb6);have bi:=hid (bst aa.out hb6);have oS:=hid hx6;clear hb6 hx6 HE;go_wp2_with (refine bH cA.out rfl ⟨2,P,eB,fM s5⟩ a6 n6 c6 (jo s5) rfl _ _ rfl rfl rfl rfl ?_)
  refine bodyPost_ret (ig rfl _ rfl (dM cA.out) (jo s5)) rfl ⟨⟨2,P,eB,fM s5⟩,a6,n6,c6,b5,rfl,?_,(oS.out.row (by omega) _).weak (by omega),jo s5,bZ bi.out aG _⟩;rcases MD.out with ⟨h1,h2⟩ | ⟨h1,h2⟩
  .exact .inl ⟨h1,by rw [h2]; rfl⟩
  .exact .inr ⟨h1,by rw [h2]; rfl⟩
end No
end
section
open Go.RowKit
namespace Rl
theorem Lv {b:Nat} {x:It} {n:Nat} (h:Rg.Own w b (itC x a n c) 102) (ho:∃ y,o.op = .load 102 y/\ev y = .pointer (some ⟨b,0,none⟩)) :
  (execOp ev o).run prog w = .ok (.value (.agg (itC x a n c))) w:=by
 obtain ⟨y,ho,hx⟩:=ho;have:=lT (cB h.2);unfold execOp;simp only [ho,hx,Instr.loadAt,Instr.sureAddr,Sem.run_bind,Sem.run_pure,Result.andThen_ok,this];rfl
theorem mU {rest:List Oper} {b:Nat} {x:It} {n:Nat} (h:Rg.Own w b (itC x a n c) 102) (y:It) (a':aK) (n' c':Nat)
  (hgd:o.guard=none) (p q:Operand) (ho:o.op = .store 102 p q) (hx:act.eval p = .pointer (some ⟨b,0,none⟩)) (hy:act.eval q = .agg (itC y a' n' c')) (hd:o.dst=none)
  (hQ:wpList prog ops Q rest act (w.setRow b (itC y a' n' c'))):wpList prog ops Q (o::rest) act w :=
 wpList_store_rowTo hgd 102 p q ho hd b _ hx hy 102 _ h.2 (gG _ _ _ _) rfl (iW _ _ _ _) hQ
theorem vI {b:Nat} {cs cs':aN} {T:TypeId} (h:Rg.Own w b cs T):Rg.Own (w.setRow b cs') b cs' T:=qg h
theorem aV {b o:Nat} {cs:aN} {T:TypeId} (h:Rg.Own w b cs T) (v:Value):Rg.Own (w.setCell ⟨b,o,none⟩ v) b (cs.setIfInBounds o v) T :=
 ⟨by simp; exact h.1,heap_setCell_same w b o cs T v h.2⟩
theorem Ar {b g o:Nat} {cs:aN} {T:TypeId} (h:Rg.Own w b cs T) (v:Value) (hne:b≠g):Rg.Own (w.setCell ⟨g,o,none⟩ v) b cs T:=nP h (Ba w g o v) hne
theorem Ri {b:Nat} {cs:aN} {T:TypeId} (h:Rg.Own w b cs T):w.frozen? ⟨b,j,none⟩=false:=by
 simp [World.frozen?,h.2]
end Rl
end
section
open Go.RowKit
namespace No
open Rl Ni
theorem Ea (l:List It) (x:It):nV (l++[x])=match nV l with
  | none=>none
  | some ks=>match kU x with
   | none=>none
   | some k=>some (ks++[k]):=by
 induction l with
 | nil =>
  simp only [List.nil_append,nV];cases kU x <;> rfl
 | cons y ys ih =>
  simp only [List.cons_append,nV,ih];cases kU y <;> cases nV ys <;> cases kU x <;> rfl
theorem BM {l r:List It} (h:nV l=none):nV (l++r)=none:=by
 induction l with
 | nil=>cases h
 | cons y ys ih =>
  simp only [List.cons_append,nV] at h ⊢;cases hy:kU y with
  | none=>rfl
  | some k =>
   rw [hy] at h;dsimp only at h ⊢;cases hys:nV ys with
   | none=>rw [ih hys]
   | some ks=>rw [hys] at h; cases h
theorem PK {xs:List It} {x:It} {ks:List aL} (hx:xs[j]? = some x) (h:nV (xs.take j)=some ks) {k:aL} (hk:kU x=some k):nV (xs.take (j+1))=some (ks++[k]):=by
 rw [List.take_add_one,hx,Option.toList_some,Ea,h,hk]
theorem QE {xs:List It} {m:Nat} {x:It} (hx:xs[j]? = some x) (hj:j<m) (hk:kU x=none):nV (xs.take m)=none:=by
 have:xs.take m=xs.take (j+1)++(xs.drop (j+1)).take (m-(j+1)):=by rw [<-List.take_add,show j+1+(m-(j+1))=m by omega]
 rw [this];refine BM ?_;rw [List.take_add_one,hx,Option.toList_some,Ea,hk];cases nV (xs.take j) <;> rfl
theorem zi (ks:List aL) (j:Nat) (hj:j<16) (hl:ks.length=j) (k:aL):(iA (ks++List.replicate (16-j) eB)).setIfInBounds j (.string k)=iA (ks++[k]++List.replicate (16-(j+1)) eB):=by
 unfold iA;rw [show 16-j=(16-(j+1))+1 by omega,List.replicate_succ];simp [hl]
theorem Pg {b:Nat} {ks:List aL} (h:qL w b ks) (j:Nat) (hj:j<ks.length):w.cell? ⟨b,j,none⟩=some (.string (ks.getD j eB)):=by
 rw [cell_of_row w b _ _ _ _ h.2];unfold iA;simp [List.getD,hj]
theorem Aj (xs:List It) (a:aK) (n cap:Nat) (w:World) (h:iR w xs a n cap) (fN:xs.length=17) (hG:∀ x∈xs,Good x) :
  Calls prog 188 #[.slice a n cap] w (nM w (eu xs)):=by
 have hR:eu xs=dG xs:=by unfold eu; rw [if_neg (by omega),if_pos fN]
 rw [hR];have hm:=h.max;have hnc:=h.le;have hl:=h.len;unfold maxLen at hm;have ME:n=17:=by omega
 have HX:Hid (∀ j,j<17->∃ x,xs[j]? = some x/\Fits 0 x/\x.size<=4096/\x.bytes.length<=4294967296):=hid (λj hj=>by
  have hx:xs[j]? = some (xs[j]'(by omega)):=List.getElem?_eq_getElem (by omega);obtain ⟨g1,g2,g3,_⟩:=hG _ (List.mem_of_getElem? hx);exact ⟨_,hx,g1,g2,g3⟩)
 obtain ⟨w2,hw2⟩:=au (w.alloc (.cells (ndC nd0 none 0 0) 69))
 have hO:dZ w2 w.heap.size nd0 none 0 0:=by rw [hw2]; exact Rg.Own.new _ _ _
 have hB2:Below w.heap.size w w2:=by rw [hw2]; exact al1 _ _
 have hs2:w2.heap.size=w.heap.size+1:=by rw [hw2]; simp
 have HO:=hid hO;have HB2:=hid hB2;have HI:=hid h;have HR:=hid (rfl:dG xs=dG xs);obtain ⟨y,b,off,A,N,C,hy,ha,hblt,hL,hI⟩:=h.at' 16 (by omega);have qv:=hid hL;have HY:=hid hy;have TO:=hid fN;clear h hO hB2 hG hR hl hL hI hy fN;subst hw2;subst ME;subst ha;go_enter func188,ntmps188;go_wp2_with (refine aA (bD _ _ _ w.heap.size rfl rfl) ?_)
 refine (Eh _ _ _ _).mono ?_;rintro e w3 ⟨rfl,hw3⟩;have hb3:Below (w.alloc (.cells (ndC nd0 none 0 0) 69)).heap.size (w.alloc (.cells (ndC nd0 none 0 0) 69)) w3:=by rw [hw3]; exact al1 _ _
 have hs3:w3.heap.size=w.heap.size+2:=by rw [hw3]; simp
 have hc3:w3.cell? ⟨w.heap.size+1,0,none⟩=some (.slice (some ⟨b,off,none⟩) 17 cap):=by
  rw [hw3,<-hs2,World.cell?_alloc_mark]; rfl
 have hO4:=(HO.out.below hb3).below (al1 w3 (.cells (iA zks) 67));have hK4:=Rg.Own.new w3 (iA zks) 67;rw [hs3] at hK4;have hB4:=(bst HB2.out hb3).trans ((al1 w3 (.cells (iA zks) 67)).mono (by omega));have hc4:(w3.alloc (.cells (iA zks) 67)).cell? ⟨w.heap.size+1,0,none⟩=some (.slice (some ⟨b,off,none⟩) 17 cap):=by
  rw [(al1 w3 _).cell (p:=⟨w.heap.size+1,0,none⟩) (by show w.heap.size+1<_; omega)]; exact hc3
 have b8:=hid hO4;have TX:=hid hK4;have bc:=hid hB4;have Fd:=hid hc4;have hcv:(w.alloc (.cells (ndC nd0 none 0 0) 69)).heap.size=w.heap.size+1:=hs2;simp only [hcv];clear hb3 hO4 hK4 hB4 hc4 hc3 hw3 HO HB2 hs2 hcv;go_wp2_with (refine aA (uT _ _ _ (w.heap.size+2) hs3.symm rfl) ?_)
 have hq:Hid (nV (xs.take 0)=some []):=hid rfl;go_loopw [12] (λi wr=>∃ (j:Nat) (ks:List aL),j<=16/\i = .int .i64 j/\ks.length=j/\Hid (nV (xs.take j)=some ks)/\Hid (qL wr (w.heap.size+2) (ks++List.replicate (16-j) eB))/\Hid (dZ wr w.heap.size nd0 none 0 0)/\Hid (wr.cell? ⟨w.heap.size+1,0,none⟩=some (.slice (some ⟨b,off,none⟩) 17 cap))/\Hid (Below w.heap.size w wr)) (λi _=>16-(intOf i).toNat)
 case atStart=>exact ⟨0,[],Nat.zero_le _,rfl,rfl,hq,hid TX.out,hid b8.out,hid Fd.out,hid bc.out⟩
 case round =>
  obtain ⟨j,ks,hj,rfl,hkj,HA,HK,HN,HC,HB⟩:=hrel;clear hq b8 TX bc Fd hs3;by_cases hlt:j<16
  .obtain ⟨x,hx,hf1,hf2,hf3⟩:=HX.out j (by omega);have HT:=hid (Ap (w.heap.size+1) j xs (some ⟨b,off,none⟩) 17 cap x wr HC.out (HI.out.stays HB.out) hx hf1 hf2 hf3);have Hx:=hid hx;clear hx hf1 hf2 hf3;go_wp2_with fail
   refine HT.out.mono ?_;rintro e w5 ⟨s5,b5,rfl,hk5,hb5⟩;have gR:=hid (HN.out.below hb5);have we:=HK.out.below hb5;have aa:=hid (bst HB.out hb5);have ss:=hid ((Below.cell (p:=⟨w.heap.size+1,0,none⟩) hb5 (World.block_lt_of_cell? wr _ HC.out)).trans HC.out);have hl5:(ks++List.replicate (16-j) eB).length=16:=by simp; omega
   have c5:=Pg we j (by omega);have f5:w5.frozen? ⟨w.heap.size+2,j,none⟩=false:=Ri we;have MD:=hid we;have TZ:=hid hk5;clear hk5 hb5 we HT HN HK HB HC;cases b5 with
   | true =>
    have MM:Hid (kU x=some s5):=hid (by rcases TZ.out with ⟨_,h⟩ | ⟨h,_⟩; exact h; cases h);go_wp2;go_roundw
    case rel =>
     refine ⟨j+1,ks++[s5],by omega,by go_num,by simp [hkj],hid (PK Hx.out HA.out MM.out),hid ?_,hid (Ar gR.out _ (by omega)),hid ?_,hid ?_⟩
     .have h:=aV (o:=j) MD.out (.string s5);rw [zi ks j hlt hkj s5] at h;exact h
     .rw [World.cell?_setCell_far _ _ _ _ (by show w.heap.size+2≠w.heap.size+1; omega)]; exact ss.out
     .exact aa.out.setCell (by show w.heap.size<=w.heap.size+2; omega) _
    case measure=>simp [intOf]; omega
   | false =>
    have MM:Hid (kU x=none):=hid (by rcases TZ.out with ⟨h,_⟩ | ⟨_,h⟩; cases h; exact h);go_wp2_with (first
     | (refine aA (bL qH ?_) ?_; · exact ⟨_,rfl,rfl⟩)
     | (refine bH gR.out rfl nd0 none 0 0 rfl rfl _ _ rfl rfl rfl rfl ?_))
    refine bodyPost_ret (ig rfl _ rfl (dM gR.out) rfl) rfl ⟨nd0,none,0,0,false,rfl,.inr ⟨rfl,?_⟩,BsF.nil _ _,rfl,bZ aa.out aG _⟩;unfold dG;rw [QE Hx.out hlt MM.out]
  .obtain rfl:j=16:=by omega
   have dq:Hid (dG xs=if y.l=false/\y.s.size=0 then some ⟨3,[],eB,ks⟩ else none):=hid (by
    unfold dG;rw [HA.out];have:xs.getD 16 it0=y:=Option.some.inj ((getD_at (xs:=xs) (i:=16) (by rw [TO.out]; omega)).symm.trans HY.out);rw [this])
   have lh:Hid (qL wr (w.heap.size+2) ks):=hid (by have:=HK.out; simpa using this);have hkl:ks.length=16:=hkj;have q0:wr.cell? ⟨b,off+48,none⟩=some (.bool y.l):=(Below.cell (p:=⟨b,_,none⟩) HB.out hblt).trans qv.out.1;have q1:wr.cell? ⟨b,off+48+1,none⟩=some (.string y.s):=(Below.cell (p:=⟨b,_,none⟩) HB.out hblt).trans qv.out.2.1;have q2:wr.cell? ⟨b,off+48+2,none⟩=some (.slice A N C):=(Below.cell (p:=⟨b,_,none⟩) HB.out hblt).trans qv.out.2.2;clear HA HK HC HX qv HY TO HI HR;cases hyl:y.l with
   | true =>
    have HF:Hid (dG xs=none):=hid (by rw [dq.out,hyl]; rfl);clear dq;rw [hyl] at q0;obtain ⟨wl,hwl⟩:=au (wr.alloc (.cells #[.bool true,.string y.s,.slice A N C] 102))
    have hbl:Below wr.heap.size wr wl:=by rw [hwl]; exact al1 _ _
    have hcl:wr.heap.size<wl.heap.size:=by rw [hwl]; simp
    have e0:wl.cell? ⟨wr.heap.size,0,none⟩=some (.bool true):=by rw [hwl,World.cell?_alloc_mark]; rfl
    have e1:wl.cell? ⟨wr.heap.size,1,none⟩=some (.string y.s):=by rw [hwl,World.cell?_alloc_mark]; rfl
    have cl:=hid (lh.out.below hbl);have ca:=hid (HN.out.below hbl);have lg:=hid (bst HB.out hbl);clear hbl;go_wp2_with fail
    rw [<-hwl];clear hwl;obtain ⟨g,hg⟩:=ay wr.heap.size
    have hge:w.heap.size+2<g:=by rw [<-hg]; exact lh.out.1
    rw [hg] at e0 e1 hcl ⊢;clear hg;have rI:=ca.out.drew;have hw0:w.heap.size<wl.drew.heap.size:=ca.out.1;refine aC (S:=λw'=>Rg.Own w' (w.heap.size+2) (iA ks) 67/\w'.cell? ⟨g,0,none⟩=some (.bool true)/\w'.cell? ⟨g,1,none⟩=some (.string y.s)/\Below w.heap.size w w') (⟨cl.out.drew,e0,e1,lg.out.drew⟩) λhld=>?_;refine ah 0 ?_ (hy:=by intro wz hSw; (refine nY hSw.1 hkl ?_; exact ⟨_,rfl,rfl⟩));try simp only [Act.put,ak]
    refine ah 2 ?_;try simp only [Act.put,ak]
    refine ah 3 ?_ (hy:=by intro wz hSw; (have q0:=hSw.2.1; go_simp <;> with_reducible rfl));try simp only [Act.put,ak]
    refine ah 4 ?_;try simp only [Act.put,ak]
    refine aj 1 λK hK=>?_;go_simp;go_at_call 75
    (with_reducible refine (jK ks hkl _).mono ?_)
    rintro e gr ⟨a5,n5,c5,rfl,hx5,hl5,hbx⟩;have rK:=rI.below hbx;have hg0:g<wl.drew.heap.size:=World.block_lt_of_cell? _ _ hld.2.1;refine hK.out _ _ (⟨hld.1.below hbx,(Below.cell (p:=⟨g,0,none⟩) hbx hg0).trans hld.2.1,(Below.cell (p:=⟨g,1,none⟩) hbx hg0).trans hld.2.2.1,bst hld.2.2.2 hbx⟩) λhld=>?_;clear hK K hbx rI;try simp only [Act.put,ak]
    refine ah 5 ?_;try simp only [Act.put,ak]
    refine Rg.takeL (i:=6) (v:=undef) rfl (by kernel_rfl) (by kernel_rfl) (by kernel_rfl) (λ_ _ _ h=>h) (Or.inr ⟨by rfl,rfl⟩) (by assumption) ?_;try simp only [Act.put,ak]
    refine Rg.takeL (i:=7) (v:=undef) rfl (by kernel_rfl) (by kernel_rfl) (by kernel_rfl) (λ_ _ _ h=>h) (Or.inr ⟨by rfl,rfl⟩) (by assumption) ?_;try simp only [Act.put,ak]
    refine Rg.takeL (i:=8) (v:=undef) rfl (by kernel_rfl) (by kernel_rfl) (by kernel_rfl) (λ_ _ _ h=>h) (Or.inr ⟨by rfl,rfl⟩) (by assumption) ?_;try simp only [Act.put,ak]
    refine ah 9 ?_;try simp only [Act.put,ak]
    refine aj 10 λK hK=>?_;refine Rg.meetStore (by rfl) rK 69 (ndC ⟨3,[],eB,ks⟩ a5 n5 c5) ⟨_,_,rfl,rfl,rfl⟩ (mE _ _ _ _ hkl) (by rw [fQ _ _ _ _ rfl,fQ _ _ _ _ hkl]) (qw _ _ _ _) ?_;rintro wz hn hu;have hx6:BsF w.heap.size wz a5 n5 c5 []:=(hx5.upd hu (by omega)).weak (by omega);refine hK.out _ _ (⟨hld.1.upd hu (by omega),(World.cell?_of_block (hu.block g (by omega))).trans hld.2.1,(World.cell?_of_block (hu.block g (by omega))).trans hld.2.2.1,hu.below hld.2.2.2 aG⟩) λhld=>?_;clear hK K rK hx5;try simp only [Act.put]
    refine ah 11 ?_;try simp only [Act.put,ak]
    refine aB ?_;go_wp2;exact bodyPost_ret (ig rfl _ rfl hn hkl) rfl ⟨⟨3,[],eB,ks⟩,a5,n5,c5,false,rfl,.inr ⟨rfl,HF.out⟩,hx6,hkl,hld.2.2.2⟩
   | false =>
    rw [hyl] at q0;by_cases hys:y.s.size=0
    .have hye:=dP hys;have HF:Hid (dG xs=some ⟨3,[],eB,ks⟩):=hid (by rw [dq.out,if_pos ⟨hyl,hys⟩]);clear dq;rw [hye] at q1;obtain ⟨wl,hwl⟩:=au (wr.alloc (.cells #[.bool false,.string ⟨#[]⟩,.slice A N C] 102))
     have hbl:Below wr.heap.size wr wl:=by rw [hwl]; exact al1 _ _
     have hcl:wr.heap.size<wl.heap.size:=by rw [hwl]; simp
     have e0:wl.cell? ⟨wr.heap.size,0,none⟩=some (.bool false):=by rw [hwl,World.cell?_alloc_mark]; rfl
     have e1:wl.cell? ⟨wr.heap.size,1,none⟩=some (.string ⟨#[]⟩):=by rw [hwl,World.cell?_alloc_mark]; rfl
     have cl:=hid (lh.out.below hbl);have ca:=hid (HN.out.below hbl);have lg:=hid (bst HB.out hbl);clear hbl;go_wp2_with fail
     rw [<-hwl];clear hwl;obtain ⟨g,hg⟩:=ay wr.heap.size
     have hge:w.heap.size+2<g:=by rw [<-hg]; exact lh.out.1
     rw [hg] at e0 e1 hcl ⊢;clear hg;have rI:=ca.out.drew;have hw0:w.heap.size<wl.drew.heap.size:=ca.out.1;refine aC (S:=λw'=>Rg.Own w' (w.heap.size+2) (iA ks) 67/\w'.cell? ⟨g,0,none⟩=some (.bool false)/\w'.cell? ⟨g,1,none⟩=some (.string ⟨#[]⟩)/\Below w.heap.size w w') (⟨cl.out.drew,e0,e1,lg.out.drew⟩) λhld=>?_;refine ah 0 ?_ (hy:=by intro wz hSw; (refine nY hSw.1 hkl ?_; exact ⟨_,rfl,rfl⟩));try simp only [Act.put,ak]
     refine ah 2 ?_;try simp only [Act.put,ak]
     refine ah 3 ?_ (hy:=by intro wz hSw; (have q0:=hSw.2.1; go_simp <;> with_reducible rfl));try simp only [Act.put,ak]
     refine ah 4 ?_;try simp only [Act.put,ak]
     refine aj 1 λK hK=>?_;go_simp;go_at_call 75
     (with_reducible refine (jK ks hkl _).mono ?_)
     rintro e gr ⟨a5,n5,c5,rfl,hx5,hl5,hbx⟩;have rK:=rI.below hbx;have hg0:g<wl.drew.heap.size:=World.block_lt_of_cell? _ _ hld.2.1;refine hK.out _ _ (⟨hld.1.below hbx,(Below.cell (p:=⟨g,0,none⟩) hbx hg0).trans hld.2.1,(Below.cell (p:=⟨g,1,none⟩) hbx hg0).trans hld.2.2.1,bst hld.2.2.2 hbx⟩) λhld=>?_;clear hK K hbx rI;try simp only [Act.put,ak]
     refine ah 5 ?_;try simp only [Act.put,ak]
     refine ah 6 ?_;try simp only [Act.put,ak]
     refine ah 7 ?_ (hy:=by intro wz hSw; (have q0:=hSw.2.2.1; go_simp <;> with_reducible rfl));try simp only [Act.put,ak]
     refine ah 8 ?_;try simp only [Act.put,ak]
     refine ah 9 ?_;try simp only [Act.put,ak]
     refine aj 10 λK hK=>?_;refine Rg.meetStore (by rfl) rK 69 (ndC ⟨3,[],eB,ks⟩ a5 n5 c5) ⟨_,_,rfl,rfl,rfl⟩ (mE _ _ _ _ hkl) (by rw [fQ _ _ _ _ rfl,fQ _ _ _ _ hkl]) (qw _ _ _ _) ?_;rintro wz hn hu;have hx6:BsF w.heap.size wz a5 n5 c5 []:=(hx5.upd hu (by omega)).weak (by omega);refine hK.out _ _ (⟨hld.1.upd hu (by omega),(World.cell?_of_block (hu.block g (by omega))).trans hld.2.1,(World.cell?_of_block (hu.block g (by omega))).trans hld.2.2.1,hu.below hld.2.2.2 aG⟩) λhld=>?_;clear hK K rK hx5;try simp only [Act.put]
     refine ah 11 ?_;try simp only [Act.put,ak]
     refine aB ?_;go_wp2;exact bodyPost_ret (ig rfl _ rfl hn hkl) rfl ⟨⟨3,[],eB,ks⟩,a5,n5,c5,true,rfl,.inl ⟨rfl,HF.out⟩,hx6,hkl,hld.2.2.2⟩
    .have hne:=Ni.dJ (s:=y.s) (by omega);obtain ⟨T,hT⟩:=ay y.s
     have HF:Hid (dG xs=none):=hid (by rw [dq.out,if_neg (λe=>hys e.2)]);clear dq;rw [hT] at q1 hne hys;obtain ⟨wl,hwl⟩:=au (wr.alloc (.cells #[.bool false,.string T,.slice A N C] 102))
     have hbl:Below wr.heap.size wr wl:=by rw [hwl]; exact al1 _ _
     have hcl:wr.heap.size<wl.heap.size:=by rw [hwl]; simp
     have e0:wl.cell? ⟨wr.heap.size,0,none⟩=some (.bool false):=by rw [hwl,World.cell?_alloc_mark]; rfl
     have e1:wl.cell? ⟨wr.heap.size,1,none⟩=some (.string T):=by rw [hwl,World.cell?_alloc_mark]; rfl
     have cl:=hid (lh.out.below hbl);have ca:=hid (HN.out.below hbl);have lg:=hid (bst HB.out hbl);clear hbl;go_wp2_with fail
     rw [<-hwl];clear hwl;obtain ⟨g,hg⟩:=ay wr.heap.size
     have hge:w.heap.size+2<g:=by rw [<-hg]; exact lh.out.1
     rw [hg] at e0 e1 hcl ⊢;clear hg;have rI:=ca.out.drew;have hw0:w.heap.size<wl.drew.heap.size:=ca.out.1;refine aC (S:=λw'=>Rg.Own w' (w.heap.size+2) (iA ks) 67/\w'.cell? ⟨g,0,none⟩=some (.bool false)/\w'.cell? ⟨g,1,none⟩=some (.string T)/\Below w.heap.size w w') (⟨cl.out.drew,e0,e1,lg.out.drew⟩) λhld=>?_;refine ah 0 ?_ (hy:=by intro wz hSw; (refine nY hSw.1 hkl ?_; exact ⟨_,rfl,rfl⟩));try simp only [Act.put,ak]
     refine ah 2 ?_;try simp only [Act.put,ak]
     refine ah 3 ?_ (hy:=by intro wz hSw; (have q0:=hSw.2.1; go_simp <;> with_reducible rfl));try simp only [Act.put,ak]
     refine ah 4 ?_;try simp only [Act.put,ak]
     refine aj 1 λK hK=>?_;go_simp;go_at_call 75
     (with_reducible refine (jK ks hkl _).mono ?_)
     rintro e gr ⟨a5,n5,c5,rfl,hx5,hl5,hbx⟩;have rK:=rI.below hbx;have hg0:g<wl.drew.heap.size:=World.block_lt_of_cell? _ _ hld.2.1;refine hK.out _ _ (⟨hld.1.below hbx,(Below.cell (p:=⟨g,0,none⟩) hbx hg0).trans hld.2.1,(Below.cell (p:=⟨g,1,none⟩) hbx hg0).trans hld.2.2.1,bst hld.2.2.2 hbx⟩) λhld=>?_;clear hK K hbx rI;try simp only [Act.put,ak]
     refine ah 5 ?_;try simp only [Act.put,ak]
     refine ah 6 ?_;try simp only [Act.put,ak]
     refine ah 7 ?_ (hy:=by intro wz hSw; (have q0:=hSw.2.2.1; go_simp <;> with_reducible rfl));try simp only [Act.put,ak]
     refine ah 8 ?_;try simp only [Act.put,ak]
     refine ah 9 ?_;try simp only [Act.put,ak]
     refine aj 10 λK hK=>?_;refine Rg.meetStore (by rfl) rK 69 (ndC ⟨3,[],eB,ks⟩ a5 n5 c5) ⟨_,_,rfl,rfl,rfl⟩ (mE _ _ _ _ hkl) (by rw [fQ _ _ _ _ rfl,fQ _ _ _ _ hkl]) (qw _ _ _ _) ?_;rintro wz hn hu;have hx6:BsF w.heap.size wz a5 n5 c5 []:=(hx5.upd hu (by omega)).weak (by omega);refine hK.out _ _ (⟨hld.1.upd hu (by omega),(World.cell?_of_block (hu.block g (by omega))).trans hld.2.1,(World.cell?_of_block (hu.block g (by omega))).trans hld.2.2.1,hu.below hld.2.2.2 aG⟩) λhld=>?_;clear hK K rK hx5;try simp only [Act.put]
     refine ah 11 ?_;try simp only [Act.put,ak]
     refine aB ?_;go_wp2;exact bodyPost_ret (ig rfl _ rfl hn hkl) rfl ⟨⟨3,[],eB,ks⟩,a5,n5,c5,false,rfl,.inr ⟨rfl,HF.out⟩,hx6,hkl,hld.2.2.2⟩
theorem Pf (xs:List It) (a:aK) (n cap:Nat) (w:World) (h:iR w xs a n cap) (h2:xs.length≠2) (fN:xs.length≠17) :
  Calls prog 173 #[.slice a n cap] w (nM w (eu xs)):=by
 have hR:eu xs=none:=by unfold eu; rw [if_neg h2,if_neg fN]
 rw [hR];have hm:=h.max;have hnc:=h.le;have hl:=h.len;unfold maxLen at hm;have d2:decide ((n:Int)=2)=false:=by simp; omega
 have d17:decide ((n:Int)=17)=false:=by simp; omega
 have d2':((n:Int)==2)=false:=by simp; omega
 have d17':((n:Int)==17)=false:=by simp; omega
 obtain ⟨w2,hw2⟩:=au (w.alloc (.cells (ndC nd0 none 0 0) 69))
 have hO:dZ w2 w.heap.size nd0 none 0 0:=by rw [hw2]; exact Rg.Own.new _ _ _
 have HB2:Hid (Below w.heap.size w w2):=hid (by rw [hw2]; exact al1 _ _);have HO:=hid hO;clear h hO hR h2 fN hl;subst hw2;go_enter func173,ntmps173;go_wp2_with (first
  | (refine aA (bD _ _ _ w.heap.size rfl rfl) ?_)
  | (refine aA (bL qH ?_) ?_; · exact ⟨_,rfl,rfl⟩)
  | (refine bH HO.out rfl nd0 none 0 0 rfl rfl _ _ rfl rfl rfl rfl ?_))
 exact bodyPost_ret (ig rfl _ rfl (dM HO.out) rfl) rfl ⟨nd0,none,0,0,false,rfl,.inr ⟨rfl,rfl⟩,BsF.nil _ _,rfl,bZ HB2.out aG _⟩
theorem VO (xs:List It) (a:aK) (n cap:Nat) (w:World) (h:iR w xs a n cap) (hG:∀ x∈xs,Good x) :
  Calls prog 173 #[.slice a n cap] w (nM w (eu xs)):=by
 by_cases h2:xs.length=2
 .have hP:∀ w,iR w xs a n cap->Calls prog 187 #[.slice a n cap] w (nM w (eu xs)):=λw h=>by
   by_cases hbad:(xs.getD 0 it0).s.size=0\/Bad (xs.getD 0 it0).s
   .exact EP xs a n cap w h h2 hG hbad
   .exact Ib xs a n cap w h h2 hG hbad
  have hl:=h.len;obtain rfl:n=2:=by omega
  obtain ⟨w2,hw2⟩:=au (w.alloc (.cells (ndC nd0 none 0 0) 69))
  have hO:dZ w2 w.heap.size nd0 none 0 0:=by rw [hw2]; exact Rg.Own.new _ _ _
  have hB2:Below w.heap.size w w2:=by rw [hw2]; exact al1 _ _
  have HB2:=hid hB2;have HP:=hid (hP w2 (h.stays hB2));have HO:=hid hO;obtain ⟨R,hR⟩:=ay (eu xs)
  rw [hR] at HP ⊢;clear h hO hB2 hP hR hG hl h2;subst hw2;go_enter func173,ntmps173;go_wp2_with (refine aA (bD _ _ _ w.heap.size rfl rfl) ?_)
  refine HP.out.mono ?_;rintro e w3 ⟨N,a3,n3,c3,b3,rfl,hr3,hx3,hl3,hb3⟩;have ag:=hid (HO.out.below hb3);have HB3:=hid (bst HB2.out hb3);have cN:=hid hx3;have oX:=hid hl3;have HR3:=hid hr3;clear hb3 hx3 hl3 hr3 HP;go_wp2_with (refine bH ag.out rfl N a3 n3 c3 oX.out rfl _ _ rfl rfl rfl rfl ?_)
  exact bodyPost_ret (ig rfl _ rfl (dM ag.out) oX.out) rfl ⟨N,a3,n3,c3,b3,rfl,HR3.out,(cN.out.row (by simp) _).weak (by simp),oX.out,bZ HB3.out aG _⟩
 .by_cases fN:xs.length=17
  .have hP:∀ w,iR w xs a n cap->Calls prog 188 #[.slice a n cap] w (nM w (eu xs)):=λw h=>Aj xs a n cap w h fN hG;have hl:=h.len;obtain rfl:n=17:=by omega
   obtain ⟨w2,hw2⟩:=au (w.alloc (.cells (ndC nd0 none 0 0) 69))
   have hO:dZ w2 w.heap.size nd0 none 0 0:=by rw [hw2]; exact Rg.Own.new _ _ _
   have hB2:Below w.heap.size w w2:=by rw [hw2]; exact al1 _ _
   have HB2:=hid hB2;have HP:=hid (hP w2 (h.stays hB2));have HO:=hid hO;obtain ⟨R,hR⟩:=ay (eu xs)
   rw [hR] at HP ⊢;clear h hO hB2 hP hR hG hl h2 fN;subst hw2;go_enter func173,ntmps173;go_wp2_with (refine aA (bD _ _ _ w.heap.size rfl rfl) ?_)
   refine HP.out.mono ?_;rintro e w3 ⟨N,a3,n3,c3,b3,rfl,hr3,hx3,hl3,hb3⟩;have ag:=hid (HO.out.below hb3);have HB3:=hid (bst HB2.out hb3);have cN:=hid hx3;have oX:=hid hl3;have HR3:=hid hr3;clear hb3 hx3 hl3 hr3 HP;go_wp2_with (refine bH ag.out rfl N a3 n3 c3 oX.out rfl _ _ rfl rfl rfl rfl ?_)
   exact bodyPost_ret (ig rfl _ rfl (dM ag.out) oX.out) rfl ⟨N,a3,n3,c3,b3,rfl,HR3.out,(cN.out.row (by simp) _).weak (by simp),oX.out,bZ HB3.out aG _⟩
  .exact Pf xs a n cap w h h2 fN
end No
end
end Go.Proofs.YtoipgepkhomfgaaGreatDoor
