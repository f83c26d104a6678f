/-
 Contracts of the plain answers' Of and Sum.
-/
import Derived.Test.YtokaiemgjngcoaaGreatDoorVr6
import Derived.Test.YtokaiemgjngcoaaGreatDoorVr5
import Derived.WideKeyArr2
open Go.Lib (hid)
open Go.Proofs.Tryz
set_option linter.unusedSimpArgs false
set_option linter.unusedVariables false
set_option maxHeartbeats 40000000
set_option maxRecDepth 100000
namespace Go.Proofs.YtokaiemgjngcoaaGreatDoor
variable {c i n:Nat} {ev:Operand->Value} {o:Oper} {w:World} {a:aL} {ops:Array Oper} {act:Act} {Q:Exit->Act->World->Prop}
section
open Go.RowKit
namespace Sh
end Sh
end
section
open Go.RowKit
namespace Sm
open Sh
theorem BX:prog.eqGuardType prog.depth 23=false:=by kernel_rfl
theorem fJ (ev:Operand->Value) (o:Oper) (w:World) (g:Nat) (l:aN) (hl:l.length=32) (h:∃ x,o.op = .load 23 x/\ev x = .pointer (some ⟨g,0,none⟩)) (hg:Rg.Own w g (kc l) 23) :
  (execOp ev o).run prog w = .ok (.value (.agg (kc l))) w:=by
 obtain ⟨x,ho,hx⟩:=h;have hr:=run_loadVar_row (P:=prog) w g 23 23 (kc l) (0,0) _ hg.2 underlying23 rfl (je l hl);unfold execOp;simp only [ho,hx,Instr.loadAt,Instr.sureAddr,Sem.run_bind,Sem.run_pure,Result.andThen_ok,hr]
end Sm
end
section
open Go.RowKit Go.WideMaps
namespace Rf
open Sh Sm Ni
def mU (s:aM):aN:=Nn s.data.toList
theorem kV (s:aM):(mU s).length=32:=pG _
end Rf
end
section
open Go.RowKit
namespace Sm
open Sh
end Sm
end
section
open Go.RowKit
namespace No
open Rl Ni
theorem KJ (x:It):∀ {d e:Nat},Fits d x->e<=d->Fits e x:=by
 induction x using It.ind with
 | h l s xs ih =>
  intro d e h he;cases h with
  | mk ha hs hx hy=>exact .mk (by omega) hs hx (λy hm=>ih y hm (hy y hm) (by omega))
theorem Cb (a:aL) (n cap:Nat) (w:World) :
  Calls prog 159 #[.slice a n cap] w λe w'=>e = .returned (.func (Fn.func 177) #[] #[.pointer (some ⟨w.heap.size,0,none⟩)])/\w'=w.alloc (.cells #[.slice a n cap] 94):=by
 go_enter func159,ntmps159;go_wp2;go_ret;exact ⟨rfl,rfl⟩
theorem QY (s:aM) (w:World):Calls prog 143 #[.string s] w λe w'=>e = .returned (.bool (dG s))/\w'=w.drewN 0:=by
 refine (uL s w).mono ?_;rintro e w' ⟨rfl,rfl⟩;exact ⟨rfl,rfl⟩
def Rk (w:World) (x:It) (e:Ending) (w':World):Prop:=∃ (s:aM) (b:Bool),e = .returned (.tuple #[.string s,.bool b])/\(b=true/\jP x=some s\/b=false/\jP x=none)/\Below w.heap.size w w'
theorem xK (c i:Nat) (xs:List It) (a:aL) (n cap:Nat) (x:It) (w:World) (hc:w.cell? ⟨c,0,none⟩=some (.slice a n cap)) (h:iq w xs a n cap) (hx:xs[i]? = some x) (hF:Fits 0 x) (hk:x.size<=4096) (hb:x.bytes.length<=4294967296) :
  Calls prog 177 #[.int .i64 i,.pointer (some ⟨c,0,none⟩)] w (Rk w x):=by
 have hm:=h.max;have hnc:=h.le;unfold maxLen at hm;have hi:i<n:=by rw [<-h.len]; exact (List.getElem?_eq_some_iff.1 hx).1
 obtain ⟨y,b,off,A,N,C,hy,rfl,hblt,hL,hI⟩:=h.at' i hi;obtain rfl:=Option.some.inj (hx.symm.trans hy);have pS:=World.block_lt_of_cell? w _ hc;obtain ⟨e0,e1,e2⟩:=hL;have hO:Rg.Own (w.alloc (.cells #[.bool x.l,.string x.s,.slice A N C] 96)) w.heap.size (itC x A N C) 96:=Rg.Own.new _ _ _;have HB:Hid (Below w.heap.size w (w.alloc (.cells #[.bool x.l,.string x.s,.slice A N C] 96))):=hid (al1 _ _);cases hl:x.l with
 | false =>
  have HK:Hid (jP x=if dG x.s then some x.s else none):=hid (by unfold jP; rw [hl]; rfl);have HP:=hid (λw=>QY x.s w);rw [hl] at e0 hO HB;obtain ⟨f0,f1,f2⟩:=bY hO.2;rw [hl] at f0;clear h hI hx hy hF hk hb hO;go_enter func177,ntmps177;go_wp2;go_quiet ((go_at_call 143; exact Calls.quiet_of_same (HP.out _)))
  go_wp2;go_ret2
  refine ⟨x.s,dG x.s,rfl,?_,below_drewN HB.out _⟩;rw [HK.out];cases dG x.s
  .exact .inr ⟨rfl,rfl⟩
  .exact .inl ⟨rfl,rfl⟩
 | true =>
  have HK:Hid (jP x=if x.bytes.length<32 then some ⟨x.bytes.toArray⟩ else none):=hid (by unfold jP; rw [hl]; rfl);have ly:=hid (λw1 (hb1:Below w.heap.size w w1)=>wI x w1 (itV x A N C) ⟨A,N,C,rfl,hI.stays hb1⟩ hF hk (by omega));have HS:Hid ((⟨x.bytes.toArray⟩:aM).size=x.bytes.length):=hid (sW _);have iv:=hid hb;unfold itV at ly;rw [hl] at e0 hO HB ly;obtain ⟨f0,f1,f2⟩:=bY hO.2;rw [hl] at f0;have g0:=(HB.out.cell (p:=⟨b,off+i*3,none⟩) hblt).trans e0;have g1:=(HB.out.cell (p:=⟨b,off+i*3+1,none⟩) hblt).trans e1
  have g2:=(HB.out.cell (p:=⟨b,off+i*3+2,none⟩) hblt).trans e2;have gc:=(HB.out.cell (p:=⟨c,0,none⟩) pS).trans hc;obtain ⟨X,hX⟩:=aA (⟨x.bytes.toArray⟩:aM)
  have hxs:X.size=x.bytes.length:=by rw [<-hX]; exact HS.out
  rw [hX] at ly HK;have hxb:X.size<=4294967296:=by omega
  rw [<-hxs] at HK;clear h hI hx hy hF hk hb hO HS iv hxs hX;go_enter func177,ntmps177;go_wp2_with fail
  refine (ly.out _ HB.out).mono ?_;rintro e w1 ⟨rfl,hb1⟩;have HB1:=hid (bst HB.out hb1);clear hb1 ly e0 e1 e2 f0 f1 f2 g0 g1 g2 gc hc;by_cases h32:X.size<32
  .have hd:decide ((X.size:Int)<32)=true:=by simp; omega
   go_wp2;go_ret2
   exact ⟨X,true,rfl,.inl ⟨rfl,by rw [HK.out,if_pos h32]⟩,HB1.out⟩
  .have hd:decide ((X.size:Int)<32)=false:=by simp; omega
   go_wp2;go_ret2
   exact ⟨X,false,rfl,.inr ⟨rfl,by rw [HK.out,if_neg h32]⟩,HB1.out⟩
def mI (w:World) (r:Option Nd) (e:Ending) (w':World):Prop:=∃ (N:Nd) (a:aL) (n c:Nat) (b:Bool),e = .returned (.tuple #[.agg (ndC N a n c),.bool b])/\(b=true/\r=some N\/b=false/\r=none)/\
 BsF w.heap.size w' a n c N.p/\N.ks.length=16/\Below w.heap.size w w'
def Good (x:It):Prop:=Fits 0 x/\x.size<=4096/\x.bytes.length<=4294967296/\x.s.size<=1000000
theorem getD_at {xs:List It} (h:i<xs.length):xs[i]? = some (xs.getD i it0):=by simp [h]
theorem Ck (xs:List It) (a:aL) (n cap:Nat) (w:World) (h:iq w xs a n cap) (h2:xs.length=2) (hG:∀ x∈xs,Good x) (hbad:(xs.getD 0 it0).s.size=0\/Bad (xs.getD 0 it0).s) :
  Calls prog 122 #[.slice a n cap] w (mI w (dJ xs)):=by
 have hR:dJ xs=none:=by unfold dJ gG; rw [if_pos h2,if_pos hbad]
 rw [hR];have hm:=h.max;have hnc:=h.le;have hl:=h.len;unfold maxLen at hm;obtain ⟨y,b,off,A,N,C,hy,rfl,hblt,hL,hI⟩:=h.at' 0 (by omega);have hyx:xs.getD 0 it0=y:=Option.some.inj ((getD_at (xs:=xs) (i:=0) (by omega)).symm.trans hy);obtain ⟨_,_,_,hs6⟩:=hG y (List.mem_of_getElem? hy);rw [hyx] at hbad;have hcall:Hid (∃ c:Int,c≠0/\∀ w:World,Calls prog 158 #[.string y.s] w λe w'=>e = .returned (.tuple #[.slice none 0 0,.bool false,.int .i64 c])/\Below w.heap.size w w'):=hid (by
  by_cases h0:y.s.size=0
  .refine ⟨5,by decide,λw=>?_⟩;rw [dQ h0];refine (Iw w).mono ?_;rintro e w' ⟨rfl,rfl⟩;exact ⟨rfl,aI⟩
  .refine ⟨6,by decide,λw=>?_⟩;exact Ic y.s (by omega) hs6 (hbad.resolve_left h0) w)
 obtain ⟨w2,hw2⟩:=ay (w.alloc (.cells (ndC nd0 none 0 0) 67))
 have hO:fE w2 w.heap.size nd0 none 0 0:=by rw [hw2]; exact Rg.Own.new _ _ _
 have hB2:Below w.heap.size w w2:=by rw [hw2]; exact al1 _ _
 obtain ⟨e0,e1,e2⟩:=hL.stays hB2 hblt;rw [Nat.zero_mul,Nat.add_zero] at e0 e1 e2;have HO:=hid hO;have HB2:=hid hB2;obtain ⟨c,hc,hcl⟩:=hcall.out;have hcb:(c != 0)=true:=by simp; exact hc
 have HC:=hid hcl;clear h hL hI hO hB2 hbad hR hG hcall hcl hc hyx hy;subst hw2;go_enter func122,ntmps122;go_wp2_with (refine aB (aY _ _ _ w.heap.size rfl rfl) ?_)
 refine (HC.out _).mono ?_;rintro e w3 ⟨rfl,hb3⟩;have bc:=hid (HO.out.below hb3);have HB3:=hid (bst HB2.out hb3);clear hb3;go_wp2_with (first
  | (refine aB (bM oO ?_) ?_; · exact ⟨_,rfl,rfl⟩)
  | (refine bH bc.out rfl nd0 none 0 0 rfl rfl _ _ rfl rfl rfl rfl ?_))
 exact bodyPost_ret (fP rfl _ rfl (dK bc.out) rfl) rfl ⟨nd0,none,0,0,false,rfl,.inr ⟨rfl,rfl⟩,BsF.nil _ _,rfl,bZ HB3.out aH _⟩
theorem Ei (xs:List It) (a:aL) (n cap:Nat) (w:World) (h:iq w xs a n cap) (h2:xs.length=2) (hG:∀ x∈xs,Good x) (hbad:¬ ((xs.getD 0 it0).s.size=0\/Bad (xs.getD 0 it0).s)) :
  Calls prog 122 #[.slice a n cap] w (mI w (dJ xs)):=by
 have hR:dJ xs=if nX (xs.getD 0 it0).s then some ⟨1,lC (xs.getD 0 it0).s,(xs.getD 1 it0).s,zks⟩ else (jP (xs.getD 1 it0)).map λk=>⟨2,lC (xs.getD 0 it0).s,eB,iF k⟩:=by unfold dJ gG; rw [if_pos h2,if_neg hbad]
 rw [hR];have hm:=h.max;have hnc:=h.le;have hl:=h.len;unfold maxLen at hm;have hn2:n=2:=by omega
 obtain ⟨y,b,off,A,N,C,hy,rfl,hblt,hL,hI⟩:=h.at' 0 (by omega);obtain ⟨z,b',off',A2,N2,C2,hz,e,yp,hL2,hI2⟩:=h.at' 1 (by omega);obtain ⟨rfl,rfl,_⟩:b=b'/\off=off'/\True:=by cases e; exact ⟨rfl,rfl,trivial⟩
 have hyx:xs.getD 0 it0=y:=Option.some.inj ((getD_at (xs:=xs) (i:=0) (by omega)).symm.trans hy);have hzx:xs.getD 1 it0=z:=Option.some.inj ((getD_at (xs:=xs) (i:=1) (by omega)).symm.trans hz);obtain ⟨hf1,hf2,hf3,_⟩:=hG z (List.mem_of_getElem? hz);rw [hyx] at hbad ⊢;rw [hzx];have h0:0<y.s.size:=by omega
 have hB0:¬ Bad y.s:=λe=>hbad (.inr e);have GE:=Tc y.s hB0;have HC:=hid (λw=>Md y.s h0 hB0 w);obtain ⟨w2,hw2⟩:=ay (w.alloc (.cells (ndC nd0 none 0 0) 67))
 have hO:fE w2 w.heap.size nd0 none 0 0:=by rw [hw2]; exact Rg.Own.new _ _ _
 have hB2:Below w.heap.size w w2:=by rw [hw2]; exact al1 _ _
 obtain ⟨e0,e1,e2⟩:=hL.stays hB2 hblt;rw [Nat.zero_mul,Nat.add_zero] at e0 e1 e2;have HO:=hid hO;have HB2:=hid hB2;have HI:=hid h;have HL2:=hid hL2;have HZ:=hid hz;obtain ⟨P,hP⟩:=aA (lC y.s)
 obtain ⟨lf,hlf⟩:=aA (nX y.s)
 unfold Unp at HC;rw [hP,hlf] at HC;rw [hP] at GE;rw [hP,hlf];clear h hL hI hO hB2 hbad hR hG hyx hy hzx hz hL2 hI2 hB0 hP hlf e;subst hw2;subst hn2;cases lf with
 | true =>
  go_enter func122,ntmps122;go_wp2_with (refine aB (aY _ _ _ w.heap.size rfl rfl) ?_)
  refine (HC.out _).mono ?_;rintro e w3 ⟨a3,n3,c3,rfl,hx3,hb3⟩;have bc:=hid (HO.out.below hb3);have hB3:=bst HB2.out hb3;have HB3:=hid hB3;obtain ⟨f0,f1,f2⟩:=HL2.out.stays hB3 yp;rw [Nat.one_mul] at f0 f1 f2;have gh:n3<=1000000:=by rw [<-hx3.len]; omega
  have mb:=hid (mh a3 n3 c3 P gh z.s w3 hx3);have hz3:=bc.out.1;clear hb3 hB3 hx3 HC e0 e1 e2;go_wp2_with fail
  refine mb.out.mono ?_;rintro e w4 ⟨a4,n4,c4,rfl,hx4,hl4,hb4⟩;have co:=hid (bc.out.below hb4);have bd:=hid (bst HB3.out hb4);have lv:=hid hx4;clear hb4 hx4 mb;go_wp2_with (refine bH co.out rfl ⟨1,P,z.s,zks⟩ a4 n4 c4 rfl rfl _ _ rfl rfl rfl rfl ?_)
  exact bodyPost_ret (fP rfl _ rfl (dK co.out) rfl) rfl ⟨⟨1,P,z.s,zks⟩,a4,n4,c4,true,rfl,.inl ⟨rfl,rfl⟩,(lv.out.row hz3 _).weak (by omega),rfl,bZ bd.out aH _⟩
 | false =>
  go_enter func122,ntmps122;go_wp2_with (refine aB (aY _ _ _ w.heap.size rfl rfl) ?_)
  refine (HC.out _).mono ?_;rintro e w3 ⟨a3,n3,c3,rfl,hx3,hb3⟩;have bc:=hid (HO.out.below hb3);have HB3:=hid (bst HB2.out hb3);have gh:n3<=1000000:=by rw [<-hx3.len]; omega
  have hz3:=bc.out.1;have m8:=hid hx3;clear hb3 hx3 HC e0 e1 e2;go_wp2_with fail
  refine (Cb _ _ _ _).mono ?_;rintro e w4 ⟨rfl,hw4⟩;have hb4:Below w3.heap.size w3 w4:=by rw [hw4]; exact al1 _ _
  have hc4:w4.cell? ⟨w3.heap.size,0,none⟩=some (.slice (some ⟨b,off,none⟩) 2 cap):=by rw [hw4,World.cell?_alloc_mark]; rfl
  have HK:=hid (xK w3.heap.size 1 xs (some ⟨b,off,none⟩) 2 cap z w4 hc4 (HI.out.stays (bst HB3.out hb4)) HZ.out hf1 hf2 hf3);have co:=hid (bc.out.below hb4);have bd:=hid (bst HB3.out hb4);have lv:=hid (m8.out.below hb4);have kx:=hb4.size;clear hw4 hb4 hc4;go_wp2_with fail
  refine HK.out.mono ?_;rintro e w5 ⟨s5,b5,rfl,hk5,hb5⟩;have bi:=hid (co.out.below hb5);have aa:=hid (bst bd.out hb5);have HE:=hid (JR a3 n3 c3 P gh s5 w5 (lv.out.below hb5));have GF:=hid hk5;have p7:=hb5.size;clear hb5 hk5 HK;go_wp2_with fail
  refine HE.out.mono ?_;rintro e w6 ⟨a6,n6,c6,rfl,hx6,ol,hb6⟩;have cl:=hid (bi.out.below hb6);have bj:=hid (bst aa.out hb6);have td:=hid hx6;clear hb6 hx6 HE;go_wp2_with (refine bH cl.out rfl ⟨2,P,eB,iF s5⟩ a6 n6 c6 (iP s5) rfl _ _ rfl rfl rfl rfl ?_)
  refine bodyPost_ret (fP rfl _ rfl (dK cl.out) (iP s5)) rfl ⟨⟨2,P,eB,iF s5⟩,a6,n6,c6,b5,rfl,?_,(td.out.row (by omega) _).weak (by omega),iP s5,bZ bj.out aH _⟩;rcases GF.out with ⟨h1,h2⟩ | ⟨h1,h2⟩
  .exact .inl ⟨h1,by rw [h2]; rfl⟩
  .exact .inr ⟨h1,by rw [h2]; rfl⟩
end No
end
section
open Go.RowKit
namespace Rl
theorem GI {b:Nat} {x:It} (h:Rg.Own w b (itC x a n c) 96) (ho:∃ y,o.op = .load 96 y/\ev y = .pointer (some ⟨b,0,none⟩)) :
  (execOp ev o).run prog w = .ok (.value (.agg (itC x a n c))) w:=by
 obtain ⟨y,ho,hx⟩:=ho;have:=kL (bY h.2);unfold execOp;simp only [ho,hx,Instr.loadAt,Instr.sureAddr,Sem.run_bind,Sem.run_pure,Result.andThen_ok,this];rfl
theorem lG {rest:List Oper} {b:Nat} {x:It} (h:Rg.Own w b (itC x a n c) 96) (y:It) (a':aL) (n' c':Nat)
  (hgd:o.guard=none) (p q:Operand) (ho:o.op = .store 96 p q) (hx:act.eval p = .pointer (some ⟨b,0,none⟩)) (hy:act.eval q = .agg (itC y a' n' c')) (hd:o.dst=none)
  (hQ:wpList prog ops Q rest act (w.setRow b (itC y a' n' c'))):wpList prog ops Q (o::rest) act w :=
 wpList_store_rowTo hgd 96 p q ho hd b _ hx hy 96 _ h.2 (fI _ _ _ _) rfl (iw _ _ _ _) hQ
theorem tO {b:Nat} {cs cs':aO} {T:TypeId} (h:Rg.Own w b cs T):Rg.Own (w.setRow b cs') b cs' T:=oF h
end Rl
end
end Go.Proofs.YtokaiemgjngcoaaGreatDoor
