/-
 Contracts of the plain answers' Of and Sum.
-/
import Derived.Test.YtokaiemgjngcoaaGreatDoorVs6
import Derived.Test.YtokaiemgjngcoaaGreatDoorVs5
import Derived.WideKeyArr2
open Go.Lib (hid)
open Go.Proofs.Tryz
set_option linter.unusedSimpArgs false
set_option linter.unusedVariables false
set_option maxHeartbeats 40000000
set_option maxRecDepth 100000
namespace Go.Proofs.YtokaiemgjngcoaaGreatDoor
variable {c i n:Nat} {ev:Operand->Value} {o:Oper} {w:World} {a:aL} {ops:Array Oper} {act:Act} {Q:Exit->Act->World->Prop}
section
open Go.RowKit
namespace Sh
theorem wu.new (w:World) (l:List Nat) (hl:l.length=8) (t:TypeId):wu (w.alloc (.cells (wc l) t)) (some ⟨w.heap.size,0,none⟩) 8 8 l :=
 ⟨by omega,by unfold maxLen; omega,hl,λe=>(by cases e),λj hj=>⟨w.heap.size,0,rfl,by simp,by rw [Nat.zero_add]; exact Mk w l t j (by omega)⟩⟩
theorem KH (t:aM) (k q:Nat) (hq:q<64):mX (t.extract (64*k) (64*k+64)) q=pq t.data.toList k q:=by
 unfold mX pq;have e:(t.extract (64*k) (64*k+64)).data.toList=(t.data.toList.drop (64*k)).take 64:=by
  simp only [ByteArray.data_extract,Array.toList_extract,List.extract_eq_take_drop];rw [show 64*k+64-64*k=64 by omega]
 rw [e,List.getD,List.getD,List.getElem?_take_of_lt hq,List.getElem?_drop]
theorem of_block (t:aM) (k:Nat) (h:List Nat):lG (mX (t.extract (64*k) (64*k+64))) h=lG (pq t.data.toList k) h :=
 qI (λq hq=>KH t k q hq) h
theorem WX (l:aN) (hl:l.length<=900000) (w:World) :
  Calls prog 40 #[.string ⟨l.toArray⟩] w λe w'=>e = .returned (.string ⟨(FJ l).toArray⟩)/\Below w.heap.size w w':=by
 have hlen:=vY l;have hmod:=DN l;have hz:gT l.length<64:=Nat.mod_lt _ (by omega);have HW0:=hid (wu.new w Sh.start rfl 121);have gm:=hid (TU l (by omega));obtain ⟨t,ht⟩:=aA (⟨(iI l).toArray⟩:aM)
 have htd:t.data.toList=iI l:=by rw [<-ht]
 have hts:t.size=(iI l).length:=by rw [<-ht,fq]
 rw [ht] at gm;have HS:=sec (show uO (nW (iI l) ((iI l).length/64)) 32=FJ l from rfl);rw [<-htd] at HS;rw [show t.data.toList.length=t.size by simp] at HS;have hb:t.size<=900100:=by omega
 rw [<-hts] at hmod;have HT:=sec htd;have HL:=hid (λk=>vC t.data.toList k);have vA:=hid (λk=>GX t.data.toList k);clear ht htd hts hlen hz hl;obtain ⟨s,hs⟩:=aA (⟨l.toArray⟩:aM)
 rw [hs] at gm ⊢;clear hs;go_enter func40,ntmps40;go_wp2_with (first | (refine fV (o:=⟨some 10,_,_,_,_,_⟩) rfl (.slice (some ⟨w.heap.size,0,none⟩) 8 8) (w.alloc (.cells (wc Sh.start) 121)) (by kernel_rfl) ?_))
 refine (gm.out _).mono ?_;rintro e w1 ⟨rfl,hb1⟩;have HW1:=hid (HW0.out.below hb1);have HB1:=hid (((Below.refl w.heap.size w).alloc aH (.cells (wc Sh.start) 121)).trans (hb1.mono (by simp)));clear hb1 gm HW0;go_wp2;go_loopw [3,5] (λv i wr=>∃ (k:Nat) (a:aL) (cap:Nat),64*k<=t.size/\i = .int .i64 (64*k:Nat)/\v = .slice a 8 cap/\Hid (wu wr a 8 cap (nW t.data.toList k))/\Hid (Below w.heap.size w wr)) (λ_ i _=>t.size-(intOf i).toNat)
 case atStart=>exact ⟨0,_,_,by omega,rfl,rfl,HW1,HB1⟩
 case round =>
  clear HW1 HB1;obtain ⟨k,a,cap,hk,rfl,rfl,HW,HB⟩:=hrel;by_cases hlt:64*k<t.size
  .have li:64*k+64<=t.size:=by omega
   have hBl:=Ny a cap (nW t.data.toList k) (t.extract (64*k) (64*k+64)) (by simp; omega) wr HW.out (vA.out k);rw [of_block t k] at hBl;have fm:=hid hBl;obtain ⟨p,hp⟩:=aA (64*k)
   have fm:Hid (Calls prog 71 #[.slice a 8 cap,.string (t.extract p (p+64))] wr (Xj wr (lG (pq t.data.toList k) (nW t.data.toList k)))):=hid (by rw [<-hp]; exact fm.out);rw [hp] at li hlt hk ⊢;have HP:=hid hp;clear hBl hp;go_wp2_with fail
   refine fm.out.mono ?_;rintro e w2 ⟨a2,cap2,rfl,hw2,hb2⟩;have HW2:=hid hw2;have HB2:=hid (HB.out.trans (hb2.mono HB.out.size));clear hw2 hb2 fm;go_wp2;go_roundw
   case rel=>exact ⟨k+1,a2,cap2,by have:=HP.out; omega,by have:=HP.out; go_num,rfl,HW2,HB2⟩
   case measure=>have:=HP.out; simp [intOf]; omega
  .have hke:k=t.size/64:=by omega
   have EQ:Sec (uO (nW t.data.toList k) 32=FJ l):=sec (by rw [hke]; exact HS.out);have hbd:=vA.out k;obtain ⟨M,hM⟩:=aA (nW t.data.toList k)
   rw [hM] at HW EQ hbd;have yk:=hid (λj=>getD_lt hbd j);clear hbd hM hke HS HL vA HT;obtain ⟨b,off,rfl,hlb,hx0⟩:=HW.out.2.2.2.2 0 (by omega);have HC:Hid (∀ j,j<8->wr.cell? ⟨b,off+j,none⟩=some (.int .u64 (M.getD j 0:Nat))):=hid (λj hj=>by
    obtain ⟨b',off',e,_,hc⟩:=HW.out.2.2.2.2 j hj;cases e;exact hc)
   obtain ⟨wo,rfl⟩:∃ wo:World,wo=wr:=⟨_,rfl⟩
   have QQ:Hid (b<wo.heap.size):=hid hlb;clear hx0 hlb;go_wp2;clear hlt hk hmod hb;go_loopw [6,7,8,9] (λo i _ _ wx=>∃ q:Nat,q<=32/\i = .int .i64 q/\o = .string ⟨(uO M q).toArray⟩/\Hid (Below wo.heap.size wo wx)) (λ_ i _ _ _=>32-(intOf i).toNat)
   case atStart=>exact ⟨0,by omega,rfl,rfl,hid aI⟩
   case round =>
    obtain ⟨q,hq,rfl,rfl,lw⟩:=hrel;by_cases hlt:q<32
    .have hq4:q/4<8:=by omega
     have hc:=(lw.out.cell (p:=⟨b,off+q/4,none⟩) QQ.out).trans (HC.out (q/4) hq4);have hxb:=yk.out (q/4);have ww:=sec (Qs M q);have sB:=sec (show tV M q=M.getD (q/4) 0/256 ^ (3-q%4)%256 from rfl);obtain ⟨x,hx⟩:=aA (M.getD (q/4) 0)
     rw [hx] at hc hxb sB;clear hx;obtain ⟨r,hr⟩:=aA (q%4)
     have hr4:r<4:=by omega
     have hqr:(q:Int)%4=r:=by omega
     rw [hr] at sB;clear hr;have hbs:=lw.out.size;have hol:(⟨(uO M q).toArray⟩:aM).size<=32:=by rw [fq,yK]; exact hq
     have xm:Hid ((⟨(uO M q).toArray⟩:aM)++⟨#[UInt8.ofNat (tV M q)]⟩=⟨(uO M (q+1)).toArray⟩):=hid (by rw [ww.out]; exact Au _ [_]);obtain ⟨O,hO⟩:=aA (⟨(uO M q).toArray⟩:aM)
     rw [hO] at hol xm ⊢;clear hO;have HQR:=hid hqr;go_wp2;clear hqr hc;go_loop [8,9] (λv kk=>∃ d:Nat,r+d<=3/\kk = .int .i64 (r+d:Nat)/\v = .int .u64 (x/256 ^ d:Nat)) (λ_ kk=>3-(intOf kk).toNat)
     case atStart=>exact ⟨0,by omega,by rw [HQR.out]; rfl,by simp⟩
     case round =>
      obtain ⟨d,hd,rfl,rfl⟩:=hrel;have hD:Hid (x/256 ^ (d+1)=x/256 ^ d/256):=hid (by rw [Nat.pow_succ,Nat.div_div_eq_div_mul]);have hyb:x/256 ^ d<4294967296:=Nat.lt_of_le_of_lt (Nat.div_le_self _ _) hxb;obtain ⟨p,hp⟩:=aA (r+d)
      rw [hp] at hd ⊢;have HP:=hid hp;by_cases hl3:p<3
      .obtain ⟨y,hy⟩:=aA (x/256 ^ d)
       rw [hy] at hD hyb ⊢;clear hy hp;go_wp2;go_round
       case rel=>exact ⟨d+1,by have:=HP.out; omega,by have:=HP.out; go_num,by rw [hD.out]; go_num⟩
       case measure=>simp [intOf]; omega
      .have hd3:3-r=d:=by omega
       rw [hd3] at sB;obtain ⟨y,hy⟩:=aA (x/256 ^ d)
       rw [hy] at hyb sB ⊢;clear hy hp hd3 hD;have hcv:=jk ((y:Int)%256) (y%256) (by omega) (by omega) wr;rw [<-sB.out] at hcv;obtain ⟨C,hC⟩:=aA (⟨#[UInt8.ofNat (tV M q)]⟩:aM)
       have hCs:C.size<=1:=by rw [<-hC]; exact aH
       rw [hC] at hcv xm;clear hC;go_wp2;go_roundw
       case rel=>exact ⟨q+1,by omega,by go_num,by rw [xm.out],hid (lw.out.alloc hbs _)⟩
       case measure=>simp [intOf]; omega
    .obtain rfl:q=32:=by omega
     have hB2:=HB.out.trans (lw.out.mono HB.out.size);clear lw;go_wp2;go_ret;exact ⟨by rw [<-EQ.out]; rfl,hB2⟩
end Sh
end
section
open Go.RowKit
namespace Sm
open Sh
theorem DY:prog.eqGuardType prog.depth 23=false:=by kernel_rfl
theorem gJ (ev:Operand->Value) (o:Oper) (w:World) (g:Nat) (l:aN) (hl:l.length=32) (h:∃ x,o.op = .load 23 x/\ev x = .pointer (some ⟨g,0,none⟩)) (hg:Rg.Own w g (kc l) 23) :
  (execOp ev o).run prog w = .ok (.value (.agg (kc l))) w:=by
 obtain ⟨x,ho,hx⟩:=h;have hr:=run_loadVar_row (P:=prog) w g 23 23 (kc l) (0,0) _ hg.2 underlying23 rfl (jR l hl);unfold execOp;simp only [ho,hx,Instr.loadAt,Instr.sureAddr,Sem.run_bind,Sem.run_pure,Result.andThen_ok,hr]
end Sm
end
section
open Go.RowKit Go.WideMaps
namespace Rf
open Sh Sm Ni
def gG (s:aM):aN:=FJ s.data.toList
theorem mR (s:aM):(gG s).length=32:=rZ _
end Rf
end
section
open Go.RowKit
namespace Sm
open Sh
end Sm
end
section
open Go.RowKit
namespace No
open Rl Ni
theorem Qk (x:It):∀ {d e:Nat},Fits d x->e<=d->Fits e x:=by
 induction x using It.ind with
 | h l s xs ih =>
  intro d e h he;cases h with
  | mk ha hs hx hy=>exact .mk (by omega) hs hx (λy hm=>ih y hm (hy y hm) (by omega))
theorem Dq (a:aL) (n cap:Nat) (w:World) :
  Calls prog 159 #[.slice a n cap] w λe w'=>e = .returned (.func (Fn.func 177) #[] #[.pointer (some ⟨w.heap.size,0,none⟩)])/\w'=w.alloc (.cells #[.slice a n cap] 94):=by
 go_enter func159,ntmps159;go_wp2;go_ret;exact ⟨rfl,rfl⟩
theorem Vw (s:aM) (w:World):Calls prog 143 #[.string s] w λe w'=>e = .returned (.bool (dB s))/\w'=w.drewN 0:=by
 refine (xE s w).mono ?_;rintro e w' ⟨rfl,rfl⟩;exact ⟨rfl,rfl⟩
def VX (w:World) (x:It) (e:Ending) (w':World):Prop:=∃ (s:aM) (b:Bool),e = .returned (.tuple #[.string s,.bool b])/\(b=true/\lJ x=some s\/b=false/\lJ x=none)/\Below w.heap.size w w'
theorem zZ (c i:Nat) (xs:List It) (a:aL) (n cap:Nat) (x:It) (w:World) (hc:w.cell? ⟨c,0,none⟩=some (.slice a n cap)) (h:iW w xs a n cap) (hx:xs[i]? = some x) (hF:Fits 0 x) (hk:x.size<=4096) (hb:x.bytes.length<=4294967296) :
  Calls prog 177 #[.int .i64 i,.pointer (some ⟨c,0,none⟩)] w (VX w x):=by
 have hm:=h.max;have hnc:=h.le;unfold maxLen at hm;have hi:i<n:=by rw [<-h.len]; exact (List.getElem?_eq_some_iff.1 hx).1
 obtain ⟨y,b,off,A,N,C,hy,rfl,hblt,hL,hI⟩:=h.at' i hi;obtain rfl:=Option.some.inj (hx.symm.trans hy);have tm:=World.block_lt_of_cell? w _ hc;obtain ⟨e0,e1,e2⟩:=hL;have hO:Rg.Own (w.alloc (.cells #[.bool x.l,.string x.s,.slice A N C] 96)) w.heap.size (itC x A N C) 96:=Rg.Own.new _ _ _;have HB:Hid (Below w.heap.size w (w.alloc (.cells #[.bool x.l,.string x.s,.slice A N C] 96))):=hid (al1 _ _);cases hl:x.l with
 | false =>
  have HK:Hid (lJ x=if dB x.s then some x.s else none):=hid (by unfold lJ; rw [hl]; rfl);have HP:=hid (λw=>Vw x.s w);rw [hl] at e0 hO HB;obtain ⟨f0,f1,f2⟩:=cZ hO.2;rw [hl] at f0;clear h hI hx hy hF hk hb hO;go_enter func177,ntmps177;go_wp2;go_quiet ((go_at_call 143; exact Calls.quiet_of_same (HP.out _)))
  go_wp2;go_ret2
  refine ⟨x.s,dB x.s,rfl,?_,below_drewN HB.out _⟩;rw [HK.out];cases dB x.s
  .exact .inr ⟨rfl,rfl⟩
  .exact .inl ⟨rfl,rfl⟩
 | true =>
  have HK:Hid (lJ x=if x.bytes.length<32 then some ⟨x.bytes.toArray⟩ else none):=hid (by unfold lJ; rw [hl]; rfl);have oE:=hid (λw1 (hb1:Below w.heap.size w w1)=>zK x w1 (itV x A N C) ⟨A,N,C,rfl,hI.stays hb1⟩ hF hk (by omega));have HS:Hid ((⟨x.bytes.toArray⟩:aM).size=x.bytes.length):=hid (fq _);have fm:=hid hb;unfold itV at oE;rw [hl] at e0 hO HB oE;obtain ⟨f0,f1,f2⟩:=cZ hO.2;rw [hl] at f0;have g0:=(HB.out.cell (p:=⟨b,off+i*3,none⟩) hblt).trans e0;have g1:=(HB.out.cell (p:=⟨b,off+i*3+1,none⟩) hblt).trans e1
  have g2:=(HB.out.cell (p:=⟨b,off+i*3+2,none⟩) hblt).trans e2;have gc:=(HB.out.cell (p:=⟨c,0,none⟩) tm).trans hc;obtain ⟨X,hX⟩:=aA (⟨x.bytes.toArray⟩:aM)
  have hxs:X.size=x.bytes.length:=by rw [<-hX]; exact HS.out
  rw [hX] at oE HK;have hxb:X.size<=4294967296:=by omega
  rw [<-hxs] at HK;clear h hI hx hy hF hk hb hO HS fm hxs hX;go_enter func177,ntmps177;go_wp2_with fail
  refine (oE.out _ HB.out).mono ?_;rintro e w1 ⟨rfl,hb1⟩;have HB1:=hid (bst HB.out hb1);clear hb1 oE e0 e1 e2 f0 f1 f2 g0 g1 g2 gc hc;by_cases h32:X.size<32
  .have hd:decide ((X.size:Int)<32)=true:=by simp; omega
   go_wp2;go_ret2
   exact ⟨X,true,rfl,.inl ⟨rfl,by rw [HK.out,if_pos h32]⟩,HB1.out⟩
  .have hd:decide ((X.size:Int)<32)=false:=by simp; omega
   go_wp2;go_ret2
   exact ⟨X,false,rfl,.inr ⟨rfl,by rw [HK.out,if_neg h32]⟩,HB1.out⟩
def oD (w:World) (r:Option Nd) (e:Ending) (w':World):Prop:=∃ (N:Nd) (a:aL) (n c:Nat) (b:Bool),e = .returned (.tuple #[.agg (ndC N a n c),.bool b])/\(b=true/\r=some N\/b=false/\r=none)/\
 BsF w.heap.size w' a n c N.p/\N.ks.length=16/\Below w.heap.size w w'
def Good (x:It):Prop:=Fits 0 x/\x.size<=4096/\x.bytes.length<=4294967296/\x.s.size<=1000000
theorem getD_at {xs:List It} (h:i<xs.length):xs[i]? = some (xs.getD i it0):=by simp [h]
theorem FN (xs:List It) (a:aL) (n cap:Nat) (w:World) (h:iW w xs a n cap) (h2:xs.length=2) (hG:∀ x∈xs,Good x) (hbad:(xs.getD 0 it0).s.size=0\/Bad (xs.getD 0 it0).s) :
  Calls prog 122 #[.slice a n cap] w (oD w (eD xs)):=by
 have hR:eD xs=none:=by unfold eD ig; rw [if_pos h2,if_pos hbad]
 rw [hR];have hm:=h.max;have hnc:=h.le;have hl:=h.len;unfold maxLen at hm;obtain ⟨y,b,off,A,N,C,hy,rfl,hblt,hL,hI⟩:=h.at' 0 (by omega);have hyx:xs.getD 0 it0=y:=Option.some.inj ((getD_at (xs:=xs) (i:=0) (by omega)).symm.trans hy);obtain ⟨_,_,_,hs6⟩:=hG y (List.mem_of_getElem? hy);rw [hyx] at hbad;have hcall:Hid (∃ c:Int,c≠0/\∀ w:World,Calls prog 158 #[.string y.s] w λe w'=>e = .returned (.tuple #[.slice none 0 0,.bool false,.int .i64 c])/\Below w.heap.size w w'):=hid (by
  by_cases h0:y.s.size=0
  .refine ⟨5,by decide,λw=>?_⟩;rw [dI h0];refine (JK w).mono ?_;rintro e w' ⟨rfl,rfl⟩;exact ⟨rfl,aI⟩
  .refine ⟨6,by decide,λw=>?_⟩;exact JB y.s (by omega) hs6 (hbad.resolve_left h0) w)
 obtain ⟨w2,hw2⟩:=ay (w.alloc (.cells (ndC nd0 none 0 0) 67))
 have hO:dZ w2 w.heap.size nd0 none 0 0:=by rw [hw2]; exact Rg.Own.new _ _ _
 have hB2:Below w.heap.size w w2:=by rw [hw2]; exact al1 _ _
 obtain ⟨e0,e1,e2⟩:=hL.stays hB2 hblt;rw [Nat.zero_mul,Nat.add_zero] at e0 e1 e2;have HO:=hid hO;have HB2:=hid hB2;obtain ⟨c,hc,hcl⟩:=hcall.out;have hcb:(c != 0)=true:=by simp; exact hc
 have HC:=hid hcl;clear h hL hI hO hB2 hbad hR hG hcall hcl hc hyx hy;subst hw2;go_enter func122,ntmps122;go_wp2_with (refine aB (aY _ _ _ w.heap.size rfl rfl) ?_)
 refine (HC.out _).mono ?_;rintro e w3 ⟨rfl,hb3⟩;have ce:=hid (HO.out.below hb3);have HB3:=hid (bst HB2.out hb3);clear hb3;go_wp2_with (first
  | (refine aB (bQ qG ?_) ?_; · exact ⟨_,rfl,rfl⟩)
  | (refine bN ce.out rfl nd0 none 0 0 rfl rfl _ _ rfl rfl rfl rfl ?_))
 exact bodyPost_ret (fF rfl _ rfl (dO ce.out) rfl) rfl ⟨nd0,none,0,0,false,rfl,.inr ⟨rfl,rfl⟩,BsF.nil _ _,rfl,cO HB3.out aH _⟩
theorem Gt (xs:List It) (a:aL) (n cap:Nat) (w:World) (h:iW w xs a n cap) (h2:xs.length=2) (hG:∀ x∈xs,Good x) (hbad:¬ ((xs.getD 0 it0).s.size=0\/Bad (xs.getD 0 it0).s)) :
  Calls prog 122 #[.slice a n cap] w (oD w (eD xs)):=by
 have hR:eD xs=if ql (xs.getD 0 it0).s then some ⟨1,ng (xs.getD 0 it0).s,(xs.getD 1 it0).s,zks⟩ else (lJ (xs.getD 1 it0)).map λk=>⟨2,ng (xs.getD 0 it0).s,eB,iJ k⟩:=by unfold eD ig; rw [if_pos h2,if_neg hbad]
 rw [hR];have hm:=h.max;have hnc:=h.le;have hl:=h.len;unfold maxLen at hm;have hn2:n=2:=by omega
 obtain ⟨y,b,off,A,N,C,hy,rfl,hblt,hL,hI⟩:=h.at' 0 (by omega);obtain ⟨z,b',off',A2,N2,C2,hz,e,FA,hL2,hI2⟩:=h.at' 1 (by omega);obtain ⟨rfl,rfl,_⟩:b=b'/\off=off'/\True:=by cases e; exact ⟨rfl,rfl,trivial⟩
 have hyx:xs.getD 0 it0=y:=Option.some.inj ((getD_at (xs:=xs) (i:=0) (by omega)).symm.trans hy);have hzx:xs.getD 1 it0=z:=Option.some.inj ((getD_at (xs:=xs) (i:=1) (by omega)).symm.trans hz);obtain ⟨hf1,hf2,hf3,_⟩:=hG z (List.mem_of_getElem? hz);rw [hyx] at hbad ⊢;rw [hzx];have h0:0<y.s.size:=by omega
 have hB0:¬ Bad y.s:=λe=>hbad (.inr e);have R1:=WK y.s hB0;have HC:=hid (λw=>Qz y.s h0 hB0 w);obtain ⟨w2,hw2⟩:=ay (w.alloc (.cells (ndC nd0 none 0 0) 67))
 have hO:dZ w2 w.heap.size nd0 none 0 0:=by rw [hw2]; exact Rg.Own.new _ _ _
 have hB2:Below w.heap.size w w2:=by rw [hw2]; exact al1 _ _
 obtain ⟨e0,e1,e2⟩:=hL.stays hB2 hblt;rw [Nat.zero_mul,Nat.add_zero] at e0 e1 e2;have HO:=hid hO;have HB2:=hid hB2;have HI:=hid h;have HL2:=hid hL2;have HZ:=hid hz;obtain ⟨P,hP⟩:=aA (ng y.s)
 obtain ⟨lf,hlf⟩:=aA (ql y.s)
 unfold Unp at HC;rw [hP,hlf] at HC;rw [hP] at R1;rw [hP,hlf];clear h hL hI hO hB2 hbad hR hG hyx hy hzx hz hL2 hI2 hB0 hP hlf e;subst hw2;subst hn2;cases lf with
 | true =>
  go_enter func122,ntmps122;go_wp2_with (refine aB (aY _ _ _ w.heap.size rfl rfl) ?_)
  refine (HC.out _).mono ?_;rintro e w3 ⟨a3,n3,c3,rfl,hx3,hb3⟩;have ce:=hid (HO.out.below hb3);have hB3:=bst HB2.out hb3;have HB3:=hid hB3;obtain ⟨f0,f1,f2⟩:=HL2.out.stays hB3 FA;rw [Nat.one_mul] at f0 f1 f2;have jj:n3<=1000000:=by rw [<-hx3.len]; omega
  have pw:=hid (nQ a3 n3 c3 P jj z.s w3 hx3);have hz3:=ce.out.1;clear hb3 hB3 hx3 HC e0 e1 e2;go_wp2_with fail
  refine pw.out.mono ?_;rintro e w4 ⟨a4,n4,c4,rfl,hx4,hl4,hb4⟩;have cC:=hid (ce.out.below hb4);have aq:=hid (bst HB3.out hb4);have ox:=hid hx4;clear hb4 hx4 pw;go_wp2_with (refine bN cC.out rfl ⟨1,P,z.s,zks⟩ a4 n4 c4 rfl rfl _ _ rfl rfl rfl rfl ?_)
  exact bodyPost_ret (fF rfl _ rfl (dO cC.out) rfl) rfl ⟨⟨1,P,z.s,zks⟩,a4,n4,c4,true,rfl,.inl ⟨rfl,rfl⟩,(ox.out.row hz3 _).weak (by omega),rfl,cO aq.out aH _⟩
 | false =>
  go_enter func122,ntmps122;go_wp2_with (refine aB (aY _ _ _ w.heap.size rfl rfl) ?_)
  refine (HC.out _).mono ?_;rintro e w3 ⟨a3,n3,c3,rfl,hx3,hb3⟩;have ce:=hid (HO.out.below hb3);have HB3:=hid (bst HB2.out hb3);have jj:n3<=1000000:=by rw [<-hx3.len]; omega
  have hz3:=ce.out.1;have pm:=hid hx3;clear hb3 hx3 HC e0 e1 e2;go_wp2_with fail
  refine (Dq _ _ _ _).mono ?_;rintro e w4 ⟨rfl,hw4⟩;have hb4:Below w3.heap.size w3 w4:=by rw [hw4]; exact al1 _ _
  have hc4:w4.cell? ⟨w3.heap.size,0,none⟩=some (.slice (some ⟨b,off,none⟩) 2 cap):=by rw [hw4,World.cell?_alloc_mark]; rfl
  have HK:=hid (zZ w3.heap.size 1 xs (some ⟨b,off,none⟩) 2 cap z w4 hc4 (HI.out.stays (bst HB3.out hb4)) HZ.out hf1 hf2 hf3);have cC:=hid (ce.out.below hb4);have aq:=hid (bst HB3.out hb4);have ox:=hid (pm.out.below hb4);have mN:=hb4.size;clear hw4 hb4 hc4;go_wp2_with fail
  refine HK.out.mono ?_;rintro e w5 ⟨s5,b5,rfl,hk5,hb5⟩;have cf:=hid (cC.out.below hb5);have ae:=hid (bst aq.out hb5);have HE:=hid (Nb a3 n3 c3 P jj s5 w5 (ox.out.below hb5));have R2:=hid hk5;have si:=hb5.size;clear hb5 hk5 HK;go_wp2_with fail
  refine HE.out.mono ?_;rintro e w6 ⟨a6,n6,c6,rfl,hx6,ry,hb6⟩;have cF:=hid (cf.out.below hb6);have ax:=hid (bst ae.out hb6);have z7:=hid hx6;clear hb6 hx6 HE;go_wp2_with (refine bN cF.out rfl ⟨2,P,eB,iJ s5⟩ a6 n6 c6 (fP s5) rfl _ _ rfl rfl rfl rfl ?_)
  refine bodyPost_ret (fF rfl _ rfl (dO cF.out) (fP s5)) rfl ⟨⟨2,P,eB,iJ s5⟩,a6,n6,c6,b5,rfl,?_,(z7.out.row (by omega) _).weak (by omega),fP s5,cO ax.out aH _⟩;rcases R2.out with ⟨h1,h2⟩ | ⟨h1,h2⟩
  .exact .inl ⟨h1,by rw [h2]; rfl⟩
  .exact .inr ⟨h1,by rw [h2]; rfl⟩
end No
end
section
open Go.RowKit
namespace Rl
theorem KJ {b:Nat} {x:It} (h:Rg.Own w b (itC x a n c) 96) (ho:∃ y,o.op = .load 96 y/\ev y = .pointer (some ⟨b,0,none⟩)) :
  (execOp ev o).run prog w = .ok (.value (.agg (itC x a n c))) w:=by
 obtain ⟨y,ho,hx⟩:=ho;have:=mD (cZ h.2);unfold execOp;simp only [ho,hx,Instr.loadAt,Instr.sureAddr,Sem.run_bind,Sem.run_pure,Result.andThen_ok,this];rfl
theorem nD {rest:List Oper} {b:Nat} {x:It} (h:Rg.Own w b (itC x a n c) 96) (y:It) (a':aL) (n' c':Nat)
  (hgd:o.guard=none) (p q:Operand) (ho:o.op = .store 96 p q) (hx:act.eval p = .pointer (some ⟨b,0,none⟩)) (hy:act.eval q = .agg (itC y a' n' c')) (hd:o.dst=none)
  (hQ:wpList prog ops Q rest act (w.setRow b (itC y a' n' c'))):wpList prog ops Q (o::rest) act w :=
 wpList_store_rowTo hgd 96 p q ho hd b _ hx hy 96 _ h.2 (gL _ _ _ _) rfl (jc _ _ _ _) hQ
theorem wD {b:Nat} {cs cs':aO} {T:TypeId} (h:Rg.Own w b cs T):Rg.Own (w.setRow b cs') b cs' T:=qx h
end Rl
end
end Go.Proofs.YtokaiemgjngcoaaGreatDoor
