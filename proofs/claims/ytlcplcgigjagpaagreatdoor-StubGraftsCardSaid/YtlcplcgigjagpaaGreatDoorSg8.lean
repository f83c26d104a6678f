/-
 Contracts of the plain answers' Of and Sum.
-/
import Derived.Test.YtlcplcgigjagpaaGreatDoorSg7
import Derived.Test.YtlcplcgigjagpaaGreatDoorSg6
import Derived.WideKeyArr2
open Go.Lib (hid)
open Go.Proofs.Tryz
set_option linter.unusedSimpArgs false
set_option linter.unusedVariables false
set_option maxHeartbeats 40000000
set_option maxRecDepth 100000
namespace Go.Proofs.YtlcplcgigjagpaaGreatDoor
variable {c i j:Nat} {ev:Operand->Value} {o:Oper} {w:World} {a:aJ} {ops:Array Oper} {act:Act} {Q:Exit->Act->World->Prop} {cs:aM}
section
open Go.RowKit
namespace Sh
theorem kF.new (w:World) (l:List Nat) (hl:l.length=8) (t:TypeId):kF (w.alloc (.cells (wc l) t)) (some ⟨w.heap.size,0,none⟩) 8 8 l :=
 ⟨by omega,by unfold maxLen; omega,hl,λe=>(by cases e),λj hj=>⟨w.heap.size,0,rfl,by simp,by rw [Nat.zero_add]; exact Nf w l t j (by omega)⟩⟩
theorem KT (t:aK) (k q:Nat) (hq:q<64):ng (t.extract (64*k) (64*k+64)) q=pq t.data.toList k q:=by
 unfold ng pq;have e:(t.extract (64*k) (64*k+64)).data.toList=(t.data.toList.drop (64*k)).take 64:=by
  simp only [ByteArray.data_extract,Array.toList_extract,List.extract_eq_take_drop];rw [show 64*k+64-64*k=64 by omega]
 rw [e,List.getD,List.getD,List.getElem?_take_of_lt hq,List.getElem?_drop]
theorem of_block (t:aK) (k:Nat) (h:List Nat):kU (ng (t.extract (64*k) (64*k+64))) h=kU (pq t.data.toList k) h :=
 qU (λq hq=>KT t k q hq) h
theorem VN (l:aL) (hl:l.length<=900000) (w:World) :
  Calls prog 51 #[.string ⟨l.toArray⟩] w λe w'=>e = .returned (.string ⟨(EL l).toArray⟩)/\Below w.heap.size w w':=by
 have hlen:=wV l;have hmod:=DU l;have hz:gV l.length<64:=Nat.mod_lt _ (by omega);have HW0:=hid (kF.new w Sh.start rfl 145);have iu:=hid (UQ l (by omega));obtain ⟨t,ht⟩:=av (⟨(iL l).toArray⟩:aK)
 have htd:t.data.toList=iL l:=by rw [<-ht]
 have hts:t.size=(iL l).length:=by rw [<-ht,fA]
 rw [ht] at iu;have HS:=sec (show uW (oG (iL l) ((iL l).length/64)) 32=EL l from rfl);rw [<-htd] at HS;rw [show t.data.toList.length=t.size by simp] at HS;have hb:t.size<=900100:=by omega
 rw [<-hts] at hmod;have HT:=sec htd;have HL:=hid (λk=>vY t.data.toList k);have lR:=hid (λk=>Iu t.data.toList k);clear ht htd hts hlen hz hl;obtain ⟨s,hs⟩:=av (⟨l.toArray⟩:aK)
 rw [hs] at iu ⊢;clear hs;go_enter func51,ntmps51;go_wp2_with (first | (refine gU (o:=⟨some 10,_,_,_,_,_⟩) rfl (.slice (some ⟨w.heap.size,0,none⟩) 8 8) (w.alloc (.cells (wc Sh.start) 145)) (by kernel_rfl) ?_))
 refine (iu.out _).mono ?_;rintro e w1 ⟨rfl,hb1⟩;have HW1:=hid (HW0.out.below hb1);have HB1:=hid (((Below.refl w.heap.size w).alloc aF (.cells (wc Sh.start) 145)).trans (hb1.mono (by simp)));clear hb1 iu HW0;go_wp2;go_loopw [3,5] (λv i wr=>∃ (k:Nat) (a:aJ) (cap:Nat),64*k<=t.size/\i = .int .i64 (64*k:Nat)/\v = .slice a 8 cap/\Hid (kF wr a 8 cap (oG t.data.toList k))/\Hid (Below w.heap.size w wr)) (λ_ i _=>t.size-(intOf i).toNat)
 case atStart=>exact ⟨0,_,_,by omega,rfl,rfl,HW1,HB1⟩
 case round =>
  clear HW1 HB1;obtain ⟨k,a,cap,hk,rfl,rfl,HW,HB⟩:=hrel;by_cases hlt:64*k<t.size
  .have kO:64*k+64<=t.size:=by omega
   have hBl:=OE a cap (oG t.data.toList k) (t.extract (64*k) (64*k+64)) (by simp; omega) wr HW.out (lR.out k);rw [of_block t k] at hBl;have dl:=hid hBl;obtain ⟨p,hp⟩:=av (64*k)
   have dl:Hid (Calls prog 85 #[.slice a 8 cap,.string (t.extract p (p+64))] wr (XF wr (kU (pq t.data.toList k) (oG t.data.toList k)))):=hid (by rw [<-hp]; exact dl.out);rw [hp] at kO hlt hk ⊢;have HP:=hid hp;clear hBl hp;go_wp2_with fail
   refine dl.out.mono ?_;rintro e w2 ⟨a2,cap2,rfl,hw2,hb2⟩;have HW2:=hid hw2;have HB2:=hid (HB.out.trans (hb2.mono HB.out.size));clear hw2 hb2 dl;go_wp2;go_roundw
   case rel=>exact ⟨k+1,a2,cap2,by have:=HP.out; omega,by have:=HP.out; go_num,rfl,HW2,HB2⟩
   case measure=>have:=HP.out; simp [intOf]; omega
  .have hke:k=t.size/64:=by omega
   have iv:Sec (uW (oG t.data.toList k) 32=EL l):=sec (by rw [hke]; exact HS.out);have hbd:=lR.out k;obtain ⟨M,hM⟩:=av (oG t.data.toList k)
   rw [hM] at HW iv hbd;have Y0:=hid (λj=>getD_lt hbd j);clear hbd hM hke HS HL lR HT;obtain ⟨b,off,rfl,hlb,hx0⟩:=HW.out.2.2.2.2 0 (by omega);have HC:Hid (∀ j,j<8->wr.cell? ⟨b,off+j,none⟩=some (.int .u64 (M.getD j 0:Nat))):=hid (λj hj=>by
    obtain ⟨b',off',e,_,hc⟩:=HW.out.2.2.2.2 j hj;cases e;exact hc)
   obtain ⟨wo,rfl⟩:∃ wo:World,wo=wr:=⟨_,rfl⟩
   have K7:Hid (b<wo.heap.size):=hid hlb;clear hx0 hlb;go_wp2;clear hlt hk hmod hb;go_loopw [6,7,8,9] (λo i _ _ wx=>∃ q:Nat,q<=32/\i = .int .i64 q/\o = .string ⟨(uW M q).toArray⟩/\Hid (Below wo.heap.size wo wx)) (λ_ i _ _ _=>32-(intOf i).toNat)
   case atStart=>exact ⟨0,by omega,rfl,rfl,hid aG⟩
   case round =>
    obtain ⟨q,hq,rfl,rfl,li⟩:=hrel;by_cases hlt:q<32
    .have hq4:q/4<8:=by omega
     have hc:=(li.out.cell (p:=⟨b,off+q/4,none⟩) K7.out).trans (HC.out (q/4) hq4);have hxb:=Y0.out (q/4);have jt:=sec (PU M q);have BT:=sec (show uV M q=M.getD (q/4) 0/256 ^ (3-q%4)%256 from rfl);obtain ⟨x,hx⟩:=av (M.getD (q/4) 0)
     rw [hx] at hc hxb BT;clear hx;obtain ⟨r,hr⟩:=av (q%4)
     have hr4:r<4:=by omega
     have hqr:(q:Int)%4=r:=by omega
     rw [hr] at BT;clear hr;have hbs:=li.out.size;have hol:(⟨(uW M q).toArray⟩:aK).size<=32:=by rw [fA,ze]; exact hq
     have tE:Hid ((⟨(uW M q).toArray⟩:aK)++⟨#[UInt8.ofNat (uV M q)]⟩=⟨(uW M (q+1)).toArray⟩):=hid (by rw [jt.out]; exact BX _ [_]);obtain ⟨O,hO⟩:=av (⟨(uW M q).toArray⟩:aK)
     rw [hO] at hol tE ⊢;clear hO;have Y1:=hid hqr;go_wp2;clear hqr hc;go_loop [8,9] (λv kk=>∃ d:Nat,r+d<=3/\kk = .int .i64 (r+d:Nat)/\v = .int .u64 (x/256 ^ d:Nat)) (λ_ kk=>3-(intOf kk).toNat)
     case atStart=>exact ⟨0,by omega,by rw [Y1.out]; rfl,by simp⟩
     case round =>
      obtain ⟨d,hd,rfl,rfl⟩:=hrel;have hD:Hid (x/256 ^ (d+1)=x/256 ^ d/256):=hid (by rw [Nat.pow_succ,Nat.div_div_eq_div_mul]);have hyb:x/256 ^ d<4294967296:=Nat.lt_of_le_of_lt (Nat.div_le_self _ _) hxb;obtain ⟨p,hp⟩:=av (r+d)
      rw [hp] at hd ⊢;have HP:=hid hp;by_cases hl3:p<3
      .obtain ⟨y,hy⟩:=av (x/256 ^ d)
       rw [hy] at hD hyb ⊢;clear hy hp;go_wp2;go_round
       case rel=>exact ⟨d+1,by have:=HP.out; omega,by have:=HP.out; go_num,by rw [hD.out]; go_num⟩
       case measure=>simp [intOf]; omega
      .have hd3:3-r=d:=by omega
       rw [hd3] at BT;obtain ⟨y,hy⟩:=av (x/256 ^ d)
       rw [hy] at hyb BT ⊢;clear hy hp hd3 hD;have hcv:=jo ((y:Int)%256) (y%256) (by omega) (by omega) wr;rw [<-BT.out] at hcv;obtain ⟨C,hC⟩:=av (⟨#[UInt8.ofNat (uV M q)]⟩:aK)
       have hCs:C.size<=1:=by rw [<-hC]; exact aF
       rw [hC] at hcv tE;clear hC;go_wp2;go_roundw
       case rel=>exact ⟨q+1,by omega,by go_num,by rw [tE.out],hid (li.out.alloc hbs _)⟩
       case measure=>simp [intOf]; omega
    .obtain rfl:q=32:=by omega
     have hB2:=HB.out.trans (li.out.mono HB.out.size);clear li;go_wp2;go_ret;exact ⟨by rw [<-iv.out]; rfl,hB2⟩
end Sh
end
section
open Go.RowKit
namespace Sm
open Sh
end Sm
end
section
open Go.RowKit Go.WideMaps
namespace Rf
open Sh Sm Ni
def jI (s:aK):aL:=EL s.data.toList
theorem pE (s:aK):(jI s).length=32:=sM _
end Rf
end
section
open Go.RowKit
namespace No
open Rl Ni
theorem OQ (x:It):∀ {d e:Nat},Fits d x->e<=d->Fits e x:=by
 induction x using It.ind with
 | h l s xs ih =>
  intro d e h he;cases h with
  | mk ha hs hx hy=>exact .mk (by omega) hs hx (λy hm=>ih y hm (hy y hm) (by omega))
theorem DL (a:aJ) (n cap:Nat) (w:World) :
  Calls prog 199 #[.slice a n cap] w λe w'=>e = .returned (.func (Fn.func 200) #[] #[.pointer (some ⟨w.heap.size,0,none⟩)])/\w'=w.alloc (.cells #[.slice a n cap] 128):=by
 go_enter func199,ntmps199;go_wp2;go_ret;exact ⟨rfl,rfl⟩
theorem Xx (s:aK) (w:World):Calls prog 131 #[.string s] w λe w'=>e = .returned (.bool (dB s))/\w'=w.drewN 0:=by
 refine (xL s w).mono ?_;rintro e w' ⟨rfl,rfl⟩;exact ⟨rfl,rfl⟩
def Wh (w:World) (x:It) (e:Ending) (w':World):Prop:=∃ (s:aK) (b:Bool),e = .returned (.tuple #[.string s,.bool b])/\(b=true/\mV x=some s\/b=false/\mV x=none)/\Below w.heap.size w w'
theorem AO (c i:Nat) (xs:List It) (a:aJ) (n cap:Nat) (x:It) (w:World) (hc:w.cell? ⟨c,0,none⟩=some (.slice a n cap)) (h:jf w xs a n cap) (hx:xs[i]? = some x) (hF:Fits 0 x) (hk:x.size<=4096) (hb:x.bytes.length<=4294967296) :
  Calls prog 200 #[.int .i64 i,.pointer (some ⟨c,0,none⟩)] w (Wh w x):=by
 have hm:=h.max;have hnc:=h.le;unfold maxLen at hm;have hi:i<n:=by rw [<-h.len]; exact (List.getElem?_eq_some_iff.1 hx).1
 obtain ⟨y,b,off,A,N,C,hy,rfl,hblt,hL,hI⟩:=h.at' i hi;obtain rfl:=Option.some.inj (hx.symm.trans hy);have K8:=World.block_lt_of_cell? w _ hc;obtain ⟨e0,e1,e2⟩:=hL;have hO:Rg.Own (w.alloc (.cells #[.bool x.l,.string x.s,.slice A N C] 130)) w.heap.size (itC x A N C) 130:=Rg.Own.new _ _ _;have HB:Hid (Below w.heap.size w (w.alloc (.cells #[.bool x.l,.string x.s,.slice A N C] 130))):=hid (al1 _ _);cases hl:x.l with
 | false =>
  have HK:Hid (mV x=if dB x.s then some x.s else none):=hid (by unfold mV; rw [hl]; rfl);have HP:=hid (λw=>Xx x.s w);rw [hl] at e0 hO HB;obtain ⟨f0,f1,f2⟩:=cO hO.2;rw [hl] at f0;clear h hI hx hy hF hk hb hO;go_enter func200,ntmps200;go_wp2;go_quiet ((go_at_call 131; exact Calls.quiet_of_same (HP.out _)))
  go_wp2;go_ret2
  refine ⟨x.s,dB x.s,rfl,?_,below_drewN HB.out _⟩;rw [HK.out];cases dB x.s
  .exact .inr ⟨rfl,rfl⟩
  .exact .inl ⟨rfl,rfl⟩
 | true =>
  have HK:Hid (mV x=if x.bytes.length<32 then some ⟨x.bytes.toArray⟩ else none):=hid (by unfold mV; rw [hl]; rfl);have o6:=hid (λw1 (hb1:Below w.heap.size w w1)=>zS x w1 (itV x A N C) ⟨A,N,C,rfl,hI.stays hb1⟩ hF hk (by omega));have HS:Hid ((⟨x.bytes.toArray⟩:aK).size=x.bytes.length):=hid (fA _);have dl:=hid hb;unfold itV at o6;rw [hl] at e0 hO HB o6;obtain ⟨f0,f1,f2⟩:=cO hO.2;rw [hl] at f0;have g0:=(HB.out.cell (p:=⟨b,off+i*3,none⟩) hblt).trans e0;have g1:=(HB.out.cell (p:=⟨b,off+i*3+1,none⟩) hblt).trans e1
  have g2:=(HB.out.cell (p:=⟨b,off+i*3+2,none⟩) hblt).trans e2;have gc:=(HB.out.cell (p:=⟨c,0,none⟩) K8).trans hc;obtain ⟨X,hX⟩:=av (⟨x.bytes.toArray⟩:aK)
  have hxs:X.size=x.bytes.length:=by rw [<-hX]; exact HS.out
  rw [hX] at o6 HK;have hxb:X.size<=4294967296:=by omega
  rw [<-hxs] at HK;clear h hI hx hy hF hk hb hO HS dl hxs hX;go_enter func200,ntmps200;go_wp2_with fail
  refine (o6.out _ HB.out).mono ?_;rintro e w1 ⟨rfl,hb1⟩;have HB1:=hid (bst HB.out hb1);clear hb1 o6 e0 e1 e2 f0 f1 f2 g0 g1 g2 gc hc;by_cases h32:X.size<32
  .have hd:decide ((X.size:Int)<32)=true:=by simp; omega
   go_wp2;go_ret2
   exact ⟨X,true,rfl,.inl ⟨rfl,by rw [HK.out,if_pos h32]⟩,HB1.out⟩
  .have hd:decide ((X.size:Int)<32)=false:=by simp; omega
   go_wp2;go_ret2
   exact ⟨X,false,rfl,.inr ⟨rfl,by rw [HK.out,if_neg h32]⟩,HB1.out⟩
def nR (w:World) (r:Option Nd) (e:Ending) (w':World):Prop:=∃ (N:Nd) (a:aJ) (n c:Nat) (b:Bool),e = .returned (.tuple #[.agg (ndC N a n c),.bool b])/\(b=true/\r=some N\/b=false/\r=none)/\
 BsF w.heap.size w' a n c N.p/\N.ks.length=16/\Below w.heap.size w w'
def Good (x:It):Prop:=Fits 0 x/\x.size<=4096/\x.bytes.length<=4294967296/\x.s.size<=1000000
theorem getD_at {xs:List It} (h:i<xs.length):xs[i]? = some (xs.getD i it0):=by simp [h]
theorem EM (xs:List It) (a:aJ) (n cap:Nat) (w:World) (h:jf w xs a n cap) (h2:xs.length=2) (hG:∀ x∈xs,Good x) (hbad:(xs.getD 0 it0).s.size=0\/Bad (xs.getD 0 it0).s) :
  Calls prog 193 #[.slice a n cap] w (nR w (eT xs)):=by
 have hR:eT xs=none:=by unfold eT iW; rw [if_pos h2,if_pos hbad]
 rw [hR];have hm:=h.max;have hnc:=h.le;have hl:=h.len;unfold maxLen at hm;obtain ⟨y,b,off,A,N,C,hy,rfl,hblt,hL,hI⟩:=h.at' 0 (by omega);have hyx:xs.getD 0 it0=y:=Option.some.inj ((getD_at (xs:=xs) (i:=0) (by omega)).symm.trans hy);obtain ⟨_,_,_,hs6⟩:=hG y (List.mem_of_getElem? hy);rw [hyx] at hbad;have hcall:Hid (∃ c:Int,c≠0/\∀ w:World,Calls prog 198 #[.string y.s] w λe w'=>e = .returned (.tuple #[.slice none 0 0,.bool false,.int .i64 c])/\Below w.heap.size w w'):=hid (by
  by_cases h0:y.s.size=0
  .refine ⟨5,by decide,λw=>?_⟩;rw [eF h0];refine (KC w).mono ?_;rintro e w' ⟨rfl,rfl⟩;exact ⟨rfl,aG⟩
  .refine ⟨6,by decide,λw=>?_⟩;exact KV y.s (by omega) hs6 (hbad.resolve_left h0) w)
 obtain ⟨w2,hw2⟩:=au (w.alloc (.cells (ndC nd0 none 0 0) 56))
 have hO:dJ w2 w.heap.size nd0 none 0 0:=by rw [hw2]; exact Rg.Own.new _ _ _
 have hB2:Below w.heap.size w w2:=by rw [hw2]; exact al1 _ _
 obtain ⟨e0,e1,e2⟩:=hL.stays hB2 hblt;rw [Nat.zero_mul,Nat.add_zero] at e0 e1 e2;have HO:=hid hO;have HB2:=hid hB2;obtain ⟨c,hc,hcl⟩:=hcall.out;have hcb:(c != 0)=true:=by simp; exact hc
 have HC:=hid hcl;clear h hL hI hO hB2 hbad hR hG hcall hcl hc hyx hy;subst hw2;go_enter func193,ntmps193;go_wp2_with (refine ay (aY _ _ _ w.heap.size rfl rfl) ?_)
 refine (HC.out _).mono ?_;rintro e w3 ⟨rfl,hb3⟩;have am:=hid (HO.out.below hb3);have HB3:=hid (bst HB2.out hb3);clear hb3;go_wp2_with (first
  | (refine ay (bK qN ?_) ?_; · exact ⟨_,rfl,rfl⟩)
  | (refine bD am.out rfl nd0 none 0 0 rfl rfl _ _ rfl rfl rfl rfl ?_))
 exact bodyPost_ret (fB rfl _ rfl (dz am.out) rfl) rfl ⟨nd0,none,0,0,false,rfl,.inr ⟨rfl,rfl⟩,BsF.nil _ _,rfl,bS HB3.out aF _⟩
theorem Gb (xs:List It) (a:aJ) (n cap:Nat) (w:World) (h:jf w xs a n cap) (h2:xs.length=2) (hG:∀ x∈xs,Good x) (hbad:¬ ((xs.getD 0 it0).s.size=0\/Bad (xs.getD 0 it0).s)) :
  Calls prog 193 #[.slice a n cap] w (nR w (eT xs)):=by
 have hR:eT xs=if qc (xs.getD 0 it0).s then some ⟨1,nu (xs.getD 0 it0).s,(xs.getD 1 it0).s,zks⟩ else (mV (xs.getD 1 it0)).map λk=>⟨2,nu (xs.getD 0 it0).s,eB,dI k⟩:=by unfold eT iW; rw [if_pos h2,if_neg hbad]
 rw [hR];have hm:=h.max;have hnc:=h.le;have hl:=h.len;unfold maxLen at hm;have hn2:n=2:=by omega
 obtain ⟨y,b,off,A,N,C,hy,rfl,hblt,hL,hI⟩:=h.at' 0 (by omega);obtain ⟨z,b',off',A2,N2,C2,hz,e,r9,hL2,hI2⟩:=h.at' 1 (by omega);obtain ⟨rfl,rfl,_⟩:b=b'/\off=off'/\True:=by cases e; exact ⟨rfl,rfl,trivial⟩
 have hyx:xs.getD 0 it0=y:=Option.some.inj ((getD_at (xs:=xs) (i:=0) (by omega)).symm.trans hy);have hzx:xs.getD 1 it0=z:=Option.some.inj ((getD_at (xs:=xs) (i:=1) (by omega)).symm.trans hz);obtain ⟨hf1,hf2,hf3,_⟩:=hG z (List.mem_of_getElem? hz);rw [hyx] at hbad ⊢;rw [hzx];have h0:0<y.s.size:=by omega
 have hB0:¬ Bad y.s:=λe=>hbad (.inr e);have K9:=WS y.s hB0;have HC:=hid (λw=>OB y.s h0 hB0 w);obtain ⟨w2,hw2⟩:=au (w.alloc (.cells (ndC nd0 none 0 0) 56))
 have hO:dJ w2 w.heap.size nd0 none 0 0:=by rw [hw2]; exact Rg.Own.new _ _ _
 have hB2:Below w.heap.size w w2:=by rw [hw2]; exact al1 _ _
 obtain ⟨e0,e1,e2⟩:=hL.stays hB2 hblt;rw [Nat.zero_mul,Nat.add_zero] at e0 e1 e2;have HO:=hid hO;have HB2:=hid hB2;have HI:=hid h;have HL2:=hid hL2;have HZ:=hid hz;obtain ⟨P,hP⟩:=av (nu y.s)
 obtain ⟨lf,hlf⟩:=av (qc y.s)
 unfold Unp at HC;rw [hP,hlf] at HC;rw [hP] at K9;rw [hP,hlf];clear h hL hI hO hB2 hbad hR hG hyx hy hzx hz hL2 hI2 hB0 hP hlf e;subst hw2;subst hn2;cases lf with
 | true =>
  go_enter func193,ntmps193;go_wp2_with (refine ay (aY _ _ _ w.heap.size rfl rfl) ?_)
  refine (HC.out _).mono ?_;rintro e w3 ⟨a3,n3,c3,rfl,hx3,hb3⟩;have am:=hid (HO.out.below hb3);have hB3:=bst HB2.out hb3;have HB3:=hid hB3;obtain ⟨f0,f1,f2⟩:=HL2.out.stays hB3 r9;rw [Nat.one_mul] at f0 f1 f2;have fY:n3<=1000000:=by rw [<-hx3.len]; omega
  have oE:=hid (nV a3 n3 c3 P fY z.s w3 hx3);have hz3:=am.out.1;clear hb3 hB3 hx3 HC e0 e1 e2;go_wp2_with fail
  refine oE.out.mono ?_;rintro e w4 ⟨a4,n4,c4,rfl,hx4,hl4,hb4⟩;have ch:=hid (am.out.below hb4);have cz:=hid (bst HB3.out hb4);have cP:=hid hx4;clear hb4 hx4 oE;go_wp2_with (refine bD ch.out rfl ⟨1,P,z.s,zks⟩ a4 n4 c4 rfl rfl _ _ rfl rfl rfl rfl ?_)
  exact bodyPost_ret (fB rfl _ rfl (dz ch.out) rfl) rfl ⟨⟨1,P,z.s,zks⟩,a4,n4,c4,true,rfl,.inl ⟨rfl,rfl⟩,(cP.out.row hz3 _).weak (by omega),rfl,bS cz.out aF _⟩
 | false =>
  go_enter func193,ntmps193;go_wp2_with (refine ay (aY _ _ _ w.heap.size rfl rfl) ?_)
  refine (HC.out _).mono ?_;rintro e w3 ⟨a3,n3,c3,rfl,hx3,hb3⟩;have am:=hid (HO.out.below hb3);have HB3:=hid (bst HB2.out hb3);have fY:n3<=1000000:=by rw [<-hx3.len]; omega
  have hz3:=am.out.1;have cF:=hid hx3;clear hb3 hx3 HC e0 e1 e2;go_wp2_with fail
  refine (DL _ _ _ _).mono ?_;rintro e w4 ⟨rfl,hw4⟩;have hb4:Below w3.heap.size w3 w4:=by rw [hw4]; exact al1 _ _
  have hc4:w4.cell? ⟨w3.heap.size,0,none⟩=some (.slice (some ⟨b,off,none⟩) 2 cap):=by rw [hw4,World.cell?_alloc_mark]; rfl
  have HK:=hid (AO w3.heap.size 1 xs (some ⟨b,off,none⟩) 2 cap z w4 hc4 (HI.out.stays (bst HB3.out hb4)) HZ.out hf1 hf2 hf3);have ch:=hid (am.out.below hb4);have cz:=hid (bst HB3.out hb4);have cP:=hid (cF.out.below hb4);have hz4:=hb4.size;clear hw4 hb4 hc4;go_wp2_with fail
  refine HK.out.mono ?_;rintro e w5 ⟨s5,b5,rfl,hk5,hb5⟩;have cd:=hid (ch.out.below hb5);have ag:=hid (bst cz.out hb5);have HE:=hid (MN a3 n3 c3 P fY s5 w5 (cP.out.below hb5));have Kb:=hid hk5;have hz5:=hb5.size;clear hb5 hk5 HK;go_wp2_with fail
  refine HE.out.mono ?_;rintro e w6 ⟨a6,n6,c6,rfl,hx6,qu,hb6⟩;have cM:=hid (cd.out.below hb6);have cg:=hid (bst ag.out hb6);have lO:=hid hx6;clear hb6 hx6 HE;go_wp2_with (refine bD cM.out rfl ⟨2,P,eB,dI s5⟩ a6 n6 c6 (fM s5) rfl _ _ rfl rfl rfl rfl ?_)
  refine bodyPost_ret (fB rfl _ rfl (dz cM.out) (fM s5)) rfl ⟨⟨2,P,eB,dI s5⟩,a6,n6,c6,b5,rfl,?_,(lO.out.row (by omega) _).weak (by omega),fM s5,bS cg.out aF _⟩;rcases Kb.out with ⟨h1,h2⟩ | ⟨h1,h2⟩
  .exact .inl ⟨h1,by rw [h2]; rfl⟩
  .exact .inr ⟨h1,by rw [h2]; rfl⟩
end No
end
section
open Go.RowKit
namespace Rl
theorem JZ {b:Nat} {x:It} {n:Nat} (h:Rg.Own w b (itC x a n c) 130) (ho:∃ y,o.op = .load 130 y/\ev y = .pointer (some ⟨b,0,none⟩)) :
  (execOp ev o).run prog w = .ok (.value (.agg (itC x a n c))) w:=by
 obtain ⟨y,ho,hx⟩:=ho;have:=mG (cO h.2);unfold execOp;simp only [ho,hx,Instr.loadAt,Instr.sureAddr,Sem.run_bind,Sem.run_pure,Result.andThen_ok,this];rfl
theorem nD {rest:List Oper} {b:Nat} {x:It} {n:Nat} (h:Rg.Own w b (itC x a n c) 130) (y:It) (a':aJ) (n' c':Nat)
  (hgd:o.guard=none) (p q:Operand) (ho:o.op = .store 130 p q) (hx:act.eval p = .pointer (some ⟨b,0,none⟩)) (hy:act.eval q = .agg (itC y a' n' c')) (hd:o.dst=none)
  (hQ:wpList prog ops Q rest act (w.setRow b (itC y a' n' c'))):wpList prog ops Q (o::rest) act w :=
 wpList_store_rowTo hgd 130 p q ho hd b _ hx hy 130 _ h.2 (gJ _ _ _ _) rfl (jd _ _ _ _) hQ
theorem wG {b:Nat} {cs':aM} {T:TypeId} (h:Rg.Own w b cs T):Rg.Own (w.setRow b cs') b cs' T:=qP h
theorem aU {b o:Nat} {T:TypeId} (h:Rg.Own w b cs T) (v:Value):Rg.Own (w.setCell ⟨b,o,none⟩ v) b (cs.setIfInBounds o v) T :=
 ⟨by simp; exact h.1,heap_setCell_same w b o cs T v h.2⟩
theorem Ap {b g o:Nat} {T:TypeId} (h:Rg.Own w b cs T) (v:Value) (hne:b≠g):Rg.Own (w.setCell ⟨g,o,none⟩ v) b cs T:=nQ h (Ar w g o v) hne
theorem Qx {b:Nat} {T:TypeId} (h:Rg.Own w b cs T):w.frozen? ⟨b,j,none⟩=false:=by
 simp [World.frozen?,h.2]
end Rl
end
section
open Go.RowKit
namespace No
open Rl Ni
theorem Ec (l:List It) (x:It):ou (l++[x])=match ou l with
  | none=>none
  | some ks=>match mV x with
   | none=>none
   | some k=>some (ks++[k]):=by
 induction l with
 | nil =>
  simp only [List.nil_append,ou];cases mV x <;> rfl
 | cons y ys ih =>
  simp only [List.cons_append,ou,ih];cases mV y <;> cases ou ys <;> cases mV x <;> rfl
theorem Cw {l r:List It} (h:ou l=none):ou (l++r)=none:=by
 induction l with
 | nil=>cases h
 | cons y ys ih =>
  simp only [List.cons_append,ou] at h ⊢;cases hy:mV y with
  | none=>rfl
  | some k =>
   rw [hy] at h;dsimp only at h ⊢;cases hys:ou ys with
   | none=>rw [ih hys]
   | some ks=>rw [hys] at h; cases h
theorem QZ {xs:List It} {x:It} {ks:List aK} (hx:xs[j]? = some x) (h:ou (xs.take j)=some ks) {k:aK} (hk:mV x=some k):ou (xs.take (j+1))=some (ks++[k]):=by
 rw [List.take_add_one,hx,Option.toList_some,Ec,h,hk]
theorem OH {xs:List It} {m:Nat} {x:It} (hx:xs[j]? = some x) (hj:j<m) (hk:mV x=none):ou (xs.take m)=none:=by
 have:xs.take m=xs.take (j+1)++(xs.drop (j+1)).take (m-(j+1)):=by rw [<-List.take_add,show j+1+(m-(j+1))=m by omega]
 rw [this];refine Cw ?_;rw [List.take_add_one,hx,Option.toList_some,Ec,hk];cases ou (xs.take j) <;> rfl
theorem Br (ks:List aK) (j:Nat) (hj:j<16) (hl:ks.length=j) (k:aK):(iI (ks++List.replicate (16-j) eB)).setIfInBounds j (.string k)=iI (ks++[k]++List.replicate (16-(j+1)) eB):=by
 unfold iI;rw [show 16-j=(16-(j+1))+1 by omega,List.replicate_succ];simp [hl]
theorem Ql {b:Nat} {ks:List aK} (h:sF w b ks) (j:Nat) (hj:j<ks.length):w.cell? ⟨b,j,none⟩=some (.string (ks.getD j eB)):=by
 rw [cell_of_row w b _ _ _ _ h.2];unfold iI;simp [List.getD,hj]
theorem Ag (xs:List It) (a:aJ) (n cap:Nat) (w:World) (h:jf w xs a n cap) (ij:xs.length=17) (hG:∀ x∈xs,Good x) :
  Calls prog 194 #[.slice a n cap] w (nR w (eT xs)):=by
 have hR:eT xs=dK xs:=by unfold eT; rw [if_neg (by omega),if_pos ij]
 rw [hR];have hm:=h.max;have hnc:=h.le;have hl:=h.len;unfold maxLen at hm;have Kd:n=17:=by omega
 have HX:Hid (∀ j,j<17->∃ x,xs[j]? = some x/\Fits 0 x/\x.size<=4096/\x.bytes.length<=4294967296):=hid (λj hj=>by
  have hx:xs[j]? = some (xs[j]'(by omega)):=List.getElem?_eq_getElem (by omega);obtain ⟨g1,g2,g3,_⟩:=hG _ (List.mem_of_getElem? hx);exact ⟨_,hx,g1,g2,g3⟩)
 obtain ⟨w2,hw2⟩:=au (w.alloc (.cells (ndC nd0 none 0 0) 56))
 have hO:dJ w2 w.heap.size nd0 none 0 0:=by rw [hw2]; exact Rg.Own.new _ _ _
 have hB2:Below w.heap.size w w2:=by rw [hw2]; exact al1 _ _
 have hs2:w2.heap.size=w.heap.size+1:=by rw [hw2]; simp
 have HO:=hid hO;have HB2:=hid hB2;have HI:=hid h;have HR:=hid (rfl:dK xs=dK xs);obtain ⟨y,b,off,A,N,C,hy,ha,hblt,hL,hI⟩:=h.at' 16 (by omega);have qi:=hid hL;have HY:=hid hy;have R5:=hid ij;clear h hO hB2 hG hR hl hL hI hy ij;subst hw2;subst Kd;subst ha;go_enter func194,ntmps194;go_wp2_with (refine ay (aY _ _ _ w.heap.size rfl rfl) ?_)
 refine (DL _ _ _ _).mono ?_;rintro e w3 ⟨rfl,hw3⟩;have hb3:Below (w.alloc (.cells (ndC nd0 none 0 0) 56)).heap.size (w.alloc (.cells (ndC nd0 none 0 0) 56)) w3:=by rw [hw3]; exact al1 _ _
 have hs3:w3.heap.size=w.heap.size+2:=by rw [hw3]; simp
 have hc3:w3.cell? ⟨w.heap.size+1,0,none⟩=some (.slice (some ⟨b,off,none⟩) 17 cap):=by
  rw [hw3,<-hs2,World.cell?_alloc_mark]; rfl
 have hO4:=(HO.out.below hb3).below (al1 w3 (.cells (iI zks) 54));have hK4:=Rg.Own.new w3 (iI zks) 54;rw [hs3] at hK4;have hB4:=(bst HB2.out hb3).trans ((al1 w3 (.cells (iI zks) 54)).mono (by omega));have hc4:(w3.alloc (.cells (iI zks) 54)).cell? ⟨w.heap.size+1,0,none⟩=some (.slice (some ⟨b,off,none⟩) 17 cap):=by
  rw [(al1 w3 _).cell (p:=⟨w.heap.size+1,0,none⟩) (by show w.heap.size+1<_; omega)]; exact hc3
 have ch:=hid hO4;have R6:=hid hK4;have cz:=hid hB4;have tb:=hid hc4;have hcv:(w.alloc (.cells (ndC nd0 none 0 0) 56)).heap.size=w.heap.size+1:=hs2;simp only [hcv];clear hb3 hO4 hK4 hB4 hc4 hc3 hw3 HO HB2 hs2 hcv;go_wp2_with (refine ay (wH _ _ _ (w.heap.size+2) hs3.symm rfl) ?_)
 have hq:Hid (ou (xs.take 0)=some []):=hid rfl;go_loopw [12] (λi wr=>∃ (j:Nat) (ks:List aK),j<=16/\i = .int .i64 j/\ks.length=j/\Hid (ou (xs.take j)=some ks)/\Hid (sF wr (w.heap.size+2) (ks++List.replicate (16-j) eB))/\Hid (dJ wr w.heap.size nd0 none 0 0)/\Hid (wr.cell? ⟨w.heap.size+1,0,none⟩=some (.slice (some ⟨b,off,none⟩) 17 cap))/\Hid (Below w.heap.size w wr)) (λi _=>16-(intOf i).toNat)
 case atStart=>exact ⟨0,[],Nat.zero_le _,rfl,rfl,hq,hid R6.out,hid ch.out,hid tb.out,hid cz.out⟩
 case round =>
  obtain ⟨j,ks,hj,rfl,hkj,HA,HK,HN,HC,HB⟩:=hrel;clear hq ch R6 cz tb hs3;by_cases hlt:j<16
  .obtain ⟨x,hx,hf1,hf2,hf3⟩:=HX.out j (by omega);have HT:=hid (AO (w.heap.size+1) j xs (some ⟨b,off,none⟩) 17 cap x wr HC.out (HI.out.stays HB.out) hx hf1 hf2 hf3);have Hx:=hid hx;clear hx hf1 hf2 hf3;go_wp2_with fail
   refine HT.out.mono ?_;rintro e w5 ⟨s5,b5,rfl,hk5,hb5⟩;have kp:=hid (HN.out.below hb5);have tP:=HK.out.below hb5;have ag:=hid (bst HB.out hb5);have sr:=hid ((Below.cell (p:=⟨w.heap.size+1,0,none⟩) hb5 (World.block_lt_of_cell? wr _ HC.out)).trans HC.out);have hl5:(ks++List.replicate (16-j) eB).length=16:=by simp; omega
   have c5:=Ql tP j (by omega);have f5:w5.frozen? ⟨w.heap.size+2,j,none⟩=false:=Qx tP;have Kb:=hid tP;have R7:=hid hk5;clear hk5 hb5 tP HT HN HK HB HC;cases b5 with
   | true =>
    have Kf:Hid (mV x=some s5):=hid (by rcases R7.out with ⟨_,h⟩ | ⟨h,_⟩; exact h; cases h);go_wp2;go_roundw
    case rel =>
     refine ⟨j+1,ks++[s5],by omega,by go_num,by simp [hkj],hid (QZ Hx.out HA.out Kf.out),hid ?_,hid (Ap kp.out _ (by omega)),hid ?_,hid ?_⟩
     .have h:=aU (o:=j) Kb.out (.string s5);rw [Br ks j hlt hkj s5] at h;exact h
     .rw [World.cell?_setCell_far _ _ _ _ (by show w.heap.size+2≠w.heap.size+1; omega)]; exact sr.out
     .exact ag.out.setCell (by show w.heap.size<=w.heap.size+2; omega) _
    case measure=>simp [intOf]; omega
   | false =>
    have Kf:Hid (mV x=none):=hid (by rcases R7.out with ⟨h,_⟩ | ⟨_,h⟩; cases h; exact h);go_wp2_with (first
     | (refine ay (bK qN ?_) ?_; · exact ⟨_,rfl,rfl⟩)
     | (refine bD kp.out rfl nd0 none 0 0 rfl rfl _ _ rfl rfl rfl rfl ?_))
    refine bodyPost_ret (fB rfl _ rfl (dz kp.out) rfl) rfl ⟨nd0,none,0,0,false,rfl,.inr ⟨rfl,?_⟩,BsF.nil _ _,rfl,bS ag.out aF _⟩;unfold dK;rw [OH Hx.out hlt Kf.out]
  .obtain rfl:j=16:=by omega
   have lm:Hid (dK xs=if y.l=false/\y.s.size=0 then some ⟨3,[],eB,ks⟩ else none):=hid (by
    unfold dK;rw [HA.out];have:xs.getD 16 it0=y:=Option.some.inj ((getD_at (xs:=xs) (i:=16) (by rw [R5.out]; omega)).symm.trans HY.out);rw [this])
   have lp:Hid (sF wr (w.heap.size+2) ks):=hid (by have:=HK.out; simpa using this);have hkl:ks.length=16:=hkj;have q0:wr.cell? ⟨b,off+48,none⟩=some (.bool y.l):=(Below.cell (p:=⟨b,_,none⟩) HB.out hblt).trans qi.out.1;have q1:wr.cell? ⟨b,off+48+1,none⟩=some (.string y.s):=(Below.cell (p:=⟨b,_,none⟩) HB.out hblt).trans qi.out.2.1;have q2:wr.cell? ⟨b,off+48+2,none⟩=some (.slice A N C):=(Below.cell (p:=⟨b,_,none⟩) HB.out hblt).trans qi.out.2.2;clear HA HK HC HX qi HY R5 HI HR;cases hyl:y.l with
   | true =>
    have HF:Hid (dK xs=none):=hid (by rw [lm.out,hyl]; rfl);clear lm;rw [hyl] at q0;obtain ⟨wl,hwl⟩:=au (wr.alloc (.cells #[.bool true,.string y.s,.slice A N C] 130))
    have hbl:Below wr.heap.size wr wl:=by rw [hwl]; exact al1 _ _
    have hcl:wr.heap.size<wl.heap.size:=by rw [hwl]; simp
    have e0:wl.cell? ⟨wr.heap.size,0,none⟩=some (.bool true):=by rw [hwl,World.cell?_alloc_mark]; rfl
    have e1:wl.cell? ⟨wr.heap.size,1,none⟩=some (.string y.s):=by rw [hwl,World.cell?_alloc_mark]; rfl
    have cY:=hid (lp.out.below hbl);have cJ:=hid (HN.out.below hbl);have dl:=hid (bst HB.out hbl);clear hbl;go_wp2_with fail
    rw [<-hwl];clear hwl;obtain ⟨g,hg⟩:=av wr.heap.size
    have hge:w.heap.size+2<g:=by rw [<-hg]; exact lp.out.1
    rw [hg] at e0 e1 hcl ⊢;clear hg;have rq:=cJ.out.drew;have hw0:w.heap.size<wl.drew.heap.size:=cJ.out.1;refine aB (S:=λw'=>Rg.Own w' (w.heap.size+2) (iI ks) 54/\w'.cell? ⟨g,0,none⟩=some (.bool true)/\w'.cell? ⟨g,1,none⟩=some (.string y.s)/\Below w.heap.size w w') (⟨cY.out.drew,e0,e1,dl.out.drew⟩) λhld=>?_;refine ah 0 ?_ (hy:=by intro wz hSw; (refine nX hSw.1 hkl ?_; exact ⟨_,rfl,rfl⟩));try simp only [ak]
    refine ah 2 ?_;try simp only [ak]
    refine ah 3 ?_ (hy:=by intro wz hSw; (have q0:=hSw.2.1; go_simp <;> with_reducible rfl));try simp only [ak]
    refine ah 4 ?_;try simp only [ak]
    refine aj 1 λK hK=>?_;go_simp;go_at_call 75
    (with_reducible refine (jV ks hkl _).mono ?_)
    rintro e du ⟨a5,n5,c5,rfl,hx5,hl5,hbx⟩;have rr:=rq.below hbx;have hg0:g<wl.drew.heap.size:=World.block_lt_of_cell? _ _ hld.2.1;refine hK.out _ _ (⟨hld.1.below hbx,(Below.cell (p:=⟨g,0,none⟩) hbx hg0).trans hld.2.1,(Below.cell (p:=⟨g,1,none⟩) hbx hg0).trans hld.2.2.1,bst hld.2.2.2 hbx⟩) λhld=>?_;clear hK K hbx rq;try simp only [ak]
    refine ah 5 ?_;try simp only [ak]
    refine Rg.takeL (i:=6) (v:=undef) rfl (by kernel_rfl) (by kernel_rfl) (by kernel_rfl) (λ_ _ _ h=>h) (Or.inr ⟨by rfl,rfl⟩) (by assumption) ?_;try simp only [ak]
    refine Rg.takeL (i:=7) (v:=undef) rfl (by kernel_rfl) (by kernel_rfl) (by kernel_rfl) (λ_ _ _ h=>h) (Or.inr ⟨by rfl,rfl⟩) (by assumption) ?_;try simp only [ak]
    refine Rg.takeL (i:=8) (v:=undef) rfl (by kernel_rfl) (by kernel_rfl) (by kernel_rfl) (λ_ _ _ h=>h) (Or.inr ⟨by rfl,rfl⟩) (by assumption) ?_;try simp only [ak]
    refine ah 9 ?_;try simp only [ak]
    refine aj 10 λK hK=>?_;refine Rg.meetStore (by rfl) rr 56 (ndC ⟨3,[],eB,ks⟩ a5 n5 c5) ⟨_,_,rfl,rfl,rfl⟩ (kV _ _ _ _ hkl) (by rw [eP _ _ _ _ rfl,eP _ _ _ _ hkl]) (oP _ _ _ _) ?_;rintro wz hn hu;have hx6:BsF w.heap.size wz a5 n5 c5 []:=(hx5.upd hu (by omega)).weak (by omega);refine hK.out _ _ (⟨hld.1.upd hu (by omega),(World.cell?_of_block (hu.block g (by omega))).trans hld.2.1,(World.cell?_of_block (hu.block g (by omega))).trans hld.2.2.1,hu.below hld.2.2.2 aF⟩) λhld=>?_;clear hK K rr hx5;try simp only [Act.put]
    refine ah 11 ?_;try simp only [ak]
    refine aA ?_;go_wp2;exact bodyPost_ret (fB rfl _ rfl hn hkl) rfl ⟨⟨3,[],eB,ks⟩,a5,n5,c5,false,rfl,.inr ⟨rfl,HF.out⟩,hx6,hkl,hld.2.2.2⟩
   | false =>
    rw [hyl] at q0;by_cases hys:y.s.size=0
    .have hye:=eF hys;have HF:Hid (dK xs=some ⟨3,[],eB,ks⟩):=hid (by rw [lm.out,if_pos ⟨hyl,hys⟩]);clear lm;rw [hye] at q1;obtain ⟨wl,hwl⟩:=au (wr.alloc (.cells #[.bool false,.string ⟨#[]⟩,.slice A N C] 130))
     have hbl:Below wr.heap.size wr wl:=by rw [hwl]; exact al1 _ _
     have hcl:wr.heap.size<wl.heap.size:=by rw [hwl]; simp
     have e0:wl.cell? ⟨wr.heap.size,0,none⟩=some (.bool false):=by rw [hwl,World.cell?_alloc_mark]; rfl
     have e1:wl.cell? ⟨wr.heap.size,1,none⟩=some (.string ⟨#[]⟩):=by rw [hwl,World.cell?_alloc_mark]; rfl
     have cY:=hid (lp.out.below hbl);have cJ:=hid (HN.out.below hbl);have dl:=hid (bst HB.out hbl);clear hbl;go_wp2_with fail
     rw [<-hwl];clear hwl;obtain ⟨g,hg⟩:=av wr.heap.size
     have hge:w.heap.size+2<g:=by rw [<-hg]; exact lp.out.1
     rw [hg] at e0 e1 hcl ⊢;clear hg;have rq:=cJ.out.drew;have hw0:w.heap.size<wl.drew.heap.size:=cJ.out.1;refine aB (S:=λw'=>Rg.Own w' (w.heap.size+2) (iI ks) 54/\w'.cell? ⟨g,0,none⟩=some (.bool false)/\w'.cell? ⟨g,1,none⟩=some (.string ⟨#[]⟩)/\Below w.heap.size w w') (⟨cY.out.drew,e0,e1,dl.out.drew⟩) λhld=>?_;refine ah 0 ?_ (hy:=by intro wz hSw; (refine nX hSw.1 hkl ?_; exact ⟨_,rfl,rfl⟩));try simp only [ak]
     refine ah 2 ?_;try simp only [ak]
     refine ah 3 ?_ (hy:=by intro wz hSw; (have q0:=hSw.2.1; go_simp <;> with_reducible rfl));try simp only [ak]
     refine ah 4 ?_;try simp only [ak]
     refine aj 1 λK hK=>?_;go_simp;go_at_call 75
     (with_reducible refine (jV ks hkl _).mono ?_)
     rintro e du ⟨a5,n5,c5,rfl,hx5,hl5,hbx⟩;have rr:=rq.below hbx;have hg0:g<wl.drew.heap.size:=World.block_lt_of_cell? _ _ hld.2.1;refine hK.out _ _ (⟨hld.1.below hbx,(Below.cell (p:=⟨g,0,none⟩) hbx hg0).trans hld.2.1,(Below.cell (p:=⟨g,1,none⟩) hbx hg0).trans hld.2.2.1,bst hld.2.2.2 hbx⟩) λhld=>?_;clear hK K hbx rq;try simp only [ak]
     refine ah 5 ?_;try simp only [ak]
     refine ah 6 ?_;try simp only [ak]
     refine ah 7 ?_ (hy:=by intro wz hSw; (have q0:=hSw.2.2.1; go_simp <;> with_reducible rfl));try simp only [ak]
     refine ah 8 ?_;try simp only [ak]
     refine ah 9 ?_;try simp only [ak]
     refine aj 10 λK hK=>?_;refine Rg.meetStore (by rfl) rr 56 (ndC ⟨3,[],eB,ks⟩ a5 n5 c5) ⟨_,_,rfl,rfl,rfl⟩ (kV _ _ _ _ hkl) (by rw [eP _ _ _ _ rfl,eP _ _ _ _ hkl]) (oP _ _ _ _) ?_;rintro wz hn hu;have hx6:BsF w.heap.size wz a5 n5 c5 []:=(hx5.upd hu (by omega)).weak (by omega);refine hK.out _ _ (⟨hld.1.upd hu (by omega),(World.cell?_of_block (hu.block g (by omega))).trans hld.2.1,(World.cell?_of_block (hu.block g (by omega))).trans hld.2.2.1,hu.below hld.2.2.2 aF⟩) λhld=>?_;clear hK K rr hx5;try simp only [Act.put]
     refine ah 11 ?_;try simp only [ak]
     refine aA ?_;go_wp2;exact bodyPost_ret (fB rfl _ rfl hn hkl) rfl ⟨⟨3,[],eB,ks⟩,a5,n5,c5,true,rfl,.inl ⟨rfl,HF.out⟩,hx6,hkl,hld.2.2.2⟩
    .have hne:=Ni.dP (s:=y.s) (by omega);obtain ⟨T,hT⟩:=av y.s
     have HF:Hid (dK xs=none):=hid (by rw [lm.out,if_neg (λe=>hys e.2)]);clear lm;rw [hT] at q1 hne hys;obtain ⟨wl,hwl⟩:=au (wr.alloc (.cells #[.bool false,.string T,.slice A N C] 130))
     have hbl:Below wr.heap.size wr wl:=by rw [hwl]; exact al1 _ _
     have hcl:wr.heap.size<wl.heap.size:=by rw [hwl]; simp
     have e0:wl.cell? ⟨wr.heap.size,0,none⟩=some (.bool false):=by rw [hwl,World.cell?_alloc_mark]; rfl
     have e1:wl.cell? ⟨wr.heap.size,1,none⟩=some (.string T):=by rw [hwl,World.cell?_alloc_mark]; rfl
     have cY:=hid (lp.out.below hbl);have cJ:=hid (HN.out.below hbl);have dl:=hid (bst HB.out hbl);clear hbl;go_wp2_with fail
     rw [<-hwl];clear hwl;obtain ⟨g,hg⟩:=av wr.heap.size
     have hge:w.heap.size+2<g:=by rw [<-hg]; exact lp.out.1
     rw [hg] at e0 e1 hcl ⊢;clear hg;have rq:=cJ.out.drew;have hw0:w.heap.size<wl.drew.heap.size:=cJ.out.1;refine aB (S:=λw'=>Rg.Own w' (w.heap.size+2) (iI ks) 54/\w'.cell? ⟨g,0,none⟩=some (.bool false)/\w'.cell? ⟨g,1,none⟩=some (.string T)/\Below w.heap.size w w') (⟨cY.out.drew,e0,e1,dl.out.drew⟩) λhld=>?_;refine ah 0 ?_ (hy:=by intro wz hSw; (refine nX hSw.1 hkl ?_; exact ⟨_,rfl,rfl⟩));try simp only [ak]
     refine ah 2 ?_;try simp only [ak]
     refine ah 3 ?_ (hy:=by intro wz hSw; (have q0:=hSw.2.1; go_simp <;> with_reducible rfl));try simp only [ak]
     refine ah 4 ?_;try simp only [ak]
     refine aj 1 λK hK=>?_;go_simp;go_at_call 75
     (with_reducible refine (jV ks hkl _).mono ?_)
     rintro e du ⟨a5,n5,c5,rfl,hx5,hl5,hbx⟩;have rr:=rq.below hbx;have hg0:g<wl.drew.heap.size:=World.block_lt_of_cell? _ _ hld.2.1;refine hK.out _ _ (⟨hld.1.below hbx,(Below.cell (p:=⟨g,0,none⟩) hbx hg0).trans hld.2.1,(Below.cell (p:=⟨g,1,none⟩) hbx hg0).trans hld.2.2.1,bst hld.2.2.2 hbx⟩) λhld=>?_;clear hK K hbx rq;try simp only [ak]
     refine ah 5 ?_;try simp only [ak]
     refine ah 6 ?_;try simp only [ak]
     refine ah 7 ?_ (hy:=by intro wz hSw; (have q0:=hSw.2.2.1; go_simp <;> with_reducible rfl));try simp only [ak]
     refine ah 8 ?_;try simp only [ak]
     refine ah 9 ?_;try simp only [ak]
     refine aj 10 λK hK=>?_;refine Rg.meetStore (by rfl) rr 56 (ndC ⟨3,[],eB,ks⟩ a5 n5 c5) ⟨_,_,rfl,rfl,rfl⟩ (kV _ _ _ _ hkl) (by rw [eP _ _ _ _ rfl,eP _ _ _ _ hkl]) (oP _ _ _ _) ?_;rintro wz hn hu;have hx6:BsF w.heap.size wz a5 n5 c5 []:=(hx5.upd hu (by omega)).weak (by omega);refine hK.out _ _ (⟨hld.1.upd hu (by omega),(World.cell?_of_block (hu.block g (by omega))).trans hld.2.1,(World.cell?_of_block (hu.block g (by omega))).trans hld.2.2.1,hu.below hld.2.2.2 aF⟩) λhld=>?_;clear hK K rr hx5;try simp only [Act.put]
     refine ah 11 ?_;try simp only [ak]
     refine aA ?_;go_wp2;exact bodyPost_ret (fB rfl _ rfl hn hkl) rfl ⟨⟨3,[],eB,ks⟩,a5,n5,c5,false,rfl,.inr ⟨rfl,HF.out⟩,hx6,hkl,hld.2.2.2⟩
theorem OV (xs:List It) (a:aJ) (n cap:Nat) (w:World) (h:jf w xs a n cap) (h2:xs.length≠2) (ij:xs.length≠17) :
  Calls prog 179 #[.slice a n cap] w (nR w (eT xs)):=by
 have hR:eT xs=none:=by unfold eT; rw [if_neg h2,if_neg ij]
 rw [hR];have hm:=h.max;have hnc:=h.le;have hl:=h.len;unfold maxLen at hm;have d2:decide ((n:Int)=2)=false:=by simp; omega
 have d17:decide ((n:Int)=17)=false:=by simp; omega
 have d2':((n:Int)==2)=false:=by simp; omega
 have Y3:((n:Int)==17)=false:=by simp; omega
 obtain ⟨w2,hw2⟩:=au (w.alloc (.cells (ndC nd0 none 0 0) 56))
 have hO:dJ w2 w.heap.size nd0 none 0 0:=by rw [hw2]; exact Rg.Own.new _ _ _
 have HB2:Hid (Below w.heap.size w w2):=hid (by rw [hw2]; exact al1 _ _);have HO:=hid hO;clear h hO hR h2 ij hl;subst hw2;go_enter func179,ntmps179;go_wp2_with (first
  | (refine ay (aY _ _ _ w.heap.size rfl rfl) ?_)
  | (refine ay (bK qN ?_) ?_; · exact ⟨_,rfl,rfl⟩)
  | (refine bD HO.out rfl nd0 none 0 0 rfl rfl _ _ rfl rfl rfl rfl ?_))
 exact bodyPost_ret (fB rfl _ rfl (dz HO.out) rfl) rfl ⟨nd0,none,0,0,false,rfl,.inr ⟨rfl,rfl⟩,BsF.nil _ _,rfl,bS HB2.out aF _⟩
theorem RJ (xs:List It) (a:aJ) (n cap:Nat) (w:World) (h:jf w xs a n cap) (hG:∀ x∈xs,Good x) :
  Calls prog 179 #[.slice a n cap] w (nR w (eT xs)):=by
 by_cases h2:xs.length=2
 .have hP:∀ w,jf w xs a n cap->Calls prog 193 #[.slice a n cap] w (nR w (eT xs)):=λw h=>by
   by_cases hbad:(xs.getD 0 it0).s.size=0\/Bad (xs.getD 0 it0).s
   .exact EM xs a n cap w h h2 hG hbad
   .exact Gb xs a n cap w h h2 hG hbad
  have hl:=h.len;obtain rfl:n=2:=by omega
  obtain ⟨w2,hw2⟩:=au (w.alloc (.cells (ndC nd0 none 0 0) 56))
  have hO:dJ w2 w.heap.size nd0 none 0 0:=by rw [hw2]; exact Rg.Own.new _ _ _
  have hB2:Below w.heap.size w w2:=by rw [hw2]; exact al1 _ _
  have HB2:=hid hB2;have HP:=hid (hP w2 (h.stays hB2));have HO:=hid hO;obtain ⟨R,hR⟩:=av (eT xs)
  rw [hR] at HP ⊢;clear h hO hB2 hP hR hG hl h2;subst hw2;go_enter func179,ntmps179;go_wp2_with (refine ay (aY _ _ _ w.heap.size rfl rfl) ?_)
  refine HP.out.mono ?_;rintro e w3 ⟨N,a3,n3,c3,b3,rfl,hr3,hx3,hl3,hb3⟩;have am:=hid (HO.out.below hb3);have HB3:=hid (bst HB2.out hb3);have cF:=hid hx3;have ob:=hid hl3;have HR3:=hid hr3;clear hb3 hx3 hl3 hr3 HP;go_wp2_with (refine bD am.out rfl N a3 n3 c3 ob.out rfl _ _ rfl rfl rfl rfl ?_)
  exact bodyPost_ret (fB rfl _ rfl (dz am.out) ob.out) rfl ⟨N,a3,n3,c3,b3,rfl,HR3.out,(cF.out.row (by simp) _).weak (by simp),ob.out,bS HB3.out aF _⟩
 .by_cases ij:xs.length=17
  .have hP:∀ w,jf w xs a n cap->Calls prog 194 #[.slice a n cap] w (nR w (eT xs)):=λw h=>Ag xs a n cap w h ij hG;have hl:=h.len;obtain rfl:n=17:=by omega
   obtain ⟨w2,hw2⟩:=au (w.alloc (.cells (ndC nd0 none 0 0) 56))
   have hO:dJ w2 w.heap.size nd0 none 0 0:=by rw [hw2]; exact Rg.Own.new _ _ _
   have hB2:Below w.heap.size w w2:=by rw [hw2]; exact al1 _ _
   have HB2:=hid hB2;have HP:=hid (hP w2 (h.stays hB2));have HO:=hid hO;obtain ⟨R,hR⟩:=av (eT xs)
   rw [hR] at HP ⊢;clear h hO hB2 hP hR hG hl h2 ij;subst hw2;go_enter func179,ntmps179;go_wp2_with (refine ay (aY _ _ _ w.heap.size rfl rfl) ?_)
   refine HP.out.mono ?_;rintro e w3 ⟨N,a3,n3,c3,b3,rfl,hr3,hx3,hl3,hb3⟩;have am:=hid (HO.out.below hb3);have HB3:=hid (bst HB2.out hb3);have cF:=hid hx3;have ob:=hid hl3;have HR3:=hid hr3;clear hb3 hx3 hl3 hr3 HP;go_wp2_with (refine bD am.out rfl N a3 n3 c3 ob.out rfl _ _ rfl rfl rfl rfl ?_)
   exact bodyPost_ret (fB rfl _ rfl (dz am.out) ob.out) rfl ⟨N,a3,n3,c3,b3,rfl,HR3.out,(cF.out.row (by simp) _).weak (by simp),ob.out,bS HB3.out aF _⟩
  .exact OV xs a n cap w h h2 ij
end No
end
end Go.Proofs.YtlcplcgigjagpaaGreatDoor
