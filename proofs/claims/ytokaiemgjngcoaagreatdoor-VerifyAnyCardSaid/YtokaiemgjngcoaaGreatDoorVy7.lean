/-
 Contracts of the plain answers' Of and Sum.
-/
import Derived.Test.YtokaiemgjngcoaaGreatDoorVy6
import Derived.Test.YtokaiemgjngcoaaGreatDoorVy5
import Derived.WideKeyArr2
open Go.Lib (hid)
open Go.Proofs.Tryz
set_option linter.unusedSimpArgs false
set_option linter.unusedVariables false
set_option maxHeartbeats 40000000
set_option maxRecDepth 100000
namespace Go.Proofs.YtokaiemgjngcoaaGreatDoor
variable {c i n:Nat} {ev:Operand->Value} {o:Oper} {w:World} {a:aL} {ops:Array Oper} {act:Act} {Q:Exit->Act->World->Prop} {t:aN}
section
open Go.RowKit
namespace Sh
theorem vO.new (w:World) (l:List Nat) (hl:l.length=8) (t:TypeId):vO (w.alloc (.cells (wc l) t)) (some ⟨w.heap.size,0,none⟩) 8 8 l :=
 ⟨by omega,by unfold maxLen; omega,hl,λe=>(by cases e),λj hj=>⟨w.heap.size,0,rfl,by simp,by rw [Nat.zero_add]; exact Lj w l t j (by omega)⟩⟩
theorem Jz (t:aM) (k q:Nat) (hq:q<64):lu (t.extract (64*k) (64*k+64)) q=oQ t.data.toList k q:=by
 unfold lu oQ;have e:(t.extract (64*k) (64*k+64)).data.toList=(t.data.toList.drop (64*k)).take 64:=by
  simp only [ByteArray.data_extract,Array.toList_extract,List.extract_eq_take_drop];rw [show 64*k+64-64*k=64 by omega]
 rw [e,List.getD,List.getD,List.getElem?_take_of_lt hq,List.getElem?_drop]
theorem of_block (t:aM) (k:Nat) (h:List Nat):kY (lu (t.extract (64*k) (64*k+64))) h=kY (oQ t.data.toList k) h :=
 qB (λq hq=>Jz t k q hq) h
theorem LM (l:aN) (hl:l.length<=900000) (w:World) :
  Calls prog 40 #[.string ⟨l.toArray⟩] w λe w'=>e = .returned (.string ⟨(ze l).toArray⟩)/\Below w.heap.size w w':=by
 have hlen:=uV l;have hmod:=Cj l;have hz:iy l.length<64:=Nat.mod_lt _ (by omega);have HW0:=hid (vO.new w Sh.start rfl 121);have km:=hid (QV l (by omega));obtain ⟨t,ht⟩:=aA (⟨(iP l).toArray⟩:aM)
 have htd:t.data.toList=iP l:=by rw [<-ht]
 have hts:t.size=(iP l).length:=by rw [<-ht,dM]
 rw [ht] at km;have HS:=sec (show tX (nS (iP l) ((iP l).length/64)) 32=ze l from rfl);rw [<-htd] at HS;rw [show t.data.toList.length=t.size by simp] at HS;have hb:t.size<=900100:=by omega
 rw [<-hts] at hmod;have HT:=sec htd;have HL:=hid (λk=>uX t.data.toList k);have xf:=hid (λk=>Gw t.data.toList k);clear ht htd hts hlen hz hl;obtain ⟨s,hs⟩:=aA (⟨l.toArray⟩:aM)
 rw [hs] at km ⊢;clear hs;go_enter func40,ntmps40;go_wp2_with (first | (refine eH (o:=⟨some 10,_,_,_,_,_⟩) rfl (.slice (some ⟨w.heap.size,0,none⟩) 8 8) (w.alloc (.cells (wc Sh.start) 121)) (by kernel_rfl) ?_))
 refine (km.out _).mono ?_;rintro e w1 ⟨rfl,hb1⟩;have HW1:=hid (HW0.out.below hb1);have HB1:=hid (((Below.refl w.heap.size w).alloc aH (.cells (wc Sh.start) 121)).trans (hb1.mono (by simp)));clear hb1 km HW0;go_wp2;go_loopw [3,5] (λv i wr=>∃ (k:Nat) (a:aL) (cap:Nat),64*k<=t.size/\i = .int .i64 (64*k:Nat)/\v = .slice a 8 cap/\Hid (vO wr a 8 cap (nS t.data.toList k))/\Hid (Below w.heap.size w wr)) (λ_ i _=>t.size-(intOf i).toNat)
 case atStart=>exact ⟨0,_,_,by omega,rfl,rfl,HW1,HB1⟩
 case round =>
  clear HW1 HB1;obtain ⟨k,a,cap,hk,rfl,rfl,HW,HB⟩:=hrel;by_cases hlt:64*k<t.size
  .have me:64*k+64<=t.size:=by omega
   have hBl:=NW a cap (nS t.data.toList k) (t.extract (64*k) (64*k+64)) (by simp; omega) wr HW.out (xf.out k);rw [of_block t k] at hBl;have iu:=hid hBl;obtain ⟨p,hp⟩:=aA (64*k)
   have iu:Hid (Calls prog 71 #[.slice a 8 cap,.string (t.extract p (p+64))] wr (VX wr (kY (oQ t.data.toList k) (nS t.data.toList k)))):=hid (by rw [<-hp]; exact iu.out);rw [hp] at me hlt hk ⊢;have HP:=hid hp;clear hBl hp;go_wp2_with fail
   refine iu.out.mono ?_;rintro e w2 ⟨a2,cap2,rfl,hw2,hb2⟩;have HW2:=hid hw2;have HB2:=hid (HB.out.trans (hb2.mono HB.out.size));clear hw2 hb2 iu;go_wp2;go_roundw
   case rel=>exact ⟨k+1,a2,cap2,by have:=HP.out; omega,by have:=HP.out; go_num,rfl,HW2,HB2⟩
   case measure=>have:=HP.out; simp [intOf]; omega
  .have hke:k=t.size/64:=by omega
   have Wr:Sec (tX (nS t.data.toList k) 32=ze l):=sec (by rw [hke]; exact HS.out);have hbd:=xf.out k;obtain ⟨M,hM⟩:=aA (nS t.data.toList k)
   rw [hM] at HW Wr hbd;have yr:=hid (λj=>getD_lt hbd j);clear hbd hM hke HS HL xf HT;obtain ⟨b,off,rfl,hlb,hx0⟩:=HW.out.2.2.2.2 0 (by omega);have HC:Hid (∀ j,j<8->wr.cell? ⟨b,off+j,none⟩=some (.int .u64 (M.getD j 0:Nat))):=hid (λj hj=>by
    obtain ⟨b',off',e,_,hc⟩:=HW.out.2.2.2.2 j hj;cases e;exact hc)
   obtain ⟨wo,rfl⟩:∃ wo:World,wo=wr:=⟨_,rfl⟩
   have Q6:Hid (b<wo.heap.size):=hid hlb;clear hx0 hlb;go_wp2;clear hlt hk hmod hb;go_loopw [6,7,8,9] (λo i _ _ wx=>∃ q:Nat,q<=32/\i = .int .i64 q/\o = .string ⟨(tX M q).toArray⟩/\Hid (Below wo.heap.size wo wx)) (λ_ i _ _ _=>32-(intOf i).toNat)
   case atStart=>exact ⟨0,by omega,rfl,rfl,hid aI⟩
   case round =>
    obtain ⟨q,hq,rfl,rfl,mz⟩:=hrel;by_cases hlt:q<32
    .have hq4:q/4<8:=by omega
     have hc:=(mz.out.cell (p:=⟨b,off+q/4,none⟩) Q6.out).trans (HC.out (q/4) hq4);have hxb:=yr.out (q/4);have Zc:=sec (Pf M q);have sX:=sec (show sW M q=M.getD (q/4) 0/256 ^ (3-q%4)%256 from rfl);obtain ⟨x,hx⟩:=aA (M.getD (q/4) 0)
     rw [hx] at hc hxb sX;clear hx;obtain ⟨r,hr⟩:=aA (q%4)
     have hr4:r<4:=by omega
     have hqr:(q:Int)%4=r:=by omega
     rw [hr] at sX;clear hr;have hbs:=mz.out.size;have hol:(⟨(tX M q).toArray⟩:aM).size<=32:=by rw [dM,yc]; exact hq
     have xy:Hid ((⟨(tX M q).toArray⟩:aM)++⟨#[UInt8.ofNat (sW M q)]⟩=⟨(tX M (q+1)).toArray⟩):=hid (by rw [Zc.out]; exact Bh _ [_]);obtain ⟨O,hO⟩:=aA (⟨(tX M q).toArray⟩:aM)
     rw [hO] at hol xy ⊢;clear hO;have Zd:=hid hqr;go_wp2;clear hqr hc;go_loop [8,9] (λv kk=>∃ d:Nat,r+d<=3/\kk = .int .i64 (r+d:Nat)/\v = .int .u64 (x/256 ^ d:Nat)) (λ_ kk=>3-(intOf kk).toNat)
     case atStart=>exact ⟨0,by omega,by rw [Zd.out]; rfl,by simp⟩
     case round =>
      obtain ⟨d,hd,rfl,rfl⟩:=hrel;have hD:Hid (x/256 ^ (d+1)=x/256 ^ d/256):=hid (by rw [Nat.pow_succ,Nat.div_div_eq_div_mul]);have hyb:x/256 ^ d<4294967296:=Nat.lt_of_le_of_lt (Nat.div_le_self _ _) hxb;obtain ⟨p,hp⟩:=aA (r+d)
      rw [hp] at hd ⊢;have HP:=hid hp;by_cases hl3:p<3
      .obtain ⟨y,hy⟩:=aA (x/256 ^ d)
       rw [hy] at hD hyb ⊢;clear hy hp;go_wp2;go_round
       case rel=>exact ⟨d+1,by have:=HP.out; omega,by have:=HP.out; go_num,by rw [hD.out]; go_num⟩
       case measure=>simp [intOf]; omega
      .have hd3:3-r=d:=by omega
       rw [hd3] at sX;obtain ⟨y,hy⟩:=aA (x/256 ^ d)
       rw [hy] at hyb sX ⊢;clear hy hp hd3 hD;have hcv:=jA ((y:Int)%256) (y%256) (by omega) (by omega) wr;rw [<-sX.out] at hcv;obtain ⟨C,hC⟩:=aA (⟨#[UInt8.ofNat (sW M q)]⟩:aM)
       have hCs:C.size<=1:=by rw [<-hC]; exact aH
       rw [hC] at hcv xy;clear hC;go_wp2;go_roundw
       case rel=>exact ⟨q+1,by omega,by go_num,by rw [xy.out],hid (mz.out.alloc hbs _)⟩
       case measure=>simp [intOf]; omega
    .obtain rfl:q=32:=by omega
     have hB2:=HB.out.trans (mz.out.mono HB.out.size);clear mz;go_wp2;go_ret;exact ⟨by rw [<-Wr.out]; rfl,hB2⟩
end Sh
end
section
open Go.RowKit
namespace Sm
open Sh
theorem Dl:prog.eqGuardType prog.depth 23=false:=by kernel_rfl
theorem cu (ev:Operand->Value) (o:Oper) (w:World) (g:Nat) (l:aN) (hl:l.length=32) (h:∃ x,o.op = .load 23 x/\ev x = .pointer (some ⟨g,0,none⟩)) (hg:Rg.Own w g (kc l) 23) :
  (execOp ev o).run prog w = .ok (.value (.agg (kc l))) w:=by
 obtain ⟨x,ho,hx⟩:=h;have hr:=run_loadVar_row (P:=prog) w g 23 23 (kc l) (0,0) _ hg.2 underlying23 rfl (gq l hl);unfold execOp;simp only [ho,hx,Instr.loadAt,Instr.sureAddr,Sem.run_bind,Sem.run_pure,Result.andThen_ok,hr]
theorem RA (l:aN) (hl:l.length<=900000) (w:World) :
  Calls prog 46 #[.string ⟨l.toArray⟩] w λe w'=>e = .returned (.agg (kc (ze l)))/\Below w.heap.size w w':=by
 have cT:=hid (LM l hl (w.alloc (.cells (kc zk) 23)));obtain ⟨s,hs⟩:=aA (⟨l.toArray⟩:aM)
 have mB:=oH l;obtain ⟨k,hk⟩:=aA (ze l)
 rw [hs,hk] at cT;rw [hs,hk];rw [hk] at mB;clear hs hk hl;have hts:(⟨k.toArray⟩:aM).size=32:=by rw [dM]; exact mB
 have HQ:=hid (wU ⟨k.toArray⟩);have ic:Hid (∀ j,lu ⟨k.toArray⟩ j=(k.getD j 0).toNat):=hid (λj=>by unfold lu; simp);have bj:=hid mB;obtain ⟨t,ht⟩:=aA (⟨k.toArray⟩:aM)
 rw [ht] at cT hts HQ ic;clear ht mB;go_enter func46,ntmps46;go_wp2_with (refine eH (o:=⟨some 2,_,_,_,_,_⟩) rfl _ _ (fH _ _ rfl _ w.heap.size rfl) ?_)
 refine cT.out.mono ?_;rintro e w1 ⟨rfl,hb1⟩;have HB1:=hid (((Below.refl w.heap.size w).alloc aH (.cells (kc zk) 23)).trans (hb1.mono (by simp)));have dl:=hid ((Rg.Own.new w (kc zk) 23).below hb1);clear hb1 cT;obtain ⟨m,hm⟩:=aA w1.heap.size
 have hlm:w.heap.size<m:=by rw [<-hm]; exact dl.out.1
 have el:Hid (Rg.Own (w1.alloc (.cells (kc zk) 23)) w.heap.size (kc zk) 23):=hid (dl.out.below (aI.alloc aH _));have HB2:Hid (Below w.heap.size w (w1.alloc (.cells (kc zk) 23))):=hid (HB1.out.alloc (by omega) _);have io:Hid ((w1.alloc (.cells (kc zk) 23)).rowIs m 23 32 (λj=>.int .u8 (if j<0 then (k.getD j 0).toNat else 0:Nat))):=hid ((TA (by rw [<-hm]; exact heap_alloc_new _ _)).congr (λj _=>by rw [if_neg (by omega)]; rfl))
 go_wp2_with (refine eH (o:=⟨some 4,_,_,_,_,_⟩) rfl _ _ (fH _ _ rfl _ m hm) ?_)
 go_loopw [5] (λi wr=>∃ q:Nat,q<=32/\i = .int .i64 q/\Hid (wr.rowIs m 23 32 (λj=>.int .u8 (if j<q then (k.getD j 0).toNat else 0:Nat)))/\Hid (Rg.Own wr w.heap.size (kc zk) 23)/\Hid (Below w.heap.size w wr)) (λi _=>32-(intOf i).toNat)
 case atStart=>exact ⟨0,by omega,rfl,io,el,HB2⟩
 case round =>
  clear io el HB2 HB1 dl hm;obtain ⟨q,hq,rfl,HR,HO,HB⟩:=hrel;by_cases hlt:q<32
  .have q0:=HQ.out q (by omega);rw [ic.out] at q0;have hc:=HR.out.cell (i:=q) hlt;have hf:=HR.out.frozen q;have HS:=hid ((HR.out.set q (.int .u8 ((k.getD q 0).toNat:Nat))).congr (g:=λj=>.int .u8 (if j<q+1 then (k.getD j 0).toNat else 0:Nat)) (λj _=>by
    by_cases e:j=q
    .subst e; simp
    .have:j<q+1↔j<q:=by omega
     simp [e,this]))
   have Q0:=sec q0;clear q0;go_wp2;go_roundw
   case rel=>exact ⟨q+1,by omega,by go_num,by rw [Q0.out]; exact HS,hid ⟨by simpa using HO.out.1,(heap_setCell_other _ _ _ _ (by simp; omega)).trans HO.out.2⟩,hid (HB.out.setCell (p:=⟨m,q,none⟩) (by simp; omega) _)⟩
   case measure=>simp [intOf]; omega
  .obtain rfl:q=32:=by omega
   have HF:Hid (wr.heap[m]? = some (.cells (kc k) 23 (0,0))):=hid (PL _ HR.out bj.out (λj hj=>by rw [if_pos hj]));clear HR;go_wp2_with (first | (refine wpList_load_row rfl _ _ rfl m rfl 23 (kc k) (0,0) _ HF.out underlying23 rfl (gq k bj.out) ?_) | (refine wpList_store_rowTo rfl 23 _ _ rfl rfl _ (kc k) rfl rfl 23 (kc zk) HO.out.2 (gq k bj.out) (by rw [gy,gy,bj.out]; rfl) (tO _) ?_))
   exact bodyPost_ret (results_cell_row rfl _ _ w.heap.size 23 (kc k) (0,0) _ rfl (setRow_heap _ _ _ _ _ _ HO.out.2) underlying23 rfl (gq k bj.out)) rfl ⟨rfl,bI HB.out aH _⟩
end Sm
end
section
open Go.RowKit Go.WideMaps
namespace Rf
open Sh Sm Ni
def mK (s:aM):aN:=ze s.data.toList
theorem mQ (s:aM):(mK s).length=32:=oH _
end Rf
end
section
open Go.RowKit
namespace Sm
open Sh
end Sm
end
section
open Go.RowKit
namespace No
open Rl Ni
theorem Dp (x:It):∀ {d e:Nat},Fits d x->e<=d->Fits e x:=by
 induction x using It.ind with
 | h l s xs ih =>
  intro d e h he;cases h with
  | mk ha hs hx hy=>exact .mk (by omega) hs hx (λy hm=>ih y hm (hy y hm) (by omega))
theorem Dm (a:aL) (n cap:Nat) (w:World) :
  Calls prog 159 #[.slice a n cap] w λe w'=>e = .returned (.func (Fn.func 177) #[] #[.pointer (some ⟨w.heap.size,0,none⟩)])/\w'=w.alloc (.cells #[.slice a n cap] 94):=by
 go_enter func159,ntmps159;go_wp2;go_ret;exact ⟨rfl,rfl⟩
theorem Vm (s:aM) (w:World):Calls prog 143 #[.string s] w λe w'=>e = .returned (.bool (dH s))/\w'=w.drewN 0:=by
 refine (wM s w).mono ?_;rintro e w' ⟨rfl,rfl⟩;exact ⟨rfl,rfl⟩
def UC (w:World) (x:It) (e:Ending) (w':World):Prop:=∃ (s:aM) (b:Bool),e = .returned (.tuple #[.string s,.bool b])/\(b=true/\jL x=some s\/b=false/\jL x=none)/\Below w.heap.size w w'
theorem zQ (c i:Nat) (xs:List It) (a:aL) (n cap:Nat) (x:It) (w:World) (hc:w.cell? ⟨c,0,none⟩=some (.slice a n cap)) (h:gZ w xs a n cap) (hx:xs[i]? = some x) (hF:Fits 0 x) (hk:x.size<=4096) (hb:x.bytes.length<=4294967296) :
  Calls prog 177 #[.int .i64 i,.pointer (some ⟨c,0,none⟩)] w (UC w x):=by
 have hm:=h.max;have hnc:=h.le;unfold maxLen at hm;have hi:i<n:=by rw [<-h.len]; exact (List.getElem?_eq_some_iff.1 hx).1
 obtain ⟨y,b,off,A,N,C,hy,rfl,hblt,hL,hI⟩:=h.at' i hi;obtain rfl:=Option.some.inj (hx.symm.trans hy);have tp:=World.block_lt_of_cell? w _ hc;obtain ⟨e0,e1,e2⟩:=hL;have hO:Rg.Own (w.alloc (.cells #[.bool x.l,.string x.s,.slice A N C] 96)) w.heap.size (itC x A N C) 96:=Rg.Own.new _ _ _;have HB:Hid (Below w.heap.size w (w.alloc (.cells #[.bool x.l,.string x.s,.slice A N C] 96))):=hid (al1 _ _);cases hl:x.l with
 | false =>
  have HK:Hid (jL x=if dH x.s then some x.s else none):=hid (by unfold jL; rw [hl]; rfl);have HP:=hid (λw=>Vm x.s w);rw [hl] at e0 hO HB;obtain ⟨f0,f1,f2⟩:=dB hO.2;rw [hl] at f0;clear h hI hx hy hF hk hb hO;go_enter func177,ntmps177;go_wp2;go_quiet ((go_at_call 143; exact Calls.quiet_of_same (HP.out _)))
  go_wp2;go_ret2
  refine ⟨x.s,dH x.s,rfl,?_,below_drewN HB.out _⟩;rw [HK.out];cases dH x.s
  .exact .inr ⟨rfl,rfl⟩
  .exact .inl ⟨rfl,rfl⟩
 | true =>
  have HK:Hid (jL x=if x.bytes.length<32 then some ⟨x.bytes.toArray⟩ else none):=hid (by unfold jL; rw [hl]; rfl);have i9:=hid (λw1 (hb1:Below w.heap.size w w1)=>yH x w1 (itV x A N C) ⟨A,N,C,rfl,hI.stays hb1⟩ hF hk (by omega));have HS:Hid ((⟨x.bytes.toArray⟩:aM).size=x.bytes.length):=hid (dM _);have iu:=hid hb;unfold itV at i9;rw [hl] at e0 hO HB i9;obtain ⟨f0,f1,f2⟩:=dB hO.2;rw [hl] at f0;have g0:=(HB.out.cell (p:=⟨b,off+i*3,none⟩) hblt).trans e0;have g1:=(HB.out.cell (p:=⟨b,off+i*3+1,none⟩) hblt).trans e1
  have g2:=(HB.out.cell (p:=⟨b,off+i*3+2,none⟩) hblt).trans e2;have gc:=(HB.out.cell (p:=⟨c,0,none⟩) tp).trans hc;obtain ⟨X,hX⟩:=aA (⟨x.bytes.toArray⟩:aM)
  have hxs:X.size=x.bytes.length:=by rw [<-hX]; exact HS.out
  rw [hX] at i9 HK;have hxb:X.size<=4294967296:=by omega
  rw [<-hxs] at HK;clear h hI hx hy hF hk hb hO HS iu hxs hX;go_enter func177,ntmps177;go_wp2_with fail
  refine (i9.out _ HB.out).mono ?_;rintro e w1 ⟨rfl,hb1⟩;have HB1:=hid (bst HB.out hb1);clear hb1 i9 e0 e1 e2 f0 f1 f2 g0 g1 g2 gc hc;by_cases h32:X.size<32
  .have hd:decide ((X.size:Int)<32)=true:=by simp; omega
   go_wp2;go_ret2
   exact ⟨X,true,rfl,.inl ⟨rfl,by rw [HK.out,if_pos h32]⟩,HB1.out⟩
  .have hd:decide ((X.size:Int)<32)=false:=by simp; omega
   go_wp2;go_ret2
   exact ⟨X,false,rfl,.inr ⟨rfl,by rw [HK.out,if_neg h32]⟩,HB1.out⟩
def gF (w:World) (r:Option Nd) (e:Ending) (w':World):Prop:=∃ (N:Nd) (a:aL) (n c:Nat) (b:Bool),e = .returned (.tuple #[.agg (ndC N a n c),.bool b])/\(b=true/\r=some N\/b=false/\r=none)/\
 BsF w.heap.size w' a n c N.p/\N.ks.length=16/\Below w.heap.size w w'
def Good (x:It):Prop:=Fits 0 x/\x.size<=4096/\x.bytes.length<=4294967296/\x.s.size<=1000000
theorem getD_at {xs:List It} (h:i<xs.length):xs[i]? = some (xs.getD i it0):=by simp [h]
theorem EA (xs:List It) (a:aL) (n cap:Nat) (w:World) (h:gZ w xs a n cap) (h2:xs.length=2) (hG:∀ x∈xs,Good x) (hbad:(xs.getD 0 it0).s.size=0\/Bad (xs.getD 0 it0).s) :
  Calls prog 122 #[.slice a n cap] w (gF w (dO xs)):=by
 have hR:dO xs=none:=by unfold dO fA; rw [if_pos h2,if_pos hbad]
 rw [hR];have hm:=h.max;have hnc:=h.le;have hl:=h.len;unfold maxLen at hm;obtain ⟨y,b,off,A,N,C,hy,rfl,hblt,hL,hI⟩:=h.at' 0 (by omega);have hyx:xs.getD 0 it0=y:=Option.some.inj ((getD_at (xs:=xs) (i:=0) (by omega)).symm.trans hy);obtain ⟨_,_,_,hs6⟩:=hG y (List.mem_of_getElem? hy);rw [hyx] at hbad;have hcall:Hid (∃ c:Int,c≠0/\∀ w:World,Calls prog 158 #[.string y.s] w λe w'=>e = .returned (.tuple #[.slice none 0 0,.bool false,.int .i64 c])/\Below w.heap.size w w'):=hid (by
  by_cases h0:y.s.size=0
  .refine ⟨5,by decide,λw=>?_⟩;rw [cZ h0];refine (Jr w).mono ?_;rintro e w' ⟨rfl,rfl⟩;exact ⟨rfl,aI⟩
  .refine ⟨6,by decide,λw=>?_⟩;exact Ja y.s (by omega) hs6 (hbad.resolve_left h0) w)
 obtain ⟨w2,hw2⟩:=ay (w.alloc (.cells (ndC nd0 none 0 0) 67))
 have hO:dL w2 w.heap.size nd0 none 0 0:=by rw [hw2]; exact Rg.Own.new _ _ _
 have hB2:Below w.heap.size w w2:=by rw [hw2]; exact al1 _ _
 obtain ⟨e0,e1,e2⟩:=hL.stays hB2 hblt;rw [Nat.zero_mul,Nat.add_zero] at e0 e1 e2;have HO:=hid hO;have HB2:=hid hB2;obtain ⟨c,hc,hcl⟩:=hcall.out;have hcb:(c != 0)=true:=by simp; exact hc
 have HC:=hid hcl;clear h hL hI hO hB2 hbad hR hG hcall hcl hc hyx hy;subst hw2;go_enter func122,ntmps122;go_wp2_with (refine aB (aY _ _ _ w.heap.size rfl rfl) ?_)
 refine (HC.out _).mono ?_;rintro e w3 ⟨rfl,hb3⟩;have ce:=hid (HO.out.below hb3);have HB3:=hid (bst HB2.out hb3);clear hb3;go_wp2_with (first
  | (refine aB (bC lY ?_) ?_; · exact ⟨_,rfl,rfl⟩)
  | (refine bA ce.out rfl nd0 none 0 0 rfl rfl _ _ rfl rfl rfl rfl ?_))
 exact bodyPost_ret (dU rfl _ rfl (dG ce.out) rfl) rfl ⟨nd0,none,0,0,false,rfl,.inr ⟨rfl,rfl⟩,BsF.nil _ _,rfl,bX HB3.out aH _⟩
theorem Gv (xs:List It) (a:aL) (n cap:Nat) (w:World) (h:gZ w xs a n cap) (h2:xs.length=2) (hG:∀ x∈xs,Good x) (hbad:¬ ((xs.getD 0 it0).s.size=0\/Bad (xs.getD 0 it0).s)) :
  Calls prog 122 #[.slice a n cap] w (gF w (dO xs)):=by
 have hR:dO xs=if iC (xs.getD 0 it0).s then some ⟨1,bW (xs.getD 0 it0).s,(xs.getD 1 it0).s,zks⟩ else (jL (xs.getD 1 it0)).map λk=>⟨2,bW (xs.getD 0 it0).s,eB,dR k⟩:=by unfold dO fA; rw [if_pos h2,if_neg hbad]
 rw [hR];have hm:=h.max;have hnc:=h.le;have hl:=h.len;unfold maxLen at hm;have hn2:n=2:=by omega
 obtain ⟨y,b,off,A,N,C,hy,rfl,hblt,hL,hI⟩:=h.at' 0 (by omega);obtain ⟨z,b',off',A2,N2,C2,hz,e,fh,hL2,hI2⟩:=h.at' 1 (by omega);obtain ⟨rfl,rfl,_⟩:b=b'/\off=off'/\True:=by cases e; exact ⟨rfl,rfl,trivial⟩
 have hyx:xs.getD 0 it0=y:=Option.some.inj ((getD_at (xs:=xs) (i:=0) (by omega)).symm.trans hy);have hzx:xs.getD 1 it0=z:=Option.some.inj ((getD_at (xs:=xs) (i:=1) (by omega)).symm.trans hz);obtain ⟨hf1,hf2,hf3,_⟩:=hG z (List.mem_of_getElem? hz);rw [hyx] at hbad ⊢;rw [hzx];have h0:0<y.s.size:=by omega
 have hB0:¬ Bad y.s:=λe=>hbad (.inr e);have Q8:=EL y.s hB0;have HC:=hid (λw=>Oq y.s h0 hB0 w);obtain ⟨w2,hw2⟩:=ay (w.alloc (.cells (ndC nd0 none 0 0) 67))
 have hO:dL w2 w.heap.size nd0 none 0 0:=by rw [hw2]; exact Rg.Own.new _ _ _
 have hB2:Below w.heap.size w w2:=by rw [hw2]; exact al1 _ _
 obtain ⟨e0,e1,e2⟩:=hL.stays hB2 hblt;rw [Nat.zero_mul,Nat.add_zero] at e0 e1 e2;have HO:=hid hO;have HB2:=hid hB2;have HI:=hid h;have HL2:=hid hL2;have HZ:=hid hz;obtain ⟨P,hP⟩:=aA (bW y.s)
 obtain ⟨lf,hlf⟩:=aA (iC y.s)
 unfold Unp at HC;rw [hP,hlf] at HC;rw [hP] at Q8;rw [hP,hlf];clear h hL hI hO hB2 hbad hR hG hyx hy hzx hz hL2 hI2 hB0 hP hlf e;subst hw2;subst hn2;cases lf with
 | true =>
  go_enter func122,ntmps122;go_wp2_with (refine aB (aY _ _ _ w.heap.size rfl rfl) ?_)
  refine (HC.out _).mono ?_;rintro e w3 ⟨a3,n3,c3,rfl,hx3,hb3⟩;have ce:=hid (HO.out.below hb3);have hB3:=bst HB2.out hb3;have HB3:=hid hB3;obtain ⟨f0,f1,f2⟩:=HL2.out.stays hB3 fh;rw [Nat.one_mul] at f0 f1 f2;have eq:n3<=1000000:=by rw [<-hx3.len]; omega
  have gw:=hid (nV a3 n3 c3 P eq z.s w3 hx3);have hz3:=ce.out.1;clear hb3 hB3 hx3 HC e0 e1 e2;go_wp2_with fail
  refine gw.out.mono ?_;rintro e w4 ⟨a4,n4,c4,rfl,hx4,hl4,hb4⟩;have cS:=hid (ce.out.below hb4);have co:=hid (bst HB3.out hb4);have pl:=hid hx4;clear hb4 hx4 gw;go_wp2_with (refine bA cS.out rfl ⟨1,P,z.s,zks⟩ a4 n4 c4 rfl rfl _ _ rfl rfl rfl rfl ?_)
  exact bodyPost_ret (dU rfl _ rfl (dG cS.out) rfl) rfl ⟨⟨1,P,z.s,zks⟩,a4,n4,c4,true,rfl,.inl ⟨rfl,rfl⟩,(pl.out.row hz3 _).weak (by omega),rfl,bX co.out aH _⟩
 | false =>
  go_enter func122,ntmps122;go_wp2_with (refine aB (aY _ _ _ w.heap.size rfl rfl) ?_)
  refine (HC.out _).mono ?_;rintro e w3 ⟨a3,n3,c3,rfl,hx3,hb3⟩;have ce:=hid (HO.out.below hb3);have HB3:=hid (bst HB2.out hb3);have eq:n3<=1000000:=by rw [<-hx3.len]; omega
  have hz3:=ce.out.1;have pH:=hid hx3;clear hb3 hx3 HC e0 e1 e2;go_wp2_with fail
  refine (Dm _ _ _ _).mono ?_;rintro e w4 ⟨rfl,hw4⟩;have hb4:Below w3.heap.size w3 w4:=by rw [hw4]; exact al1 _ _
  have hc4:w4.cell? ⟨w3.heap.size,0,none⟩=some (.slice (some ⟨b,off,none⟩) 2 cap):=by rw [hw4,World.cell?_alloc_mark]; rfl
  have HK:=hid (zQ w3.heap.size 1 xs (some ⟨b,off,none⟩) 2 cap z w4 hc4 (HI.out.stays (bst HB3.out hb4)) HZ.out hf1 hf2 hf3);have cS:=hid (ce.out.below hb4);have co:=hid (bst HB3.out hb4);have pl:=hid (pH.out.below hb4);have tR:=hb4.size;clear hw4 hb4 hc4;go_wp2_with fail
  refine HK.out.mono ?_;rintro e w5 ⟨s5,b5,rfl,hk5,hb5⟩;have cf:=hid (cS.out.below hb5);have al:=hid (bst co.out hb5);have HE:=hid (LU a3 n3 c3 P eq s5 w5 (pl.out.below hb5));have Q9:=hid hk5;have G8:=hb5.size;clear hb5 hk5 HK;go_wp2_with fail
  refine HE.out.mono ?_;rintro e w6 ⟨a6,n6,c6,rfl,hx6,s7,hb6⟩;have cG:=hid (cf.out.below hb6);have bd:=hid (bst al.out hb6);have ms:=hid hx6;clear hb6 hx6 HE;go_wp2_with (refine bA cG.out rfl ⟨2,P,eB,dR s5⟩ a6 n6 c6 (gB s5) rfl _ _ rfl rfl rfl rfl ?_)
  refine bodyPost_ret (dU rfl _ rfl (dG cG.out) (gB s5)) rfl ⟨⟨2,P,eB,dR s5⟩,a6,n6,c6,b5,rfl,?_,(ms.out.row (by omega) _).weak (by omega),gB s5,bX bd.out aH _⟩;rcases Q9.out with ⟨h1,h2⟩ | ⟨h1,h2⟩
  .exact .inl ⟨h1,by rw [h2]; rfl⟩
  .exact .inr ⟨h1,by rw [h2]; rfl⟩
end No
end
section
open Go.RowKit
namespace Rl
theorem bY {b:Nat} {x:It} (h:Rg.Own w b (itC x a n c) 96) (ho:∃ y,o.op = .load 96 y/\ev y = .pointer (some ⟨b,0,none⟩)) :
  (execOp ev o).run prog w = .ok (.value (.agg (itC x a n c))) w:=by
 obtain ⟨y,ho,hx⟩:=ho;have:=jQ (dB h.2);unfold execOp;simp only [ho,hx,Instr.loadAt,Instr.sureAddr,Sem.run_bind,Sem.run_pure,Result.andThen_ok,this];rfl
theorem aZ {rest:List Oper} {b:Nat} {x:It} (h:Rg.Own w b (itC x a n c) 96) (y:It) (a':aL) (n' c':Nat)
  (hgd:o.guard=none) (p q:Operand) (ho:o.op = .store 96 p q) (hx:act.eval p = .pointer (some ⟨b,0,none⟩)) (hy:act.eval q = .agg (itC y a' n' c')) (hd:o.dst=none)
  (hQ:wpList prog ops Q rest act (w.setRow b (itC y a' n' c'))):wpList prog ops Q (o::rest) act w :=
 wpList_store_rowTo hgd 96 p q ho hd b _ hx hy 96 _ h.2 (gV _ _ _ _) rfl (jl _ _ _ _) hQ
theorem dY {fn:Func} {p u z y:Tmp} (hf:fn.results = #[.cell p 96,.tmp u,.tmp z,.tmp y]) (tmps:aO) {b:Nat} {x:It} {A:aL} {N C:Nat} (hp:tmps.getD p undef = .pointer (some ⟨b,0,none⟩)) (h:Rg.Own w b (itC x A N C) 96) :
  (results fn tmps).run prog w = .ok (.tuple #[itV x A N C,tmps.getD u undef,tmps.getD z undef,tmps.getD y undef]) w:=by
 have hp':tmps[p]?.getD undef = .pointer (some ⟨b,0,none⟩):=by simpa using hp
 simp [results,hf,hp',asAddr,jQ (dB h.2)]
theorem dX {b:Nat} {cs cs':aO} {T:TypeId} (h:Rg.Own w b cs T):Rg.Own (w.setRow b cs') b cs' T:=iW h
theorem jP (c:UInt8) (t:aN) (hc:128<=c.toNat):gJ (c::t) =
  if c.toNat%64<=55 then .ok (decide (192<=c.toNat),1,c.toNat%64) else if t.length<c.toNat%64-55 then .error 5 else
  if t.headD 0=0\/dS (t.take (c.toNat%64-55))<=55 then .error 6 else .ok (decide (192<=c.toNat),1+(c.toNat%64-55),dS (t.take (c.toNat%64-55))):=by
 have h2:=c.toNat_lt;have hM:c.toNat-(if 192<=c.toNat then 192 else 128)=c.toNat%64:=by split <;> omega
 dsimp only [gJ];rw [hM,if_neg (by omega)]
theorem Qs (l r:aN):dS (l++r)=dS l*256 ^ r.length+dS r:=by
 obtain ⟨N,hN⟩:=aA r.length
 induction N generalizing r with
 | zero=>rw [List.eq_nil_of_length_eq_zero hN]; simp [dS]
 | succ N ih =>
  have hne:r≠[]:=by rintro rfl; cases hN
  obtain ⟨d,c,rfl⟩:∃ d c,r=d++[c]:=⟨r.dropLast,r.getLast hne,(List.dropLast_concat_getLast hne).symm⟩
  have hd:d.length=N:=by simpa using hN
  rw [<-List.append_assoc,iF,ih d hd,iF,List.length_append,List.length_singleton,Nat.pow_succ,<-Nat.mul_assoc,Nat.add_mul,Nat.add_assoc]
theorem Ci (l:aN) (j m:Nat) (h:j<=m):dS (l.take j)<=dS (l.take m):=by
 have:l.take m=l.take j++(l.drop j).take (m-j):=by rw [<-List.take_add,show j+(m-j)=m by omega]
 rw [this,Qs];exact Nat.le_trans (Nat.le_mul_of_pos_right _ (Nat.pow_pos (by omega))) (Nat.le_add_right _ _)
def mR (w:World):Except Int (It × Nat × Nat)->Ending->World->Prop
 | .error _=>λe w'=>∃ c:Int,c≠0/\e = .returned (.tuple #[itV it0 none 0 0,.int .i64 0,.int .i64 0,.int .i64 c])/\Below w.heap.size w w'
 | .ok (x,n,k')=>λe w'=>∃ (a:aL) (nn cap:Nat) (nI lI:Int),e = .returned (.tuple #[itV x a nn cap,.int .i64 nI,.int .i64 lI,.int .i64 0])/\nI=n/\lI+k'=4096/\bP w.heap.size w' x.xs a nn cap/\Below w.heap.size w w'
def RC (s:aM):Prop:=∀ (d k:Nat) (dI lI:Int) (w:World),dI=d->d<=65->lI+k=4096->k<=4096->Calls prog 47 #[.string s,.int .i64 dI,.int .i64 lI] w (mR w (bR s.data.toList d k))
theorem jO {w':World} {r:Except Int (It × Nat × Nat)} {e:Ending} (c:Int) (hr:∃ c,r = .error c) (hc:c≠0) (he:e = .returned (.tuple #[itV it0 none 0 0,.int .i64 0,.int .i64 0,.int .i64 c])) (hB:Below w.heap.size w w'):mR w r e w':=by
 obtain ⟨c',rfl⟩:=hr;exact ⟨c,hc,he,hB⟩
abbrev Zit:Obj:=.cells #[.bool false,.string ⟨#[]⟩,.slice none 0 0] 96
theorem fP (w:World):Rg.Own ((w.alloc (.cells #[.bool false,.string ⟨#[]⟩,.slice none 0 0] 96)).alloc (.cells #[.bool false,.string ⟨#[]⟩,.slice none 0 0] 96)) (w.heap.size+1) (itC it0 none 0 0) 96/\
  ∀ w2,w2=((w.alloc (.cells #[.bool false,.string ⟨#[]⟩,.slice none 0 0] 96)).alloc (.cells #[.bool false,.string ⟨#[]⟩,.slice none 0 0] 96)).setRow (w.heap.size+1) (itC it0 none 0 0)->
   Rg.Own w2 w.heap.size (itC it0 none 0 0) 96/\Rg.Own w2 (w.heap.size+1) (itC it0 none 0 0) 96/\Below w.heap.size w w2/\w2.heap.size=w.heap.size+2:=by
 have h1:Rg.Own ((w.alloc Zit).alloc Zit) (w.heap.size+1) (itC it0 none 0 0) 96:=by
  have h:Rg.Own ((w.alloc Zit).alloc Zit) (w.alloc Zit).heap.size (itC it0 none 0 0) 96:=Rg.Own.new (w.alloc Zit) (itC it0 none 0 0) 96;have e:(w.alloc Zit).heap.size=w.heap.size+1:=by simp
  rw [e] at h;exact h
 have h0:Rg.Own ((w.alloc Zit).alloc Zit) w.heap.size (itC it0 none 0 0) 96:=(Rg.Own.new w (itC it0 none 0 0) 96).below (al1 _ _);refine ⟨h1,λw2 hw2=>?_⟩;subst hw2;exact ⟨nA h0 (by omega),iW h1,bI (al2 _ _ _) (by omega) _,by simp⟩
theorem Ku (s:aM) (d k:Nat) (dI lI:Int) (w:World) (dr:dI=d) (_hlI:lI+k=4096) (_hk:k<=4096) (h:64<d):Calls prog 47 #[.string s,.int .i64 dI,.int .i64 lI] w (mR w (bR s.data.toList d k)):=by
 have HE:Hid (∃ c,bR s.data.toList d k = .error c):=hid (by
  rw [gG,if_pos h]; exact ⟨_,rfl⟩)
 obtain ⟨r,hr⟩:=aA (bR s.data.toList d k)
 rw [hr] at HE ⊢;clear hr;obtain ⟨h1,h2⟩:=fP w;obtain ⟨hR,hN,hB,hsz⟩:=h2 _ rfl;have H1:=hid h1;have HR:=hid hR;have HN:=hid hN;have HB:=hid hB;have eb:=hid hsz;clear h1 h2 hR hN hB hsz;go_enter func47,ntmps47;go_wp2_with (first
  | (refine aZ H1.out it0 none 0 0 rfl _ _ rfl rfl rfl rfl ?_)
  | (refine aZ HR.out it0 none 0 0 rfl _ _ rfl rfl rfl rfl ?_)
  | (refine aB (bY HN.out ?_) ?_; · exact ⟨_,rfl,rfl⟩))
 exact bodyPost_ret (dY rfl _ rfl (dX HR.out)) rfl (jO 17 HE.out (by decide) rfl (bI HB.out aH _))
theorem OL (s:aM) (d k:Nat) (dI lI:Int) (w:World) (dr:dI=d) (ef:lI+k=4096) (_hk:k<=4096) (h:d<=64) (h2:k=4096):Calls prog 47 #[.string s,.int .i64 dI,.int .i64 lI] w (mR w (bR s.data.toList d k)):=by
 have HE:Hid (∃ c,bR s.data.toList d k = .error c):=hid (by
  rw [gG,if_neg (by omega),if_pos (by omega)]; exact ⟨_,rfl⟩)
 obtain ⟨r,hr⟩:=aA (bR s.data.toList d k)
 rw [hr] at HE ⊢;clear hr;obtain ⟨h1,h2⟩:=fP w;obtain ⟨hR,hN,hB,hsz⟩:=h2 _ rfl;have H1:=hid h1;have HR:=hid hR;have HN:=hid hN;have HB:=hid hB;have eb:=hid hsz;clear h1 h2 hR hN hB hsz;go_enter func47,ntmps47;go_wp2_with (first
  | (refine aZ H1.out it0 none 0 0 rfl _ _ rfl rfl rfl rfl ?_)
  | (refine aZ HR.out it0 none 0 0 rfl _ _ rfl rfl rfl rfl ?_)
  | (refine aB (bY HN.out ?_) ?_; · exact ⟨_,rfl,rfl⟩))
 exact bodyPost_ret (dY rfl _ rfl (dX HR.out)) rfl (jO 4 HE.out (by decide) rfl (bI HB.out aH _))
theorem MF (s:aM) (d k:Nat) (dI lI:Int) (w:World) (dr:dI=d) (ef:lI+k=4096) (hk:k<=4096) (h:d<=64) (h2:k<4096) (h0:s.size=0):Calls prog 47 #[.string s,.int .i64 dI,.int .i64 lI] w (mR w (bR s.data.toList d k)):=by
 have HE:Hid (∃ c,bR s.data.toList d k = .error c):=hid (by
  have hd:s.data.toList=[]:=List.eq_nil_of_length_eq_zero (by rw [dZ]; exact h0);rw [gG,if_neg (by omega),if_neg (by omega),hd]; exact ⟨_,rfl⟩)
 obtain ⟨r,hr⟩:=aA (bR s.data.toList d k)
 rw [hr] at HE ⊢;clear hr;obtain rfl:s=⟨#[]⟩:=by
  cases s with
  | mk dd=>rw [show dd = #[] from Array.eq_empty_of_size_eq_zero h0]
 obtain ⟨h1,h2⟩:=fP w;obtain ⟨hR,hN,hB,hsz⟩:=h2 _ rfl;have H1:=hid h1;have HR:=hid hR;have HN:=hid hN;have HB:=hid hB;have eb:=hid hsz;clear h1 h2 hR hN hB hsz;go_enter func47,ntmps47;go_wp2_with (first
  | (refine aZ H1.out it0 none 0 0 rfl _ _ rfl rfl rfl rfl ?_)
  | (refine aZ HR.out it0 none 0 0 rfl _ _ rfl rfl rfl rfl ?_)
  | (refine aB (bY HN.out ?_) ?_; · exact ⟨_,rfl,rfl⟩))
 exact bodyPost_ret (dY rfl _ rfl (dX HR.out)) rfl (jO 5 HE.out (by decide) rfl (bI HB.out aH _))
theorem OC {s:aM} {c:UInt8} (hs:s.data.toList=c::t):s.extract 0 1=⟨#[c]⟩:=by
 have:=fO s 0 1;rw [hs] at this;rw [show (0:Nat)+1=1 from rfl] at this;rw [this];rfl
theorem IG (s:aM) (d k:Nat) (dI lI:Int) (w:World) (dr:dI=d) (ef:lI+k=4096) (hk:k<=4096) (h:d<=64) (h2:k<4096) (c:UInt8) (t:aN) (hs:s.data.toList=c::t) (hc:c.toNat<128):Calls prog 47 #[.string s,.int .i64 dI,.int .i64 lI] w (mR w (bR s.data.toList d k)):=by
 have HE:Hid (bR s.data.toList d k = .ok (.mk false (s.extract 0 1) [],1,k+1)):=hid (by
  rw [gG,if_neg (by omega),if_neg (by omega),hs];have hh:gJ (c::t) = .ok (false,0,1):=by dsimp only [gJ]; rw [if_pos hc]
  rw [hh,OC hs];dsimp only;rw [if_neg (by simp),if_neg (by simp),if_neg (by omega)];rfl)
 rw [HE.out];have hs0:0<s.size:=by rw [bF,hs]; simp
 have hne:=eO hs0;have hsl:t.length+1=s.size:=by rw [bF,hs]; rfl
 have hg0:=get_at s 0 hs0;rw [hs,List.getD_cons_zero] at hg0;have hcl:=c.toNat_lt;obtain ⟨C,hC⟩:=aA c.toNat
 rw [hC] at hcl;have hg1:(s[0]'hs0).toNat=C:=by rw [hg0,hC]
 rw [hC] at hc;clear HE hg0;obtain ⟨h1,h2⟩:=fP w;obtain ⟨hR,hN,hB,hsz⟩:=h2 _ rfl;have H1:=hid h1;have HR:=hid hR;have HN:=hid hN;have HB:=hid hB;have eb:=hid hsz;clear h1 h2 hR hN hB hsz;go_enter func47,ntmps47;go_wp2_with (first
  | (refine aZ H1.out it0 none 0 0 rfl _ _ rfl rfl rfl rfl ?_)
  | (refine aZ HR.out it0 none 0 0 rfl _ _ rfl rfl rfl rfl ?_)
  | (refine aB (bY HN.out ?_) ?_; · exact ⟨_,rfl,rfl⟩)
  | (refine aZ HR.out (.mk false (s.extract 0 1) []) none 0 0 rfl _ _ rfl rfl rfl rfl ?_))
 exact bodyPost_ret (dY rfl _ rfl (dX HR.out)) rfl ⟨none,0,0,_,_,rfl,rfl,by omega,bP.nil _ _,bI HB.out aH _⟩
theorem BQ (s:aM) (d k:Nat) (dI lI:Int) (w:World) (dr:dI=d) (ef:lI+k=4096) (hk:k<=4096) (h:d<=64) (h2:k<4096) (hmax:s.size<=1000000) (c:UInt8) (t:aN) (hs:s.data.toList=c::t) (hc:128<=c.toNat) (h5:c.toNat%64<=55) (hlt:t.length<c.toNat%64):Calls prog 47 #[.string s,.int .i64 dI,.int .i64 lI] w (mR w (bR s.data.toList d k)):=by
 have HE:Hid (∃ c,bR s.data.toList d k = .error c):=hid (by
  rw [gG,if_neg (by omega),if_neg (by omega),hs,jP c t hc,if_pos h5];dsimp only;rw [if_pos (by rw [List.length_cons]; omega)]; exact ⟨_,rfl⟩)
 obtain ⟨r,hr⟩:=aA (bR s.data.toList d k)
 rw [hr] at HE ⊢;clear hr;have hs0:0<s.size:=by rw [bF,hs]; simp
 have hne:=eO hs0;have hsl:t.length+1=s.size:=by rw [bF,hs]; rfl
 have hg0:=get_at s 0 hs0;rw [hs,List.getD_cons_zero] at hg0;have hcl:=c.toNat_lt;obtain ⟨C,hC⟩:=aA c.toNat
 rw [hC] at hcl;have hg1:(s[0]'hs0).toNat=C:=by rw [hg0,hC]
 rw [hC] at hc h5 hlt;obtain ⟨n0,hn0⟩:=aA (C%64)
 have gS:(C:Int).tmod 64=(n0:Int):=by rw [Int.tmod_eq_emod_of_nonneg (by omega)]; omega
 have tG:n0<=55:=by omega
 rw [hn0] at hlt h5;have hlt2:s.size-1<n0:=by omega
 clear hg0 hs hC;obtain ⟨h1,h2⟩:=fP w;obtain ⟨hR,hN,hB,hsz⟩:=h2 _ rfl;have H1:=hid h1;have HR:=hid hR;have HN:=hid hN;have HB:=hid hB;have eb:=hid hsz;clear h1 h2 hR hN hB hsz;go_enter func47,ntmps47;go_wp2_with (first
  | (refine aZ H1.out it0 none 0 0 rfl _ _ rfl rfl rfl rfl ?_)
  | (refine aZ HR.out it0 none 0 0 rfl _ _ rfl rfl rfl rfl ?_)
  | (refine aB (bY HN.out ?_) ?_; · exact ⟨_,rfl,rfl⟩))
 exact bodyPost_ret (dY rfl _ rfl (dX HR.out)) rfl (jO 5 HE.out (by decide) rfl (bI HB.out aH _))
end Rl
end
end Go.Proofs.YtokaiemgjngcoaaGreatDoor
