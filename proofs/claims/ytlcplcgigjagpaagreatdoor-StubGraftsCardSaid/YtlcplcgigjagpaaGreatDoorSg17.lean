/-
 The contract of the plain answer's Kept.
-/
import Derived.Test.YtlcplcgigjagpaaGreatDoorSg16
import Derived.Deep.Fields
import Derived.Deep.Strs
open Go.Lib (hid)
open Go.Proofs.Tryz
set_option linter.unusedSimpArgs false
set_option linter.unusedVariables false
set_option maxHeartbeats 40000000
set_option maxRecDepth 100000
namespace Go.Proofs.YtlcplcgigjagpaaGreatDoor
variable {B L c g:Nat} {v:Value} {a:aJ} {o:Oper} {t:TypeId} {ev:Operand->Value} {K:Nat->Prop}
section
open Go.RowKit
namespace Ew
open Tr Ni Pk Ky No Rf Rl Tm
end Ew
end
section
open Go.RowKit
namespace Sx
open Tr Ni Pk Ky No Rf Rl Tm
open Sm (Tab)
def Zq (w:World) (l:aL) (e:Ending) (w':World):Prop:=∃ r:Hdl,e = .returned (.slice r.1 r.2.1 r.2.2)/\BsP (λb=>w.heap.size<=b) w' r l/\Below w.heap.size w w'
theorem KW (s:aK) (hs:s.size<=1000) (w:World) :
  Calls prog 64 #[.string s] w (Zq w (ig s)):=by
 obtain ⟨m,hm⟩:=av (2*s.size)
 have hmk:=run_make_row' (P:=prog) 42 5 (.int .u8 0) 1 underlying42 Ni.mh rfl .i64 .i64 m (by omega) (by omega);have e:((m:Nat):Int)=2*(s.size:Int):=by omega
 rw [e] at hmk;have HS:=hid (Spr.start w s);rw [hm] at HS;have HM:=hid hm;have hm2:m<=2*s.size:=by omega
 clear e hm;go_enter func64,ntmps64;go_wp2_with fail
 refine (fT _ _).mono ?_;rintro e w1 ⟨rfl,rfl⟩;go_wp2;clear hmk;go_loopw [14] (λi wr=>∃ k:Nat,k<=m/\i = .int .i64 k/\Spr w s k wr) (λi _=>m-(intOf i).toNat)
 case atStart=>exact ⟨0,Nat.zero_le _,rfl,HS.out⟩
 case round =>
  obtain ⟨k,hk,rfl,hS⟩:=hrel;by_cases hlt:k<m
  .have hc:=hS.2.1;have hz:=hS.1.lt;have hcell:wr.cell? ⟨w.heap.size+1,k,none⟩=some (.int .u8 0):=by
    rw [hS.1.cell (by rw [HM.out]; exact hlt)]; simp
   have hfr:=hS.1.frozen k;go_wp2_with fail
   refine (pF _ s k (by unfold maxLen; omega) (by omega) _ hc).mono ?_;rintro e w2 ⟨rfl,rfl⟩;go_wp2;go_roundw
   case rel=>exact ⟨k+1,by omega,by go_num,hS.next (by rw [HM.out]; exact hlt)⟩
   case measure=>simp [intOf]; omega
  .obtain rfl:k=m:=by omega
   have HG:Hid (bq wr (some ⟨w.heap.size+1,0,none⟩) k k (ig s)):=hid (by
    refine bq.ofRow (ig s) (by unfold maxLen; omega) (by have:=hS.1; rw [HM.out] at this; exact this) (by rw [gM,HM.out]) (λj hj=>?_);rw [if_pos hj,lZ s j (by rw [HM.out]; exact hj)])
   have hB:=hS.2.2;go_wp2;go_ret;exact ⟨(some ⟨w.heap.size+1,0,none⟩,k,k),rfl,⟨HG.out,λad e _=>by obtain rfl:=(Option.some.inj e).symm; exact Nat.le_succ _⟩,hB⟩
theorem TM (k:aL) (hk:k.length=32) (w:World) :
  Calls prog 34 #[.agg (kc k)] w (Zq w (eY k)):=by
 have h0:bq (w.alloc (.cells (kc k) 25)) (some ⟨w.heap.size,0,none⟩) k.length k.length k:=bq.new w k (by unfold maxLen; omega) _ _ rfl;rw [hk] at h0;have hcv:=lu h0;obtain ⟨s,hs⟩:=av (⟨k.toArray⟩:aK)
 have hsz:s.size=32:=by rw [<-hs]; show k.toArray.size=32; simp [hk]
 have HP:Hid (eY k=Ni.ig s):=hid (by unfold eY; rw [hs]);have tR:=hid (λwx=>KW s (by omega) wx);rw [hs] at hcv;obtain ⟨C,hC⟩:=av (kc k)
 rw [hC] at hcv ⊢;clear h0 hs hC hsz hk;go_enter func34,ntmps34;go_wp2_with fail
 refine (tR.out _).mono ?_;rintro e w1 ⟨r,rfl,hx,hb⟩;go_wp2;go_ret;exact ⟨r,rfl,by rw [HP.out]; exact hx.to λb _ hp=>Nat.le_trans (by simp) hp,((Below.refl w.heap.size w).alloc aF _).trans (hb.mono (by simp))⟩
theorem KU (a b:aJ) (n m c d:Nat) (x y:aL) (w:World) (ha:bq w a n c x) (hb:bq w b m d y) :
  Calls prog 161 #[.slice a n c,.slice b m d] w λe w'=>e = .returned (.bool (decide (x=y)))/\w=w':=by
 have h1:=lu ha;have h2:=lu hb;have HE:Hid (((⟨x.toArray⟩:aK).toList==(⟨y.toArray⟩:aK).toList)=decide (x=y)):=hid (by
  rw [str_eq];by_cases e:x=y
  .subst e; simp
  .rw [decide_eq_false e,decide_eq_false (λg=>e (by
    have:=congrArg (λb:aK=>b.data.toList) g;simpa using this))])
 clear ha hb;generalize hX:(⟨x.toArray⟩:aK)=X at *
 generalize hY:(⟨y.toArray⟩:aK)=Y at *
 go_enter func161,ntmps161;go_wp2;go_ret;exact ⟨by rw [<-HE.out]; rfl,rfl⟩
theorem LZ (a b:aJ) (n m c d:Nat) (x y:aL) (hn:n<=m) (hm:m<=1000000) (w:World) (ha:bq w a n c x) (hb:bq w b m d y) :
  Calls prog 134 #[.slice b m d,.slice a n c] w λe w'=>e = .returned (.bool (decide (x<+:y)))/\w=w':=by
 have HL:=hid (KU b a n n d c (y.take n) x w (MB hb n hn) ha);have HR:Hid (decide (y.take n=x)=decide (x<+:y)):=hid (by
  have:=ha.len;by_cases e:x<+:y
  .rw [aI e,aI];rw [<-this];exact (List.prefix_iff_eq_take.1 e).symm
  .rw [decide_eq_false e,decide_eq_false];intro g;exact e (by rw [<-g]; exact List.take_prefix _ _))
 have hmd:=hb.1;have hi:(n:Int)<=(m:Int):=by omega
 have hc:n<=d:=by omega
 clear ha hb;go_enter func134,ntmps134;go_wp2_with (first
  | (refine Rg.runW (by rfl) _ _ (zB (j:=n) iU jT hc ⟨_,_,rfl,rfl,rfl⟩) ?_))
 refine HL.out.mono ?_;rintro e w1 ⟨rfl,rfl⟩;go_wp2;go_ret;exact ⟨by rw [<-HR.out]; rfl,rfl⟩
theorem Ou (a b:aJ) (n m c d:Nat) (x y:aL) (hn:m<n) (w:World) (ha:bq w a n c x) (hb:bq w b m d y) :
  Calls prog 134 #[.slice b m d,.slice a n c] w λe w'=>e = .returned (.bool (decide (x<+:y)))/\w=w':=by
 have HR:Hid (decide (x<+:y)=false):=hid (decide_eq_false λh=>by
  have h1:=h.length_le;have h2:=ha.len;have h3:=hb.len;omega)
 have hi:¬ (n:Int)<=(m:Int):=by omega
 have hi2:decide ((n:Int)<=(m:Int))=false:=decide_eq_false hi;rw [HR.out];clear ha hb HR;go_enter func134,ntmps134;go_wp2;go_ret;exact ⟨rfl,rfl⟩
theorem Tw (a b:aJ) (n m c d:Nat) (x y:aL) (hm:m<=1000000) (w:World) (ha:bq w a n c x) (hb:bq w b m d y) :
  Calls prog 134 #[.slice b m d,.slice a n c] w λe w'=>e = .returned (.bool (decide (x<+:y)))/\w=w':=by
 by_cases h:n<=m
 .exact LZ a b n m c d x y h hm w ha hb
 .exact Ou a b n m c d x y (by omega) w ha hb
theorem Tc (a b:aJ) (n m c d:Nat) (x y:aL) (hm:m<=1000000) (w:World) (ha:bq w a n c x) (hb:bq w b m d y) :
  Calls prog 99 #[.slice b m d,.slice a n c] w λe w'=>e = .returned (if x<+:y then .tuple #[.slice (dM b d n) (m-n) (d-n),.bool true] else .tuple #[.slice b m d,.bool false])/\(x<+:y->n<=m)/\w=w':=by
 have HP:=hid (Tw a b n m c d x y hm w ha hb);have hlen:x<+:y->n<=m:=λh=>by
  have h1:=h.length_le;have h2:=ha.len;have h3:=hb.len;omega
 have HL:=hid hlen;clear ha hb;by_cases h:x<+:y
 .have hnm:=hlen h;rw [if_pos h];rw [aI h] at HP;clear hlen h;go_enter func99,ntmps99;go_wp2_with fail
  refine HP.out.mono ?_;rintro e w1 ⟨rfl,rfl⟩;go_wp2_with (first
   | (refine ay (lD iU jT hnm ⟨_,_,rfl,rfl,rfl⟩) ?_))
  go_ret2
  exact ⟨rfl,HL.out,rfl⟩
 .rw [if_neg h];rw [decide_eq_false h] at HP;clear hlen h;go_enter func99,ntmps99;go_wp2_with fail
  refine HP.out.mono ?_;rintro e w1 ⟨rfl,rfl⟩;go_wp2;go_ret2
  exact ⟨rfl,HL.out,rfl⟩
theorem PG {w:World} {xs:List Pa} (h:Ew.nT B w v xs):∃ a c,v = .slice a xs.length c:=by
 obtain ⟨_,_,ho,_⟩:=h;rcases ho.2 with ⟨rfl,h0⟩ | ⟨g,cap,cur,rfl,_⟩
 .exact ⟨_,_,by rw [h0]⟩
 .exact ⟨_,_,rfl⟩
theorem Mg (a b:aJ) (n m c d:Nat) (ws:List Pa) (q:Pa) (w:World) (hW:Ew.kF w a n c ws) (hB:bq w b m d q) (hn:n<=1000) (hk:∀ x∈ws,x.length<=64) :
  Calls prog 66 #[.slice a n c,.slice b m d] w λe w'=>∃ v,e = .returned v/\Ew.nT w.heap.size w' v (onP q ws)/\Below w.heap.size w w':=by
 have HW:=hid hW;have HB:=hid hB;have HK:=hid hk;have HL:=hid hW.len;clear hW hB hk;go_enter func66,ntmps66;go_wp2;go_loopw [5,12] (λv0 i wr=>∃ (j:Nat) (v:Value),v=v0/\j<=n/\i = .int .i64 j/\Hid (Ew.nT w.heap.size wr v (onP q (ws.take j)))/\Hid (Below w.heap.size w wr)) (λ_ i _=>n-(intOf i).toNat)
 case atStart=>exact ⟨0,_,rfl,Nat.zero_le _,rfl,hid (Ew.nT.nil _ _),hid aG⟩
 case round =>
  obtain ⟨j,v,rfl,hj,rfl,HR,cD⟩:=hrel;by_cases hlt:j<n
  .have i1:(j:Int)<(n:Int):=by omega
   obtain ⟨k,off,⟨ha,hm,hc⟩,rfl,cA,hcell,hbs⟩:=HW.out.at' j hlt;have hjl:j<ws.length:=by rw [HL.out]; exact hlt
   have cS:=hid (Td q ws hjl);have hxl:(ws.getD j []).length<=64:=HK.out _ (by rw [List.getD_eq_getElem?_getD,List.getElem?_eq_getElem hjl]; exact List.getElem_mem _);have hol:=RF q (ws.take j);rw [List.length_take] at hol;have ut:Hid ((onP q (ws.take j)).length<=1000000):=hid (by omega);have HC:=hid ((Below.cell (p:=⟨k,off+j,none⟩) cD.out cA).trans hcell);have z6:=hid (Tc b ha m hm d hc q (ws.getD j []) (by have:=hbs.len; have h2:(ws.getD j []).length=hm:=this; omega) wr (HB.out.below cD.out) (hbs.below cD.out))
   have gz:Hid (∀ w2,Below wr.heap.size wr w2->BsP (λz=>v.ownBlock≠some z) w2 (ha,hm,hc) (ws.getD j [])):=hid (λw2 hb=>by
    have h1:=(BsP.old (h:=(ha,hm,hc)) hbs).kept (w':=w2) (Nat.le_trans cD.out.size hb.size) λz hz _=>(hb.block z (aH hz cD.out.size)).trans (cD.out.block z hz);exact h1.to λz _ hz e=>by have:=(HR.out.lt z e).1; omega)
   obtain ⟨x,hx⟩:=av (ws.getD j [])
   rw [hx] at cS z6 gz;have US:=hid (show m=q.length from HB.out.len.symm);clear hcell hbs hxl hx hjl cA hol;by_cases hq:q<+:x
   .rw [if_pos hq] at cS z6;have HQ:=hid hq;clear hq;go_wp2_with (first
     | (refine ay (Ew.tK HC.out ⟨_,rfl,rfl⟩) ?_))
    refine z6.out.mono ?_;rintro e w1 ⟨rfl,hle,rfl⟩;have hA:=al1 wr (.cells #[Ew.wv (dM ha hc m,hm-m,hc-m)] 42);have HA:=hid hA;have li:Hid (BsP (λz=>v.ownBlock≠some z) (wr.alloc (.cells #[Ew.wv (dM ha hc m,hm-m,hc-m)] 42)) (dM ha hc m,hm-m,hc-m) (x.drop q.length)):=hid (by
     rw [<-US.out];exact Ew.UO (gz.out _ hA) m (hle HQ.out))
    have pB:=hid (HR.out.below hA);have cW:Hid (w.heap.size<=(wr.alloc (.cells #[Ew.wv (dM ha hc m,hm-m,hc-m)] 42)).heap.size):=hid (Nat.le_trans cD.out.size hA.size);clear hA hle;go_wp2_with (first
     | (refine ay (Ew.Im (h:=(dM ha hc m,hm-m,hc-m)) wr.heap.size rfl ⟨_,rfl,rfl⟩) ?_)
     | (refine Ew.Ae pB.out (Rg.Own.new wr _ _) li.out ut.out cW.out rfl ⟨_,_,rfl,rfl,rfl⟩ ?_))
    intro v' w5 eo hg5 _;have ew:=hid eo;have ag:Hid (Below w.heap.size w w5):=hid ((cD.out.trans (HA.out.mono cD.out.size)).grown hg5 cW.out (λg hg=>(pB.out.lt g hg).1));clear eo hg5;go_wp2;go_roundw
    case rel=>exact ⟨j+1,_,rfl,by omega,by go_num,by rw [cS.out]; exact ew,ag⟩
    case measure=>simp [intOf]; omega
   .rw [if_neg hq] at cS z6;clear hq;go_wp2_with (first
     | (refine ay (Ew.tK HC.out ⟨_,rfl,rfl⟩) ?_))
    refine z6.out.mono ?_;rintro e w1 ⟨rfl,hle,rfl⟩;go_wp2;go_roundw
    case rel=>exact ⟨j+1,_,rfl,by omega,by go_num,by rw [cS.out,List.append_nil]; exact HR,cD⟩
    case measure=>simp [intOf]; omega
  .obtain rfl:j=n:=by omega
   have ae:Hid (Ew.nT w.heap.size wr v (onP q ws)):=hid (by
    have:=HR.out;rwa [<-HL.out,List.take_length] at this)
   go_wp2;go_ret;exact ⟨v,rfl,ae.out,cD.out⟩
end Sx
end
section
open Go.RowKit Go.ChangeShapes Go.WideShapes Go.Deep
namespace Ew
open Tr Ni Pk Ky Tm
section
variable {H:Type} {enc:TypeId × Value->H} {w:World} {fuel:Nat} {cs:List Value} {x:DataW H × List MemPlace}
def XV (k:aL):List Value:=k.map λb=>Value.int .u8 b.toNat
def GQ (w:World) (a:aJ) (n c:Nat) (l:List (aL)):Prop :=
 n<=c/\c<=maxLen/\l.length=n/\(a=none->c=0)/\(∀ x∈l,x.length=32)/\∀ j,j<n->∃ b off,a=some ⟨b,off,none⟩/\b<w.heap.size/\w.rangeAt b (off+j*32) (XV (l.getD j []))
theorem GQ.len {w:World} {n:Nat} {l:List (aL)} (h:GQ w a n c l):l.length=n:=h.2.2.1
theorem GQ.keys {w:World} {n:Nat} {l:List (aL)} (h:GQ w a n c l):∀ x∈l,x.length=32:=h.2.2.2.2.1
theorem GQ.at' {w:World} {n:Nat} {l:List (aL)} (h:GQ w a n c l) (j:Nat) (hj:j<n):∃ b off,a=some ⟨b,off,none⟩/\b<w.heap.size/\w.rangeAt b (off+j*32) (XV (l.getD j []))/\(l.getD j []).length=32:=by
 obtain ⟨b,off,e,hlt,hp⟩:=h.2.2.2.2.2 j hj;refine ⟨b,off,e,hlt,hp,h.keys _ ?_⟩;have hl:=h.len;rw [List.getD_eq_getElem?_getD,List.getElem?_eq_getElem (by omega)];exact List.getElem_mem _
end
end Ew
end
section
open Go.RowKit
namespace Sx
open Tr Ni Pk Ky No Rf Rl Tm
open Sm (Tab)
structure Kp (M0:Mp) (w0:World) (M:Mp) (w:World):Prop where
 size:w0.heap.size<=w.heap.size
 block:∀ k,k<w0.heap.size->M0.at_ k=none->w.heap[k]? = w0.heap[k]?
 mono:∀ k t,M0.at_ k=some t->M.at_ k=some t
 fresh:∀ k,k<w0.heap.size->M0.at_ k=none->M.at_ k=none
 foot:∀ k,k<w0.heap.size->M.ft k->M0.ft k
theorem Kp.refl (M:Mp) (w:World):Kp M w M w:=⟨aF,λ_ _ _=>rfl,λ_ _ h=>h,λ_ _ h=>h,λ_ _ h=>h⟩
theorem Xz (M0:Mp) (w0:World):JOk w0.heap.size (λ_=>False) (Kp M0 w0) :=
 ⟨λ_ _ _ _ hj _ hs hk hm hf hx=>⟨Nat.le_trans hj.size hs,λk hl h0=>(hk k hl (hj.fresh k hl h0)).trans (hj.block k hl h0),λk t h=>hm k t (hj.mono k t h),λk hl h0=>hx k hl (hj.fresh k hl h0),λk hl h=>hj.foot k hl (hf k hl h)⟩,λ_ _ _ _ _ h=>h.elim,λ_ h=>h.elim,λ_ _ hj=>hj.size⟩
section
variable {M0 M:Mp} {w0 w:World}
theorem Kp.cell (h:Kp M0 w0 M w) {b o:Nat} (hb:b<w0.heap.size) (hm:M0.at_ b=none):w.cell? ⟨b,o,none⟩=w0.cell? ⟨b,o,none⟩:=World.cell?_of_block (w:=w0) (h.block b hb hm)
theorem Kp.bs (h:Kp M0 w0 M w) (hi:Inv M0 w0) {n:Nat} {l:aL} (g:bq w0 a n c l):bq w a n c l:=by
 refine ⟨g.1,g.2.1,g.2.2.1,g.2.2.2.1,λj hj=>?_⟩;obtain ⟨b,off,e,hlt,hc⟩:=g.2.2.2.2 j hj;exact ⟨b,off,e,aH hlt h.size,by rw [h.cell hlt (hi.eu hc)]; exact hc⟩
theorem Kp.ws (h:Kp M0 w0 M w) (hi:Inv M0 w0) {n:Nat} {l:List Pa} (g:Ew.kF w0 a n c l) (hf:∀ ad,a=some ad->¬ M0.ft ad.block):Ew.kF w a n c l :=
 ⟨g.1,g.2.1,g.2.2.1,g.2.2.2.1,λj hj=>by
  obtain ⟨b,off,x,e,hlt,hp,hb⟩:=g.2.2.2.2 j hj;exact ⟨b,off,x,e,aH hlt h.size,by rw [h.cell hlt (mR hi (hf _ e))]; exact hp,h.bs hi hb⟩⟩
theorem Kp.bx (h:Kp M0 w0 M w) (hi:Inv M0 w0) {cs:aM} (b:Bx M0 w0 g cs t):Bx M w g cs t:=⟨⟨aH b.o.1 h.size,(h.block g b.o.1 (mR hi b.n)).trans b.o.2⟩,λe=>b.n (h.foot g b.o.1 e),b.h⟩
end
def RK (ws:List Pa) (st:Pa) (s:T):CB:=if onP st ws=[] then none else some (jc (onP st ws) s,bX (jc (onP st ws) s))
theorem LM (ws:List Pa):ny (RK ws)=sJ ws:=by
 funext st s;unfold ny RK sJ;by_cases h:(ref s).size=32
 .rw [if_pos h,if_pos h];by_cases hd:onP st ws=[]
  .rw [if_pos hd,if_pos hd]; rfl
  .rw [if_neg hd,if_neg hd]; rfl
 .rw [if_neg h,if_neg h]
theorem Kg {ws:List Pa} {st:Pa} {s:T} (hs:bX s=0):lH (RK ws) st s=bX (sJ ws st s):=by
 unfold lH RK sJ;by_cases h:(ref s).size=32
 .rw [if_pos h,if_pos h];by_cases hd:onP st ws=[]
  .rw [if_pos hd,if_pos hd]; rfl
  .rw [if_neg hd,if_neg hd]; rfl
 .rw [if_neg h,if_neg h]; exact hs.symm
theorem NM {t:T} (g:Tr.Good t L) (hL:L<=64) (f:Fine t) (hf:Tr.Full t) (ws:List Pa):OkF (ny (RK ws)) (lH (RK ws)) t/\rO (ny (RK ws)) t=jc ws t/\jN (lH (RK ws)) t (aZ t).length=bX (jc ws t):=by
 have e:∀ j,j<(aZ t).length->lH (RK ws) ((dG t).getD j []) ((aZ t).getD j .nil)=bX (sJ ws ((dG t).getD j []) ((aZ t).getD j .nil)):=λj hj=>Kg (Jc g f hf hj);have h:=RD g hL f (OZ ws);rw [LM];refine ⟨h.congr e,Hz ws t,?_⟩;rw [zV (C:=λst s=>bX (sJ ws st s)) e,Ed _ _ (eD hf),Hz]
theorem Zm (a:aJ) (n c:Nat):∀ (j:Nat) (x:Int),(#[Value.slice a n c]:aM)[j]? ≠ some (Value.int .u8 x):=λj x h=>by
 match j,h with
 | 0,h=>simp at h
 | j+1,h=>simp at h
theorem Al {w:World} {b:Nat} (hc:w.cell? ⟨b,0,none⟩=some v) (ho:∃ x,o.op = .load 41 x/\ev x = .pointer (some ⟨b,0,none⟩)) :
  (execOp ev o).run prog w = .ok (.value v) w:=by
 obtain ⟨x,ho,hx⟩:=ho;unfold execOp;simp [ho,hx,go_sem,hc]
def Ns (L:Nat):Prop:=∀ (x:T),Tr.Good x L->Fine x->Tr.Full x->∀ (ws:List Pa),(∀ y∈ws,y.length<=64)->∀ (M:Mp) (w:World) (p a:aJ) (n c:Nat),n<=1000->Ew.kF w a n c ws->(∀ ad,a=some ad->¬ M.ft ad.block)->Inv M w->Tab w->IsT M p x->
 Calls prog 35 #[tv p,.slice a n c] w (iw (λ_=>False) (λ_ _=>True) M w (jc ws x) (bX (jc ws x)))
theorem PZ {q:Pa} {ws:List Pa} (h:∀ y∈ws,y.length<=64):∀ y∈onP q ws,y.length<=64:=λy hy=>by
 obtain ⟨z,hz,rfl⟩:=List.mem_map.1 hy;have:=h z (List.mem_filter.1 hz).1;rw [List.length_drop];omega
theorem PK {M0:Mp} {w0:World} (hi0:Inv M0 w0) {pb bs:Nat} (hbs:w0.heap.size<=bs) {a:aJ} {n c:Nat} (hpb:Bx M0 w0 pb #[.slice a n c] 41) {ws:List Pa} (hws:Ew.kF w0 a n c ws) (hwf:∀ ad,a=some ad->¬ M0.ft ad.block) (hn:n<=1000) (hsh:∀ y∈ws,y.length<=64) (st:Pa) (s:T) (L:Nat) (fm:Ns L) (g:Tr.Good s L) (f:Fine s) (hf:Tr.Full s) :
  zL (λ_=>False) (JB (Kp M0 w0) bs (.func (.func 65) #[] #[.pointer (some ⟨pb,0,none⟩)]) 84) 65 #[.pointer (some ⟨pb,0,none⟩)] st s (RK ws st s):=by
 have hJ2:=(Xz M0 w0).box hbs (.func (.func 65) #[] #[.pointer (some ⟨pb,0,none⟩)]) 84;obtain ⟨vS,yW⟩:=av (Value.func (.func 65) #[] #[.pointer (some ⟨pb,0,none⟩)])
 rw [yW] at hJ2 ⊢;clear yW;intro M w b m d p hj hi hT hB ht;show Calls prog 65 #[.slice b m d,.agg #[.pointer p],.pointer (some ⟨pb,0,none⟩)] w _;obtain ⟨w1,hw1⟩:=au ((w.alloc (.cells #[.pointer p] 31)).alloc (.cells (chA none 0) 81))
 have hb1:Below w.heap.size w w1:=by rw [hw1]; exact al2 _ _ _
 have af:Rg.Own w1 w.heap.size #[.pointer p] 31:=by rw [hw1]; exact (Rg.Own.new _ _ _).below (al1 _ _)
 have hX1:Rg.Own w1 (w.heap.size+1) (chA none 0) 81:=by
  have:=Rg.Own.new (w.alloc (.cells #[.pointer p] 31)) (chA none 0) 81;rw [hw1];simpa using this
 have hS1:=(Sg.start hJ2 hi hT hj).below hJ2 hb1;have jz:=hid (Mg a b n m c d ws st w1 (hS1.j.1.ws hi0 hws hwf) (hB.below hb1) hn hsh);have HC:Hid (w1.cell? ⟨pb,0,none⟩=some (.slice a n c)):=hid (Tm.aU (j:=0) (hS1.j.1.bx hi0 hpb).o rfl);have bj:=hid hS1;have bc:Hid (Bx M w1 (w.heap.size+1) (chA none 0) 81):=hid ⟨hX1,hi.free (Nat.le_succ _),ku _ _⟩;have bd:Hid (Bx M w1 w.heap.size #[.pointer p] 31):=hid ⟨af,hi.free aF,cZ _⟩;have HW1:=hid hw1;have HJ:=hid hJ2;have HT:=hid ht
 have aw:Hid (bs+1<=w.heap.size/\0<w.heap.size):=hid ⟨hJ2.sz M w hj,hT.pos⟩;have rg:Hid ((onP st ws).length<=1000/\∀ y∈onP st ws,y.length<=64):=hid ⟨Nat.le_trans (RF st ws) (by rw [hws.len]; exact hn),PZ hsh⟩;have pL:=hid (fm s g f hf (onP st ws) rg.out.2 M);obtain ⟨gT,ce⟩:=av w.heap.size
 obtain ⟨gX,bo⟩:=av (w.heap.size+1)
 have bu:Hid (gX=w.heap.size+1):=hid bo.symm;have dy:Hid (w.heap.size=gT):=hid ce;rw [bo] at bc;rw [ce] at bd;clear hb1 af hX1 hS1 hi hT hj ht hB hJ2 fm hw1 ce bo hws hwf hn hsh hpb hbs g f hf hi0;by_cases h1:onP st ws=[]
 .have hr:RK ws st s=none:=if_pos h1;rw [hr];rw [h1] at jz;clear h1 hr pL rg;go_enter func65,ntmps65;go_wp2_with (first
   | (refine ay (bE _ _ _ gX (by rw [bu.out]; simp) rfl) ?_; rw [<-HW1.out,dy.out])
   | (refine ay (Al HC.out ⟨_,rfl,rfl⟩) ?_))
  refine jz.out.mono ?_;rintro e w2 ⟨v,rfl,hR,hb2⟩;obtain ⟨a2,c2,rfl⟩:=PG hR;have HS2:=hid (bj.out.below HJ.out hb2);have cm:=hid (bc.out.below hb2);have ae:Hid (∀ w9,Rg.Upd w2 gX w9->Hf (λ_=>False) (JB (Kp M0 w0) bs vS 84) M w none (.returned (.tuple #[.agg (chA none 0),.bool false])) w9):=hid (λw9 hu=>by
   have h:=HS2.out.upd HJ.out aw.out.1 aw.out.2 hu (by rw [bu.out]; exact Nat.le_succ _) cm.out.n;exact ⟨rfl,h.f,h.i,h.t,h.j⟩)
  clear hR hb2 jz bc bd bj HC;go_wp2_with (first
   | (refine ay (bK DC ⟨_,rfl,rfl⟩) ?_)
   | (refine bB cm.out.o rfl none 0 rfl _ _ rfl rfl rfl rfl ?_; intro w9 ai al; have bh:Hid (Rg.Own w9 gX (chA none 0) 81):=hid ai; have cv:=hid (ae.out w9 al); clear ai al))
  exact bodyPost_ret (zx (u:=5) (v:=6) rfl _ rfl bh.out) rfl cv.out
 .have hr:RK ws st s=some (jc (onP st ws) s,bX (jc (onP st ws) s)):=if_neg h1;rw [hr];have hpos:(onP st ws).length≠0:=λe=>h1 (List.length_eq_zero_iff.1 e);obtain ⟨t',ht'⟩:=av (jc (onP st ws) s)
  rw [ht'] at pL ⊢;obtain ⟨k,hk⟩:=av (bX t')
  rw [hk] at pL ⊢;obtain ⟨cc,hcc⟩:=av (fJ k)
  have eN:=hid hcc;clear hr h1 ht' hk hcc;go_enter func65,ntmps65;go_wp2_with (first
   | (refine ay (bE _ _ _ gX (by rw [bu.out]; simp) rfl) ?_; rw [<-HW1.out,dy.out])
   | (refine ay (Al HC.out ⟨_,rfl,rfl⟩) ?_))
  refine jz.out.mono ?_;rintro e w2 ⟨v,rfl,hR,hb2⟩;have hlt:=hR.lt;obtain ⟨a2,c2,rfl,hW2⟩:=hR.done;have HS2:=hid (bj.out.below HJ.out hb2);have cm:=hid (bc.out.below hb2);have d8:=hid (bd.out.below hb2);have tc:=hid (pL.out w2 p a2 (onP st ws).length c2 rg.out.1 hW2 (λad e=>bj.out.i.free (by subst e; exact (hlt ad.block rfl).1)) HS2.out.i HS2.out.t HT.out);obtain ⟨l,hl⟩:=av ((onP st ws).length)
  rw [hl] at hpos tc ⊢;have b0:((l:Int)==0)=false:=by rw [beq_eq_false_iff_ne]; omega
  have b1:decide ((l:Int)=0)=false:=decide_eq_false (by omega);have b2:(l==0)=false:=by rw [beq_eq_false_iff_ne]; exact hpos
  have b3:decide (l=0)=false:=decide_eq_false hpos;clear hR hb2 hlt hW2 jz bc bd bj HC pL rg hl hpos;go_wp2_with (first
   | (refine ay (aT (Tm.aU (j:=0) d8.out.o rfl) ⟨_,rfl,rfl⟩) ?_))
  refine tc.out.mono ?_;rintro e w3 ⟨q,M3,rfl,ht3,f3,i3,t3,_⟩;rw [eN.out];have cC:=hid (HS2.out.fn HJ.out f3 i3 t3);have cF:=hid (Bx.fn cm.out HS2.out.i f3);have ae:Hid (∀ w9,Rg.Upd w3 gX w9->Hf (λ_=>False) (JB (Kp M0 w0) bs vS 84) M w (some (t',k)) (.returned (.tuple #[.agg (chA q cc),.bool true])) w9):=hid (λw9 hu=>by
   have h:=cC.out.upd HJ.out aw.out.1 aw.out.2 hu (by rw [bu.out]; exact Nat.le_succ _) cF.out.n;exact ⟨q,M3,by rw [<-eN.out],ht3,h.f,h.i,h.t,h.j⟩)
  clear ht3 f3 i3 t3 tc cm d8 HS2 b0 b1 b2 b3;go_wp2_with (first
   | (refine bB cF.out.o rfl q cc rfl _ _ rfl rfl rfl rfl ?_; intro w9 ai al; have bh:Hid (Rg.Own w9 gX (chA q cc) 81):=hid ai; have cv:=hid (ae.out w9 al); clear ai al))
  exact bodyPost_ret (zx (u:=5) (v:=6) rfl _ rfl bh.out) rfl cv.out
theorem VP {L:Nat} (hL:L<=64) (ih:∀ m,m<L->Ns m):Ns L:=by
 intro x g f hf ws hsh M w p a n c hn hws hwf hi hT ht;obtain ⟨c1,c2,c3⟩:=NM g hL f hf ws;obtain ⟨w1,hw1⟩:=au ((w.alloc (.cells #[.pointer p] 31)).alloc (.cells #[.slice a n c] 41))
 obtain ⟨w2,hw2⟩:=au (w1.alloc (.cells (chA none 0) 81))
 have hb1:Below w.heap.size w w1:=by rw [hw1]; exact al2 _ _ _
 have hs1:w1.heap.size=w.heap.size+2:=by rw [hw1]; simp
 have d9:Below w1.heap.size w1 w2:=by rw [hw2]; exact al1 _ _
 have hb2:=bst hb1 d9;have hO:Rg.Own w2 w.heap.size #[.pointer p] 31:=by
  refine Rg.Own.below ?_ d9;rw [hw1];exact (Rg.Own.new _ _ _).below (al1 _ _)
 have hP:Rg.Own w2 (w.heap.size+1) #[.slice a n c] 41:=by
  refine Rg.Own.below ?_ d9;have:=Rg.Own.new (w.alloc (.cells #[.pointer p] 31)) #[.slice a n c] 41;rw [hw1];simpa using this
 have hX:Rg.Own w2 (w.heap.size+2) (chA none 0) 81:=by
  have:=Rg.Own.new w1 (chA none 0) 81;rw [hs1] at this;rw [hw2];exact this
 have hfr:∀ k,w.heap.size<=k->¬ M.ft k:=λk hk=>hi.free hk;have ir:=hid (λ(w3:World) (bt:Nat) (hb3:Below w2.heap.size w2 w3) (hx:Bx M w3 bt #[.pointer p] 31)=>by
  have td:=bst hb2 hb3;have hi3:=hi.below td;have h:=Eb (Xz M w3) 65 #[.pointer (some ⟨w.heap.size+1,0,none⟩)] (enters_of func65 (by kernel_rfl) rfl) M p x L g hL f (RK ws) c1
   (λj bs hjl hbs _=>by
    obtain ⟨_,f',hf',L',hl,g'⟩:=iE g f _ (oO hjl);exact PK hi3 hbs ⟨hP.below hb3,hfr _ (Nat.le_succ _),Zm _ _ _⟩ (hws.below td) hwf hn hsh _ _ L' (ih L' hl) g' f' (hf' hf)) bt w3 hi3 ht (hT.below td hT.pos) (Kp.refl M w3) hx
  rwa [c2,c3] at h)
 have HX:Hid (Bx M w2 (w.heap.size+2) (chA none 0) 81):=hid ⟨hX,hfr _ (by omega),ku _ _⟩;have HO:=hid hO;have HB2:=hid hb2;have HI:=hid hi;have HW1:=hid hw1;have HW2:=hid hw2;have HZ:Hid (0<w.heap.size):=hid hT.pos;obtain ⟨t',ht'⟩:=av (jc ws x)
 rw [ht'] at ir ⊢;obtain ⟨k,hk⟩:=av (bX t')
 rw [hk] at ir ⊢;obtain ⟨cc,hcc⟩:=av (fJ k)
 have eN:=hid hcc;obtain ⟨gT,ce⟩:=av w.heap.size
 obtain ⟨gP,ta⟩:=av (w.heap.size+1)
 obtain ⟨gX,bo⟩:=av (w.heap.size+2)
 have HG:Hid (w.heap.size=gT/\w.heap.size+1=gP/\gX=w.heap.size+2/\w1.heap.size=gX):=hid ⟨ce,ta,bo.symm,by rw [hs1]; exact bo⟩;rw [bo] at HX;rw [ce] at HO;rw [ta] at ir;clear c1 c2 c3 hb1 hs1 d9 hb2 hO hP hX hfr hi hT ht hws hwf hw1 hw2 ht' hk hcc ce ta bo g f hf hsh ih hn;have eR:∀ (fn:Fn) (first cap:aM) (w:World),(Instr.makeFunc fn first cap).run prog w = .ok (.func fn first cap) w:=λ_ _ _ _=>rfl;have hgo:Calls prog 35 #[.agg #[.pointer p],.slice a n c] w (iw (λ_=>False) (λ_ _=>True) M w t' k):=by
  go_enter func35,ntmps35;go_wp2_with (first
   | (refine ay (bE _ _ _ gX (by first | exact HG.out.2.2.2.symm | (rw [<-HG.out.2.2.2,HW1.out]) | simp [HG.out.2.2.1]) rfl) ?_; rw [<-HW1.out,<-HW2.out,HG.out.1,show gT+1=gP by rw [<-HG.out.1]; exact HG.out.2.1])
   | (refine ay (aT (Tm.aU (j:=0) HO.out rfl) ⟨_,rfl,rfl⟩) ?_))
  refine (yM p w2).mono ?_;rintro e w3 ⟨rfl,hO3,hb3⟩;have dd:=hid (ir.out w3 w2.heap.size hb3 ⟨hO3,HI.out.free HB2.out.size,cZ _⟩);have cF:=hid (HX.out.below hb3);have HB3:=hid (bst HB2.out hb3);clear hO3 hb3 ir HX HO;go_wp2_with fail
  refine dd.out.mono ?_;rintro e w4 ⟨q,M4,rfl,nf,f4,i4,t4,j4⟩;rw [eN.out];have hF:Fnw M M4 w w4:=(Fnw.of (Fr.below M HB3.out)).trans f4 λ_ h=>h.elim;have lA:=Bx.fn cF.out (HI.out.below HB3.out) f4;have cP:=hid lA;have ae:Hid (∀ w9,Rg.Upd w4 gX w9->iw (λ_=>False) (λ_ _=>True) M w t' k (.returned (.agg (chA q cc))) w9):=hid (λw9 hu=>⟨q,M4,by rw [<-eN.out],nf,Fk.upd hF hu (by have:=HG.out; omega),i4.upd hu lA.n,lC t4 hu (by have:=HG.out; have:=HZ.out; omega),trivial⟩);clear nf f4 i4 t4 j4 hF lA dd cF;go_wp2_with (first
   | (refine bB cP.out.o rfl q cc rfl _ _ rfl rfl rfl rfl ?_; intro w9 ai al; have bh:Hid (Rg.Own w9 gX (chA q cc) 81):=hid ai; have cv:=hid (ae.out w9 al); clear ai al))
  exact bodyPost_ret (jO rfl _ rfl bh.out) rfl cv.out
 exact hgo
theorem Pd (L:Nat):L<=64->Ns L:=by
 induction L using Nat.strongRecOn with
 | ind L ih=>exact λhL=>VP hL λm hm=>ih m hm (by omega)
theorem AA (M:Mp) (p:aJ) (t:T) (k:aL) (hk:k.length=32) (w:World) (hi:Inv M w) (ht:IsT M p t) (hg:Tr.Good t 64) :
  Calls prog 14 #[tv p,.agg (kc k)] w λe w'=>e = .returned (.bool (Tr.get t (path k)).isSome)/\Below w.heap.size w w':=by
 obtain ⟨w1,hw1⟩:=au ((w.alloc (.cells #[.pointer p] 31)).alloc (.cells (kc k) 25))
 have hb1:Below w.heap.size w w1:=by rw [hw1]; exact al2 _ _ _
 have af:Rg.Own w1 w.heap.size #[.pointer p] 31:=by rw [hw1]; exact (Rg.Own.new _ _ _).below (al1 _ _)
 have hK1:Rg.Own w1 (w.heap.size+1) (kc k) 25:=by
  have:=Rg.Own.new (w.alloc (.cells #[.pointer p] 31)) (kc k) 25;rw [hw1];simpa using this
 have k9:=hid (wL M p t k hk w1 (hi.below hb1) ht hg);have bd:=hid af;have cf:=hid hK1.2;have HB1:=hid hb1;have HW1:=hid hw1;have cY:=hid hk;clear hb1 af hK1 hw1 hi ht hg hk;have hgo:Calls prog 14 #[.agg #[.pointer p],.agg (kc k)] w λe w'=>e = .returned (.bool (Tr.get t (path k)).isSome)/\Below w.heap.size w w':=by
  obtain ⟨v,hv⟩:=av (Tr.get t (path k))
  rw [hv] at k9 ⊢;obtain ⟨C,hC⟩:=av (kc k)
  have CL:=hid hC;rw [hC] at k9 HW1 ⊢;clear hv hC;go_enter func14,ntmps14;go_wp2_with (first
   | (rw [<-HW1.out]; refine ay (aT (Tm.aU (j:=0) bd.out rfl) ⟨_,rfl,rfl⟩) ?_)
   | (refine ay (aT (Tm.aU (j:=0) bd.out rfl) ⟨_,rfl,rfl⟩) ?_)
   | (refine Rg.run rfl (.agg C) _ (by rw [<-CL.out]; exact dL cY.out cf.out ⟨_,rfl,rfl⟩) ?_))
  refine k9.out.mono ?_;rintro e w2 ⟨rfl,hb2⟩;have HB2:=hid (bst HB1.out hb2);clear hb2 k9;rcases v with _ | _ | v;all_goals
   dsimp only [GI];go_wp2;go_ret;exact ⟨rfl,HB2.out⟩
 exact hgo
theorem UR (M:Mp) (p:aJ) (t:T) (g:Tr.Good t 64) (f:Fine t) (hf:Tr.Full t) (a:aJ) (n c:Nat) (l:List (aL)) (hn:n<=1000) (w:World) (hK:Ew.GQ w a n c l) (hi:Inv M w) (ht:IsT M p t) (hT:Tab w) :
  Calls prog 12 #[tv p,.slice a n c] w (wY M w (jc (l.map eY) t)):=by
 obtain ⟨w1,hw1⟩:=au ((w.alloc (.cells #[.pointer p] 31)).alloc (.cells #[.pointer none] 31))
 have hb1:Below w.heap.size w w1:=by rw [hw1]; exact al2 _ _ _
 have af:Rg.Own w1 w.heap.size #[.pointer p] 31:=by rw [hw1]; exact (Rg.Own.new _ _ _).below (al1 _ _)
 have hX1:Rg.Own w1 (w.heap.size+1) #[.pointer none] 31:=by
  have:=Rg.Own.new (w.alloc (.cells #[.pointer p] 31)) #[.pointer none] 31;rw [hw1];simpa using this
 have ov:=hid hK;have qv:=hid hK.len;have bd:=hid af;have bc:=hid hX1;have HB1:=hid hb1;have HW1:=hid hw1;have HI:=hid hi;have HT:=hid hT;have uu:=hid ht;have UT:Hid (∀ y∈l.map eY,y.length<=64):=hid (λy hy=>by
  obtain ⟨x,hx,rfl⟩:=List.mem_map.1 hy;rw [qD x (hK.keys x hx)];exact aF)
 have pL:=hid (λa c wx hw=>Pd 64 aF t g f hf (l.map eY) UT.out M wx p a l.length c (by rw [hK.len]; exact hn) hw);obtain ⟨gX,bo⟩:=av (w.heap.size+1)
 have bu:Hid (gX=w.heap.size+1):=hid bo.symm;rw [bo] at bc;clear hb1 af hX1 hw1 hi hT ht hK g f hf bo;obtain ⟨t',ht'⟩:=av (jc (l.map eY) t)
 rw [ht'] at pL ⊢;clear ht';have hgo:Calls prog 12 #[.agg #[.pointer p],.slice a n c] w (wY M w t'):=by
  go_enter func12,ntmps12;go_wp2_with (first
   | (refine ay (aW _ _ _ gX (by rw [bu.out]; simp) rfl) ?_; rw [<-HW1.out]))
  go_loopw [5,10] (λv0 i wr=>∃ (j:Nat) (v:Value),v=v0/\j<=n/\i = .int .i64 j/\Hid (Ew.nT w1.heap.size wr v ((l.map eY).take j))/\Hid (Below w1.heap.size w1 wr)) (λ_ i _=>n-(intOf i).toNat)
  case atStart=>exact ⟨0,_,rfl,Nat.zero_le _,rfl,hid (Ew.nT.nil _ _),hid aG⟩
  case round =>
   obtain ⟨j,v,rfl,hj,rfl,HR,cD⟩:=hrel;by_cases hlt:j<n
   .have i1:(j:Int)<(n:Int):=by omega
    obtain ⟨b,off,rfl,hblt,hrg,hkl⟩:=ov.out.at' j hlt;have hjl:j<l.length:=by rw [qv.out]; exact hlt
    have ly:Hid ((l.map eY).take (j+1)=(l.map eY).take j++[eY (l.getD j [])]):=hid (by
     rw [List.take_succ_eq_append_getElem (by rw [List.length_map]; exact hjl)];simp [List.getD,hjl])
    have ut:Hid (((l.map eY).take j).length<=1000000):=hid (by rw [List.length_take]; omega);have hbr:=bst HB1.out cD.out;have NX:Hid (wr.rangeAt b (off+j*32) ((l.getD j []).map λb=>Value.int .u8 b.toNat)):=hid (λi v hv=>aV hbr (hrg i v hv));obtain ⟨k,hk⟩:=av (l.getD j [])
    rw [hk] at ly hkl NX;have cY:=hid hkl;have z7:Rg.Own (wr.alloc (.cells (kc zk) 25)) wr.heap.size (kc zk) 25:=Rg.Own.new _ _ _;have mS:=hid z7;have ZK:=hid (mg k);clear hblt hrg hkl hjl hbr hk z7;go_wp2_with (first
     | (refine ay (eH cY.out NX.out ⟨_,rfl,rfl⟩) ?_)
     | (refine ay (sI _ _ _ wr.heap.size rfl rfl) ?_)
     | (refine Cx mS.out rfl k cY.out rfl _ _ rfl rfl rfl rfl ?_; intro w3 hO3 hu3; have am:=hid hO3.2; have HB3:Hid (Below wr.heap.size wr w3):=hid (hu3.below (al1 _ _) aF); clear hO3 hu3)
     | (refine ay (dL cY.out am.out ⟨_,rfl,rfl⟩) ?_))
    refine (TM k cY.out w3).mono ?_;rintro e w4 ⟨⟨ra,rm,rc⟩,rfl,hr4,hb4⟩;have hA:=al1 w4 (.cells #[Ew.wv (ra,rm,rc)] 42);have fh:Below wr.heap.size wr w4:=bst HB3.out hb4;have pB:=hid ((HR.out.below fh).below hA);have li:Hid (BsP (λz=>v.ownBlock≠some z) (w4.alloc (.cells #[Ew.wv (ra,rm,rc)] 42)) (ra,rm,rc) (eY k)):=hid (by
     have h1:=hr4.kept (w':=w4.alloc (.cells #[Ew.wv (ra,rm,rc)] 42)) hA.size λz _ hz=>hA.block z hz;exact h1.to λz _ hz e=>by
      have h2:=(HR.out.lt z e).2;have h3:=HB3.out.size;omega)
    have cW:Hid (w1.heap.size<=(w4.alloc (.cells #[Ew.wv (ra,rm,rc)] 42)).heap.size):=hid (Nat.le_trans (Nat.le_trans cD.out.size fh.size) hA.size);have UV:Hid (Below w1.heap.size w1 (w4.alloc (.cells #[Ew.wv (ra,rm,rc)] 42))):=hid (bst (bst cD.out fh) hA);clear hA fh hr4 hb4 HB3 am;go_wp2_with (first
     | (refine ay (Ew.Im (h:=(ra,rm,rc)) w4.heap.size rfl ⟨_,rfl,rfl⟩) ?_)
     | (refine Ew.Ae pB.out (Rg.Own.new w4 _ _) li.out ut.out cW.out rfl ⟨_,_,rfl,rfl,rfl⟩ ?_))
    intro v' w5 eo hg5 _;have ew:=hid eo;have ag:Hid (Below w1.heap.size w1 w5):=hid (UV.out.grown hg5 cW.out (λg hg=>(pB.out.lt g hg).1));clear eo hg5;go_wp2;go_roundw
    case rel=>exact ⟨j+1,_,rfl,by omega,by go_num,by rw [ly.out]; exact ew,ag⟩
    case measure=>simp [intOf]; omega
   .obtain rfl:j=n:=by omega
    have hR:=HR.out;rw [List.take_of_length_le (by rw [List.length_map,qv.out]; exact aF)] at hR;have hlo:=hR.lt;obtain ⟨a2,c2,rfl,hW⟩:=hR.done;have hbr:=bst HB1.out cD.out;rw [List.length_map] at hW hlo;have O0:=hid (pL.out a2 c2 wr hW (λad e=>HI.out.free (by subst e; exact Nat.le_trans HB1.out.size (hlo ad.block rfl).1)) (HI.out.below hbr) (HT.out.below hbr HT.out.pos) uu.out);have O4:=hid (bc.out.below cD.out);have HOr:=hid (bd.out.below cD.out);have mr:=hid hbr;rw [List.length_map];clear hR hlo hW hbr HR pL bc bd;go_wp2_with (first
     | (refine ay (aT (Tm.aU (j:=0) HOr.out rfl) ⟨_,rfl,rfl⟩) ?_))
    refine O0.out.mono ?_;rintro e w5 ⟨q,M5,rfl,rf,f5,i5,t5,_⟩;have lb:Bx M5 w5 gX #[.pointer none] 31:=Bx.fn ⟨O4.out,HI.out.free (by rw [bu.out]; exact Nat.le_succ _),cZ _⟩ (HI.out.below mr.out) f5;have cT:=hid lb;obtain ⟨cc,hcc⟩:=av (fJ (bX t'))
    rw [hcc];have ae:Hid (∀ w9,Rg.Upd w5 gX w9->wY M w t' (.returned (tv q)) w9):=hid (λw9 hu=>⟨q,M5,rfl,rf,Fk.upd ((Fnw.of (Fr.below M mr.out)).trans f5 λ_ h=>h.elim) hu (by rw [bu.out]; exact Nat.le_succ _),i5.upd hu lb.n,lC t5 hu (by have:=bu.out; have:=HT.out.pos; omega)⟩);clear rf f5 i5 t5 lb hcc O0 O4 HOr;go_wp2_with (first
     | (refine ay (yU ⟨_,rfl,rfl⟩) ?_)
     | (refine aX cT.out.o (by simp) q rfl _ _ rfl rfl rfl ?_; intro w9 ai al; have bh:Hid (Rg.Own w9 gX #[.pointer q] 31):=hid ai; have cv:=hid (ae.out w9 al); clear ai al))
    exact bodyPost_ret (dW (q:=4) rfl _ rfl bh.out) rfl cv.out
 exact hgo
def mD:T->Bool
 | .stub _=>true
 | _=>false
def Yt (M:Mp) (w:World) (v:Value) (e:Ending) (w':World):Prop:=e = .returned v/\Fr M M w w'/\Inv M w'/\Tab w'
theorem tC (M:Mp) (p:aJ) (t:T) (L:Nat) (g:Tr.Good t L) (hL:L<=64) (f:Fine t) (w:World) (hi:Inv M w) (ht:IsT M p t) (hT:Tab w) :
  Calls prog 27 #[tv p] w (Yt M w (.bool (mD t))):=by
 obtain ⟨w1,hw1⟩:=au (w.alloc (.cells #[.pointer p] 31))
 have af:Rg.Own w1 w.heap.size #[.pointer p] 31:=by rw [hw1]; exact Rg.Own.new _ _ _
 have hb1:Below w.heap.size w w1:=by rw [hw1]; exact al1 _ _
 have gi:=hid (tu M p t L g hL f w1 (hi.below hb1) ht (hT.below hb1 hT.pos));have bd:Hid (Bx M w1 w.heap.size #[.pointer p] 31):=hid ⟨af,hi.free aF,cZ _⟩;have HB1:=hid hb1;have HI:=hid hi;have HW1:=hid hw1;have cJ:Hid ((bH t).ks.length=16):=hid (dh t);have hkd:(bH t).kd=0/\(p=none/\mD t=false\/p.isNone=false/\mD t=true)\/(bH t).kd≠0/\mD t=false:=by
  cases t with
  | nil=>exact .inl ⟨rfl,.inl ⟨ht.tV.2 rfl,rfl⟩⟩
  | stub r =>
   refine .inl ⟨rfl,.inr ⟨?_,rfl⟩⟩;cases p with
   | none=>exact absurd (show T.stub r = .nil from ht) (by intro e; cases e)
   | some a=>rfl
  | leaf p v=>exact .inr ⟨by show (1:Int)≠0; decide,rfl⟩
  | ext q s=>exact .inr ⟨by show (2:Int)≠0; decide,rfl⟩
  | br ks=>exact .inr ⟨by show (3:Int)≠0; decide,rfl⟩
 obtain ⟨N,hN⟩:=av (bH t)
 have HN:=hid hN;rw [hN] at cJ hkd;obtain ⟨b,hb⟩:=av (mD t)
 rw [hb] at hkd ⊢;clear af hb1 hi g f hN ht hT hw1 hb;have hgo:Calls prog 27 #[.agg #[.pointer p]] w (Yt M w (.bool b)):=by
  go_enter func27,ntmps27;go_wp2_with (first
   | (rw [<-HW1.out]; refine ay (aT (Tm.aU (j:=0) bd.out.o rfl) ⟨_,rfl,rfl⟩) ?_)
   | (refine ay (aT (Tm.aU (j:=0) bd.out.o rfl) ⟨_,rfl,rfl⟩) ?_))
  refine gi.out.mono ?_;rintro e w2 ⟨na,nn,nc,ka,kc,ps,rfl,_,_,_,_,_,f2,i2,t2⟩;rw [HN.out];have d8:=hid (bd.out.frm (HI.out.below HB1.out) f2);have eC:Hid (Fr M M w w2/\Inv M w2/\Tab w2):=hid ⟨(Fr.below M HB1.out).trans HI.out f2,i2,t2⟩;have lL:dJ (w2.alloc (.cells (ndC nd0 none 0 0) 56)) w2.heap.size nd0 none 0 0:=Rg.Own.new _ _ _;have gm:=hid lL;obtain ⟨w3,hw3⟩:=au ((w2.alloc (.cells (ndC nd0 none 0 0) 56)).setRow w2.heap.size (ndC N na nn nc))
  have hb3:Below w2.heap.size w2 w3:=by rw [hw3]; exact bS (al1 _ _) aF _
  have hO3:dJ w3 w2.heap.size N na nn nc:=by rw [hw3]; exact dz lL
  have c0:=(bW hO3).1;have am:=hid (d8.out.below hb3);have HW3:=hid hw3;have ae:Hid (∀ w9,Below w3.heap.size w3 w9->Yt M w (.bool b) (.returned (.bool b)) w9):=hid (λw9 h9=>by
   have hb:=bst hb3 h9;exact ⟨rfl,eC.out.1.trans HI.out (Fr.below M hb),eC.out.2.1.below hb,eC.out.2.2.below hb eC.out.2.2.pos⟩)
  clear f2 i2 t2 lL hb3 hO3 hw3 gi bd d8;rcases hkd with ⟨h0,hp⟩ | ⟨h0,rfl⟩
  .rw [h0] at c0;rcases hp with ⟨rfl,rfl⟩ | ⟨hp,rfl⟩
   .have HE:=hid (iC none w3);clear h0;go_wp2_with (first
     | (refine ay (aY _ _ _ w2.heap.size rfl rfl) ?_)
     | (refine bD gm.out rfl N na nn nc cJ.out rfl _ _ rfl rfl rfl rfl ?_; rw [<-HW3.out])
     | (refine ay (aT (Tm.aU (j:=0) am.out.o rfl) ⟨_,rfl,rfl⟩) ?_)
     | (refine Rg.runW (by rfl) _ _ (aT (Tm.aU (j:=0) am.out.o rfl) ⟨_,rfl,rfl⟩) ?_))
    refine HE.out.mono ?_;rintro e w4 ⟨rfl,hb4⟩;go_wp2;go_ret;exact ae.out _ hb4
   .have HE:=hid (iC p w3);rw [hp] at HE;clear h0 hp;go_wp2_with (first
     | (refine ay (aY _ _ _ w2.heap.size rfl rfl) ?_)
     | (refine bD gm.out rfl N na nn nc cJ.out rfl _ _ rfl rfl rfl rfl ?_; rw [<-HW3.out])
     | (refine ay (aT (Tm.aU (j:=0) am.out.o rfl) ⟨_,rfl,rfl⟩) ?_)
     | (refine Rg.runW (by rfl) _ _ (aT (Tm.aU (j:=0) am.out.o rfl) ⟨_,rfl,rfl⟩) ?_))
    refine HE.out.mono ?_;rintro e w4 ⟨rfl,hb4⟩;go_wp2;go_ret;exact ae.out _ hb4
  .have k1:(N.kd==0)=false:=by rw [beq_eq_false_iff_ne]; exact h0
   have k2:decide (N.kd=0)=false:=decide_eq_false h0;clear h0;go_wp2_with (first
    | (refine ay (aY _ _ _ w2.heap.size rfl rfl) ?_)
    | (refine bD gm.out rfl N na nn nc cJ.out rfl _ _ rfl rfl rfl rfl ?_; rw [<-HW3.out])
    | (refine ay (aT (Tm.aU (j:=0) am.out.o rfl) ⟨_,rfl,rfl⟩) ?_))
   go_ret;exact ae.out _ aG
 exact hgo
def Lg (bt bm ba gR gP gG:Nat) (R:aK) (pk:aJ):List (Nat × Value × TypeId) :=
 [(bt,.map (some bm),139),(ba,.func (.func 48) #[] #[.pointer (some ⟨gR,0,none⟩),.pointer (some ⟨gP,0,none⟩),.pointer (some ⟨gG,0,none⟩)],109),
  (gG,.func (.func 81) #[] #[.pointer (some ⟨bt,0,none⟩),.pointer (some ⟨ba,0,none⟩)],109),(gR,.string R,9),(gP,.pointer pk,31)]
theorem ZC (bt bm ba gR gP gG:Nat) (R:aK) (pk:aJ):(gG,Value.func (.func 81) #[] #[.pointer (some ⟨bt,0,none⟩),.pointer (some ⟨ba,0,none⟩)],109)∈Lg bt bm ba gR gP gG R pk:=List.mem_cons_of_mem _ (List.mem_cons_of_mem _ List.mem_cons_self)
theorem ZB (bt bm ba gR gP gG:Nat) (R:aK) (pk:aJ):(gR,Value.string R,9)∈Lg bt bm ba gR gP gG R pk:=List.mem_cons_of_mem _ (List.mem_cons_of_mem _ (List.mem_cons_of_mem _ List.mem_cons_self))
theorem Zw (bt bm ba gR gP gG:Nat) (R:aK) (pk:aJ):(gP,Value.pointer pk,31)∈Lg bt bm ba gR gP gG R pk:=List.mem_cons_of_mem _ (List.mem_cons_of_mem _ (List.mem_cons_of_mem _ (List.mem_cons_of_mem _ List.mem_cons_self)))
def JG (J:Mp->World->Prop) (pk:aJ) (k:T) (M:Mp) (w:World):Prop:=J M w/\IsT M pk k
theorem XJ {J:Mp->World->Prop} (h:JOk B K J) (pk:aJ) (k:T):JOk B K (JG J pk k) :=
 ⟨λM M' w w' hj hi hs hk hm hf hx=>⟨h.fr M M' w w' hj.1 hi hs hk hm hf hx,hj.2.mono hm⟩,λM w hj hi=>h.kc M w hj.1 hi,h.lt,λM w hj=>h.sz M w hj.1⟩
abbrev MG (B bt bm ba gR gP gG:Nat) (R:aK) (pk:aJ) (k:T):Mp->World->Prop:=MJ B (Lg bt bm ba gR gP gG R pk) bm (RT (bO R k) (bZ R))
theorem GD {B bt bm ba gR gP gG:Nat} {R:aK} {pk:aJ} {k:T} (dm:∀ x∈Lg bt bm ba gR gP gG R pk,x.1<B) (dj:bm<B) (st:Pa) (s:T)
  (fm:∀ (M:Mp) (w:World) (p:aJ),MG B bt bm ba gR gP gG R pk k M w->IsT M pk k->Inv M w->Tab w->IsT M p s->Calls prog 81 #[tv p,.pointer (some ⟨bt,0,none⟩),.pointer (some ⟨ba,0,none⟩)] w (iw (λk=>k=bm) (MG B bt bm ba gR gP gG R pk k) M w (bO R k s) (bZ R s))) :
  EG (λk=>k=bm) (JG (MG B bt bm ba gR gP gG R pk k) pk k) 50 #[.pointer (some ⟨gG,0,none⟩)] st s (bO R k s) (bZ R s):=by
 have hJ:JOk B (λk=>k=bm) (JG (MG B bt bm ba gR gP gG R pk k) pk k):=XJ (Eo (FB (bO R k) (bZ R)) dm dj) pk k;intro M w a m c p hj hi hT hB ht;show Calls prog 50 #[.slice a m c,.agg #[.pointer p],.pointer (some ⟨gG,0,none⟩)] w _;obtain ⟨w1,hw1⟩:=au ((w.alloc (.cells #[.pointer p] 31)).alloc (.cells (chA none 0) 81))
 have hb1:Below w.heap.size w w1:=by rw [hw1]; exact al2 _ _ _
 have af:Rg.Own w1 w.heap.size #[.pointer p] 31:=by rw [hw1]; exact (Rg.Own.new _ _ _).below (al1 _ _)
 have hX1:Rg.Own w1 (w.heap.size+1) (chA none 0) 81:=by
  have:=Rg.Own.new (w.alloc (.cells #[.pointer p] 31)) (chA none 0) 81;rw [hw1];simpa using this
 have hS1:=(Sg.start hJ hi hT hj).below hJ hb1;have HC:=hid (fm M w1 p hS1.j.1 hS1.j.2 hS1.i hS1.t ht);have nm:Hid (w1.cell? ⟨gG,0,none⟩=some (.func (.func 81) #[] #[.pointer (some ⟨bt,0,none⟩),.pointer (some ⟨ba,0,none⟩)])):=hid (Tm.aU (j:=0) (hS1.j.1.bx _ (ZC bt bm ba gR gP gG R pk)).o rfl);have bc:Hid (Bx M w1 (w.heap.size+1) (chA none 0) 81):=hid ⟨hX1,hi.free (Nat.le_succ _),ku _ _⟩;have bd:=hid af;have bj:=hid hS1;have HJ:=hid hJ;have HW1:=hid hw1
 have aw:Hid (B<=w.heap.size/\0<w.heap.size/\bm<w.heap.size):=hid ⟨hJ.sz M w hj,hT.pos,by have:=hJ.sz M w hj; omega⟩;obtain ⟨gX,bo⟩:=av (w.heap.size+1)
 have bu:Hid (gX=w.heap.size+1):=hid bo.symm;rw [bo] at bc;obtain ⟨J,hJe⟩:=av (MG B bt bm ba gR gP gG R pk k)
 rw [hJe] at HC bj HJ ⊢;obtain ⟨t',ht'⟩:=av (bO R k s)
 obtain ⟨n,hn⟩:=av (bZ R s)
 obtain ⟨cc,hcc⟩:=av (fJ n)
 have eN:=hid hcc;rw [ht',hn] at HC ⊢;clear hb1 af hX1 hS1 hi hT hj ht hB hJ fm hw1 hJe ht' hn hcc bo dm dj;go_enter func50,ntmps50;go_wp2_with (first
  | (refine ay (bE _ _ _ gX (by rw [bu.out]; simp) rfl) ?_; rw [<-HW1.out])
  | (refine ay (XI nm.out ⟨_,rfl,rfl⟩) ?_)
  | (refine ay (aT (Tm.aU (j:=0) bd.out rfl) ⟨_,rfl,rfl⟩) ?_))
 refine HC.out.mono ?_;rintro e w2 ⟨q,M2,rfl,ht2,f2,i2,t2,j2⟩;rw [eN.out];have HS2:=hid (bj.out.call f2 i2 t2 ⟨j2,bj.out.j.2.mono f2.mono⟩);have cm:=hid (bc.out.fk bj.out.i f2 (by have:=aw.out; have:=bu.out; omega));have ae:Hid (∀ w9,Rg.Upd w2 gX w9->iw (λk=>k=bm) (JG J pk k) M w t' n (.returned (.agg (chA q cc))) w9):=hid (λw9 hu=>by
  rw [<-eN.out];exact (HS2.out.upd HJ.out aw.out.1 aw.out.2.1 hu (by rw [bu.out]; exact Nat.le_succ _) cm.out.n).chg n ht2)
 clear ht2 f2 i2 t2 j2 HC bc bd nm;go_wp2_with (first
  | (refine bB cm.out.o rfl q cc rfl _ _ rfl rfl rfl rfl ?_; intro w9 ai al; have bh:Hid (Rg.Own w9 gX (chA q cc) 81):=hid ai; have cv:=hid (ae.out w9 al); clear ai al))
 exact bodyPost_ret (jO rfl _ rfl bh.out) rfl cv.out
structure Gr (B:Nat) (K:Nat->Prop) (J:Mp->World->Prop) (pk:aJ) (k:T) (M:Mp) (w0:World) (gX gT:Nat) (p:aJ) (w:World):Prop where
 s:Sg K (JG J pk k) M w0 M w
 x:Bx M w gX (chA none 0) 81
 o:Bx M w gT #[.pointer p] 31
theorem Gr.fr {B:Nat} {K:Nat->Prop} {J:Mp->World->Prop} {pk:aJ} {k:T} {M:Mp} {w0 w w':World} {gX gT:Nat} {p:aJ} (h:Gr B K J pk k M w0 gX gT p w) (hJ:JOk B K (JG J pk k)) (f:Fr M M w w') (i:Inv M w') (t:Tab w'):Gr B K J pk k M w0 gX gT p w':=⟨h.s.fr hJ f i t,h.x.frm h.s.i f,h.o.frm h.s.i f⟩
def zo (gT gR:Nat) (p:aJ) (R:aK) (w:World):Prop:=Rg.Own w gT #[.pointer p] 31/\Rg.Own w gR #[.string R] 9
theorem LC {B bt bm ba gR gP gG:Nat} {R:aK} {pk:aJ} {k:T} (dm:∀ x∈Lg bt bm ba gR gP gG R pk,x.1<B) (dj:bm<B) (hR:ref k=R) (hk:k ≠ .nil) (el:Fine k) (M:Mp) (p:aJ) (x:T) (L:Nat) (g:Tr.Good x L) (hL:L<=64) (f:Fine x) (hfit:Fits R k x L)
  (fm:∀ s,s∈aZ x->∀ (M:Mp) (w:World) (p:aJ),MG B bt bm ba gR gP gG R pk k M w->IsT M pk k->Inv M w->Tab w->IsT M p s->Calls prog 81 #[tv p,.pointer (some ⟨bt,0,none⟩),.pointer (some ⟨ba,0,none⟩)] w (iw (λk=>k=bm) (MG B bt bm ba gR gP gG R pk k) M w (bO R k s) (bZ R s)))
  (w:World) (hi:Inv M w) (ht:IsT M p x) (hT:Tab w) (hj:MG B bt bm ba gR gP gG R pk k M w) (hpk:IsT M pk k) :
  Calls prog 48 #[tv p,.pointer (some ⟨gR,0,none⟩),.pointer (some ⟨gP,0,none⟩),.pointer (some ⟨gG,0,none⟩)] w (iw (λk=>k=bm) (MG B bt bm ba gR gP gG R pk k) M w (bO R k x) (bZ R x)):=by
 have hJ:JOk B (λk=>k=bm) (JG (MG B bt bm ba gR gP gG R pk k) pk k):=XJ (Eo (FB (bO R k) (bZ R)) dm dj) pk k;obtain ⟨w1,hw1⟩:=au ((w.alloc (.cells #[.pointer p] 31)).alloc (.cells (chA none 0) 81))
 have hb1:Below w.heap.size w w1:=by rw [hw1]; exact al2 _ _ _
 have af:Rg.Own w1 w.heap.size #[.pointer p] 31:=by rw [hw1]; exact (Rg.Own.new _ _ _).below (al1 _ _)
 have hX1:Rg.Own w1 (w.heap.size+1) (chA none 0) 81:=by
  have:=Rg.Own.new (w.alloc (.cells #[.pointer p] 31)) (chA none 0) 81;rw [hw1];simpa using this
 have hS1:=(Sg.start hJ hi hT ⟨hj,hpk⟩).below hJ hb1;have ox:=hid (λ(w2:World) (h2:Sg (λk=>k=bm) (JG (MG B bt bm ba gR gP gG R pk k) pk k) M w M w2)=>yK hJ 50 #[.pointer (some ⟨gG,0,none⟩)] (enters_of func50 (by kernel_rfl) rfl) (λ_ s=>bO R k s) (λ_ s=>bZ R s) M p x L g hL f (Uz hR hk el g hL f hfit) (λj hjl=>GD dm dj _ _ (fm _ (oO hjl))) w2 h2.i ht h2.t h2.j);have dc:=hid (λ(wx:World) (hi:Inv M wx) (hT:Tab wx)=>sD M p x L g hL f wx hi ht hT)
 have np:=hid (λ(wx:World) (hi:Inv M wx) (hT:Tab wx)=>tC M p x L g hL f wx hi ht hT);obtain ⟨gT,ce⟩:=av w.heap.size
 obtain ⟨gX,bo⟩:=av (w.heap.size+1)
 have HH:Hid (Gr B (λk=>k=bm) (MG B bt bm ba gR gP gG R pk k) pk k M w gX gT p w1):=hid ⟨hS1,by rw [<-bo]; exact ⟨hX1,hi.free (Nat.le_succ _),ku _ _⟩,by rw [<-ce]; exact ⟨af,hi.free aF,cZ _⟩⟩;have fp:Hid (∀ wz,Gr B (λk=>k=bm) (MG B bt bm ba gR gP gG R pk k) pk k M w gX gT p wz->zo gT gR p R wz):=hid (λwz h=>⟨h.o.o,(h.s.j.1.bx _ (ZB bt bm ba gR gP gG R pk)).o⟩)
 have cU:Hid (∀ wz,Gr B (λk=>k=bm) (MG B bt bm ba gR gP gG R pk k) pk k M w gX gT p wz->wz.cell? ⟨gP,0,none⟩=some (.pointer pk)):=hid (λwz h=>Tm.aU (j:=0) (h.s.j.1.bx _ (Zw bt bm ba gR gP gG R pk)).o rfl);have HJ:=hid hJ;have HW1:=hid hw1;have aw:Hid (B<=w.heap.size/\0<w.heap.size/\bm<w.heap.size):=hid ⟨hj.s,hT.pos,by have:=hj.s; omega⟩;have bu:Hid (gX=w.heap.size+1/\w.heap.size=gT):=hid ⟨bo.symm,ce⟩;have cS:=hid (str_eq (ref x) R)
 have fw:Hid (mD x=true/\ref x=R->bO R k x=k/\bZ R x=1):=hid (λh=>by
  cases x with
  | stub r =>
   have e:r=R:=h.2;exact ⟨if_pos e,if_pos e⟩
  | _=>exact absurd h.1 (by intro e; cases e))
 have da:Hid (¬ (mD x=true/\ref x=R)->rO (λ_ s=>bO R k s) x=bO R k x/\jN (λ_ s=>bZ R s) x (aZ x).length=bZ R x):=hid (λh=>by
  cases x with
  | stub r =>
   have e:r≠R:=λe=>h ⟨rfl,e⟩;exact ⟨(if_neg e).symm,(if_neg e).symm⟩
  | nil=>exact tL λe=>e
  | leaf p v=>exact tL λe=>e
  | ext q s=>exact tL λe=>e
  | br ks=>exact tL λe=>e)
 obtain ⟨J,hJe⟩:=av (MG B bt bm ba gR gP gG R pk k)
 rw [hJe] at ox HH fp cU HJ ⊢;obtain ⟨t',ht'⟩:=av (bO R k x)
 obtain ⟨n,hn⟩:=av (bZ R x)
 obtain ⟨cc,hcc⟩:=av (fJ n)
 have eN:=hid hcc;rw [ht',hn] at fw da ⊢;obtain ⟨r,hr⟩:=av (ref x)
 rw [hr] at dc cS fw da;obtain ⟨b,hb⟩:=av (mD x)
 rw [hb] at np fw da;clear hb1 af hX1 hS1 hi hT hj ht hJ fm hw1 hJe ht' hn hcc bo ce dm dj hr hb g f hfit el hR hk hpk;by_cases hq:r=R
 .have he:(r.toList==R.toList)=true:=by rw [cS.out]; exact aI hq
  have HQ:=hid hq;clear hq;cases b with
  | true =>
   go_enter func48,ntmps48;go_wp2_with (first
    | (refine ay (bE _ _ _ gX (by rw [bu.out.1]; simp) rfl) ?_; rw [<-HW1.out,bu.out.2]))
   have H:Hid (Gr B (λk=>k=bm) J pk k M w gX gT p w1.drew):=hid (by
    have hb:Below w1.heap.size w1 w1.drew:=below_drewN aG 1;exact HH.out.fr HJ.out (Fr.below M hb) (HH.out.s.i.below hb) (HH.out.s.t.below hb HH.out.s.t.pos))
   refine aB (S:=zo gT gR p R) (fp.out _ H.out) λhld=>?_;refine ah 0 ?_ (hy:=by intro wz hSw; (refine aT (Tm.aU (j:=0) (show zo gT gR p R wz from hSw).1 rfl) ?_; exact ⟨_,rfl,rfl⟩));try simp only [Act.put,ak]
   refine ah 2 ?_ (hy:=by intro wz hSw; (refine Tg (v:=.string R) (Tm.aU (j:=0) (show zo gT gR p R wz from hSw).2 rfl) ?_; exact ⟨_,rfl,rfl⟩));try simp only [Act.put,ak]
   refine aj 1 λK hK=>?_;go_simp;go_at_call 28
   (with_reducible refine (dc.out _ H.out.s.i H.out.s.t).mono ?_)
   rintro e du ⟨rfl,fx,ix,tx⟩;replace H:=hid (H.out.fr HJ.out fx ix tx);refine hK.out _ _ (fp.out _ H.out) λhld=>?_;clear hK K fx ix tx;try simp only [Act.put,ak]
   refine ah 3 ?_ (hy:=by intro wz hSw; (have q2:=he; go_simp <;> with_reducible rfl));try simp only [Act.put,ak]
   refine ah 4 ?_;try simp only [Act.put,ak]
   refine ah 5 ?_ (hy:=by intro wz hSw; (refine aT (Tm.aU (j:=0) (show zo gT gR p R wz from hSw).1 rfl) ?_; exact ⟨_,rfl,rfl⟩));try simp only [Act.put,ak]
   refine aj 6 λK hK=>?_;go_simp;go_at_call 27
   (with_reducible refine (np.out _ H.out.s.i H.out.s.t).mono ?_)
   rintro e wv1 ⟨rfl,fx,ix,tx⟩;replace H:=hid (H.out.fr HJ.out fx ix tx);refine hK.out _ _ (fp.out _ H.out) λhld=>?_;clear hK K fx ix tx;try simp only [Act.put,ak]
   refine ah 7 ?_;try simp only [Act.put,ak]
   refine aA ?_;clear hld;obtain ⟨wa,iz⟩:=au wv1
   subst iz;have dv:=hid (cU.out _ H.out);have yo:=hid H.out.x;have ae:Hid (∀ w9,Rg.Upd wa gX w9->iw (λk=>k=bm) J M w t' n (.returned (.agg (chA pk 1))) w9):=hid (λw9 hu=>by
    obtain ⟨e1,e2⟩:=fw.out ⟨by simp,HQ.out⟩;rw [e1,e2];obtain ⟨q,M',h1,h2,h3,h4,h5,h6⟩:=(H.out.s.upd HJ.out aw.out.1 aw.out.2.1 hu (by rw [bu.out.1]; exact Nat.le_succ _) H.out.x.n).chg 1 H.out.s.j.2;exact ⟨q,M',h1,h2,h3,h4,h5,h6.1⟩)
   clear HH H ox he;go_wp2_with (first
    | (refine ay (aT dv.out ⟨_,rfl,rfl⟩) ?_)
    | (refine ay (bK (zY pk 1) ⟨_,rfl,rfl⟩) ?_)
    | (refine bB yo.out.o rfl pk 1 rfl _ _ rfl rfl rfl rfl ?_; intro w9 ai al; have bh:Hid (Rg.Own w9 gX (chA pk 1) 81):=hid ai; have cv:=hid (ae.out w9 al); clear ai al))
   exact bodyPost_ret (jO rfl _ rfl bh.out) rfl cv.out
  | false =>
   go_enter func48,ntmps48;go_wp2_with (first
    | (refine ay (bE _ _ _ gX (by rw [bu.out.1]; simp) rfl) ?_; rw [<-HW1.out,bu.out.2]))
   have H:Hid (Gr B (λk=>k=bm) J pk k M w gX gT p w1.drew):=hid (by
    have hb:Below w1.heap.size w1 w1.drew:=below_drewN aG 1;exact HH.out.fr HJ.out (Fr.below M hb) (HH.out.s.i.below hb) (HH.out.s.t.below hb HH.out.s.t.pos))
   refine aB (S:=zo gT gR p R) (fp.out _ H.out) λhld=>?_;refine ah 0 ?_ (hy:=by intro wz hSw; (refine aT (Tm.aU (j:=0) (show zo gT gR p R wz from hSw).1 rfl) ?_; exact ⟨_,rfl,rfl⟩));try simp only [Act.put,ak]
   refine ah 2 ?_ (hy:=by intro wz hSw; (refine Tg (v:=.string R) (Tm.aU (j:=0) (show zo gT gR p R wz from hSw).2 rfl) ?_; exact ⟨_,rfl,rfl⟩));try simp only [Act.put,ak]
   refine aj 1 λK hK=>?_;go_simp;go_at_call 28
   (with_reducible refine (dc.out _ H.out.s.i H.out.s.t).mono ?_)
   rintro e du ⟨rfl,fx,ix,tx⟩;replace H:=hid (H.out.fr HJ.out fx ix tx);refine hK.out _ _ (fp.out _ H.out) λhld=>?_;clear hK K fx ix tx;try simp only [Act.put,ak]
   refine ah 3 ?_ (hy:=by intro wz hSw; (have q2:=he; go_simp <;> with_reducible rfl));try simp only [Act.put,ak]
   refine ah 4 ?_;try simp only [Act.put,ak]
   refine ah 5 ?_ (hy:=by intro wz hSw; (refine aT (Tm.aU (j:=0) (show zo gT gR p R wz from hSw).1 rfl) ?_; exact ⟨_,rfl,rfl⟩));try simp only [Act.put,ak]
   refine aj 6 λK hK=>?_;go_simp;go_at_call 27
   (with_reducible refine (np.out _ H.out.s.i H.out.s.t).mono ?_)
   rintro e wv1 ⟨rfl,fx,ix,tx⟩;replace H:=hid (H.out.fr HJ.out fx ix tx);refine hK.out _ _ (fp.out _ H.out) λhld=>?_;clear hK K fx ix tx;try simp only [Act.put,ak]
   refine ah 7 ?_;try simp only [Act.put,ak]
   refine aA ?_;clear hld;obtain ⟨wa,iz⟩:=au wv1
   subst iz;have bh:=hid H.out.o;have z8:Hid (Calls prog 49 #[tv p,.func (.func 50) #[] #[.pointer (some ⟨gG,0,none⟩)]] wa (iw (λk=>k=bm) (JG J pk k) M wa t' n)):=hid (by
    obtain ⟨e1,e2⟩:=da.out (λh=>by cases h.1);rw [<-e1,<-e2];exact ox.out wa H.out.s)
   clear HH ox he;have eR:∀ (fn:Fn) (first cap:aM) (w:World),(Instr.makeFunc fn first cap).run prog w = .ok (.func fn first cap) w:=λ_ _ _ _=>rfl;go_wp2_with (first
    | (refine ay (aT (Tm.aU (j:=0) bh.out.o rfl) ⟨_,rfl,rfl⟩) ?_))
   refine z8.out.mono ?_;rintro e w3 ⟨q,M3,rfl,ht3,f3,i3,t3,j3⟩;rw [eN.out];have cC:=hid (H.out.s.call f3 i3 t3 j3);have cF:=hid (H.out.x.fk H.out.s.i f3 (by have:=aw.out; have:=bu.out; omega));have ae:Hid (∀ w9,Rg.Upd w3 gX w9->iw (λk=>k=bm) J M w t' n (.returned (.agg (chA q cc))) w9):=hid (λw9 hu=>by
    rw [<-eN.out];obtain ⟨q,M',h1,h2,h3,h4,h5,h6⟩:=(cC.out.upd HJ.out aw.out.1 aw.out.2.1 hu (by rw [bu.out.1]; exact Nat.le_succ _) cF.out.n).chg n ht3;exact ⟨q,M',h1,h2,h3,h4,h5,h6.1⟩)
   clear ht3 f3 i3 t3 j3 z8 H bh;go_wp2_with (first
    | (refine bB cF.out.o rfl q cc rfl _ _ rfl rfl rfl rfl ?_; intro w9 ai al; have bh:Hid (Rg.Own w9 gX (chA q cc) 81):=hid ai; have cv:=hid (ae.out w9 al); clear ai al))
   exact bodyPost_ret (jO rfl _ rfl bh.out) rfl cv.out
 .have he:(r.toList==R.toList)=false:=by rw [cS.out]; exact decide_eq_false hq
  have HQ:=hid hq;clear hq;go_enter func48,ntmps48;go_wp2_with (first
   | (refine ay (bE _ _ _ gX (by rw [bu.out.1]; simp) rfl) ?_; rw [<-HW1.out,bu.out.2]))
  have H:Hid (Gr B (λk=>k=bm) J pk k M w gX gT p w1.drew):=hid (by
   have hb:Below w1.heap.size w1 w1.drew:=below_drewN aG 1;exact HH.out.fr HJ.out (Fr.below M hb) (HH.out.s.i.below hb) (HH.out.s.t.below hb HH.out.s.t.pos))
  refine aB (S:=zo gT gR p R) (fp.out _ H.out) λhld=>?_;refine ah 0 ?_ (hy:=by intro wz hSw; (refine aT (Tm.aU (j:=0) (show zo gT gR p R wz from hSw).1 rfl) ?_; exact ⟨_,rfl,rfl⟩));try simp only [Act.put,ak]
  refine ah 2 ?_ (hy:=by intro wz hSw; (refine Tg (v:=.string R) (Tm.aU (j:=0) (show zo gT gR p R wz from hSw).2 rfl) ?_; exact ⟨_,rfl,rfl⟩));try simp only [Act.put,ak]
  refine aj 1 λK hK=>?_;go_simp;go_at_call 28
  (with_reducible refine (dc.out _ H.out.s.i H.out.s.t).mono ?_)
  rintro e du ⟨rfl,fx,ix,tx⟩;replace H:=hid (H.out.fr HJ.out fx ix tx);refine hK.out _ _ (fp.out _ H.out) λhld=>?_;clear hK K fx ix tx;try simp only [Act.put,ak]
  refine ah 3 ?_ (hy:=by intro wz hSw; (have q2:=he; go_simp <;> with_reducible rfl));try simp only [Act.put,ak]
  refine ah 4 ?_;try simp only [Act.put,ak]
  refine Rg.takeL (i:=5) (v:=undef) rfl (by kernel_rfl) (by kernel_rfl) (by kernel_rfl) (λ_ _ _ h=>h) (Or.inr ⟨by rfl,rfl⟩) (by assumption) ?_;try simp only [Act.put,ak]
  refine Rg.takeL (i:=6) (v:=undef) rfl (by kernel_rfl) (by kernel_rfl) (by kernel_rfl) (λ_ _ _ h=>h) (Or.inr ⟨by rfl,rfl⟩) (by assumption) ?_;try simp only [Act.put,ak]
  refine ah 7 ?_;try simp only [Act.put,ak]
  refine aA ?_;clear hld;obtain ⟨wa,iz⟩:=au du
  subst iz;have bh:=hid H.out.o;have z8:Hid (Calls prog 49 #[tv p,.func (.func 50) #[] #[.pointer (some ⟨gG,0,none⟩)]] wa (iw (λk=>k=bm) (JG J pk k) M wa t' n)):=hid (by
   obtain ⟨e1,e2⟩:=da.out (λh=>HQ.out h.2);rw [<-e1,<-e2];exact ox.out wa H.out.s)
  clear HH ox he;have eR:∀ (fn:Fn) (first cap:aM) (w:World),(Instr.makeFunc fn first cap).run prog w = .ok (.func fn first cap) w:=λ_ _ _ _=>rfl;go_wp2_with (first
   | (refine ay (aT (Tm.aU (j:=0) bh.out.o rfl) ⟨_,rfl,rfl⟩) ?_))
  refine z8.out.mono ?_;rintro e w3 ⟨q,M3,rfl,ht3,f3,i3,t3,j3⟩;rw [eN.out];have cC:=hid (H.out.s.call f3 i3 t3 j3);have cF:=hid (H.out.x.fk H.out.s.i f3 (by have:=aw.out; have:=bu.out; omega));have ae:Hid (∀ w9,Rg.Upd w3 gX w9->iw (λk=>k=bm) J M w t' n (.returned (.agg (chA q cc))) w9):=hid (λw9 hu=>by
   rw [<-eN.out];obtain ⟨q,M',h1,h2,h3,h4,h5,h6⟩:=(cC.out.upd HJ.out aw.out.1 aw.out.2.1 hu (by rw [bu.out.1]; exact Nat.le_succ _) cF.out.n).chg n ht3;exact ⟨q,M',h1,h2,h3,h4,h5,h6.1⟩)
  clear ht3 f3 i3 t3 j3 z8 H bh;go_wp2_with (first
   | (refine bB cF.out.o rfl q cc rfl _ _ rfl rfl rfl rfl ?_; intro w9 ai al; have bh:Hid (Rg.Own w9 gX (chA q cc) 81):=hid ai; have cv:=hid (ae.out w9 al); clear ai al))
  exact bodyPost_ret (jO rfl _ rfl bh.out) rfl cv.out
theorem KZ {B bt bm ba gR gP gG:Nat} {R:aK} {pk:aJ} {k:T} (dm:∀ x∈Lg bt bm ba gR gP gG R pk,x.1<B) (dj:bm<B) (hR:ref k=R) (hk:k ≠ .nil) (el:Fine k) (L:Nat):L<=64->∀ (x:T),Tr.Good x L->Fine x->Fits R k x L->∀ (M:Mp) (w:World) (p:aJ),MG B bt bm ba gR gP gG R pk k M w->IsT M pk k->Inv M w->Tab w->IsT M p x->
  Calls prog 81 #[tv p,.pointer (some ⟨bt,0,none⟩),.pointer (some ⟨ba,0,none⟩)] w (iw (λk=>k=bm) (MG B bt bm ba gR gP gG R pk k) M w (bO R k x) (bZ R x)):=by
 induction L using Nat.strongRecOn with
 | ind L ih =>
  intro hL x g f hfit M w p hj hpk hi hT ht;exact QV (bO R k) (bZ R) dm dj bt ba 48 #[.pointer (some ⟨gR,0,none⟩),.pointer (some ⟨gP,0,none⟩),.pointer (some ⟨gG,0,none⟩)] (by simp [Lg]) (by simp [Lg]) (enters_of func48 (by kernel_rfl) rfl) M p x w hi ht hT hj λw1 hj1 hi1 hT1 =>
   LC dm dj hR hk el M p x L g hL f hfit (λs hs M w p hj hpk hi hT ht=>by
    obtain ⟨_,f',_,_⟩:=iE g f s hs;obtain ⟨L',hl,g',z9⟩:=JD g f hfit s hs;exact ih L' hl (by omega) s g' f' z9 M w p hj hpk hi hT ht) w1 hi1 ht hT1 hj1 hpk
def pW (M:Mp) (w:World) (t:T) (n:Nat) (e:Ending) (w':World):Prop:=∃ q M',e = .returned (.tuple #[tv q,.int .i64 (fJ n)])/\IsT M' q t/\Fnw M M' w w'/\Inv M' w'/\Tab w'
structure Sq (M:Mp) (w0:World) (gT gK gX:Nat) (p pk:aJ) (w:World):Prop where
 f:Fnw M M w0 w
 i:Inv M w
 t:Tab w
 o:Bx M w gT #[.pointer p] 31
 k:Bx M w gK #[.pointer pk] 31
 x:Bx M w gX #[.pointer none] 31
section
variable {M:Mp} {w0 w w':World} {gT gK gX:Nat} {p pk:aJ}
theorem Sq.fr (h:Sq M w0 gT gK gX p pk w) (f:Fr M M w w') (i:Inv M w') (t:Tab w'):Sq M w0 gT gK gX p pk w':=⟨h.f.trans (Fnw.of f) λ_ h=>h.elim,i,t,h.o.frm h.i f,h.k.frm h.i f,h.x.frm h.i f⟩
theorem Sq.below (h:Sq M w0 gT gK gX p pk w) (hb:Below w.heap.size w w'):Sq M w0 gT gK gX p pk w':=h.fr (Fr.below M hb) (h.i.below hb) (h.t.below hb h.t.pos)
end
theorem IK {M:Mp} {w:World} {p pk:aJ} (hi:Inv M w) (hT:Tab w):∃ w1,w1=((w.alloc (.cells #[.pointer p] 31)).alloc (.cells #[.pointer pk] 31)).alloc (.cells #[.pointer none] 31)/\Sq M w w.heap.size (w.heap.size+1) (w.heap.size+2) p pk w1/\((w.alloc (.cells #[.pointer p] 31)).alloc (.cells #[.pointer pk] 31)).heap.size=w.heap.size+2:=by
 obtain ⟨w1,hw1⟩:=au ((w.alloc (.cells #[.pointer p] 31)).alloc (.cells #[.pointer pk] 31))
 have hb1:Below w.heap.size w w1:=by rw [hw1]; exact al2 _ _ _
 have hs1:w1.heap.size=w.heap.size+2:=by rw [hw1]; simp
 have hO:Rg.Own w1 w.heap.size #[.pointer p] 31:=by rw [hw1]; exact (Rg.Own.new _ _ _).below (al1 _ _)
 have hK:Rg.Own w1 (w.heap.size+1) #[.pointer pk] 31:=by
  have:=Rg.Own.new (w.alloc (.cells #[.pointer p] 31)) #[.pointer pk] 31;rw [hw1];simpa using this
 have hX:=Rg.Own.new w1 #[.pointer none] 31;rw [hs1] at hX;have hA:=al1 w1 (.cells #[.pointer none] 31);have hb:=bst hb1 hA;have hfr:∀ k,w.heap.size<=k->¬ M.ft k:=λk hk=>hi.free hk;rw [<-hw1];exact ⟨_,rfl,⟨Fnw.of (Fr.below M hb),hi.below hb,hT.below hb hT.pos,⟨hO.below hA,hfr _ aF,cZ _⟩,⟨hK.below hA,hfr _ (Nat.le_succ _),cZ _⟩,⟨hX,hfr _ (by omega),cZ _⟩⟩,hs1⟩
theorem QU (M:Mp) (p:aJ) (t:T) (w:World) (hi:Inv M w) (ht:IsT M p t) (hT:Tab w) :
  Calls prog 23 #[tv p,tv none] w (pW M w t 0):=by
 obtain ⟨w1,hw1,hS1,hs⟩:=IK (p:=p) (pk:=none) hi hT;have bj:=hid hS1;have HW1:=hid hw1;have cW:=hid hs;have uu:=hid ht;have HZ:Hid (0<w.heap.size):=hid hT.pos;have HE:=hid (iC none w1);obtain ⟨gX,bo⟩:=av (w.heap.size+2)
 have bu:Hid (gX=w.heap.size+2):=hid bo.symm;obtain ⟨gT,ce⟩:=av w.heap.size
 obtain ⟨gK,pM⟩:=av (w.heap.size+1)
 have HG2:Hid (w.heap.size=gT/\w.heap.size+1=gK):=hid ⟨ce,pM⟩;rw [bo,pM,ce] at bj;rw [ce] at pM bo;clear hS1 hw1 hs hi ht hT bo pM ce;have hgo:Calls prog 23 #[.agg #[.pointer p],.agg #[.pointer none]] w (pW M w t 0):=by
  go_enter func23,ntmps23;go_wp2_with (first
   | (refine ay (aW _ _ _ gX (by rw [bu.out,cW.out]) rfl) ?_; rw [<-HW1.out,HG2.out.1,show gT+1=gK by rw [<-HG2.out.1]; exact HG2.out.2])
   | (refine ay (aT (Tm.aU (j:=0) bj.out.k.o rfl) ⟨_,rfl,rfl⟩) ?_))
  refine HE.out.mono ?_;rintro e w2 ⟨rfl,hb2⟩;have HS2:=hid (bj.out.below hb2);have ae:Hid (∀ w9,Rg.Upd w2 gX w9->pW M w t 0 (.returned (.tuple #[tv p,.int .i64 0])) w9):=hid (λw9 hu=>⟨p,M,rfl,uu.out,Fk.upd HS2.out.f hu (by have:=bu.out; omega),HS2.out.i.upd hu HS2.out.x.n,lC HS2.out.t hu (by have:=bu.out; have:=HZ.out; omega)⟩);clear hb2 HE bj;go_wp2_with (first
   | (refine ay (aT (Tm.aU (j:=0) HS2.out.o.o rfl) ⟨_,rfl,rfl⟩) ?_)
   | (refine aX HS2.out.x.o (by simp) p rfl _ _ rfl rfl rfl ?_; intro w9 ai al; have bh:Hid (Rg.Own w9 gX #[.pointer p] 31):=hid ai; have cv:=hid (ae.out w9 al); clear ai al))
  exact bodyPost_ret (qm (q:=4) (u:=5) rfl _ rfl bh.out) rfl cv.out
 exact hgo
theorem Et (M:Mp) (p pk:aJ) (t k:T) (L Lk:Nat) (g:Tr.Good t L) (hL:L<=64) (f:Fine t) (gk:Tr.Good k Lk) (hLk:Lk<=64) (fk:Fine k) (hk:k ≠ .nil) (hks:¬ dH k) (hfit:Fits (ref k) k t L) (w:World) (hi:Inv M w) (ht:IsT M p t) (hpk:IsT M pk k) (hT:Tab w) :
  Calls prog 23 #[tv p,tv pk] w (pW M w (bO (ref k) k t) (bZ (ref k) t)):=by
 obtain ⟨w1,hw1,hS1,hs⟩:=IK (p:=p) (pk:=pk) hi hT;have hnn:pk.isNone=false:=by
  cases pk with
  | none=>exact absurd (show k = .nil from hpk) hk
  | some a=>rfl
 have hnb:mD k=false:=by
  cases k with
  | stub r=>exact absurd trivial hks
  | _=>rfl
 have bj:=hid hS1;have HW1:=hid hw1;have cW:=hid hs;have uu:=hid ht;have dv:=hid hpk;have HZ:Hid (0<w.heap.size):=hid hT.pos;have HE:=hid (iC pk w1);rw [hnn] at HE;have np:=hid (λwx (hi:Inv M wx) (hT:Tab wx)=>tC M pk k Lk gk hLk fk wx hi hpk hT);rw [hnb] at np;have dc:=hid (λwx (hi:Inv M wx) (hT:Tab wx)=>sD M pk k Lk gk hLk fk wx hi hpk hT);obtain ⟨R,hR⟩:=av (ref k)
 have HR:=hid hR;rw [hR] at dc hfit ⊢;have zb:Hid (∀ k,w.heap.size<=k->¬ M.ft k):=hid (λk hk=>hi.free hk);have cH:=hid (λ(B bt bm ba gR gP gG:Nat) dm dj=>KZ (B:=B) (bt:=bt) (bm:=bm) (ba:=ba) (gR:=gR) (gP:=gP) (gG:=gG) (pk:=pk) dm dj hR hk fk L hL t g f hfit M);obtain ⟨gX,bo⟩:=av (w.heap.size+2)
 have bu:Hid (gX=w.heap.size+2):=hid bo.symm;obtain ⟨gT,ce⟩:=av w.heap.size
 obtain ⟨gK,pM⟩:=av (w.heap.size+1)
 have HG2:Hid (w.heap.size=gT/\w.heap.size+1=gK):=hid ⟨ce,pM⟩;rw [bo,pM,ce] at bj;rw [ce] at pM bo;obtain ⟨t',ht'⟩:=av (bO R k t)
 obtain ⟨n,hn⟩:=av (bZ R t)
 have ib:Hid (bO R k t=t'/\bZ R t=n):=hid ⟨ht',hn⟩;rw [ht',hn];clear hS1 hw1 hs hi ht hpk hT bo pM ce hnn hnb g f gk fk hk hks hfit hR ht' hn;have eR:∀ (fn:Fn) (first cap:aM) (w:World),(Instr.makeFunc fn first cap).run prog w = .ok (.func fn first cap) w:=λ_ _ _ _=>rfl;have hgo:Calls prog 23 #[.agg #[.pointer p],.agg #[.pointer pk]] w (pW M w t' n):=by
  go_enter func23,ntmps23;go_wp2_with (first
   | (refine ay (aW _ _ _ gX (by rw [bu.out,cW.out]) rfl) ?_; rw [<-HW1.out,HG2.out.1,show gT+1=gK by rw [<-HG2.out.1]; exact HG2.out.2])
   | (refine ay (aT (Tm.aU (j:=0) bj.out.k.o rfl) ⟨_,rfl,rfl⟩) ?_))
  refine HE.out.mono ?_;rintro e w2 ⟨rfl,hb2⟩;have HS2:=hid (bj.out.below hb2);clear hb2 HE bj;go_wp2_with (first
   | (refine Rg.runW (by rfl) _ _ (aT (Tm.aU (j:=0) HS2.out.k.o rfl) ⟨_,rfl,rfl⟩) ?_))
  refine (np.out w2 HS2.out.i HS2.out.t).mono ?_;rintro e w3 ⟨rfl,f3,i3,t3⟩;have cC:=hid (HS2.out.fr f3 i3 t3);clear f3 i3 t3 HS2 np;go_wp2_with (first
   | (refine ay (aT (Tm.aU (j:=0) cC.out.k.o rfl) ⟨_,rfl,rfl⟩) ?_))
  refine (dc.out w3 cC.out.i cC.out.t).mono ?_;rintro e w4 ⟨rfl,f4,i4,t4⟩;have cV:=hid (cC.out.fr f4 i4 t4);have O5:=Rg.Own.new w4 #[.string ⟨#[]⟩] 9;have O6:=hid O5;obtain ⟨w5,uv⟩:=au (w4.setCell ⟨w4.heap.size,0,none⟩ (.string R))
  clear f4 i4 t4 cC dc O5 uv w5;go_wp2_with (first
   | (refine ay (YB _ _ _ w4.heap.size rfl rfl) ?_)
   | (refine jA O6.out Zo rfl _ _ rfl rfl rfl ?_; intro w5 aE ax; have ag:Hid (Below w4.heap.size w4 w5):=hid (ax.below (al1 _ _) aF); have cd:Hid (Rg.Own w5 w4.heap.size #[.string R] 9):=hid aE; clear aE ax)
   | (refine ay (YX _ _ _ w5.heap.size rfl rfl) ?_))
  obtain ⟨w6,eQ⟩:=au (w5.alloc (.cells #[.nilFunc] 109))
  have pp:Below w5.heap.size w5 w6:=by rw [eQ]; exact al1 _ _
  have oc:Hid (Rg.Own w6 w5.heap.size #[.nilFunc] 109):=hid (by rw [eQ]; exact Rg.Own.new _ _ _);have fW:=hid (cd.out.below pp);have fX:=hid (cV.out.below (bst ag.out pp));rw [<-eQ];obtain ⟨gR,hgR⟩:=av w4.heap.size
  obtain ⟨gG,Hd⟩:=av w5.heap.size
  have Hh:Hid (w.heap.size<=gR/\gR<gG/\gG<w6.heap.size/\gX<gR/\gT=w.heap.size/\gK=w.heap.size+1/\gX=w.heap.size+2):=hid (by
   have h1:=cV.out.f.size;have h2:=cd.out.1;have h3:=oc.out.1;have h4:=cV.out.x.o.1;have h5:=HG2.out;have h6:=bu.out;omega)
  rw [hgR] at fW;rw [Hd] at oc;rw [hgR,Hd];clear pp eQ hgR Hd cV ag cd O6;refine (Lj 48 #[.pointer (some ⟨gR,0,none⟩),.pointer (some ⟨gK,0,none⟩),.pointer (some ⟨gG,0,none⟩)] w6).mono ?_;rintro e w7 ⟨rfl,ha,hm,hbt,cE⟩;have pC:=hid (oc.out.below cE);have UX:Hid (∀ w8,Rg.Own w8 gG #[.func (.func 81) #[] #[.pointer (some ⟨w6.heap.size+2,0,none⟩),.pointer (some ⟨w6.heap.size,0,none⟩)]] 109->Rg.Upd w7 gG w8->
    Bx M w8 gT #[.pointer p] 31/\Calls prog 81 #[tv p,.pointer (some ⟨w6.heap.size+2,0,none⟩),.pointer (some ⟨w6.heap.size,0,none⟩)] w8 (λe w'=>∃ q M',e = .returned (.agg (chA q (fJ n)))/\IsT M' q t'/\Fnw M M' w w'/\Inv M' w'/\Tab w'/\Bx M' w' gX #[.pointer none] 31)):=hid (λw8 hg hu=>by
   have hs7:=cE.size;have hsi:=Hh.out;have ZL:=fX.out.f.size;have GP:=(Array.getElem?_eq_some_iff.1 hbt.2).1;have lz:=fX.out.below cE;have hfr:=zb.out;have ip:=hu.size;have gh:Sq M w gT gK gX p pk w8:=⟨Fk.upd lz.f hu (by omega),lz.i.upd hu (hfr _ (by omega)),lC lz.t hu (by have:=HZ.out; omega),lz.o.upd hu (by omega),lz.k.upd hu (by omega),lz.x.upd hu (by omega)⟩
   have hj:MJ w8.heap.size (Lg (w6.heap.size+2) (w6.heap.size+1) w6.heap.size gR gK gG R pk) (w6.heap.size+1) (RT (bO R k) (bZ R)) M w8:=by
    refine ⟨λx hx=>?_,BL ((hu.block _ (by omega)).trans hm) _,hfr _ (by omega),aF⟩;unfold Lg at hx;rcases List.mem_cons.1 hx with rfl | hx
    .exact ⟨hbt.upd hu (by show w6.heap.size+2≠gG; omega),hfr _ (by show w.heap.size<=w6.heap.size+2; omega),Sb _⟩
    .rcases List.mem_cons.1 hx with rfl | hx
     .exact ⟨ha.upd hu (by show w6.heap.size≠gG; omega),hfr _ (by show w.heap.size<=w6.heap.size; omega),IU _ _⟩
     .rcases List.mem_cons.1 hx with rfl | hx
      .exact ⟨hg,hfr _ (by show w.heap.size<=gG; omega),IU _ _⟩
      .rcases List.mem_cons.1 hx with rfl | hx
       .exact ⟨(fW.out.below cE).upd hu (by show gR≠gG; omega),hfr _ (by show w.heap.size<=gR; omega),XO _⟩
       .rw [List.mem_singleton.1 hx];exact gh.k
   refine ⟨gh.o,?_⟩;refine (cH.out w8.heap.size _ _ _ gR gK gG (λx hx=>(hj.bx x hx).o.1) hj.m.lt w8 p hj dv.out gh.i gh.t uu.out).mono ?_;rintro e w' ⟨q,M',he,hq,z5,hi',ht',_⟩;rw [ib.out.2] at he;rw [ib.out.1] at hq;exact ⟨q,M',he,hq,gh.f.trans z5 (λk hk=>.inr (by omega)),hi',ht',gh.x.fk gh.i z5 (by omega)⟩)
  clear ha hm hbt cE oc fW cH fX;go_wp2_with (first
   | (refine jA pC.out YC rfl _ _ rfl rfl rfl ?_; intro w8 fS ip; have CM:=hid fS; obtain ⟨ex,hc8⟩:=UX.out w8 fS ip; have ol:=hid ex; have O7:=hid hc8; clear fS ip ex hc8)
   | (refine ay (XI (Tm.aU (j:=0) CM.out rfl) ⟨_,rfl,rfl⟩) ?_)
   | (refine ay (aT (Tm.aU (j:=0) ol.out.o rfl) ⟨_,rfl,rfl⟩) ?_))
  refine O7.out.mono ?_;rintro e w9 ⟨q,M9,rfl,O8,f9,i9,t9,x9⟩;obtain ⟨c,hc⟩:=av (fJ n)
  have zc:=hid (Rg.Own.new w9 (chA none 0) 81);have lR:Hid (∀ wa,Below w9.heap.size w9 wa->Bx M9 wa gX #[.pointer none] 31/\∀ wz,Rg.Upd wa.drew gX wz->pW M w t' n (.returned (.tuple #[tv q,.int .i64 c])) wz):=hid (λwa hb=>by
   have x9:=x9.below hb;have hd:Below wa.heap.size wa wa.drew:=below_drewN aG 1;have hb':=bst hb hd;have fa:Fnw M M9 w wa.drew:=f9.trans (Fnw.of (Fr.below M9 hb')) λ_ h=>h.elim;exact ⟨x9,λwz hu=>⟨q,M9,by rw [<-hc],O8,Fk.upd fa hu (by have:=Hh.out; omega),(i9.below hb').upd hu x9.n,lC (t9.below hb' t9.pos) hu (by have:=Hh.out; have:=HZ.out; omega)⟩⟩)
  have io:Hid (w9.heap.size≠gX):=hid (by have:=x9.o.1; omega);rw [hc];clear O8 f9 i9 t9 x9 O7 ol CM pC hc;obtain ⟨gC,Hi⟩:=av w9.heap.size
  have O9:=hid Hi;rw [Hi] at io zc;clear Hi;go_wp2_with (first
   | (refine ay (bE _ _ _ gC O9.out.symm rfl) ?_)
   | (refine bB zc.out rfl q c rfl _ _ rfl rfl rfl rfl ?_; intro wb hOb hub; have bh:Hid (Rg.Own wb gC (chA q c) 81):=hid hOb; obtain ⟨nt,OF⟩:=lR.out wb (hub.below (al1 _ _) (Nat.le_of_eq O9.out)); have yo:=hid nt; have ae:=hid OF; clear hOb hub nt OF))
  refine aB (S:=λwz=>Rg.Own wz gC (chA q c) 81) (bh.out.drew) λhld=>?_;refine ah 0 ?_;try simp only [Act.put,ak]
  refine ah 1 ?_ (hy:=by intro wz hSw; (refine aT (Tm.aU (j:=0) hSw rfl) ?_; exact ⟨_,rfl,rfl⟩));try simp only [Act.put,ak]
  refine ah 2 ?_;try simp only [Act.put,ak]
  refine ah 3 ?_ (hy:=by intro wz hSw; (have q0:=Tm.aU (j:=1) hSw rfl; go_simp <;> with_reducible rfl));try simp only [Act.put,ak]
  refine aj 4 λK hK=>?_;refine cK (by rfl) yo.out.o (off:=0) (by simp) q ⟨_,_,rfl,rfl,rfl⟩ ?_;rintro wv hn hu;have Hj:Hid (Rg.Own wv gX #[.pointer q] 31):=hid hn;have Hm:=hid (ae.out wv hu);refine hK.out _ _ (hld.upd hu (by have:=io.out; omega)) λhld=>?_;clear hK K hn hu;try simp only [Act.put,ak]
  refine ah 5 ?_;try simp only [Act.put,ak]
  refine aA ?_;clear hld;go_wp2;exact bodyPost_ret (qm (q:=4) (u:=5) rfl _ rfl Hj.out) rfl Hm.out
 exact hgo
end Sx
end
end Go.Proofs.YtlcplcgigjagpaaGreatDoor
