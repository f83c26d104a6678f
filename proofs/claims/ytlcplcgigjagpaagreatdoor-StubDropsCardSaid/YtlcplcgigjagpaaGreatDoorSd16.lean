/-
 The contracts of what once makes: of each place, of each tree it asks but once.
-/
import Derived.Test.YtlcplcgigjagpaaGreatDoorSd15
import Derived.Laws.EntriesVeiled
open Go.Lib (hid)
open Go.Proofs.Tryz
set_option linter.unusedSimpArgs false
set_option linter.unusedVariables false
set_option maxHeartbeats 40000000
set_option maxRecDepth 100000
namespace Go.Proofs.YtlcplcgigjagpaaGreatDoor
variable {B D L bm f j m:Nat} {w w':World} {ev:Operand->Value} {o:Oper} {t ty:TypeId} {ops:Array Oper} {u v:Value} {cs:aM} {a:aJ} {K:Nat->Prop}
section
open Go.RowKit
namespace Sx
open Tr Ni Pk Ky No Rf Rl Tm
open Sm (Tab)
theorem FZ {M:Mp} {p:aJ} {x y:T} (h:IsT M p x) (g:IsT M p y):x=y:=h.MN.symm.trans g.MN
structure MJ (B:Nat) (L:List (Nat × Value × TypeId)) (bm:Nat) (R:Mp->Value->Value->Prop) (M:Mp) (w:World):Prop where
 bx:∀ x∈L,Bx M w x.1 #[x.2.1] x.2.2
 m:oW w bm (R M)
 n:¬ M.ft bm
 s:B<=w.heap.size
def Yd (R:Mp->Value->Value->Prop):Prop:=∀ M M' k v,(∀ k t,M.at_ k=some t->M'.at_ k=some t)->R M k v->R M' k v
theorem DJ {L:List (Nat × Value × TypeId)} {R:Mp->Value->Value->Prop} (hR:Yd R) (hL:∀ x∈L,x.1<B) (hb:bm<B):JOk B (λk=>k=bm) (MJ B L bm R):=by
 refine ⟨λM M' w w' hj hi hs hk hm hf _=>⟨λx hx=>?_,?_,λe=>hj.n (hf bm hb e),Nat.le_trans hj.s hs⟩,λM w hj hi k hk hl=>?_,λk hk=>by rw [hk]; exact hb,λM w hj=>hj.s⟩
 .have h:=hj.bx x hx;exact ⟨⟨aH h.o.1 hs,(hk x.1 (hL x hx) (lM hi h.n)).trans h.o.2⟩,λe=>h.n (hf x.1 (hL x hx) e),h.h⟩
 .exact hj.m.same (hk bm hb (hj.m.Vt hi)) λk v=>hR M M' k v hm
 .subst hk;exact ⟨hj.m.Vt hi,hj.m.nob⟩
theorem MJ.lay {L:List (Nat × Value × TypeId)} {R:Mp->Value->Value->Prop} {M:Mp} (h:MJ B L bm R M w) (hu:Rg.Upd w bm w') (hm:oW w' bm (R M)):MJ B L bm R M w':=by
 refine ⟨λx hx=>(h.bx x hx).upd hu λe=>?_,hm,h.n,by rw [hu.size]; exact h.s⟩;obtain ⟨es,cl,h1,_⟩:=h.m;have h2:=(h.bx x hx).o.2;rw [e,h1] at h2;cases h2
theorem Sz {L:List (Nat × Value × TypeId)} {R:Mp->Value->Value->Prop} {M0 M:Mp} {w0:World} (h:Sg (λk=>k=bm) (MJ B L bm R) M0 w0 M w) (hu:Rg.Upd w bm w') (hm:oW w' bm (R M)):Sg (λk=>k=bm) (MJ B L bm R) M0 w0 M w':=by
 refine ⟨⟨hu.os.trans h.f.os,hu.tape.trans h.f.tape,hu.output.trans h.f.output,by rw [hu.size]; exact h.f.size,λk hk hm' hn=>(hu.block k hn).trans (h.f.block k hk hm' hn),h.f.mono,h.f.fresh,h.f.grow,h.f.foot,h.f.nob⟩,h.i.upd hu h.j.n,λi hi=>?_,h.j.lay hu hm⟩;have hne:0≠bm:=λe=>by
  obtain ⟨es,cl,h1,_⟩:=h.j.m;have h2:=h.t i hi;rw [e,World.cell?,h1] at h2;cases h2
 rw [World.cell?_of_block (hu.block 0 hne)];exact h.t i hi
theorem nW {mv key X:Value} (h:(Instr.lookup t mv key true).run prog w = .ok X w) (ho:∃ m x,o.op = .lookup t m x true/\ev m=mv/\ev x=key):(execOp ev o).run prog w = .ok (.value X) w:=by
 obtain ⟨m,x,ho,hm,hx⟩:=ho;unfold execOp;simp only [ho,hm,hx,Sem.run_bind,Sem.run_pure,Result.andThen_ok,h]
theorem yX {rest:List Oper} {a:Go.Act} {Q:Exit->Go.Act->World->Prop} {b:Nat} {key val:Value} {R:Value->Value->Prop} (h:∃ w',(Instr.mapUpdate t (.map (some b)) key val).run prog w = .ok () w'/\oW w' b R/\Rg.Upd w b w')
  (hgd:o.guard=none) (m x v:Operand) (ho:o.op = .mapUpdate t m x v) (hm:a.eval m = .map (some b)) (hx:a.eval x=key) (hv:a.eval v=val)
  (H:∀ w',oW w' b R->Rg.Upd w b w'->wpList prog ops Q rest (a.put o.dst undef) w'):wpList prog ops Q (o::rest) a w:=by
 obtain ⟨w',hr,h1,h2⟩:=h;refine wpList_plain hgd λK hK=>?_;unfold Oper.wp execOp;simp only [ho,hm,hx,hv,Sem.run_bind,Sem.run_pure,Result.andThen_ok,hr];exact hK _ _ (H w' h1 h2)
theorem XP (p:aJ) (d:Int):∀ (j:Nat) (x:Int),(plA p d)[j]? ≠ some (Value.int .u8 x):=λj x h=>by
 match j,h with
 | 0,h=>simp [plA] at h
 | 1,h=>simp [plA] at h
 | j+2,h=>simp [plA] at h
theorem qO {b:Nat} (hc:w.cell? ⟨b,0,none⟩=some v) (ho:∃ x,o.op = .load 118 x/\ev x = .pointer (some ⟨b,0,none⟩)) :
  (execOp ev o).run prog w = .ok (.value v) w:=by
 obtain ⟨x,ho,hx⟩:=ho;unfold execOp;simp [ho,hx,go_sem,hc]
theorem FD {b:Nat} (hc:w.cell? ⟨b,0,none⟩=some v) (ho:∃ x,o.op = .load 76 x/\ev x = .pointer (some ⟨b,0,none⟩)) :
  (execOp ev o).run prog w = .ok (.value v) w:=by
 obtain ⟨x,ho,hx⟩:=ho;unfold execOp;simp [ho,hx,go_sem,hc]
def RP (F:Int->T->T) (N:Int->T->Nat) (M:Mp) (k v:Value):Prop:=∃ p d x,k = .agg (plA p d)/\IsT M p x/\∃ q,v = .agg (chA q (gH (N d x)))/\IsT M q (F d x)
theorem FN (F:Int->T->T) (N:Int->T->Nat):Yd (RP F N):=λM M' k v hm ⟨p,d,x,hk,hx,q,hv,hq⟩=>⟨p,d,x,hk,hx.mono hm,q,hv,hq.mono hm⟩
theorem Qb {B:Nat} {L:List (Nat × Value × TypeId)} {bm:Nat} (F:Int->T->T) (N:Int->T->Nat) (hL:∀ x∈L,x.1<B) (hb:bm<B) (bt ba fa:Nat) (ca:aM) (h1:(bt,.map (some bm),118)∈L) (h2:(ba,.func (.func fa) #[] ca,76)∈L) (eA:∀ args w,(callFunc fa args).run prog w = .ok (.enter fa args) w)
  (M:Mp) (p:aJ) (d:Int) (x:T) (w:World) (hi:Inv M w) (ht:IsT M p x) (hT:Tab w) (hj:MJ B L bm (RP F N) M w)
  (hA:∀ w1,MJ B L bm (RP F N) M w1->Inv M w1->Tab w1->Calls prog fa (#[.agg (plA p d)]++ca) w1 (iC (λk=>k=bm) (MJ B L bm (RP F N)) M w1 (F d x) (N d x))) :
  Calls prog 59 #[.agg (plA p d),.pointer (some ⟨bt,0,none⟩),.pointer (some ⟨ba,0,none⟩)] w (iC (λk=>k=bm) (MJ B L bm (RP F N)) M w (F d x) (N d x)):=by
 have hJ:=DJ (FN F N) hL hb;obtain ⟨w1,hw1⟩:=au ((w.alloc (.cells (plA p d) 79)).alloc (.cells (chA none 0) 81))
 have hb1:Below w.heap.size w w1:=by rw [hw1]; exact al2 _ _ _
 have ag:Rg.Own w1 w.heap.size (plA p d) 79:=by rw [hw1]; exact (Rg.Own.new _ _ _).below (al1 _ _)
 have hX1:Rg.Own w1 (w.heap.size+1) (chA none 0) 81:=by
  have:=Rg.Own.new (w.alloc (.cells (plA p d) 79)) (chA none 0) 81;rw [hw1];simpa using this
 have hS1:=(Sg.start hJ hi hT hj).below hJ hb1;have bd:Hid (Bx M w1 (w.heap.size+1) (chA none 0) 81):=hid ⟨hX1,hi.free (Nat.le_succ _),kD _ _⟩;have bc:Hid (Bx M w1 w.heap.size (plA p d) 79):=hid ⟨ag,hi.free aF,XP _ _⟩;have tA:=hid (hS1.j.bx _ h1);have tw:=hid (hS1.j.bx _ h2);obtain ⟨t',ht'⟩:=av (F d x)
 obtain ⟨n,hn⟩:=av (N d x)
 obtain ⟨c,hc⟩:=av (gH n)
 have hlk:=AP (P:=prog) (key:=.agg (plA p d)) underlying118 underlying79 (λem=>JM em p d w1) (NA w1) hS1.j.m (λk v hr=>by
  obtain ⟨p2,d2,x2,rfl,hx2,_⟩:=hr;exact Uz hS1.i ht hx2 d d2)
 have ef:=hid (λ(M2:Mp) (w2:World) (hj:MJ B L bm (RP F N) M2 w2) (hi:Inv M2 w2) (hm:∀ k t,M.at_ k=some t->M2.at_ k=some t) (q:aJ) (hq:IsT M2 q t')=>FK (P:=prog) (key:=.agg (plA p d)) (val:=.agg (chA q c)) underlying118 underlying79 (λem=>JM em p d w2) (VH p d) hj.m (λk v hr=>by
  obtain ⟨p2,d2,x2,rfl,hx2,_⟩:=hr;exact Uz hi (ht.mono hm) hx2 d d2) ⟨p,d,x,rfl,ht.mono hm,q,by rw [hn,hc],by rw [ht']; exact hq⟩)
 have cd:=hid hS1;rw [ht',hn] at hA ⊢;have HA:=hid hA;have HJ:=hid hJ;have HB1:=hid hb1;have HT:=hid ht;have HW1:=hid hw1;have ap:Hid (B<=w.heap.size/\0<w.heap.size/\bm<w.heap.size):=hid ⟨hj.s,hT.pos,aH hb hj.s⟩;have lE:=hid h1;have HL2:=hid h2;obtain ⟨gX,cf⟩:=av (w.heap.size+1)
 have ce:Hid (gX=w.heap.size+1):=hid cf.symm;obtain ⟨gT,ct⟩:=av w.heap.size
 have eE:Hid (w.heap.size=gT):=hid ct;rw [cf] at bd;rw [ct] at bc;have jx:Hid (F d x=t'/\N d x=n/\gH n=c):=hid ⟨ht',hn,hc⟩;obtain ⟨v,ok,hrun,htr,hfa⟩:=hlk;have eg:=hid hrun;clear hb1 ag hX1 hS1 hi ht hT hj hJ hA hw1 cf ct ht' hn hc h1 h2 hrun hL;cases ok with
 | true =>
  obtain ⟨p2,d2,x2,hk2,hx2,q,rfl,hq2⟩:=htr rfl;have r3:x2=x/\IsT M q (F d x)/\N d2 x2=N d x:=by
   injection hk2 with e;have e1:p=p2:=by have:=congrArg (λz:aM=>z[0]?) e; simpa [plA] using this
   have e2:d=d2:=by have:=congrArg (λz:aM=>z[1]?) e; simpa [plA] using this
   subst e1 e2;have e:=FZ hx2 HT.out;subst e;exact ⟨rfl,hq2,rfl⟩
  rw [jx.out.1] at r3;rw [r3.2.2,jx.out.2.1,jx.out.2.2] at eg;have hNew:=Rg.Own.new w1 (chA none 0) 81;have js:=hid hNew;have af:Hid (∀ w5,Below w1.heap.size w1 w5->∀ w9,Rg.Upd w5 gX w9->iC (λk=>k=bm) (MJ B L bm (RP F N)) M w t' n (.returned (.agg (chA q c))) w9):=hid (λw5 hb5 w9 hu=>by
   rw [<-jx.out.2.2];exact ((cd.out.below HJ.out hb5).upd HJ.out ap.out.1 ap.out.2.1 hu (by rw [ce.out]; exact Nat.le_succ _) bd.out.n).chg n r3.2.1)
  clear hk2 hx2 hq2 r3 htr hfa hNew HA ef;go_enter func59,ntmps59;go_wp2_with (first
   | (refine ay (bJ _ _ _ gX (by rw [ce.out]; simp) rfl) ?_; rw [<-HW1.out,eE.out])
   | (refine ay (qO (Tm.aU (j:=0) tA.out.o rfl) ⟨_,rfl,rfl⟩) ?_)
   | (refine ay (rC bc.out.o ⟨_,rfl,rfl⟩) ?_)
   | (refine ay (nW eg.out ⟨_,_,rfl,rfl,rfl⟩) ?_)
   | (refine ay (bJ _ _ _ w1.heap.size rfl rfl) ?_)
   | (refine bE js.out rfl q c rfl _ _ rfl rfl rfl rfl ?_; intro w5 b8 ax; have bz:Hid (Rg.Own w5 w1.heap.size (chA q c) 81):=hid b8; have ae:Hid (Below w1.heap.size w1 w5):=hid (ax.below (al1 _ _) aF); clear b8 ax; have dq:=hid (bd.out.below ae.out); have ot:=hid (af.out w5 ae.out))
   | (refine ay (kg bz.out ⟨_,rfl,rfl⟩) ?_)
   | (refine bE dq.out.o rfl q c rfl _ _ rfl rfl rfl rfl ?_; intro w9 al aq; have bi:Hid (Rg.Own w9 gX (chA q c) 81):=hid al; have cM:=hid (ot.out w9 aq); clear al aq))
  exact bodyPost_ret (jR rfl _ rfl bi.out) rfl cM.out
 | false =>
  obtain rfl:=hfa rfl;have hNew:=Rg.Own.new w1 (chA none 0) 81;have js:=hid hNew;have HX0:Hid (Bx M (w1.alloc (.cells (chA none 0) 81)) w1.heap.size (chA none 0) 81):=hid ⟨hNew,cd.out.i.free aF,kD _ _⟩;clear htr hfa hNew;go_enter func59,ntmps59;go_wp2_with (first
   | (refine ay (bJ _ _ _ gX (by rw [ce.out]; simp) rfl) ?_; rw [<-HW1.out,eE.out])
   | (refine ay (qO (Tm.aU (j:=0) tA.out.o rfl) ⟨_,rfl,rfl⟩) ?_)
   | (refine ay (rC bc.out.o ⟨_,rfl,rfl⟩) ?_)
   | (refine ay (nW eg.out ⟨_,_,rfl,rfl,rfl⟩) ?_)
   | (refine ay (bJ _ _ _ w1.heap.size rfl rfl) ?_)
   | (refine bE js.out rfl none 0 rfl _ _ rfl rfl rfl rfl ?_; intro w2 hO2 hu2; have dm:Hid (Rg.Own w2 w1.heap.size (chA none 0) 81):=hid hO2; have HB2:Hid (Below w1.heap.size w1 w2):=hid (hu2.below (al1 _ _) aF); clear hO2 hu2; have oR:=hid (tw.out.below HB2.out); have ld:=hid (bc.out.below HB2.out))
   | (refine ay (FD (Tm.aU (j:=0) oR.out.o rfl) ⟨_,rfl,rfl⟩) ?_)
   | (refine ay (rC ld.out.o ⟨_,rfl,rfl⟩) ?_))
  have HS2:=hid (cd.out.below HJ.out HB2.out);have HK:Hid (bm<gT/\bm<gX/\bm<w1.heap.size/\gT<w1.heap.size/\gX<w1.heap.size/\w.heap.size<=w1.heap.size):=hid (by
   have h1:=ap.out.2.2;have h2:=eE.out;have h3:=ce.out;have h4:=bd.out.o.1;have h5:=bc.out.o.1;have h6:=HB1.out.size;omega)
  have cv:=hid (bd.out.below HB2.out);have ox:Hid (Bx M w2 w1.heap.size (chA none 0) 81):=hid ⟨dm.out,HX0.out.n,kD _ _⟩;refine (HA.out w2 HS2.out.j HS2.out.i HS2.out.t).mono ?_;rintro e w3 ⟨q,M3,rfl,ht3,f3,i3,t3,j3⟩;rw [jx.out.2.2];have cL:=hid (HS2.out.call f3 i3 t3 j3);have cU:=hid (cv.out.fk HS2.out.i f3 (by have:=HK.out; omega));have tD:=hid (ld.out.fk HS2.out.i f3 (by have:=HK.out; omega));have e9:=hid (ox.out.fk HS2.out.i f3 (by have:=HK.out; omega));have HQ:=hid ht3
  have oS:Hid (∀ k t,M.at_ k=some t->M3.at_ k=some t):=hid (cL.out.f.mono);clear ht3 f3 i3 t3 j3 HA HX0 js dm HB2 oR ld cv ox HS2 eg tA tw bd bc;go_wp2_with (first
   | (refine bE e9.out.o rfl q c rfl _ _ rfl rfl rfl rfl ?_; intro w4 hO4 cN; have cn:Hid (Rg.Own w4 w1.heap.size (chA q c) 81):=hid hO4; have tE:=hid cN; clear hO4 cN; have dv:=hid (cL.out.upd HJ.out ap.out.1 ap.out.2.1 tE.out HK.out.2.2.2.2.2 e9.out.n); have tG:=hid (dv.out.j.bx _ lE.out); have tI:=hid (tD.out.upd tE.out (by have:=HK.out; omega)); have df:=hid (cU.out.upd tE.out (by have:=HK.out; omega)); have oT:=hid (ef.out M3 w4 dv.out.j dv.out.i oS.out q HQ.out))
   | (refine ay (qO (Tm.aU (j:=0) tG.out.o rfl) ⟨_,rfl,rfl⟩) ?_)
   | (refine ay (rC tI.out.o ⟨_,rfl,rfl⟩) ?_)
   | (refine ay (kg cn.out ⟨_,rfl,rfl⟩) ?_)
   | (refine yX oT.out rfl _ _ _ rfl rfl rfl rfl ?_; intro w5 A9 ax; have Hn:=hid A9; have jp:=hid ax; clear A9 ax; have bz:=hid (cn.out.upd jp.out (by have:=HK.out; omega)); have dq:=hid (df.out.upd jp.out (by have:=HK.out; omega)); have ju:=hid (Sz dv.out jp.out Hn.out); have ot:Hid (∀ w9,Rg.Upd w5 gX w9->iC (λk=>k=bm) (MJ B L bm (RP F N)) M w t' n (.returned (.agg (chA q c))) w9):=hid (λw9 hu=>by
     rw [<-jx.out.2.2];exact (ju.out.upd HJ.out ap.out.1 ap.out.2.1 hu (by rw [ce.out]; exact Nat.le_succ _) dq.out.n).chg n HQ.out))
   | (refine ay (kg bz.out ⟨_,rfl,rfl⟩) ?_)
   | (refine bE dq.out.o rfl q c rfl _ _ rfl rfl rfl rfl ?_; intro w9 al aq; have bi:Hid (Rg.Own w9 gX (chA q c) 81):=hid al; have cM:=hid (ot.out w9 aq); clear al aq))
  exact bodyPost_ret (jR rfl _ rfl bi.out) rfl cM.out
theorem rA {b:Nat} (hc:w.cell? ⟨b,0,none⟩=some v) (ho:∃ x,o.op = .load 139 x/\ev x = .pointer (some ⟨b,0,none⟩)) :
  (execOp ev o).run prog w = .ok (.value v) w:=by
 obtain ⟨x,ho,hx⟩:=ho;unfold execOp;simp [ho,hx,go_sem,hc]
theorem Gj {b:Nat} (hc:w.cell? ⟨b,0,none⟩=some v) (ho:∃ x,o.op = .load 109 x/\ev x = .pointer (some ⟨b,0,none⟩)) :
  (execOp ev o).run prog w = .ok (.value v) w:=by
 obtain ⟨x,ho,hx⟩:=ho;unfold execOp;simp [ho,hx,go_sem,hc]
def RT (F:T->T) (N:T->Nat) (M:Mp) (k v:Value):Prop:=∃ p x,k=tv p/\IsT M p x/\∃ q,v = .agg (chA q (gH (N x)))/\IsT M q (F x)
theorem Fy (F:T->T) (N:T->Nat):Yd (RT F N):=λM M' k v hm ⟨p,x,hk,hx,q,hv,hq⟩=>⟨p,x,hk,hx.mono hm,q,hv,hq.mono hm⟩
theorem OP {B:Nat} {L:List (Nat × Value × TypeId)} {bm:Nat} (F:T->T) (N:T->Nat) (hL:∀ x∈L,x.1<B) (hb:bm<B) (bt ba fa:Nat) (ca:aM) (h1:(bt,.map (some bm),139)∈L) (h2:(ba,.func (.func fa) #[] ca,109)∈L) (eA:∀ args w,(callFunc fa args).run prog w = .ok (.enter fa args) w)
  (M:Mp) (p:aJ) (x:T) (w:World) (hi:Inv M w) (ht:IsT M p x) (hT:Tab w) (hj:MJ B L bm (RT F N) M w)
  (hA:∀ w1,MJ B L bm (RT F N) M w1->Inv M w1->Tab w1->Calls prog fa (#[tv p]++ca) w1 (iC (λk=>k=bm) (MJ B L bm (RT F N)) M w1 (F x) (N x))) :
  Calls prog 81 #[tv p,.pointer (some ⟨bt,0,none⟩),.pointer (some ⟨ba,0,none⟩)] w (iC (λk=>k=bm) (MJ B L bm (RT F N)) M w (F x) (N x)):=by
 have hJ:=DJ (Fy F N) hL hb;obtain ⟨w1,hw1⟩:=au ((w.alloc (.cells #[.pointer p] 31)).alloc (.cells (chA none 0) 81))
 have hb1:Below w.heap.size w w1:=by rw [hw1]; exact al2 _ _ _
 have ag:Rg.Own w1 w.heap.size #[.pointer p] 31:=by rw [hw1]; exact (Rg.Own.new _ _ _).below (al1 _ _)
 have hX1:Rg.Own w1 (w.heap.size+1) (chA none 0) 81:=by
  have:=Rg.Own.new (w.alloc (.cells #[.pointer p] 31)) (chA none 0) 81;rw [hw1];simpa using this
 have hS1:=(Sg.start hJ hi hT hj).below hJ hb1;have bd:Hid (Bx M w1 (w.heap.size+1) (chA none 0) 81):=hid ⟨hX1,hi.free (Nat.le_succ _),kD _ _⟩;have bc:Hid (Bx M w1 w.heap.size #[.pointer p] 31):=hid ⟨ag,hi.free aF,bX _⟩;have tA:=hid (hS1.j.bx _ h1);have tw:=hid (hS1.j.bx _ h2);obtain ⟨t',ht'⟩:=av (F x)
 obtain ⟨n,hn⟩:=av (N x)
 obtain ⟨c,hc⟩:=av (gH n)
 have hlk:=AP (P:=prog) (key:=tv p) underlying139 underlying31 (λem=>rM em p w1) (NA w1) hS1.j.m (λk v hr=>by
  obtain ⟨p2,x2,rfl,hx2,_⟩:=hr;exact xg hS1.i ht hx2)
 have ef:=hid (λ(M2:Mp) (w2:World) (hj:MJ B L bm (RT F N) M2 w2) (hi:Inv M2 w2) (hm:∀ k t,M.at_ k=some t->M2.at_ k=some t) (q:aJ) (hq:IsT M2 q t')=>FK (P:=prog) (key:=tv p) (val:=.agg (chA q c)) underlying139 underlying31 (λem=>rM em p w2) (DT p) hj.m (λk v hr=>by
  obtain ⟨p2,x2,rfl,hx2,_⟩:=hr;exact xg hi (ht.mono hm) hx2) ⟨p,x,rfl,ht.mono hm,q,by rw [hn,hc],by rw [ht']; exact hq⟩)
 have cd:=hid hS1;rw [ht',hn] at hA ⊢;have HA:=hid hA;have HJ:=hid hJ;have HB1:=hid hb1;have HT:=hid ht;have HW1:=hid hw1;have ap:Hid (B<=w.heap.size/\0<w.heap.size/\bm<w.heap.size):=hid ⟨hj.s,hT.pos,aH hb hj.s⟩;have lE:=hid h1;have HL2:=hid h2;obtain ⟨gX,cf⟩:=av (w.heap.size+1)
 have ce:Hid (gX=w.heap.size+1):=hid cf.symm;obtain ⟨gT,ct⟩:=av w.heap.size
 have eE:Hid (w.heap.size=gT):=hid ct;rw [cf] at bd;rw [ct] at bc;have jx:Hid (F x=t'/\N x=n/\gH n=c):=hid ⟨ht',hn,hc⟩;obtain ⟨v,ok,hrun,htr,hfa⟩:=hlk;have eg:=hid hrun;clear hb1 ag hX1 hS1 hi ht hT hj hJ hA hw1 cf ct ht' hn hc h1 h2 hrun hL;cases ok with
 | true =>
  obtain ⟨p2,x2,hk2,hx2,q,rfl,hq2⟩:=htr rfl;have r3:x2=x/\IsT M q (F x)/\N x2=N x:=by
   injection hk2 with e;have e1:p=p2:=by simpa using e
   subst e1;have e:=FZ hx2 HT.out;subst e;exact ⟨rfl,hq2,rfl⟩
  rw [jx.out.1] at r3;rw [r3.2.2,jx.out.2.1,jx.out.2.2] at eg;have hNew:=Rg.Own.new w1 (chA none 0) 81;have js:=hid hNew;have af:Hid (∀ w5,Below w1.heap.size w1 w5->∀ w9,Rg.Upd w5 gX w9->iC (λk=>k=bm) (MJ B L bm (RT F N)) M w t' n (.returned (.agg (chA q c))) w9):=hid (λw5 hb5 w9 hu=>by
   rw [<-jx.out.2.2];exact ((cd.out.below HJ.out hb5).upd HJ.out ap.out.1 ap.out.2.1 hu (by rw [ce.out]; exact Nat.le_succ _) bd.out.n).chg n r3.2.1)
  clear hk2 hx2 hq2 r3 htr hfa hNew HA ef;go_enter func81,ntmps81;go_wp2_with (first
   | (refine ay (bJ _ _ _ gX (by rw [ce.out]; simp) rfl) ?_; rw [<-HW1.out,eE.out])
   | (refine ay (rA (Tm.aU (j:=0) tA.out.o rfl) ⟨_,rfl,rfl⟩) ?_)
   | (refine ay (aT (Tm.aU (j:=0) bc.out.o rfl) ⟨_,rfl,rfl⟩) ?_)
   | (refine ay (nW eg.out ⟨_,_,rfl,rfl,rfl⟩) ?_)
   | (refine ay (bJ _ _ _ w1.heap.size rfl rfl) ?_)
   | (refine bE js.out rfl q c rfl _ _ rfl rfl rfl rfl ?_; intro w5 b8 ax; have bz:Hid (Rg.Own w5 w1.heap.size (chA q c) 81):=hid b8; have ae:Hid (Below w1.heap.size w1 w5):=hid (ax.below (al1 _ _) aF); clear b8 ax; have dq:=hid (bd.out.below ae.out); have ot:=hid (af.out w5 ae.out))
   | (refine ay (kg bz.out ⟨_,rfl,rfl⟩) ?_)
   | (refine bE dq.out.o rfl q c rfl _ _ rfl rfl rfl rfl ?_; intro w9 al aq; have bi:Hid (Rg.Own w9 gX (chA q c) 81):=hid al; have cM:=hid (ot.out w9 aq); clear al aq))
  exact bodyPost_ret (jR rfl _ rfl bi.out) rfl cM.out
 | false =>
  obtain rfl:=hfa rfl;have hNew:=Rg.Own.new w1 (chA none 0) 81;have js:=hid hNew;have HX0:Hid (Bx M (w1.alloc (.cells (chA none 0) 81)) w1.heap.size (chA none 0) 81):=hid ⟨hNew,cd.out.i.free aF,kD _ _⟩;clear htr hfa hNew;go_enter func81,ntmps81;go_wp2_with (first
   | (refine ay (bJ _ _ _ gX (by rw [ce.out]; simp) rfl) ?_; rw [<-HW1.out,eE.out])
   | (refine ay (rA (Tm.aU (j:=0) tA.out.o rfl) ⟨_,rfl,rfl⟩) ?_)
   | (refine ay (aT (Tm.aU (j:=0) bc.out.o rfl) ⟨_,rfl,rfl⟩) ?_)
   | (refine ay (nW eg.out ⟨_,_,rfl,rfl,rfl⟩) ?_)
   | (refine ay (bJ _ _ _ w1.heap.size rfl rfl) ?_)
   | (refine bE js.out rfl none 0 rfl _ _ rfl rfl rfl rfl ?_; intro w2 hO2 hu2; have dm:Hid (Rg.Own w2 w1.heap.size (chA none 0) 81):=hid hO2; have HB2:Hid (Below w1.heap.size w1 w2):=hid (hu2.below (al1 _ _) aF); clear hO2 hu2; have oR:=hid (tw.out.below HB2.out); have ld:=hid (bc.out.below HB2.out))
   | (refine ay (Gj (Tm.aU (j:=0) oR.out.o rfl) ⟨_,rfl,rfl⟩) ?_)
   | (refine ay (aT (Tm.aU (j:=0) ld.out.o rfl) ⟨_,rfl,rfl⟩) ?_))
  have HS2:=hid (cd.out.below HJ.out HB2.out);have HK:Hid (bm<gT/\bm<gX/\bm<w1.heap.size/\gT<w1.heap.size/\gX<w1.heap.size/\w.heap.size<=w1.heap.size):=hid (by
   have h1:=ap.out.2.2;have h2:=eE.out;have h3:=ce.out;have h4:=bd.out.o.1;have h5:=bc.out.o.1;have h6:=HB1.out.size;omega)
  have cv:=hid (bd.out.below HB2.out);have ox:Hid (Bx M w2 w1.heap.size (chA none 0) 81):=hid ⟨dm.out,HX0.out.n,kD _ _⟩;refine (HA.out w2 HS2.out.j HS2.out.i HS2.out.t).mono ?_;rintro e w3 ⟨q,M3,rfl,ht3,f3,i3,t3,j3⟩;rw [jx.out.2.2];have cL:=hid (HS2.out.call f3 i3 t3 j3);have cU:=hid (cv.out.fk HS2.out.i f3 (by have:=HK.out; omega));have tD:=hid (ld.out.fk HS2.out.i f3 (by have:=HK.out; omega));have e9:=hid (ox.out.fk HS2.out.i f3 (by have:=HK.out; omega));have HQ:=hid ht3
  have oS:Hid (∀ k t,M.at_ k=some t->M3.at_ k=some t):=hid (cL.out.f.mono);clear ht3 f3 i3 t3 j3 HA HX0 js dm HB2 oR ld cv ox HS2 eg tA tw bd bc;go_wp2_with (first
   | (refine bE e9.out.o rfl q c rfl _ _ rfl rfl rfl rfl ?_; intro w4 hO4 cN; have cn:Hid (Rg.Own w4 w1.heap.size (chA q c) 81):=hid hO4; have tE:=hid cN; clear hO4 cN; have dv:=hid (cL.out.upd HJ.out ap.out.1 ap.out.2.1 tE.out HK.out.2.2.2.2.2 e9.out.n); have tG:=hid (dv.out.j.bx _ lE.out); have tI:=hid (tD.out.upd tE.out (by have:=HK.out; omega)); have df:=hid (cU.out.upd tE.out (by have:=HK.out; omega)); have oT:=hid (ef.out M3 w4 dv.out.j dv.out.i oS.out q HQ.out))
   | (refine ay (rA (Tm.aU (j:=0) tG.out.o rfl) ⟨_,rfl,rfl⟩) ?_)
   | (refine ay (aT (Tm.aU (j:=0) tI.out.o rfl) ⟨_,rfl,rfl⟩) ?_)
   | (refine ay (kg cn.out ⟨_,rfl,rfl⟩) ?_)
   | (refine yX oT.out rfl _ _ _ rfl rfl rfl rfl ?_; intro w5 A9 ax; have Hn:=hid A9; have jp:=hid ax; clear A9 ax; have bz:=hid (cn.out.upd jp.out (by have:=HK.out; omega)); have dq:=hid (df.out.upd jp.out (by have:=HK.out; omega)); have ju:=hid (Sz dv.out jp.out Hn.out); have ot:Hid (∀ w9,Rg.Upd w5 gX w9->iC (λk=>k=bm) (MJ B L bm (RT F N)) M w t' n (.returned (.agg (chA q c))) w9):=hid (λw9 hu=>by
     rw [<-jx.out.2.2];exact (ju.out.upd HJ.out ap.out.1 ap.out.2.1 hu (by rw [ce.out]; exact Nat.le_succ _) dq.out.n).chg n HQ.out))
   | (refine ay (kg bz.out ⟨_,rfl,rfl⟩) ?_)
   | (refine bE dq.out.o rfl q c rfl _ _ rfl rfl rfl rfl ?_; intro w9 al aq; have bi:Hid (Rg.Own w9 gX (chA q c) 81):=hid al; have cM:=hid (ot.out w9 aq); clear al aq))
  exact bodyPost_ret (jR rfl _ rfl bi.out) rfl cM.out
theorem jB {rest:List Oper} {act:Go.Act} {Q:Exit->Go.Act->World->Prop} {b:Nat} (h:Rg.Own w b #[u] ty) (hst:∀ w:World,w.cell? ⟨b,0,none⟩=some u->w.frozen? ⟨b,0,none⟩=false->(Instr.storeAt ty (.pointer (some ⟨b,0,none⟩)) v).run prog w = .ok () (w.setCell ⟨b,0,none⟩ v))
  (hgd:o.guard=none) (p q:Operand) (ho:o.op = .store ty p q) (hx:act.eval p = .pointer (some ⟨b,0,none⟩)) (hy:act.eval q=v)
  (hQ:∀ w',Rg.Own w' b #[v] ty->Rg.Upd w b w'->wpList prog ops Q rest (act.put o.dst undef) w'):wpList prog ops Q (o::rest) act w :=
 wpList_plain hgd λK hK=>by
  have hc:w.cell? ⟨b,0,none⟩=some u:=Tm.aU (j:=0) h rfl;unfold Oper.wp execOp;simp only [ho,hx,hy,Sem.run_bind,Sem.run_pure,Result.andThen_ok,hst w hc (jm h)];exact hK _ _ (hQ _ (dS h _) (bW _ _ _ _))
theorem YS (ev:Operand->Value) (o:Oper) (w:World) (b:Nat) (hb:b=w.heap.size) (ho:o.op = .alloc 118):(execOp ev o).run prog w = .ok (.value (.pointer (some ⟨b,0,none⟩))) (w.alloc (.cells #[.map none] 118)):=by
 subst hb;unfold execOp;rw [ho];kernel_rfl
theorem YH {b:Nat} (w:World) (hc:w.cell? ⟨b,0,none⟩=some u) (hz:w.frozen? ⟨b,0,none⟩=false):(Instr.storeAt 118 (.pointer (some ⟨b,0,none⟩)) (.map (some m))).run prog w = .ok () (w.setCell ⟨b,0,none⟩ (.map (some m))):=by
 simp [go_sem,hc,hz]
theorem Zf (ev:Operand->Value) (o:Oper) (w:World) (b:Nat) (hb:b=w.heap.size) (ho:o.op = .alloc 139):(execOp ev o).run prog w = .ok (.value (.pointer (some ⟨b,0,none⟩))) (w.alloc (.cells #[.map none] 139)):=by
 subst hb;unfold execOp;rw [ho];kernel_rfl
theorem Zq {b:Nat} (w:World) (hc:w.cell? ⟨b,0,none⟩=some u) (hz:w.frozen? ⟨b,0,none⟩=false):(Instr.storeAt 139 (.pointer (some ⟨b,0,none⟩)) (.map (some m))).run prog w = .ok () (w.setCell ⟨b,0,none⟩ (.map (some m))):=by
 simp [go_sem,hc,hz]
theorem Za (ev:Operand->Value) (o:Oper) (w:World) (b:Nat) (hb:b=w.heap.size) (ho:o.op = .alloc 67):(execOp ev o).run prog w = .ok (.value (.pointer (some ⟨b,0,none⟩))) (w.alloc (.cells #[.map none] 67)):=by
 subst hb;unfold execOp;rw [ho];kernel_rfl
theorem YK {b:Nat} (w:World) (hc:w.cell? ⟨b,0,none⟩=some u) (hz:w.frozen? ⟨b,0,none⟩=false):(Instr.storeAt 67 (.pointer (some ⟨b,0,none⟩)) (.map (some m))).run prog w = .ok () (w.setCell ⟨b,0,none⟩ (.map (some m))):=by
 simp [go_sem,hc,hz]
theorem SH {b:Nat} (hc:w.cell? ⟨b,0,none⟩=some v) (ho:∃ x,o.op = .load 67 x/\ev x = .pointer (some ⟨b,0,none⟩)) :
  (execOp ev o).run prog w = .ok (.value v) w:=by
 obtain ⟨x,ho,hx⟩:=ho;unfold execOp;simp [ho,hx,go_sem,hc]
theorem Zo (ev:Operand->Value) (o:Oper) (w:World) (b:Nat) (hb:b=w.heap.size) (ho:o.op = .alloc 76):(execOp ev o).run prog w = .ok (.value (.pointer (some ⟨b,0,none⟩))) (w.alloc (.cells #[.nilFunc] 76)):=by
 subst hb;unfold execOp;rw [ho];kernel_rfl
theorem Zw {b:Nat} (w:World) (hc:w.cell? ⟨b,0,none⟩=some u) (hz:w.frozen? ⟨b,0,none⟩=false):(Instr.storeAt 76 (.pointer (some ⟨b,0,none⟩)) (.func (.func f) #[] cs)).run prog w = .ok () (w.setCell ⟨b,0,none⟩ (.func (.func f) #[] cs)):=by
 simp [go_sem,hc,hz]
theorem XI {b:Nat} (hc:w.cell? ⟨b,0,none⟩=some v) (ho:∃ x,o.op = .load 76 x/\ev x = .pointer (some ⟨b,0,none⟩)) :
  (execOp ev o).run prog w = .ok (.value v) w:=by
 obtain ⟨x,ho,hx⟩:=ho;unfold execOp;simp [ho,hx,go_sem,hc]
theorem Zg (ev:Operand->Value) (o:Oper) (w:World) (b:Nat) (hb:b=w.heap.size) (ho:o.op = .alloc 109):(execOp ev o).run prog w = .ok (.value (.pointer (some ⟨b,0,none⟩))) (w.alloc (.cells #[.nilFunc] 109)):=by
 subst hb;unfold execOp;rw [ho];kernel_rfl
theorem ZB {b:Nat} (w:World) (hc:w.cell? ⟨b,0,none⟩=some u) (hz:w.frozen? ⟨b,0,none⟩=false):(Instr.storeAt 109 (.pointer (some ⟨b,0,none⟩)) (.func (.func f) #[] cs)).run prog w = .ok () (w.setCell ⟨b,0,none⟩ (.func (.func f) #[] cs)):=by
 simp [go_sem,hc,hz]
theorem XM {b:Nat} (hc:w.cell? ⟨b,0,none⟩=some v) (ho:∃ x,o.op = .load 109 x/\ev x = .pointer (some ⟨b,0,none⟩)) :
  (execOp ev o).run prog w = .ok (.value v) w:=by
 obtain ⟨x,ho,hx⟩:=ho;unfold execOp;simp [ho,hx,go_sem,hc]
theorem YI (ev:Operand->Value) (o:Oper) (w:World) (b:Nat) (hb:b=w.heap.size) (ho:o.op = .alloc 68):(execOp ev o).run prog w = .ok (.value (.pointer (some ⟨b,0,none⟩))) (w.alloc (.cells #[.nilFunc] 68)):=by
 subst hb;unfold execOp;rw [ho];kernel_rfl
theorem Zt {b:Nat} (w:World) (hc:w.cell? ⟨b,0,none⟩=some u) (hz:w.frozen? ⟨b,0,none⟩=false):(Instr.storeAt 68 (.pointer (some ⟨b,0,none⟩)) (.func (.func f) #[] cs)).run prog w = .ok () (w.setCell ⟨b,0,none⟩ (.func (.func f) #[] cs)):=by
 simp [go_sem,hc,hz]
theorem XL {b:Nat} (hc:w.cell? ⟨b,0,none⟩=some v) (ho:∃ x,o.op = .load 68 x/\ev x = .pointer (some ⟨b,0,none⟩)) :
  (execOp ev o).run prog w = .ok (.value v) w:=by
 obtain ⟨x,ho,hx⟩:=ho;unfold execOp;simp [ho,hx,go_sem,hc]
theorem Zy (ev:Operand->Value) (o:Oper) (w:World) (b:Nat) (hb:b=w.heap.size) (ho:o.op = .alloc 34):(execOp ev o).run prog w = .ok (.value (.pointer (some ⟨b,0,none⟩))) (w.alloc (.cells #[.slice none 0 0] 34)):=by
 subst hb;unfold execOp;rw [ho];kernel_rfl
theorem Zr {b:Nat} {n c:Nat} (w:World) (hc:w.cell? ⟨b,0,none⟩=some u) (hz:w.frozen? ⟨b,0,none⟩=false):(Instr.storeAt 34 (.pointer (some ⟨b,0,none⟩)) (.slice a n c)).run prog w = .ok () (w.setCell ⟨b,0,none⟩ (.slice a n c)):=by
 simp [go_sem,hc,hz]
theorem BO {b:Nat} (hc:w.cell? ⟨b,0,none⟩=some v) (ho:∃ x,o.op = .load 34 x/\ev x = .pointer (some ⟨b,0,none⟩)) :
  (execOp ev o).run prog w = .ok (.value v) w:=by
 obtain ⟨x,ho,hx⟩:=ho;unfold execOp;simp [ho,hx,go_sem,hc]
theorem YU (ev:Operand->Value) (o:Oper) (w:World) (b:Nat) (hb:b=w.heap.size) (ho:o.op = .alloc 9):(execOp ev o).run prog w = .ok (.value (.pointer (some ⟨b,0,none⟩))) (w.alloc (.cells #[.string ⟨#[]⟩] 9)):=by
 subst hb;unfold execOp;rw [ho];kernel_rfl
theorem YW {b:Nat} {s:aK} (w:World) (hc:w.cell? ⟨b,0,none⟩=some u) (hz:w.frozen? ⟨b,0,none⟩=false):(Instr.storeAt 9 (.pointer (some ⟨b,0,none⟩)) (.string s)).run prog w = .ok () (w.setCell ⟨b,0,none⟩ (.string s)):=by
 simp [go_sem,hc,hz]
theorem Sl {b:Nat} (hc:w.cell? ⟨b,0,none⟩=some v) (ho:∃ x,o.op = .load 9 x/\ev x = .pointer (some ⟨b,0,none⟩)) :
  (execOp ev o).run prog w = .ok (.value v) w:=by
 obtain ⟨x,ho,hx⟩:=ho;unfold execOp;simp [ho,hx,go_sem,hc]
theorem LV (fa:Nat) (ca:aM) (w:World):Calls prog 30 #[.func (.func fa) #[] ca] w λe w'=>e = .returned (.func (.func 59) #[] #[.pointer (some ⟨w.heap.size+2,0,none⟩),.pointer (some ⟨w.heap.size,0,none⟩)])/\
  Rg.Own w' w.heap.size #[.func (.func fa) #[] ca] 76/\w'.heap[w.heap.size+1]? = some (.map #[] 0)/\Rg.Own w' (w.heap.size+2) #[.map (some (w.heap.size+1))] 118/\Below w.heap.size w w':=by
 have fY:∀ (fn:Fn) (first cap:aM) (w:World),(Instr.makeFunc fn first cap).run prog w = .ok (.func fn first cap) w:=λ_ _ _ _=>rfl;have hmm:=@run_makeMap prog;obtain ⟨w1,hw1⟩:=au (((w.alloc (.cells #[.func (.func fa) #[] ca] 76)).alloc (.map #[] 0)).alloc (.cells #[.map none] 118))
 have hO:Rg.Own w1 w.heap.size #[.func (.func fa) #[] ca] 76:=by rw [hw1]; exact ((Rg.Own.new _ _ _).below (al1 _ _)).below (al1 _ _)
 have hM:w1.heap[w.heap.size+1]? = some (.map #[] 0):=by
  rw [hw1,(al1 ((w.alloc (.cells #[.func (.func fa) #[] ca] 76)).alloc (.map #[] 0)) (.cells #[.map none] 118)).block _ (by simp)];have h:∀ v:World,(v.alloc (.map #[] 0)).heap[v.heap.size]? = some (.map #[] 0):=λv=>by show (v.heap.push _)[v.heap.size]? = _; simp
  have h2:=h (w.alloc (.cells #[.func (.func fa) #[] ca] 76));simpa using h2
 have hX:Rg.Own w1 (w.heap.size+2) #[.map none] 118:=by
  have:=Rg.Own.new ((w.alloc (.cells #[.func (.func fa) #[] ca] 76)).alloc (.map #[] 0)) #[.map none] 118;rw [hw1];simpa using this
 have hB:Below w.heap.size w w1:=by rw [hw1]; exact ((al2 _ _ _).trans ((al1 _ _).mono (by simp; omega)))
 have HO:=hid hO;have HM:=hid hM;have HX:=hid hX;have HB:=hid hB;have HW1:=hid hw1;clear hO hM hX hB hw1;go_enter func30,ntmps30;go_wp2_with (first
  | (refine ay (YS _ _ _ (w.heap.size+2) (by simp) rfl) ?_; rw [<-HW1.out])
  | (refine jB HX.out YH rfl _ _ rfl rfl rfl ?_; intro w2 hO2 hu2; have dm:Hid (Rg.Own w2 (w.heap.size+2) #[.map (some (w.heap.size+1))] 118):=hid hO2; have tM:=hid hu2; clear hO2 hu2))
 go_ret;exact ⟨rfl,HO.out.upd tM.out (by omega),(tM.out.block _ (by omega)).trans HM.out,dm.out,tM.out.below HB.out (by omega)⟩
theorem KW (fa:Nat) (ca:aM) (w:World):Calls prog 47 #[.func (.func fa) #[] ca] w λe w'=>e = .returned (.func (.func 81) #[] #[.pointer (some ⟨w.heap.size+2,0,none⟩),.pointer (some ⟨w.heap.size,0,none⟩)])/\
  Rg.Own w' w.heap.size #[.func (.func fa) #[] ca] 109/\w'.heap[w.heap.size+1]? = some (.map #[] 0)/\Rg.Own w' (w.heap.size+2) #[.map (some (w.heap.size+1))] 139/\Below w.heap.size w w':=by
 have fY:∀ (fn:Fn) (first cap:aM) (w:World),(Instr.makeFunc fn first cap).run prog w = .ok (.func fn first cap) w:=λ_ _ _ _=>rfl;have hmm:=@run_makeMap prog;obtain ⟨w1,hw1⟩:=au (((w.alloc (.cells #[.func (.func fa) #[] ca] 109)).alloc (.map #[] 0)).alloc (.cells #[.map none] 139))
 have hO:Rg.Own w1 w.heap.size #[.func (.func fa) #[] ca] 109:=by rw [hw1]; exact ((Rg.Own.new _ _ _).below (al1 _ _)).below (al1 _ _)
 have hM:w1.heap[w.heap.size+1]? = some (.map #[] 0):=by
  rw [hw1,(al1 ((w.alloc (.cells #[.func (.func fa) #[] ca] 109)).alloc (.map #[] 0)) (.cells #[.map none] 139)).block _ (by simp)];have h:∀ v:World,(v.alloc (.map #[] 0)).heap[v.heap.size]? = some (.map #[] 0):=λv=>by show (v.heap.push _)[v.heap.size]? = _; simp
  have h2:=h (w.alloc (.cells #[.func (.func fa) #[] ca] 109));simpa using h2
 have hX:Rg.Own w1 (w.heap.size+2) #[.map none] 139:=by
  have:=Rg.Own.new ((w.alloc (.cells #[.func (.func fa) #[] ca] 109)).alloc (.map #[] 0)) #[.map none] 139;rw [hw1];simpa using this
 have hB:Below w.heap.size w w1:=by rw [hw1]; exact ((al2 _ _ _).trans ((al1 _ _).mono (by simp; omega)))
 have HO:=hid hO;have HM:=hid hM;have HX:=hid hX;have HB:=hid hB;have HW1:=hid hw1;clear hO hM hX hB hw1;go_enter func47,ntmps47;go_wp2_with (first
  | (refine ay (Zf _ _ _ (w.heap.size+2) (by simp) rfl) ?_; rw [<-HW1.out])
  | (refine jB HX.out Zq rfl _ _ rfl rfl rfl ?_; intro w2 hO2 hu2; have dm:Hid (Rg.Own w2 (w.heap.size+2) #[.map (some (w.heap.size+1))] 139):=hid hO2; have tM:=hid hu2; clear hO2 hu2))
 go_ret;exact ⟨rfl,HO.out.upd tM.out (by omega),(tM.out.block _ (by omega)).trans HM.out,dm.out,tM.out.below HB.out (by omega)⟩
def JC (J:Mp->World->Prop) (b:Nat) (cs:aM) (ty:TypeId) (M:Mp) (w:World):Prop:=J M w/\Bx M w b cs ty
theorem JOk.YO {J:Mp->World->Prop} (h:JOk B K J) {b:Nat} (hb:B<=b) (cs:aM) (ty:TypeId):JOk (b+1) K (JC J b cs ty):=by
 refine ⟨λM M' w w' hj hi hs hk hm hf hx=>⟨h.fr M M' w w' hj.1 hi hs (λk hk'=>hk k (by omega)) hm (λk hk'=>hf k (by omega)) (λk hk'=>hx k (by omega)),⟨⟨aH hj.2.o.1 hs,(hk b (Nat.lt_succ_self _) (lM hi hj.2.n)).trans hj.2.o.2⟩,λe=>hj.2.n (hf b (Nat.lt_succ_self _) e),hj.2.h⟩⟩,λM w hj hi=>h.kc M w hj.1 hi,λk hk=>by have:=h.lt k hk; omega,λM w hj=>hj.2.o.1⟩
def dN (d:Int):Nat:=(max d 1).toNat
def RB (D:Nat) (_:Pa) (s:T):Du:=if D<=1 then none else some (cB (D-1) s,dL (cB (D-1) s))
theorem Ih (D:Nat):nM (RB D)=oL D:=by
 funext st s;unfold nM RB oL;by_cases h:(ref s).size=32
 .rw [if_pos h,if_pos h];by_cases hd:D<=1
  .rw [if_pos hd,if_pos hd]; rfl
  .rw [if_neg hd,if_neg hd]; rfl
 .rw [if_neg h,if_neg h]
theorem GK {st:Pa} {s:T} (hs:dL s=0):lN (RB D) st s=dL (oL D st s):=by
 unfold lN RB oL;by_cases h:(ref s).size=32
 .rw [if_pos h,if_pos h];by_cases hd:D<=1
  .rw [if_pos hd,if_pos hd]; rfl
  .rw [if_neg hd,if_neg hd]; rfl
 .rw [if_neg h,if_neg h]; exact hs.symm
theorem OkF.congr {F:Pa->T->T} {C C':Pa->T->Nat} {t:T} (h:OkF F C t) (e:∀ j,j<(bC t).length->C' ((dK t).getD j []) ((bC t).getD j .nil)=C ((dK t).getD j []) ((bC t).getD j .nil)):OkF F C' t:=λj hj=>by
 obtain ⟨h1,h2,h3,h4⟩:=h j hj;exact ⟨h1,h2,λhz=>h3 (by rw [<-e j hj]; exact hz),h4⟩
theorem Bh {C C':Pa->T->Nat} {t:T} (e:∀ j,j<(bC t).length->C' ((dK t).getD j []) ((bC t).getD j .nil)=C ((dK t).getD j []) ((bC t).getD j .nil)):jQ C' t (bC t).length=jQ C t (bC t).length:=by
 unfold jQ;congr 1;apply List.map_congr_left;intro j hj;exact e j (List.mem_range.1 hj)
theorem IG {t:T} (g:Tr.Good t L) (f:Fine t) (hf:Tr.Full t) (hj:j<(bC t).length):dL ((bC t).getD j .nil)=0:=vZ _ ((kL g f _ (qd hj)).2.2.1 hf)
theorem Mc {t:T} (g:Tr.Good t L) (hL:L<=64) (f:Fine t) (hf:Tr.Full t) (D:Nat):OkF (nM (RB D)) (lN (RB D)) t/\rW (nM (RB D)) t=cB D t/\jQ (lN (RB D)) t (bC t).length=dL (cB D t):=by
 have e:∀ j,j<(bC t).length->lN (RB D) ((dK t).getD j []) ((bC t).getD j .nil)=dL (oL D ((dK t).getD j []) ((bC t).getD j .nil)):=λj hj=>GK (IG g f hf hj);have h:=TI g hL f (JX D);rw [Ih];refine ⟨h.congr e,DX D t,?_⟩;rw [Bh (C:=λst s=>dL (oL D st s)) e,DF _ _ (nY hf),DX]
abbrev Fb (d:Int) (x:T):T:=cB (dN d) x
abbrev Nb (d:Int) (x:T):Nat:=dL (cB (dN d) x)
def Lb (bt bm ba gB:Nat):List (Nat × Value × TypeId) :=
 [(bt,.map (some bm),118),(ba,.func (.func 31) #[] #[.pointer (some ⟨gB,0,none⟩)],76),(gB,.func (.func 59) #[] #[.pointer (some ⟨bt,0,none⟩),.pointer (some ⟨ba,0,none⟩)],76)]
theorem Hl {B bt bm ba gB bp bs:Nat} (ei:∀ x∈Lb bt bm ba gB,x.1<B) (eh:bm<B) (hbp:B<=bp) (hbs:bp<bs) (px:aJ) (d:Int) (hd : -9223372036854775808<=d/\d<=9223372036854775807) (st:Pa) (s:T)
  (gr:1<d->∀ (M:Mp) (w:World) (p:aJ),MJ B (Lb bt bm ba gB) bm (RP Fb Nb) M w->Inv M w->Tab w->IsT M p s->Calls prog 59 #[.agg (plA p (d-1)),.pointer (some ⟨bt,0,none⟩),.pointer (some ⟨ba,0,none⟩)] w (iC (λk=>k=bm) (MJ B (Lb bt bm ba gB) bm (RP Fb Nb)) M w (Fb (d-1) s) (Nb (d-1) s))) :
  Ay (λk=>k=bm) (JB (JC (MJ B (Lb bt bm ba gB) bm (RP Fb Nb)) bp (plA px d) 79) bs (.func (.func 33) #[] #[.pointer (some ⟨bp,0,none⟩),.pointer (some ⟨gB,0,none⟩)]) 84) 33 #[.pointer (some ⟨bp,0,none⟩),.pointer (some ⟨gB,0,none⟩)] st s (RB (dN d) st s):=by
 have hJ0:=DJ (FN Fb Nb) ei eh;have hJ2:=(hJ0.YO hbp (plA px d) 79).box (Nat.succ_le_of_lt hbs) (.func (.func 33) #[] #[.pointer (some ⟨bp,0,none⟩),.pointer (some ⟨gB,0,none⟩)]) 84;have As:(gB,Value.func (.func 59) #[] #[.pointer (some ⟨bt,0,none⟩),.pointer (some ⟨ba,0,none⟩)],76)∈Lb bt bm ba gB:=by simp [Lb]
 obtain ⟨J0,mx⟩:=av (MJ B (Lb bt bm ba gB) bm (RP Fb Nb))
 have HG:Hid (∀ M w,J0 M w->Bx M w gB #[.func (.func 59) #[] #[.pointer (some ⟨bt,0,none⟩),.pointer (some ⟨ba,0,none⟩)]] 76):=hid (λM w h=>by
  rw [<-mx] at h;exact h.bx _ As)
 rw [mx] at hJ2 gr ⊢;obtain ⟨vS,At⟩:=av (Value.func (.func 33) #[] #[.pointer (some ⟨bp,0,none⟩),.pointer (some ⟨gB,0,none⟩)])
 rw [At] at hJ2 ⊢;clear mx As hJ0 At ei;intro M w a m c p hj hi hT hB ht;show Calls prog 33 #[.slice a m c,.agg #[.pointer p],.pointer (some ⟨bp,0,none⟩),.pointer (some ⟨gB,0,none⟩)] w _;obtain ⟨w1,hw1⟩:=au ((w.alloc (.cells #[.pointer p] 31)).alloc (.cells (chA none 0) 81))
 have hb1:Below w.heap.size w w1:=by rw [hw1]; exact al2 _ _ _
 have ag:Rg.Own w1 w.heap.size #[.pointer p] 31:=by rw [hw1]; exact (Rg.Own.new _ _ _).below (al1 _ _)
 have hX1:Rg.Own w1 (w.heap.size+1) (chA none 0) 81:=by
  have:=Rg.Own.new (w.alloc (.cells #[.pointer p] 31)) (chA none 0) 81;rw [hw1];simpa using this
 have hS1:=(Sg.start hJ2 hi hT hj).below hJ2 hb1;have h0:w1.cell? ⟨bp,1,none⟩=some (.int .i64 d):=Tm.aU (j:=1) hS1.j.1.2.o rfl;have HC:Hid (w1.cell? ⟨gB,0,none⟩=some (.func (.func 59) #[] #[.pointer (some ⟨bt,0,none⟩),.pointer (some ⟨ba,0,none⟩)])):=hid (Tm.aU (j:=0) (HG.out M w1 hS1.j.1.1).o rfl);have cd:=hid hS1;have bd:Hid (Bx M w1 (w.heap.size+1) (chA none 0) 81):=hid ⟨hX1,hi.free (Nat.le_succ _),kD _ _⟩
 have bc:Hid (Bx M w1 w.heap.size #[.pointer p] 31):=hid ⟨ag,hi.free aF,bX _⟩;have HW1:=hid hw1;have HJ:=hid hJ2;have HT:=hid ht;have ap:Hid (bs+1<=w.heap.size/\0<w.heap.size):=hid ⟨hJ2.sz M w hj,hT.pos⟩;have HK:Hid (bm<bp/\bm<bs/\bm<w.heap.size):=hid (by have:=hJ2.sz M w hj; omega);have Ax:=hid gr;obtain ⟨gT,ct⟩:=av w.heap.size
 obtain ⟨gX,cf⟩:=av (w.heap.size+1)
 have ce:Hid (gX=w.heap.size+1):=hid cf.symm;have eE:Hid (w.heap.size=gT):=hid ct;rw [cf] at bd;rw [ct] at bc;by_cases h1:d<=1
 .have hr:RB (dN d) st s=none:=if_pos (by unfold dN; omega);rw [hr];have q1:decide (d<=1)=true:=aI h1;have af:Hid (∀ w9,Rg.Upd w1 gX w9->Jj (λk=>k=bm) (JB (JC J0 bp (plA px d) 79) bs vS 84) M w none (.returned (.tuple #[.agg (chA none 0),.bool false])) w9):=hid (λw9 hu=>by
   have h:=cd.out.upd HJ.out ap.out.1 ap.out.2 hu (by rw [ce.out]; exact Nat.le_succ _) bd.out.n;exact ⟨rfl,h.f,h.i,h.t,h.j⟩)
  clear hb1 ag hX1 hS1 hi hT hj ht hB hJ2 gr hw1 ct cf hr Ax hd eh hbp hbs h1 HC;go_enter func33,ntmps33;go_wp2_with (first
   | (refine ay (bJ _ _ _ gX (by rw [ce.out]; simp) rfl) ?_; rw [<-HW1.out,eE.out])
   | (refine ay (bK Dx ⟨_,rfl,rfl⟩) ?_)
   | (refine bE bd.out.o rfl none 0 rfl _ _ rfl rfl rfl rfl ?_; intro w9 al aq; have bi:Hid (Rg.Own w9 gX (chA none 0) 81):=hid al; have cM:=hid (af.out w9 aq); clear al aq))
  exact bodyPost_ret (Ar (u:=6) (v:=7) rfl _ rfl bi.out) rfl cM.out
 .have hr:RB (dN d) st s=some (Fb (d-1) s,Nb (d-1) s):=by
   unfold RB Fb Nb;have e:dN d-1=dN (d-1):=by unfold dN; omega
   rw [if_neg (by unfold dN; omega),e]
  rw [hr];have q1:decide (d<=1)=false:=decide_eq_false h1;have q2:1<d:=by omega
  have cW:=hid (Ax.out q2 M w1 p cd.out.j.1.1 cd.out.i cd.out.t ht);obtain ⟨t',ht'⟩:=av (Fb (d-1) s)
  obtain ⟨n,hn⟩:=av (Nb (d-1) s)
  obtain ⟨cc,hcc⟩:=av (gH n)
  have fS:=hid hcc;rw [ht',hn] at cW ⊢;clear hb1 ag hX1 hS1 hi hT hj ht hB hJ2 gr hw1 ct cf hr Ax eh hbp hbs ht' hn hcc;go_enter func33,ntmps33;go_wp2_with (first
   | (refine ay (bJ _ _ _ gX (by rw [ce.out]; simp) rfl) ?_; rw [<-HW1.out,eE.out])
   | (refine ay (XI HC.out ⟨_,rfl,rfl⟩) ?_)
   | (refine ay (aT (Tm.aU (j:=0) bc.out.o rfl) ⟨_,rfl,rfl⟩) ?_)
   | (refine ay (bK (IV p (d-1)) ⟨_,rfl,rfl⟩) ?_))
  refine cW.out.mono ?_;rintro e w2 ⟨q,M2,rfl,ht2,f2,i2,t2,j2⟩;rw [fS.out];have HS2:=hid (cd.out.call f2 i2 t2 ⟨⟨j2,cd.out.j.1.2.fk cd.out.i f2 (by have:=HK.out; omega)⟩,cd.out.j.2.fk cd.out.i f2 (by have:=HK.out; omega)⟩);have cv:=hid (bd.out.fk cd.out.i f2 (by have:=HK.out; have:=ce.out; omega));have af:Hid (∀ w9,Rg.Upd w2 gX w9->Jj (λk=>k=bm) (JB (JC J0 bp (plA px d) 79) bs vS 84) M w (some (t',n)) (.returned (.tuple #[.agg (chA q cc),.bool true])) w9):=hid (λw9 hu=>by
   have h:=HS2.out.upd HJ.out ap.out.1 ap.out.2 hu (by rw [ce.out]; exact Nat.le_succ _) cv.out.n;exact ⟨q,M2,by rw [<-fS.out],ht2,h.f,h.i,h.t,h.j⟩)
  clear ht2 f2 i2 t2 j2 cW bd bc HC h0;go_wp2_with (first
   | (refine bE cv.out.o rfl q cc rfl _ _ rfl rfl rfl rfl ?_; intro w9 al aq; have bi:Hid (Rg.Own w9 gX (chA q cc) 81):=hid al; have cM:=hid (af.out w9 aq); clear al aq))
  exact bodyPost_ret (Ar (u:=6) (v:=7) rfl _ rfl bi.out) rfl cM.out
theorem KY {B bt bm ba gB:Nat} (ei:∀ x∈Lb bt bm ba gB,x.1<B) (eh:bm<B) (M:Mp) (p:aJ) (d:Int) (hd : -9223372036854775808<=d/\d<=9223372036854775807) (x:T) (L:Nat) (g:Tr.Good x L) (hL:L<=64) (f:Fine x) (hf:Tr.Full x)
  (gr:∀ s,s∈bC x->1<d->∀ (M:Mp) (w:World) (p:aJ),MJ B (Lb bt bm ba gB) bm (RP Fb Nb) M w->Inv M w->Tab w->IsT M p s->Calls prog 59 #[.agg (plA p (d-1)),.pointer (some ⟨bt,0,none⟩),.pointer (some ⟨ba,0,none⟩)] w (iC (λk=>k=bm) (MJ B (Lb bt bm ba gB) bm (RP Fb Nb)) M w (Fb (d-1) s) (Nb (d-1) s)))
  (w:World) (hi:Inv M w) (ht:IsT M p x) (hT:Tab w) (hj:MJ B (Lb bt bm ba gB) bm (RP Fb Nb) M w) :
  Calls prog 31 #[.agg (plA p d),.pointer (some ⟨gB,0,none⟩)] w (iC (λk=>k=bm) (MJ B (Lb bt bm ba gB) bm (RP Fb Nb)) M w (Fb d x) (Nb d x)):=by
 have hJ0:=DJ (FN Fb Nb) ei eh;have hBw:=hJ0.sz M w hj;obtain ⟨c1,c2,c3⟩:=Mc g hL f hf (dN d);obtain ⟨w1,hw1⟩:=au ((w.alloc (.cells (plA p d) 79)).alloc (.cells (chA none 0) 81))
 have hb1:Below w.heap.size w w1:=by rw [hw1]; exact al2 _ _ _
 have ag:Rg.Own w1 w.heap.size (plA p d) 79:=by rw [hw1]; exact (Rg.Own.new _ _ _).below (al1 _ _)
 have hX1:Rg.Own w1 (w.heap.size+1) (chA none 0) 81:=by
  have:=Rg.Own.new (w.alloc (.cells (plA p d) 79)) (chA none 0) 81;rw [hw1];simpa using this
 have hS1:=(Sg.start hJ0 hi hT hj).below hJ0 hb1;have hPb:Bx M w1 w.heap.size (plA p d) 79:=⟨ag,hi.free aF,XP _ _⟩
 have im:=hid (λ(w2:World) (tP:Nat) (hb2:Below w1.heap.size w1 w2) (hx:Bx M w2 tP #[.pointer p] 31)=>by
  have h:=Dw (hJ0.YO hBw (plA p d) 79) 33 #[.pointer (some ⟨w.heap.size,0,none⟩),.pointer (some ⟨gB,0,none⟩)] (enters_of func33 (by kernel_rfl) rfl) M p x L g hL f (RB (dN d)) c1
   (λj bs hjl hbs _=>Hl ei eh hBw (Nat.lt_of_succ_le hbs) p d hd _ _ (λh1=>gr _ (qd hjl) h1)) tP w2 ((hS1.below hJ0 hb2).i) ht ((hS1.below hJ0 hb2).t) ⟨(hS1.below hJ0 hb2).j,hPb.below hb2⟩ hx
  rwa [c2,c3] at h)
 have bd:Hid (Bx M w1 (w.heap.size+1) (chA none 0) 81):=hid ⟨hX1,hi.free (Nat.le_succ _),kD _ _⟩;have bc:=hid hPb;have cd:=hid hS1;have HJ:=hid hJ0;have HW1:=hid hw1;have ap:Hid (B<=w.heap.size/\0<w.heap.size/\bm<w.heap.size):=hid ⟨hBw,hT.pos,by omega⟩;obtain ⟨J0,mx⟩:=av (MJ B (Lb bt bm ba gB) bm (RP Fb Nb))
 rw [mx] at cd HJ im ⊢;obtain ⟨t',ht'⟩:=av (Fb d x)
 obtain ⟨n,hn⟩:=av (Nb d x)
 obtain ⟨cc,hcc⟩:=av (gH n)
 have fS:=hid hcc;have tR:Hid (∀ (w2:World) (tP:Nat),Below w1.heap.size w1 w2->Bx M w2 tP #[.pointer p] 31->Calls prog 60 #[.func (.func 33) #[] #[.pointer (some ⟨w.heap.size,0,none⟩),.pointer (some ⟨gB,0,none⟩)],.pointer (some ⟨tP,0,none⟩)] w2 (iC (λk=>k=bm) (JC J0 w.heap.size (plA p d) 79) M w2 t' n)):=hid (λw2 tP hb hx=>by
  rw [<-ht',<-hn];exact im.out w2 tP hb hx)
 rw [ht',hn];obtain ⟨gX,cf⟩:=av (w.heap.size+1)
 have ce:Hid (gX=w.heap.size+1):=hid cf.symm;rw [cf] at bd;obtain ⟨gP,tS⟩:=av w.heap.size
 have V2:Hid (w.heap.size=gP):=hid tS;rw [tS] at bc tR;clear hJ0 hBw c1 c2 c3 hb1 ag hX1 hS1 hPb hi ht hT hj gr hw1 mx ht' hn hcc cf tS im ei eh g f hf hd;have fY:∀ (fn:Fn) (first cap:aM) (w:World),(Instr.makeFunc fn first cap).run prog w = .ok (.func fn first cap) w:=λ_ _ _ _=>rfl;go_enter func31,ntmps31;go_wp2_with (first
  | (refine ay (bJ _ _ _ gX (by rw [ce.out]; simp) rfl) ?_; rw [<-HW1.out,V2.out])
  | (refine ay (aT (Tm.aU (j:=0) bc.out.o rfl) ⟨_,rfl,rfl⟩) ?_))
 refine (zA p w1).mono ?_;rintro e w2 ⟨rfl,hO2,hb2⟩;have ox:=hid (tR.out w2 w1.heap.size hb2 ⟨hO2,cd.out.i.free aF,bX _⟩);have HS2:=hid (cd.out.below HJ.out hb2);have cv:=hid (bd.out.below hb2);clear hO2 hb2 tR bd bc cd;go_wp2_with fail
 refine ox.out.mono ?_;rintro e w3 ⟨q,M3,rfl,ht3,f3,i3,t3,j3⟩;rw [fS.out];have cL:=hid (HS2.out.call f3 i3 t3 j3.1);have cU:=hid (cv.out.fk HS2.out.i f3 (by have:=ap.out; have:=ce.out; omega));have af:Hid (∀ w9,Rg.Upd w3 gX w9->iC (λk=>k=bm) J0 M w t' n (.returned (.agg (chA q cc))) w9):=hid (λw9 hu=>by
  rw [<-fS.out];exact (cL.out.upd HJ.out ap.out.1 ap.out.2.1 hu (by rw [ce.out]; exact Nat.le_succ _) cU.out.n).chg n ht3)
 clear ht3 f3 i3 t3 j3 ox HS2 cv;go_wp2_with (first
  | (refine bE cU.out.o rfl q cc rfl _ _ rfl rfl rfl rfl ?_; intro w9 al aq; have bi:Hid (Rg.Own w9 gX (chA q cc) 81):=hid al; have cM:=hid (af.out w9 aq); clear al aq))
 exact bodyPost_ret (jR rfl _ rfl bi.out) rfl cM.out
theorem Kj {B bt bm ba gB:Nat} (ei:∀ x∈Lb bt bm ba gB,x.1<B) (eh:bm<B) (L:Nat):L<=64->∀ (x:T),Tr.Good x L->Fine x->Tr.Full x->∀ (d:Int), -9223372036854775808<=d/\d<=9223372036854775807->∀ (M:Mp) (w:World) (p:aJ),MJ B (Lb bt bm ba gB) bm (RP Fb Nb) M w->Inv M w->Tab w->IsT M p x->
  Calls prog 59 #[.agg (plA p d),.pointer (some ⟨bt,0,none⟩),.pointer (some ⟨ba,0,none⟩)] w (iC (λk=>k=bm) (MJ B (Lb bt bm ba gB) bm (RP Fb Nb)) M w (Fb d x) (Nb d x)):=by
 induction L using Nat.strongRecOn with
 | ind L ih =>
  intro hL x g f hf d hd M w p hj hi hT ht;exact Qb Fb Nb ei eh bt ba 31 #[.pointer (some ⟨gB,0,none⟩)] (by simp [Lb]) (by simp [Lb]) (enters_of func31 (by kernel_rfl) rfl) M p d x w hi ht hT hj λw1 hj1 hi1 hT1 =>
   KY ei eh M p d hd x L g hL f hf (λs hs h1 M w p hj hi hT ht=>by
    obtain ⟨_,f',hf',L',hl,g'⟩:=kL g f s hs;exact ih L' hl (by omega) s g' f' (hf' hf) (d-1) (by omega) M w p hj hi hT ht) w1 hi1 ht hT1 hj1
def wH (M:Mp) (w:World) (t:T) (e:Ending) (w':World):Prop:=∃ q M',e = .returned (tv q)/\IsT M' q t/\Fnw M M' w w'/\Inv M' w'/\Tab w'
theorem Vq (m:Nat):∀ (j:Nat) (x:Int),(#[Value.map (some m)]:aM)[j]? ≠ some (Value.int .u8 x):=λj x h=>by
 match j,h with
 | 0,h=>simp at h
 | j+1,h=>simp at h
theorem Br {b:Nat} (h:w.heap[b]? = some (.map #[] 0)) (R:Value->Value->Prop):oW w b R:=⟨#[],0,h,λe he=>by simp at he⟩
theorem ER (M:Mp) (p:aJ) (t:T) (L:Nat) (g:Tr.Good t L) (hL:L<=64) (f:Fine t) (hf:Tr.Full t) (d:Int) (hd : -9223372036854775808<=d/\d<=9223372036854775807) (w:World) (hi:Inv M w) (ht:IsT M p t) (hT:Tab w) :
  Calls prog 11 #[tv p,.int .i64 d] w (wH M w (Fb d t)):=by
 obtain ⟨w1,hw1⟩:=au ((w.alloc (.cells #[.pointer p] 31)).alloc (.cells #[.pointer none] 31))
 obtain ⟨w2,hw2⟩:=au (w1.alloc (.cells #[.nilFunc] 76))
 have hb1:Below w.heap.size w w1:=by rw [hw1]; exact al2 _ _ _
 have hs1:w1.heap.size=w.heap.size+2:=by rw [hw1]; simp
 have dy:Below w1.heap.size w1 w2:=by rw [hw2]; exact al1 _ _
 have hs2:w2.heap.size=w.heap.size+3:=by rw [hw2]; simp [hs1]
 have hb2:Below w.heap.size w w2:=bst hb1 dy;have hO:Rg.Own w2 w.heap.size #[.pointer p] 31:=by
  refine Rg.Own.below ?_ dy;rw [hw1];exact (Rg.Own.new _ _ _).below (al1 _ _)
 have hX:Rg.Own w2 (w.heap.size+1) #[.pointer none] 31:=by
  refine Rg.Own.below ?_ dy;have:=Rg.Own.new (w.alloc (.cells #[.pointer p] 31)) #[.pointer none] 31;rw [hw1];simpa using this
 have hG:Rg.Own w2 (w.heap.size+2) #[.nilFunc] 76:=by
  have:=Rg.Own.new w1 #[.nilFunc] 76;rw [hs1] at this;rw [hw2];exact this
 obtain ⟨gT,ct⟩:=av w.heap.size
 obtain ⟨gX,cf⟩:=av (w.heap.size+1)
 obtain ⟨gB,hgB⟩:=av (w.heap.size+2)
 have oX:=hid (LV 31 #[.pointer (some ⟨gB,0,none⟩)] w2);have nl:Hid (∀ w3 w4,Below w2.heap.size w2 w3->Rg.Own w3 w2.heap.size #[.func (.func 31) #[] #[.pointer (some ⟨gB,0,none⟩)]] 76->w3.heap[w2.heap.size+1]? = some (.map #[] 0)->Rg.Own w3 (w2.heap.size+2) #[.map (some (w2.heap.size+1))] 118->
   Rg.Own w4 gB #[.func (.func 59) #[] #[.pointer (some ⟨w2.heap.size+2,0,none⟩),.pointer (some ⟨w2.heap.size,0,none⟩)]] 76->Rg.Upd w3 gB w4->
   Bx M w4 gT #[.pointer p] 31/\Bx M w4 gX #[.pointer none] 31/\Calls prog 59 #[.agg (plA p d),.pointer (some ⟨w2.heap.size+2,0,none⟩),.pointer (some ⟨w2.heap.size,0,none⟩)] w4 (λe w'=>∃ q M' c,e = .returned (.agg (chA q c))/\IsT M' q (Fb d t)/\Fnw M M' w w'/\Inv M' w'/\Tab w'/\Bx M' w' gX #[.pointer none] 31)):=hid (λw3 w4 hb3 ha hm hbt hg hu=>by
  have hs3:=hb3.size;have hl3:=(Array.getElem?_eq_some_iff.1 hbt.2).1;have hb4:Below w.heap.size w w4:=hu.below (hb2.trans (hb3.mono (by omega))) (by omega);have hi4:=hi.below hb4;have hs4:=hu.size;have hfr:∀ k,w.heap.size<=k->¬ M.ft k:=λk hk=>hi.free hk;have n9:Bx M w4 gX #[.pointer none] 31:=⟨by rw [<-cf]; exact (hX.below hb3).upd hu (by omega),hfr _ (by omega),bX _⟩
  have hO4:Bx M w4 gT #[.pointer p] 31:=⟨by rw [<-ct]; exact (hO.below hb3).upd hu (by omega),hfr _ (by omega),bX _⟩
  have hj:MJ w4.heap.size (Lb (w2.heap.size+2) (w2.heap.size+1) w2.heap.size gB) (w2.heap.size+1) (RP Fb Nb) M w4:=by
   refine ⟨λx hx=>?_,Br ((hu.block _ (by omega)).trans hm) _,hfr _ (by omega),aF⟩;unfold Lb at hx;rcases List.mem_cons.1 hx with rfl | hx
   .exact ⟨hbt.upd hu (by show w2.heap.size+2≠gB; omega),hfr _ (by show w.heap.size<=w2.heap.size+2; omega),Vq _⟩
   .rcases List.mem_cons.1 hx with rfl | hx
    .exact ⟨ha.upd hu (by show w2.heap.size≠gB; omega),hfr _ (by show w.heap.size<=w2.heap.size; omega),Hw _ _⟩
    .rw [List.mem_singleton.1 hx];exact ⟨hg,hfr _ (by show w.heap.size<=gB; omega),Hw _ _⟩
  refine ⟨hO4,n9,?_⟩;refine (Kj (B:=w4.heap.size) (λx hx=>(hj.bx x hx).o.1) hj.m.lt L hL t g f hf d hd M w4 p hj hi4 (hT.below hb4 hT.pos) ht).mono ?_;rintro e w' ⟨q,M',he,hq,AC,hi',ht',_⟩;exact ⟨q,M',_,he,hq,(Fnw.of (Fr.below M hb4)).trans AC (λk hk=>.inr (by omega)),hi',ht',n9.fk hi4 AC (by omega)⟩)
 have HX:Hid (Rg.Own w2 gX #[.pointer none] 31):=hid (by rw [<-cf]; exact hX);have HG:Hid (Rg.Own w2 gB #[.nilFunc] 76):=hid (by rw [<-hgB]; exact hG);have HS:Hid (gT=w.heap.size/\gX=w.heap.size+1/\gB=w.heap.size+2/\0<w.heap.size):=hid ⟨ct.symm,cf.symm,hgB.symm,hT.pos⟩;have HW1:=hid hw1;have HW2:=hid hw2;have cd:=hid hs1;obtain ⟨t',ht'⟩:=av (Fb d t)
 rw [ht'] at nl ⊢;clear hb1 hs1 dy hs2 hb2 hO hX hG ct cf hgB hi ht hT hw1 hw2 ht' g f hf hd;have fY:∀ (fn:Fn) (first cap:aM) (w:World),(Instr.makeFunc fn first cap).run prog w = .ok (.func fn first cap) w:=λ_ _ _ _=>rfl;have hgo:Calls prog 11 #[.agg #[.pointer p],.int .i64 d] w (wH M w t'):=by
  go_enter func11,ntmps11;go_wp2_with (first
   | (refine ay (aW _ _ _ gX (by rw [HS.out.2.1]; simp) rfl) ?_; rw [<-HW1.out,<-HS.out.1])
   | (refine ay (Zo _ _ _ gB (by rw [HS.out.2.2.1,cd.out]) rfl) ?_; rw [<-HW2.out]))
  refine oX.out.mono ?_;rintro e w3 ⟨rfl,ha,hm,hbt,hb3⟩;have j8:=hid (HG.out.below hb3);have HT3:Hid (∀ w4,_->_->_):=hid (λw4=>nl.out w3 w4 hb3 ha hm hbt);clear ha hm hbt hb3 oX nl;go_wp2_with (first
   | (refine jB j8.out Zw rfl _ _ rfl rfl rfl ?_; intro w4 hO4 cN; have qq:=hid hO4; obtain ⟨hb4,hx4,hc4⟩:=HT3.out w4 hO4 cN; have cn:=hid hb4; have df:=hid hx4; have tU:=hid hc4; clear hO4 cN hb4 hx4 hc4)
   | (refine ay (XI (Tm.aU (j:=0) qq.out rfl) ⟨_,rfl,rfl⟩) ?_)
   | (refine ay (aT (Tm.aU (j:=0) cn.out.o rfl) ⟨_,rfl,rfl⟩) ?_)
   | (refine ay (bK (IV p d) ⟨_,rfl,rfl⟩) ?_))
  refine tU.out.mono ?_;rintro e w5 ⟨q,M5,c,rfl,rN,f5,i5,t5,x5⟩;have dq:=hid x5;have af:Hid (∀ w9,Rg.Upd w5 gX w9->wH M w t' (.returned (tv q)) w9):=hid (λw9 hu=>⟨q,M5,rfl,rN,Fk.upd f5 hu (by have:=HS.out; omega),i5.upd hu x5.n,mM t5 hu (by have:=HS.out; omega)⟩);clear rN f5 i5 t5 x5 tU df cn qq;go_wp2_with (first
   | (refine ay (zF ⟨_,rfl,rfl⟩) ?_)
   | (refine aZ dq.out.o (by simp) q rfl _ _ rfl rfl rfl ?_; intro w9 al aq; have bi:Hid (Rg.Own w9 gX #[.pointer q] 31):=hid al; have cM:=hid (af.out w9 aq); clear al aq))
  exact bodyPost_ret (eu (q:=4) rfl _ rfl bi.out) rfl cM.out
 exact hgo
theorem Il (M:Mp) (p:aJ) (t:T) (L:Nat) (g:Tr.Good t L) (hL:L<=64) (f:Fine t) (hf:Tr.Full t) (w:World) (hi:Inv M w) (ht:IsT M p t) (hT:Tab w) :
  Calls prog 6 #[tv p] w (wH M w (cB 1 t)):=by
 obtain ⟨w1,hw1⟩:=au ((w.alloc (.cells #[.pointer p] 31)).alloc (.cells #[.pointer none] 31))
 have hb1:Below w.heap.size w w1:=by rw [hw1]; exact al2 _ _ _
 have ag:Rg.Own w1 w.heap.size #[.pointer p] 31:=by rw [hw1]; exact (Rg.Own.new _ _ _).below (al1 _ _)
 have hX1:Rg.Own w1 (w.heap.size+1) #[.pointer none] 31:=by
  have:=Rg.Own.new (w.alloc (.cells #[.pointer p] 31)) #[.pointer none] 31;rw [hw1];simpa using this
 have cA:=hid (ER M p t L g hL f hf 1 (by omega) w1 (hi.below hb1) ht (hT.below hb1 hT.pos));have bd:Hid (Bx M w1 (w.heap.size+1) #[.pointer none] 31):=hid ⟨hX1,hi.free (Nat.le_succ _),bX _⟩;have bc:=hid ag;have HW1:=hid hw1;have u0:Hid (Fnw M M w w1/\Inv M w1/\0<w.heap.size):=hid ⟨Fnw.of (Fr.below M hb1),hi.below hb1,hT.pos⟩;obtain ⟨gX,cf⟩:=av (w.heap.size+1)
 have ce:Hid (gX=w.heap.size+1):=hid cf.symm;rw [cf] at bd;obtain ⟨t',ht'⟩:=av (cB 1 t)
 have e1:Fb 1 t=t':=ht';rw [e1] at cA;rw [ht'];clear hb1 ag hX1 hi ht hT hw1 cf ht' e1 g f hf;have hgo:Calls prog 6 #[.agg #[.pointer p]] w (wH M w t'):=by
  go_enter func6,ntmps6;go_wp2_with (first
   | (refine ay (aW _ _ _ gX (by rw [ce.out]; simp) rfl) ?_; rw [<-HW1.out])
   | (refine ay (aT (Tm.aU (j:=0) bc.out rfl) ⟨_,rfl,rfl⟩) ?_))
  refine cA.out.mono ?_;rintro e w2 ⟨q,M2,rfl,ht2,f2,i2,t2⟩;have hX2:=Bx.fn bd.out u0.out.2.1 f2;have cv:=hid hX2;have af:Hid (∀ w9,Rg.Upd w2 gX w9->wH M w t' (.returned (tv q)) w9):=hid (λw9 hu=>⟨q,M2,rfl,ht2,Fk.upd (u0.out.1.trans f2 λ_ h=>h.elim) hu (by rw [ce.out]; exact Nat.le_succ _),i2.upd hu hX2.n,mM t2 hu (by have:=ce.out; have:=u0.out.2.2; omega)⟩);clear ht2 f2 i2 t2 hX2 cA bd bc;go_wp2_with (first
   | (refine aZ cv.out.o (by simp) q rfl _ _ rfl rfl rfl ?_; intro w9 al aq; have bi:Hid (Rg.Own w9 gX #[.pointer q] 31):=hid al; have cM:=hid (af.out w9 aq); clear al aq))
  exact bodyPost_ret (eu (q:=2) rfl _ rfl bi.out) rfl cM.out
 exact hgo
end Sx
end
end Go.Proofs.YtlcplcgigjagpaaGreatDoor
