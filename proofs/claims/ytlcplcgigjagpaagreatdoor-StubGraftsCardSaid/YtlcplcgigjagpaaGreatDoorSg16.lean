/-
 The contracts of what once makes: of each place, of each tree it asks but once.
-/
import Derived.Test.YtlcplcgigjagpaaGreatDoorSg15
import Derived.Laws.EntriesVeiled
open Go.Lib (hid)
open Go.Proofs.Tryz
set_option linter.unusedSimpArgs false
set_option linter.unusedVariables false
set_option maxHeartbeats 40000000
set_option maxRecDepth 100000
namespace Go.Proofs.YtlcplcgigjagpaaGreatDoor
variable {B D L bm f j m:Nat} {w w':World} {ev:Operand->Value} {o:Oper} {t ty:TypeId} {ops:Array Oper} {u v:Value} {cs:aM} {a:aJ} {K:Nat->Prop}
section
open Go.RowKit
namespace Sx
open Tr Ni Pk Ky No Rf Rl Tm
open Sm (Tab)
theorem EY {M:Mp} {p:aJ} {x y:T} (h:IsT M p x) (g:IsT M p y):x=y:=h.Nh.symm.trans g.Nh
structure MJ (B:Nat) (L:List (Nat × Value × TypeId)) (bm:Nat) (R:Mp->Value->Value->Prop) (M:Mp) (w:World):Prop where
 bx:∀ x∈L,Bx M w x.1 #[x.2.1] x.2.2
 m:oJ w bm (R M)
 n:¬ M.ft bm
 s:B<=w.heap.size
def Yw (R:Mp->Value->Value->Prop):Prop:=∀ M M' k v,(∀ k t,M.at_ k=some t->M'.at_ k=some t)->R M k v->R M' k v
theorem Eo {L:List (Nat × Value × TypeId)} {R:Mp->Value->Value->Prop} (hR:Yw R) (hL:∀ x∈L,x.1<B) (hb:bm<B):JOk B (λk=>k=bm) (MJ B L bm R):=by
 refine ⟨λM M' w w' hj hi hs hk hm hf _=>⟨λx hx=>?_,?_,λe=>hj.n (hf bm hb e),Nat.le_trans hj.s hs⟩,λM w hj hi k hk hl=>?_,λk hk=>by rw [hk]; exact hb,λM w hj=>hj.s⟩
 .have h:=hj.bx x hx;exact ⟨⟨aH h.o.1 hs,(hk x.1 (hL x hx) (mR hi h.n)).trans h.o.2⟩,λe=>h.n (hf x.1 (hL x hx) e),h.h⟩
 .exact hj.m.same (hk bm hb (hj.m.TP hi)) λk v=>hR M M' k v hm
 .subst hk;exact ⟨hj.m.TP hi,hj.m.nob⟩
theorem MJ.lay {L:List (Nat × Value × TypeId)} {R:Mp->Value->Value->Prop} {M:Mp} (h:MJ B L bm R M w) (hu:Rg.Upd w bm w') (hm:oJ w' bm (R M)):MJ B L bm R M w':=by
 refine ⟨λx hx=>(h.bx x hx).upd hu λe=>?_,hm,h.n,by rw [hu.size]; exact h.s⟩;obtain ⟨es,cl,h1,_⟩:=h.m;have h2:=(h.bx x hx).o.2;rw [e,h1] at h2;cases h2
theorem Tj {L:List (Nat × Value × TypeId)} {R:Mp->Value->Value->Prop} {M0 M:Mp} {w0:World} (h:Sg (λk=>k=bm) (MJ B L bm R) M0 w0 M w) (hu:Rg.Upd w bm w') (hm:oJ w' bm (R M)):Sg (λk=>k=bm) (MJ B L bm R) M0 w0 M w':=by
 refine ⟨⟨hu.os.trans h.f.os,hu.tape.trans h.f.tape,hu.output.trans h.f.output,by rw [hu.size]; exact h.f.size,λk hk hm' hn=>(hu.block k hn).trans (h.f.block k hk hm' hn),h.f.mono,h.f.fresh,h.f.grow,h.f.foot,h.f.nob⟩,h.i.upd hu h.j.n,λi hi=>?_,h.j.lay hu hm⟩;have hne:0≠bm:=λe=>by
  obtain ⟨es,cl,h1,_⟩:=h.j.m;have h2:=h.t i hi;rw [e,World.cell?,h1] at h2;cases h2
 rw [World.cell?_of_block (hu.block 0 hne)];exact h.t i hi
theorem nN {mv key X:Value} (h:(Instr.lookup t mv key true).run prog w = .ok X w) (ho:∃ m x,o.op = .lookup t m x true/\ev m=mv/\ev x=key):(execOp ev o).run prog w = .ok (.value X) w:=by
 obtain ⟨m,x,ho,hm,hx⟩:=ho;unfold execOp;simp only [ho,hm,hx,Sem.run_bind,Sem.run_pure,Result.andThen_ok,h]
theorem yD {rest:List Oper} {a:Go.Act} {Q:Exit->Go.Act->World->Prop} {b:Nat} {key val:Value} {R:Value->Value->Prop} (h:∃ w',(Instr.mapUpdate t (.map (some b)) key val).run prog w = .ok () w'/\oJ w' b R/\Rg.Upd w b w')
  (hgd:o.guard=none) (m x v:Operand) (ho:o.op = .mapUpdate t m x v) (hm:a.eval m = .map (some b)) (hx:a.eval x=key) (hv:a.eval v=val)
  (H:∀ w',oJ w' b R->Rg.Upd w b w'->wpList prog ops Q rest (a.put o.dst undef) w'):wpList prog ops Q (o::rest) a w:=by
 obtain ⟨w',hr,h1,h2⟩:=h;refine wpList_plain hgd λK hK=>?_;unfold Oper.wp execOp;simp only [ho,hm,hx,hv,Sem.run_bind,Sem.run_pure,Result.andThen_ok,hr];exact hK _ _ (H w' h1 h2)
theorem XC (p:aJ) (d:Int):∀ (j:Nat) (x:Int),(plA p d)[j]? ≠ some (Value.int .u8 x):=λj x h=>by
 match j,h with
 | 0,h=>simp [plA] at h
 | 1,h=>simp [plA] at h
 | j+2,h=>simp [plA] at h
theorem qL {b:Nat} (hc:w.cell? ⟨b,0,none⟩=some v) (ho:∃ x,o.op = .load 118 x/\ev x = .pointer (some ⟨b,0,none⟩)) :
  (execOp ev o).run prog w = .ok (.value v) w:=by
 obtain ⟨x,ho,hx⟩:=ho;unfold execOp;simp [ho,hx,go_sem,hc]
theorem FM {b:Nat} (hc:w.cell? ⟨b,0,none⟩=some v) (ho:∃ x,o.op = .load 76 x/\ev x = .pointer (some ⟨b,0,none⟩)) :
  (execOp ev o).run prog w = .ok (.value v) w:=by
 obtain ⟨x,ho,hx⟩:=ho;unfold execOp;simp [ho,hx,go_sem,hc]
def RP (F:Int->T->T) (N:Int->T->Nat) (M:Mp) (k v:Value):Prop:=∃ p d x,k = .agg (plA p d)/\IsT M p x/\∃ q,v = .agg (chA q (fJ (N d x)))/\IsT M q (F d x)
theorem Fa (F:Int->T->T) (N:Int->T->Nat):Yw (RP F N):=λM M' k v hm ⟨p,d,x,hk,hx,q,hv,hq⟩=>⟨p,d,x,hk,hx.mono hm,q,hv,hq.mono hm⟩
theorem PS {B:Nat} {L:List (Nat × Value × TypeId)} {bm:Nat} (F:Int->T->T) (N:Int->T->Nat) (hL:∀ x∈L,x.1<B) (hb:bm<B) (bt ba fa:Nat) (ca:aM) (h1:(bt,.map (some bm),118)∈L) (h2:(ba,.func (.func fa) #[] ca,76)∈L) (eA:∀ args w,(callFunc fa args).run prog w = .ok (.enter fa args) w)
  (M:Mp) (p:aJ) (d:Int) (x:T) (w:World) (hi:Inv M w) (ht:IsT M p x) (hT:Tab w) (hj:MJ B L bm (RP F N) M w)
  (hA:∀ w1,MJ B L bm (RP F N) M w1->Inv M w1->Tab w1->Calls prog fa (#[.agg (plA p d)]++ca) w1 (iw (λk=>k=bm) (MJ B L bm (RP F N)) M w1 (F d x) (N d x))) :
  Calls prog 59 #[.agg (plA p d),.pointer (some ⟨bt,0,none⟩),.pointer (some ⟨ba,0,none⟩)] w (iw (λk=>k=bm) (MJ B L bm (RP F N)) M w (F d x) (N d x)):=by
 have hJ:=Eo (Fa F N) hL hb;obtain ⟨w1,hw1⟩:=au ((w.alloc (.cells (plA p d) 79)).alloc (.cells (chA none 0) 81))
 have hb1:Below w.heap.size w w1:=by rw [hw1]; exact al2 _ _ _
 have af:Rg.Own w1 w.heap.size (plA p d) 79:=by rw [hw1]; exact (Rg.Own.new _ _ _).below (al1 _ _)
 have hX1:Rg.Own w1 (w.heap.size+1) (chA none 0) 81:=by
  have:=Rg.Own.new (w.alloc (.cells (plA p d) 79)) (chA none 0) 81;rw [hw1];simpa using this
 have hS1:=(Sg.start hJ hi hT hj).below hJ hb1;have bc:Hid (Bx M w1 (w.heap.size+1) (chA none 0) 81):=hid ⟨hX1,hi.free (Nat.le_succ _),ku _ _⟩;have bd:Hid (Bx M w1 w.heap.size (plA p d) 79):=hid ⟨af,hi.free aF,XC _ _⟩;have sE:=hid (hS1.j.bx _ h1);have ss:=hid (hS1.j.bx _ h2);obtain ⟨t',ht'⟩:=av (F d x)
 obtain ⟨n,hn⟩:=av (N d x)
 obtain ⟨c,hc⟩:=av (fJ n)
 have hlk:=Aa (P:=prog) (key:=.agg (plA p d)) underlying118 underlying79 (λem=>Iw em p d w1) (MO w1) hS1.j.m (λk v hr=>by
  obtain ⟨p2,d2,x2,rfl,hx2,_⟩:=hr;exact Vi hS1.i ht hx2 d d2)
 have dg:=hid (λ(M2:Mp) (w2:World) (hj:MJ B L bm (RP F N) M2 w2) (hi:Inv M2 w2) (hm:∀ k t,M.at_ k=some t->M2.at_ k=some t) (q:aJ) (hq:IsT M2 q t')=>Eu (P:=prog) (key:=.agg (plA p d)) (val:=.agg (chA q c)) underlying118 underlying79 (λem=>Iw em p d w2) (WB p d) hj.m (λk v hr=>by
  obtain ⟨p2,d2,x2,rfl,hx2,_⟩:=hr;exact Vi hi (ht.mono hm) hx2 d d2) ⟨p,d,x,rfl,ht.mono hm,q,by rw [hn,hc],by rw [ht']; exact hq⟩)
 have bj:=hid hS1;rw [ht',hn] at hA ⊢;have HA:=hid hA;have HJ:=hid hJ;have HB1:=hid hb1;have HT:=hid ht;have HW1:=hid hw1;have aw:Hid (B<=w.heap.size/\0<w.heap.size/\bm<w.heap.size):=hid ⟨hj.s,hT.pos,aH hb hj.s⟩;have jx:=hid h1;have HL2:=hid h2;obtain ⟨gX,bo⟩:=av (w.heap.size+1)
 have bu:Hid (gX=w.heap.size+1):=hid bo.symm;obtain ⟨gT,ce⟩:=av w.heap.size
 have dy:Hid (w.heap.size=gT):=hid ce;rw [bo] at bc;rw [ce] at bd;have ib:Hid (F d x=t'/\N d x=n/\fJ n=c):=hid ⟨ht',hn,hc⟩;obtain ⟨v,ok,hrun,htr,hfa⟩:=hlk;have di:=hid hrun;clear hb1 af hX1 hS1 hi ht hT hj hJ hA hw1 bo ce ht' hn hc h1 h2 hrun hL;cases ok with
 | true =>
  obtain ⟨p2,d2,x2,hk2,hx2,q,rfl,hq2⟩:=htr rfl;have pH:x2=x/\IsT M q (F d x)/\N d2 x2=N d x:=by
   injection hk2 with e;have e1:p=p2:=by have:=congrArg (λz:aM=>z[0]?) e; simpa [plA] using this
   have e2:d=d2:=by have:=congrArg (λz:aM=>z[1]?) e; simpa [plA] using this
   subst e1 e2;have e:=EY hx2 HT.out;subst e;exact ⟨rfl,hq2,rfl⟩
  rw [ib.out.1] at pH;rw [pH.2.2,ib.out.2.1,ib.out.2.2] at di;have hNew:=Rg.Own.new w1 (chA none 0) 81;have ey:=hid hNew;have ae:Hid (∀ w5,Below w1.heap.size w1 w5->∀ w9,Rg.Upd w5 gX w9->iw (λk=>k=bm) (MJ B L bm (RP F N)) M w t' n (.returned (.agg (chA q c))) w9):=hid (λw5 hb5 w9 hu=>by
   rw [<-ib.out.2.2];exact ((bj.out.below HJ.out hb5).upd HJ.out aw.out.1 aw.out.2.1 hu (by rw [bu.out]; exact Nat.le_succ _) bc.out.n).chg n pH.2.1)
  clear hk2 hx2 hq2 pH htr hfa hNew HA dg;go_enter func59,ntmps59;go_wp2_with (first
   | (refine ay (bE _ _ _ gX (by rw [bu.out]; simp) rfl) ?_; rw [<-HW1.out,dy.out])
   | (refine ay (qL (Tm.aU (j:=0) sE.out.o rfl) ⟨_,rfl,rfl⟩) ?_)
   | (refine ay (rA bd.out.o ⟨_,rfl,rfl⟩) ?_)
   | (refine ay (nN di.out ⟨_,_,rfl,rfl,rfl⟩) ?_)
   | (refine ay (bE _ _ _ w1.heap.size rfl rfl) ?_)
   | (refine bB ey.out rfl q c rfl _ _ rfl rfl rfl rfl ?_; intro w5 aE ax; have cd:Hid (Rg.Own w5 w1.heap.size (chA q c) 81):=hid aE; have ag:Hid (Below w1.heap.size w1 w5):=hid (ax.below (al1 _ _) aF); clear aE ax; have cT:=hid (bc.out.below ag.out); have mL:=hid (ae.out w5 ag.out))
   | (refine ay (kg cd.out ⟨_,rfl,rfl⟩) ?_)
   | (refine bB cT.out.o rfl q c rfl _ _ rfl rfl rfl rfl ?_; intro w9 ai al; have bh:Hid (Rg.Own w9 gX (chA q c) 81):=hid ai; have cv:=hid (mL.out w9 al); clear ai al))
  exact bodyPost_ret (jO rfl _ rfl bh.out) rfl cv.out
 | false =>
  obtain rfl:=hfa rfl;have hNew:=Rg.Own.new w1 (chA none 0) 81;have ey:=hid hNew;have HX0:Hid (Bx M (w1.alloc (.cells (chA none 0) 81)) w1.heap.size (chA none 0) 81):=hid ⟨hNew,bj.out.i.free aF,ku _ _⟩;clear htr hfa hNew;go_enter func59,ntmps59;go_wp2_with (first
   | (refine ay (bE _ _ _ gX (by rw [bu.out]; simp) rfl) ?_; rw [<-HW1.out,dy.out])
   | (refine ay (qL (Tm.aU (j:=0) sE.out.o rfl) ⟨_,rfl,rfl⟩) ?_)
   | (refine ay (rA bd.out.o ⟨_,rfl,rfl⟩) ?_)
   | (refine ay (nN di.out ⟨_,_,rfl,rfl,rfl⟩) ?_)
   | (refine ay (bE _ _ _ w1.heap.size rfl rfl) ?_)
   | (refine bB ey.out rfl none 0 rfl _ _ rfl rfl rfl rfl ?_; intro w2 hO2 hu2; have d8:Hid (Rg.Own w2 w1.heap.size (chA none 0) 81):=hid hO2; have HB2:Hid (Below w1.heap.size w1 w2):=hid (hu2.below (al1 _ _) aF); clear hO2 hu2; have nh:=hid (ss.out.below HB2.out); have j0:=hid (bd.out.below HB2.out))
   | (refine ay (FM (Tm.aU (j:=0) nh.out.o rfl) ⟨_,rfl,rfl⟩) ?_)
   | (refine ay (rA j0.out.o ⟨_,rfl,rfl⟩) ?_))
  have HS2:=hid (bj.out.below HJ.out HB2.out);have HK:Hid (bm<gT/\bm<gX/\bm<w1.heap.size/\gT<w1.heap.size/\gX<w1.heap.size/\w.heap.size<=w1.heap.size):=hid (by
   have h1:=aw.out.2.2;have h2:=dy.out;have h3:=bu.out;have h4:=bc.out.o.1;have h5:=bd.out.o.1;have h6:=HB1.out.size;omega)
  have cm:=hid (bc.out.below HB2.out);have mT:Hid (Bx M w2 w1.heap.size (chA none 0) 81):=hid ⟨d8.out,HX0.out.n,ku _ _⟩;refine (HA.out w2 HS2.out.j HS2.out.i HS2.out.t).mono ?_;rintro e w3 ⟨q,M3,rfl,ht3,f3,i3,t3,j3⟩;rw [ib.out.2.2];have cC:=hid (HS2.out.call f3 i3 t3 j3);have cF:=hid (cm.out.fk HS2.out.i f3 (by have:=HK.out; omega));have sL:=hid (j0.out.fk HS2.out.i f3 (by have:=HK.out; omega));have dd:=hid (mT.out.fk HS2.out.i f3 (by have:=HK.out; omega));have HQ:=hid ht3
  have nj:Hid (∀ k t,M.at_ k=some t->M3.at_ k=some t):=hid (cC.out.f.mono);clear ht3 f3 i3 t3 j3 HA HX0 ey d8 HB2 nh j0 cm mT HS2 di sE ss bc bd;go_wp2_with (first
   | (refine bB dd.out.o rfl q c rfl _ _ rfl rfl rfl rfl ?_; intro w4 hO4 cX; have ch:Hid (Rg.Own w4 w1.heap.size (chA q c) 81):=hid hO4; have sR:=hid cX; clear hO4 cX; have cV:=hid (cC.out.upd HJ.out aw.out.1 aw.out.2.1 sR.out HK.out.2.2.2.2.2 dd.out.n); have sT:=hid (cV.out.j.bx _ jx.out); have sX:=hid (sL.out.upd sR.out (by have:=HK.out; omega)); have cP:=hid (cF.out.upd sR.out (by have:=HK.out; omega)); have nl:=hid (dg.out M3 w4 cV.out.j cV.out.i nj.out q HQ.out))
   | (refine ay (qL (Tm.aU (j:=0) sT.out.o rfl) ⟨_,rfl,rfl⟩) ?_)
   | (refine ay (rA sX.out.o ⟨_,rfl,rfl⟩) ?_)
   | (refine ay (kg ch.out ⟨_,rfl,rfl⟩) ?_)
   | (refine yD nl.out rfl _ _ _ rfl rfl rfl rfl ?_; intro w5 yy ax; have Ha:=hid yy; have gO:=hid ax; clear yy ax; have cd:=hid (ch.out.upd gO.out (by have:=HK.out; omega)); have cT:=hid (cP.out.upd gO.out (by have:=HK.out; omega)); have lP:=hid (Tj cV.out gO.out Ha.out); have mL:Hid (∀ w9,Rg.Upd w5 gX w9->iw (λk=>k=bm) (MJ B L bm (RP F N)) M w t' n (.returned (.agg (chA q c))) w9):=hid (λw9 hu=>by
     rw [<-ib.out.2.2];exact (lP.out.upd HJ.out aw.out.1 aw.out.2.1 hu (by rw [bu.out]; exact Nat.le_succ _) cT.out.n).chg n HQ.out))
   | (refine ay (kg cd.out ⟨_,rfl,rfl⟩) ?_)
   | (refine bB cT.out.o rfl q c rfl _ _ rfl rfl rfl rfl ?_; intro w9 ai al; have bh:Hid (Rg.Own w9 gX (chA q c) 81):=hid ai; have cv:=hid (mL.out w9 al); clear ai al))
  exact bodyPost_ret (jO rfl _ rfl bh.out) rfl cv.out
theorem qI {b:Nat} (hc:w.cell? ⟨b,0,none⟩=some v) (ho:∃ x,o.op = .load 139 x/\ev x = .pointer (some ⟨b,0,none⟩)) :
  (execOp ev o).run prog w = .ok (.value v) w:=by
 obtain ⟨x,ho,hx⟩:=ho;unfold execOp;simp [ho,hx,go_sem,hc]
theorem EP {b:Nat} (hc:w.cell? ⟨b,0,none⟩=some v) (ho:∃ x,o.op = .load 109 x/\ev x = .pointer (some ⟨b,0,none⟩)) :
  (execOp ev o).run prog w = .ok (.value v) w:=by
 obtain ⟨x,ho,hx⟩:=ho;unfold execOp;simp [ho,hx,go_sem,hc]
def RT (F:T->T) (N:T->Nat) (M:Mp) (k v:Value):Prop:=∃ p x,k=tv p/\IsT M p x/\∃ q,v = .agg (chA q (fJ (N x)))/\IsT M q (F x)
theorem FB (F:T->T) (N:T->Nat):Yw (RT F N):=λM M' k v hm ⟨p,x,hk,hx,q,hv,hq⟩=>⟨p,x,hk,hx.mono hm,q,hv,hq.mono hm⟩
theorem QV {B:Nat} {L:List (Nat × Value × TypeId)} {bm:Nat} (F:T->T) (N:T->Nat) (hL:∀ x∈L,x.1<B) (hb:bm<B) (bt ba fa:Nat) (ca:aM) (h1:(bt,.map (some bm),139)∈L) (h2:(ba,.func (.func fa) #[] ca,109)∈L) (eA:∀ args w,(callFunc fa args).run prog w = .ok (.enter fa args) w)
  (M:Mp) (p:aJ) (x:T) (w:World) (hi:Inv M w) (ht:IsT M p x) (hT:Tab w) (hj:MJ B L bm (RT F N) M w)
  (hA:∀ w1,MJ B L bm (RT F N) M w1->Inv M w1->Tab w1->Calls prog fa (#[tv p]++ca) w1 (iw (λk=>k=bm) (MJ B L bm (RT F N)) M w1 (F x) (N x))) :
  Calls prog 81 #[tv p,.pointer (some ⟨bt,0,none⟩),.pointer (some ⟨ba,0,none⟩)] w (iw (λk=>k=bm) (MJ B L bm (RT F N)) M w (F x) (N x)):=by
 have hJ:=Eo (FB F N) hL hb;obtain ⟨w1,hw1⟩:=au ((w.alloc (.cells #[.pointer p] 31)).alloc (.cells (chA none 0) 81))
 have hb1:Below w.heap.size w w1:=by rw [hw1]; exact al2 _ _ _
 have af:Rg.Own w1 w.heap.size #[.pointer p] 31:=by rw [hw1]; exact (Rg.Own.new _ _ _).below (al1 _ _)
 have hX1:Rg.Own w1 (w.heap.size+1) (chA none 0) 81:=by
  have:=Rg.Own.new (w.alloc (.cells #[.pointer p] 31)) (chA none 0) 81;rw [hw1];simpa using this
 have hS1:=(Sg.start hJ hi hT hj).below hJ hb1;have bc:Hid (Bx M w1 (w.heap.size+1) (chA none 0) 81):=hid ⟨hX1,hi.free (Nat.le_succ _),ku _ _⟩;have bd:Hid (Bx M w1 w.heap.size #[.pointer p] 31):=hid ⟨af,hi.free aF,cZ _⟩;have sE:=hid (hS1.j.bx _ h1);have ss:=hid (hS1.j.bx _ h2);obtain ⟨t',ht'⟩:=av (F x)
 obtain ⟨n,hn⟩:=av (N x)
 obtain ⟨c,hc⟩:=av (fJ n)
 have hlk:=Aa (P:=prog) (key:=tv p) underlying139 underlying31 (λem=>ru em p w1) (MO w1) hS1.j.m (λk v hr=>by
  obtain ⟨p2,x2,rfl,hx2,_⟩:=hr;exact wR hS1.i ht hx2)
 have dg:=hid (λ(M2:Mp) (w2:World) (hj:MJ B L bm (RT F N) M2 w2) (hi:Inv M2 w2) (hm:∀ k t,M.at_ k=some t->M2.at_ k=some t) (q:aJ) (hq:IsT M2 q t')=>Eu (P:=prog) (key:=tv p) (val:=.agg (chA q c)) underlying139 underlying31 (λem=>ru em p w2) (Ep p) hj.m (λk v hr=>by
  obtain ⟨p2,x2,rfl,hx2,_⟩:=hr;exact wR hi (ht.mono hm) hx2) ⟨p,x,rfl,ht.mono hm,q,by rw [hn,hc],by rw [ht']; exact hq⟩)
 have bj:=hid hS1;rw [ht',hn] at hA ⊢;have HA:=hid hA;have HJ:=hid hJ;have HB1:=hid hb1;have HT:=hid ht;have HW1:=hid hw1;have aw:Hid (B<=w.heap.size/\0<w.heap.size/\bm<w.heap.size):=hid ⟨hj.s,hT.pos,aH hb hj.s⟩;have jx:=hid h1;have HL2:=hid h2;obtain ⟨gX,bo⟩:=av (w.heap.size+1)
 have bu:Hid (gX=w.heap.size+1):=hid bo.symm;obtain ⟨gT,ce⟩:=av w.heap.size
 have dy:Hid (w.heap.size=gT):=hid ce;rw [bo] at bc;rw [ce] at bd;have ib:Hid (F x=t'/\N x=n/\fJ n=c):=hid ⟨ht',hn,hc⟩;obtain ⟨v,ok,hrun,htr,hfa⟩:=hlk;have di:=hid hrun;clear hb1 af hX1 hS1 hi ht hT hj hJ hA hw1 bo ce ht' hn hc h1 h2 hrun hL;cases ok with
 | true =>
  obtain ⟨p2,x2,hk2,hx2,q,rfl,hq2⟩:=htr rfl;have pH:x2=x/\IsT M q (F x)/\N x2=N x:=by
   injection hk2 with e;have e1:p=p2:=by simpa using e
   subst e1;have e:=EY hx2 HT.out;subst e;exact ⟨rfl,hq2,rfl⟩
  rw [ib.out.1] at pH;rw [pH.2.2,ib.out.2.1,ib.out.2.2] at di;have hNew:=Rg.Own.new w1 (chA none 0) 81;have ey:=hid hNew;have ae:Hid (∀ w5,Below w1.heap.size w1 w5->∀ w9,Rg.Upd w5 gX w9->iw (λk=>k=bm) (MJ B L bm (RT F N)) M w t' n (.returned (.agg (chA q c))) w9):=hid (λw5 hb5 w9 hu=>by
   rw [<-ib.out.2.2];exact ((bj.out.below HJ.out hb5).upd HJ.out aw.out.1 aw.out.2.1 hu (by rw [bu.out]; exact Nat.le_succ _) bc.out.n).chg n pH.2.1)
  clear hk2 hx2 hq2 pH htr hfa hNew HA dg;go_enter func81,ntmps81;go_wp2_with (first
   | (refine ay (bE _ _ _ gX (by rw [bu.out]; simp) rfl) ?_; rw [<-HW1.out,dy.out])
   | (refine ay (qI (Tm.aU (j:=0) sE.out.o rfl) ⟨_,rfl,rfl⟩) ?_)
   | (refine ay (aT (Tm.aU (j:=0) bd.out.o rfl) ⟨_,rfl,rfl⟩) ?_)
   | (refine ay (nN di.out ⟨_,_,rfl,rfl,rfl⟩) ?_)
   | (refine ay (bE _ _ _ w1.heap.size rfl rfl) ?_)
   | (refine bB ey.out rfl q c rfl _ _ rfl rfl rfl rfl ?_; intro w5 aE ax; have cd:Hid (Rg.Own w5 w1.heap.size (chA q c) 81):=hid aE; have ag:Hid (Below w1.heap.size w1 w5):=hid (ax.below (al1 _ _) aF); clear aE ax; have cT:=hid (bc.out.below ag.out); have mL:=hid (ae.out w5 ag.out))
   | (refine ay (kg cd.out ⟨_,rfl,rfl⟩) ?_)
   | (refine bB cT.out.o rfl q c rfl _ _ rfl rfl rfl rfl ?_; intro w9 ai al; have bh:Hid (Rg.Own w9 gX (chA q c) 81):=hid ai; have cv:=hid (mL.out w9 al); clear ai al))
  exact bodyPost_ret (jO rfl _ rfl bh.out) rfl cv.out
 | false =>
  obtain rfl:=hfa rfl;have hNew:=Rg.Own.new w1 (chA none 0) 81;have ey:=hid hNew;have HX0:Hid (Bx M (w1.alloc (.cells (chA none 0) 81)) w1.heap.size (chA none 0) 81):=hid ⟨hNew,bj.out.i.free aF,ku _ _⟩;clear htr hfa hNew;go_enter func81,ntmps81;go_wp2_with (first
   | (refine ay (bE _ _ _ gX (by rw [bu.out]; simp) rfl) ?_; rw [<-HW1.out,dy.out])
   | (refine ay (qI (Tm.aU (j:=0) sE.out.o rfl) ⟨_,rfl,rfl⟩) ?_)
   | (refine ay (aT (Tm.aU (j:=0) bd.out.o rfl) ⟨_,rfl,rfl⟩) ?_)
   | (refine ay (nN di.out ⟨_,_,rfl,rfl,rfl⟩) ?_)
   | (refine ay (bE _ _ _ w1.heap.size rfl rfl) ?_)
   | (refine bB ey.out rfl none 0 rfl _ _ rfl rfl rfl rfl ?_; intro w2 hO2 hu2; have d8:Hid (Rg.Own w2 w1.heap.size (chA none 0) 81):=hid hO2; have HB2:Hid (Below w1.heap.size w1 w2):=hid (hu2.below (al1 _ _) aF); clear hO2 hu2; have nh:=hid (ss.out.below HB2.out); have j0:=hid (bd.out.below HB2.out))
   | (refine ay (EP (Tm.aU (j:=0) nh.out.o rfl) ⟨_,rfl,rfl⟩) ?_)
   | (refine ay (aT (Tm.aU (j:=0) j0.out.o rfl) ⟨_,rfl,rfl⟩) ?_))
  have HS2:=hid (bj.out.below HJ.out HB2.out);have HK:Hid (bm<gT/\bm<gX/\bm<w1.heap.size/\gT<w1.heap.size/\gX<w1.heap.size/\w.heap.size<=w1.heap.size):=hid (by
   have h1:=aw.out.2.2;have h2:=dy.out;have h3:=bu.out;have h4:=bc.out.o.1;have h5:=bd.out.o.1;have h6:=HB1.out.size;omega)
  have cm:=hid (bc.out.below HB2.out);have mT:Hid (Bx M w2 w1.heap.size (chA none 0) 81):=hid ⟨d8.out,HX0.out.n,ku _ _⟩;refine (HA.out w2 HS2.out.j HS2.out.i HS2.out.t).mono ?_;rintro e w3 ⟨q,M3,rfl,ht3,f3,i3,t3,j3⟩;rw [ib.out.2.2];have cC:=hid (HS2.out.call f3 i3 t3 j3);have cF:=hid (cm.out.fk HS2.out.i f3 (by have:=HK.out; omega));have sL:=hid (j0.out.fk HS2.out.i f3 (by have:=HK.out; omega));have dd:=hid (mT.out.fk HS2.out.i f3 (by have:=HK.out; omega));have HQ:=hid ht3
  have nj:Hid (∀ k t,M.at_ k=some t->M3.at_ k=some t):=hid (cC.out.f.mono);clear ht3 f3 i3 t3 j3 HA HX0 ey d8 HB2 nh j0 cm mT HS2 di sE ss bc bd;go_wp2_with (first
   | (refine bB dd.out.o rfl q c rfl _ _ rfl rfl rfl rfl ?_; intro w4 hO4 cX; have ch:Hid (Rg.Own w4 w1.heap.size (chA q c) 81):=hid hO4; have sR:=hid cX; clear hO4 cX; have cV:=hid (cC.out.upd HJ.out aw.out.1 aw.out.2.1 sR.out HK.out.2.2.2.2.2 dd.out.n); have sT:=hid (cV.out.j.bx _ jx.out); have sX:=hid (sL.out.upd sR.out (by have:=HK.out; omega)); have cP:=hid (cF.out.upd sR.out (by have:=HK.out; omega)); have nl:=hid (dg.out M3 w4 cV.out.j cV.out.i nj.out q HQ.out))
   | (refine ay (qI (Tm.aU (j:=0) sT.out.o rfl) ⟨_,rfl,rfl⟩) ?_)
   | (refine ay (aT (Tm.aU (j:=0) sX.out.o rfl) ⟨_,rfl,rfl⟩) ?_)
   | (refine ay (kg ch.out ⟨_,rfl,rfl⟩) ?_)
   | (refine yD nl.out rfl _ _ _ rfl rfl rfl rfl ?_; intro w5 yy ax; have Ha:=hid yy; have gO:=hid ax; clear yy ax; have cd:=hid (ch.out.upd gO.out (by have:=HK.out; omega)); have cT:=hid (cP.out.upd gO.out (by have:=HK.out; omega)); have lP:=hid (Tj cV.out gO.out Ha.out); have mL:Hid (∀ w9,Rg.Upd w5 gX w9->iw (λk=>k=bm) (MJ B L bm (RT F N)) M w t' n (.returned (.agg (chA q c))) w9):=hid (λw9 hu=>by
     rw [<-ib.out.2.2];exact (lP.out.upd HJ.out aw.out.1 aw.out.2.1 hu (by rw [bu.out]; exact Nat.le_succ _) cT.out.n).chg n HQ.out))
   | (refine ay (kg cd.out ⟨_,rfl,rfl⟩) ?_)
   | (refine bB cT.out.o rfl q c rfl _ _ rfl rfl rfl rfl ?_; intro w9 ai al; have bh:Hid (Rg.Own w9 gX (chA q c) 81):=hid ai; have cv:=hid (mL.out w9 al); clear ai al))
  exact bodyPost_ret (jO rfl _ rfl bh.out) rfl cv.out
theorem jA {rest:List Oper} {act:Go.Act} {Q:Exit->Go.Act->World->Prop} {b:Nat} (h:Rg.Own w b #[u] ty) (hst:∀ w:World,w.cell? ⟨b,0,none⟩=some u->w.frozen? ⟨b,0,none⟩=false->(Instr.storeAt ty (.pointer (some ⟨b,0,none⟩)) v).run prog w = .ok () (w.setCell ⟨b,0,none⟩ v))
  (hgd:o.guard=none) (p q:Operand) (ho:o.op = .store ty p q) (hx:act.eval p = .pointer (some ⟨b,0,none⟩)) (hy:act.eval q=v)
  (hQ:∀ w',Rg.Own w' b #[v] ty->Rg.Upd w b w'->wpList prog ops Q rest (act.put o.dst undef) w'):wpList prog ops Q (o::rest) act w :=
 wpList_plain hgd λK hK=>by
  have hc:w.cell? ⟨b,0,none⟩=some u:=Tm.aU (j:=0) h rfl;unfold Oper.wp execOp;simp only [ho,hx,hy,Sem.run_bind,Sem.run_pure,Result.andThen_ok,hst w hc (jk h)];exact hK _ _ (hQ _ (dO h _) (bV _ _ _ _))
theorem YZ (ev:Operand->Value) (o:Oper) (w:World) (b:Nat) (hb:b=w.heap.size) (ho:o.op = .alloc 118):(execOp ev o).run prog w = .ok (.value (.pointer (some ⟨b,0,none⟩))) (w.alloc (.cells #[.map none] 118)):=by
 subst hb;unfold execOp;rw [ho];kernel_rfl
theorem Zj {b:Nat} (w:World) (hc:w.cell? ⟨b,0,none⟩=some u) (hz:w.frozen? ⟨b,0,none⟩=false):(Instr.storeAt 118 (.pointer (some ⟨b,0,none⟩)) (.map (some m))).run prog w = .ok () (w.setCell ⟨b,0,none⟩ (.map (some m))):=by
 simp [go_sem,hc,hz]
theorem YR (ev:Operand->Value) (o:Oper) (w:World) (b:Nat) (hb:b=w.heap.size) (ho:o.op = .alloc 139):(execOp ev o).run prog w = .ok (.value (.pointer (some ⟨b,0,none⟩))) (w.alloc (.cells #[.map none] 139)):=by
 subst hb;unfold execOp;rw [ho];kernel_rfl
theorem YH {b:Nat} (w:World) (hc:w.cell? ⟨b,0,none⟩=some u) (hz:w.frozen? ⟨b,0,none⟩=false):(Instr.storeAt 139 (.pointer (some ⟨b,0,none⟩)) (.map (some m))).run prog w = .ok () (w.setCell ⟨b,0,none⟩ (.map (some m))):=by
 simp [go_sem,hc,hz]
theorem YD (ev:Operand->Value) (o:Oper) (w:World) (b:Nat) (hb:b=w.heap.size) (ho:o.op = .alloc 67):(execOp ev o).run prog w = .ok (.value (.pointer (some ⟨b,0,none⟩))) (w.alloc (.cells #[.map none] 67)):=by
 subst hb;unfold execOp;rw [ho];kernel_rfl
theorem Ze {b:Nat} (w:World) (hc:w.cell? ⟨b,0,none⟩=some u) (hz:w.frozen? ⟨b,0,none⟩=false):(Instr.storeAt 67 (.pointer (some ⟨b,0,none⟩)) (.map (some m))).run prog w = .ok () (w.setCell ⟨b,0,none⟩ (.map (some m))):=by
 simp [go_sem,hc,hz]
theorem SC {b:Nat} (hc:w.cell? ⟨b,0,none⟩=some v) (ho:∃ x,o.op = .load 67 x/\ev x = .pointer (some ⟨b,0,none⟩)) :
  (execOp ev o).run prog w = .ok (.value v) w:=by
 obtain ⟨x,ho,hx⟩:=ho;unfold execOp;simp [ho,hx,go_sem,hc]
theorem YQ (ev:Operand->Value) (o:Oper) (w:World) (b:Nat) (hb:b=w.heap.size) (ho:o.op = .alloc 76):(execOp ev o).run prog w = .ok (.value (.pointer (some ⟨b,0,none⟩))) (w.alloc (.cells #[.nilFunc] 76)):=by
 subst hb;unfold execOp;rw [ho];kernel_rfl
theorem Zk {b:Nat} (w:World) (hc:w.cell? ⟨b,0,none⟩=some u) (hz:w.frozen? ⟨b,0,none⟩=false):(Instr.storeAt 76 (.pointer (some ⟨b,0,none⟩)) (.func (.func f) #[] cs)).run prog w = .ok () (w.setCell ⟨b,0,none⟩ (.func (.func f) #[] cs)):=by
 simp [go_sem,hc,hz]
theorem XA {b:Nat} (hc:w.cell? ⟨b,0,none⟩=some v) (ho:∃ x,o.op = .load 76 x/\ev x = .pointer (some ⟨b,0,none⟩)) :
  (execOp ev o).run prog w = .ok (.value v) w:=by
 obtain ⟨x,ho,hx⟩:=ho;unfold execOp;simp [ho,hx,go_sem,hc]
theorem YX (ev:Operand->Value) (o:Oper) (w:World) (b:Nat) (hb:b=w.heap.size) (ho:o.op = .alloc 109):(execOp ev o).run prog w = .ok (.value (.pointer (some ⟨b,0,none⟩))) (w.alloc (.cells #[.nilFunc] 109)):=by
 subst hb;unfold execOp;rw [ho];kernel_rfl
theorem YC {b:Nat} (w:World) (hc:w.cell? ⟨b,0,none⟩=some u) (hz:w.frozen? ⟨b,0,none⟩=false):(Instr.storeAt 109 (.pointer (some ⟨b,0,none⟩)) (.func (.func f) #[] cs)).run prog w = .ok () (w.setCell ⟨b,0,none⟩ (.func (.func f) #[] cs)):=by
 simp [go_sem,hc,hz]
theorem XI {b:Nat} (hc:w.cell? ⟨b,0,none⟩=some v) (ho:∃ x,o.op = .load 109 x/\ev x = .pointer (some ⟨b,0,none⟩)) :
  (execOp ev o).run prog w = .ok (.value v) w:=by
 obtain ⟨x,ho,hx⟩:=ho;unfold execOp;simp [ho,hx,go_sem,hc]
theorem YL (ev:Operand->Value) (o:Oper) (w:World) (b:Nat) (hb:b=w.heap.size) (ho:o.op = .alloc 68):(execOp ev o).run prog w = .ok (.value (.pointer (some ⟨b,0,none⟩))) (w.alloc (.cells #[.nilFunc] 68)):=by
 subst hb;unfold execOp;rw [ho];kernel_rfl
theorem Zf {b:Nat} (w:World) (hc:w.cell? ⟨b,0,none⟩=some u) (hz:w.frozen? ⟨b,0,none⟩=false):(Instr.storeAt 68 (.pointer (some ⟨b,0,none⟩)) (.func (.func f) #[] cs)).run prog w = .ok () (w.setCell ⟨b,0,none⟩ (.func (.func f) #[] cs)):=by
 simp [go_sem,hc,hz]
theorem XK {b:Nat} (hc:w.cell? ⟨b,0,none⟩=some v) (ho:∃ x,o.op = .load 68 x/\ev x = .pointer (some ⟨b,0,none⟩)) :
  (execOp ev o).run prog w = .ok (.value v) w:=by
 obtain ⟨x,ho,hx⟩:=ho;unfold execOp;simp [ho,hx,go_sem,hc]
theorem Zp (ev:Operand->Value) (o:Oper) (w:World) (b:Nat) (hb:b=w.heap.size) (ho:o.op = .alloc 34):(execOp ev o).run prog w = .ok (.value (.pointer (some ⟨b,0,none⟩))) (w.alloc (.cells #[.slice none 0 0] 34)):=by
 subst hb;unfold execOp;rw [ho];kernel_rfl
theorem YJ {b:Nat} {n c:Nat} (w:World) (hc:w.cell? ⟨b,0,none⟩=some u) (hz:w.frozen? ⟨b,0,none⟩=false):(Instr.storeAt 34 (.pointer (some ⟨b,0,none⟩)) (.slice a n c)).run prog w = .ok () (w.setCell ⟨b,0,none⟩ (.slice a n c)):=by
 simp [go_sem,hc,hz]
theorem Ab {b:Nat} (hc:w.cell? ⟨b,0,none⟩=some v) (ho:∃ x,o.op = .load 34 x/\ev x = .pointer (some ⟨b,0,none⟩)) :
  (execOp ev o).run prog w = .ok (.value v) w:=by
 obtain ⟨x,ho,hx⟩:=ho;unfold execOp;simp [ho,hx,go_sem,hc]
theorem YB (ev:Operand->Value) (o:Oper) (w:World) (b:Nat) (hb:b=w.heap.size) (ho:o.op = .alloc 9):(execOp ev o).run prog w = .ok (.value (.pointer (some ⟨b,0,none⟩))) (w.alloc (.cells #[.string ⟨#[]⟩] 9)):=by
 subst hb;unfold execOp;rw [ho];kernel_rfl
theorem Zo {b:Nat} {s:aK} (w:World) (hc:w.cell? ⟨b,0,none⟩=some u) (hz:w.frozen? ⟨b,0,none⟩=false):(Instr.storeAt 9 (.pointer (some ⟨b,0,none⟩)) (.string s)).run prog w = .ok () (w.setCell ⟨b,0,none⟩ (.string s)):=by
 simp [go_sem,hc,hz]
theorem Tg {b:Nat} (hc:w.cell? ⟨b,0,none⟩=some v) (ho:∃ x,o.op = .load 9 x/\ev x = .pointer (some ⟨b,0,none⟩)) :
  (execOp ev o).run prog w = .ok (.value v) w:=by
 obtain ⟨x,ho,hx⟩:=ho;unfold execOp;simp [ho,hx,go_sem,hc]
theorem LP (fa:Nat) (ca:aM) (w:World):Calls prog 30 #[.func (.func fa) #[] ca] w λe w'=>e = .returned (.func (.func 59) #[] #[.pointer (some ⟨w.heap.size+2,0,none⟩),.pointer (some ⟨w.heap.size,0,none⟩)])/\
  Rg.Own w' w.heap.size #[.func (.func fa) #[] ca] 76/\w'.heap[w.heap.size+1]? = some (.map #[] 0)/\Rg.Own w' (w.heap.size+2) #[.map (some (w.heap.size+1))] 118/\Below w.heap.size w w':=by
 have eR:∀ (fn:Fn) (first cap:aM) (w:World),(Instr.makeFunc fn first cap).run prog w = .ok (.func fn first cap) w:=λ_ _ _ _=>rfl;have hmm:=@run_makeMap prog;obtain ⟨w1,hw1⟩:=au (((w.alloc (.cells #[.func (.func fa) #[] ca] 76)).alloc (.map #[] 0)).alloc (.cells #[.map none] 118))
 have hO:Rg.Own w1 w.heap.size #[.func (.func fa) #[] ca] 76:=by rw [hw1]; exact ((Rg.Own.new _ _ _).below (al1 _ _)).below (al1 _ _)
 have hM:w1.heap[w.heap.size+1]? = some (.map #[] 0):=by
  rw [hw1,(al1 ((w.alloc (.cells #[.func (.func fa) #[] ca] 76)).alloc (.map #[] 0)) (.cells #[.map none] 118)).block _ (by simp)];have h:∀ v:World,(v.alloc (.map #[] 0)).heap[v.heap.size]? = some (.map #[] 0):=λv=>by show (v.heap.push _)[v.heap.size]? = _; simp
  have h2:=h (w.alloc (.cells #[.func (.func fa) #[] ca] 76));simpa using h2
 have hX:Rg.Own w1 (w.heap.size+2) #[.map none] 118:=by
  have:=Rg.Own.new ((w.alloc (.cells #[.func (.func fa) #[] ca] 76)).alloc (.map #[] 0)) #[.map none] 118;rw [hw1];simpa using this
 have hB:Below w.heap.size w w1:=by rw [hw1]; exact ((al2 _ _ _).trans ((al1 _ _).mono (by simp; omega)))
 have HO:=hid hO;have HM:=hid hM;have HX:=hid hX;have HB:=hid hB;have HW1:=hid hw1;clear hO hM hX hB hw1;go_enter func30,ntmps30;go_wp2_with (first
  | (refine ay (YZ _ _ _ (w.heap.size+2) (by simp) rfl) ?_; rw [<-HW1.out])
  | (refine jA HX.out Zj rfl _ _ rfl rfl rfl ?_; intro w2 hO2 hu2; have d8:Hid (Rg.Own w2 (w.heap.size+2) #[.map (some (w.heap.size+1))] 118):=hid hO2; have sY:=hid hu2; clear hO2 hu2))
 go_ret;exact ⟨rfl,HO.out.upd sY.out (by omega),(sY.out.block _ (by omega)).trans HM.out,d8.out,sY.out.below HB.out (by omega)⟩
theorem Lj (fa:Nat) (ca:aM) (w:World):Calls prog 47 #[.func (.func fa) #[] ca] w λe w'=>e = .returned (.func (.func 81) #[] #[.pointer (some ⟨w.heap.size+2,0,none⟩),.pointer (some ⟨w.heap.size,0,none⟩)])/\
  Rg.Own w' w.heap.size #[.func (.func fa) #[] ca] 109/\w'.heap[w.heap.size+1]? = some (.map #[] 0)/\Rg.Own w' (w.heap.size+2) #[.map (some (w.heap.size+1))] 139/\Below w.heap.size w w':=by
 have eR:∀ (fn:Fn) (first cap:aM) (w:World),(Instr.makeFunc fn first cap).run prog w = .ok (.func fn first cap) w:=λ_ _ _ _=>rfl;have hmm:=@run_makeMap prog;obtain ⟨w1,hw1⟩:=au (((w.alloc (.cells #[.func (.func fa) #[] ca] 109)).alloc (.map #[] 0)).alloc (.cells #[.map none] 139))
 have hO:Rg.Own w1 w.heap.size #[.func (.func fa) #[] ca] 109:=by rw [hw1]; exact ((Rg.Own.new _ _ _).below (al1 _ _)).below (al1 _ _)
 have hM:w1.heap[w.heap.size+1]? = some (.map #[] 0):=by
  rw [hw1,(al1 ((w.alloc (.cells #[.func (.func fa) #[] ca] 109)).alloc (.map #[] 0)) (.cells #[.map none] 139)).block _ (by simp)];have h:∀ v:World,(v.alloc (.map #[] 0)).heap[v.heap.size]? = some (.map #[] 0):=λv=>by show (v.heap.push _)[v.heap.size]? = _; simp
  have h2:=h (w.alloc (.cells #[.func (.func fa) #[] ca] 109));simpa using h2
 have hX:Rg.Own w1 (w.heap.size+2) #[.map none] 139:=by
  have:=Rg.Own.new ((w.alloc (.cells #[.func (.func fa) #[] ca] 109)).alloc (.map #[] 0)) #[.map none] 139;rw [hw1];simpa using this
 have hB:Below w.heap.size w w1:=by rw [hw1]; exact ((al2 _ _ _).trans ((al1 _ _).mono (by simp; omega)))
 have HO:=hid hO;have HM:=hid hM;have HX:=hid hX;have HB:=hid hB;have HW1:=hid hw1;clear hO hM hX hB hw1;go_enter func47,ntmps47;go_wp2_with (first
  | (refine ay (YR _ _ _ (w.heap.size+2) (by simp) rfl) ?_; rw [<-HW1.out])
  | (refine jA HX.out YH rfl _ _ rfl rfl rfl ?_; intro w2 hO2 hu2; have d8:Hid (Rg.Own w2 (w.heap.size+2) #[.map (some (w.heap.size+1))] 139):=hid hO2; have sY:=hid hu2; clear hO2 hu2))
 go_ret;exact ⟨rfl,HO.out.upd sY.out (by omega),(sY.out.block _ (by omega)).trans HM.out,d8.out,sY.out.below HB.out (by omega)⟩
def JC (J:Mp->World->Prop) (b:Nat) (cs:aM) (ty:TypeId) (M:Mp) (w:World):Prop:=J M w/\Bx M w b cs ty
theorem JOk.YA {J:Mp->World->Prop} (h:JOk B K J) {b:Nat} (hb:B<=b) (cs:aM) (ty:TypeId):JOk (b+1) K (JC J b cs ty):=by
 refine ⟨λM M' w w' hj hi hs hk hm hf hx=>⟨h.fr M M' w w' hj.1 hi hs (λk hk'=>hk k (by omega)) hm (λk hk'=>hf k (by omega)) (λk hk'=>hx k (by omega)),⟨⟨aH hj.2.o.1 hs,(hk b (Nat.lt_succ_self _) (mR hi hj.2.n)).trans hj.2.o.2⟩,λe=>hj.2.n (hf b (Nat.lt_succ_self _) e),hj.2.h⟩⟩,λM w hj hi=>h.kc M w hj.1 hi,λk hk=>by have:=h.lt k hk; omega,λM w hj=>hj.2.o.1⟩
def dN (d:Int):Nat:=(max d 1).toNat
def RB (D:Nat) (_:Pa) (s:T):CB:=if D<=1 then none else some (bY (D-1) s,bX (bY (D-1) s))
theorem Hr (D:Nat):ny (RB D)=oI D:=by
 funext st s;unfold ny RB oI;by_cases h:(ref s).size=32
 .rw [if_pos h,if_pos h];by_cases hd:D<=1
  .rw [if_pos hd,if_pos hd]; rfl
  .rw [if_neg hd,if_neg hd]; rfl
 .rw [if_neg h,if_neg h]
theorem Jb {st:Pa} {s:T} (hs:bX s=0):lH (RB D) st s=bX (oI D st s):=by
 unfold lH RB oI;by_cases h:(ref s).size=32
 .rw [if_pos h,if_pos h];by_cases hd:D<=1
  .rw [if_pos hd,if_pos hd]; rfl
  .rw [if_neg hd,if_neg hd]; rfl
 .rw [if_neg h,if_neg h]; exact hs.symm
theorem OkF.congr {F:Pa->T->T} {C C':Pa->T->Nat} {t:T} (h:OkF F C t) (e:∀ j,j<(aZ t).length->C' ((dG t).getD j []) ((aZ t).getD j .nil)=C ((dG t).getD j []) ((aZ t).getD j .nil)):OkF F C' t:=λj hj=>by
 obtain ⟨h1,h2,h3,h4⟩:=h j hj;exact ⟨h1,h2,λhz=>h3 (by rw [<-e j hj]; exact hz),h4⟩
theorem zV {C C':Pa->T->Nat} {t:T} (e:∀ j,j<(aZ t).length->C' ((dG t).getD j []) ((aZ t).getD j .nil)=C ((dG t).getD j []) ((aZ t).getD j .nil)):jN C' t (aZ t).length=jN C t (aZ t).length:=by
 unfold jN;congr 1;apply List.map_congr_left;intro j hj;exact e j (List.mem_range.1 hj)
theorem Jc {t:T} (g:Tr.Good t L) (f:Fine t) (hf:Tr.Full t) (hj:j<(aZ t).length):bX ((aZ t).getD j .nil)=0:=oD _ ((iE g f _ (oO hj)).2.2.1 hf)
theorem KA {t:T} (g:Tr.Good t L) (hL:L<=64) (f:Fine t) (hf:Tr.Full t) (D:Nat):OkF (ny (RB D)) (lH (RB D)) t/\rO (ny (RB D)) t=bY D t/\jN (lH (RB D)) t (aZ t).length=bX (bY D t):=by
 have e:∀ j,j<(aZ t).length->lH (RB D) ((dG t).getD j []) ((aZ t).getD j .nil)=bX (oI D ((dG t).getD j []) ((aZ t).getD j .nil)):=λj hj=>Jb (Jc g f hf hj);have h:=RD g hL f (Kw D);rw [Hr];refine ⟨h.congr e,DY D t,?_⟩;rw [zV (C:=λst s=>bX (oI D st s)) e,Ed _ _ (eD hf),DY]
abbrev Fb (d:Int) (x:T):T:=bY (dN d) x
abbrev Nb (d:Int) (x:T):Nat:=bX (bY (dN d) x)
def Lb (bt bm ba gB:Nat):List (Nat × Value × TypeId) :=
 [(bt,.map (some bm),118),(ba,.func (.func 31) #[] #[.pointer (some ⟨gB,0,none⟩)],76),(gB,.func (.func 59) #[] #[.pointer (some ⟨bt,0,none⟩),.pointer (some ⟨ba,0,none⟩)],76)]
theorem Jo {B bt bm ba gB bp bs:Nat} (dm:∀ x∈Lb bt bm ba gB,x.1<B) (dj:bm<B) (hbp:B<=bp) (hbs:bp<bs) (px:aJ) (d:Int) (hd : -9223372036854775808<=d/\d<=9223372036854775807) (st:Pa) (s:T)
  (fm:1<d->∀ (M:Mp) (w:World) (p:aJ),MJ B (Lb bt bm ba gB) bm (RP Fb Nb) M w->Inv M w->Tab w->IsT M p s->Calls prog 59 #[.agg (plA p (d-1)),.pointer (some ⟨bt,0,none⟩),.pointer (some ⟨ba,0,none⟩)] w (iw (λk=>k=bm) (MJ B (Lb bt bm ba gB) bm (RP Fb Nb)) M w (Fb (d-1) s) (Nb (d-1) s))) :
  zL (λk=>k=bm) (JB (JC (MJ B (Lb bt bm ba gB) bm (RP Fb Nb)) bp (plA px d) 79) bs (.func (.func 33) #[] #[.pointer (some ⟨bp,0,none⟩),.pointer (some ⟨gB,0,none⟩)]) 84) 33 #[.pointer (some ⟨bp,0,none⟩),.pointer (some ⟨gB,0,none⟩)] st s (RB (dN d) st s):=by
 have hJ0:=Eo (Fa Fb Nb) dm dj;have hJ2:=(hJ0.YA hbp (plA px d) 79).box (Nat.succ_le_of_lt hbs) (.func (.func 33) #[] #[.pointer (some ⟨bp,0,none⟩),.pointer (some ⟨gB,0,none⟩)]) 84;have yz:(gB,Value.func (.func 59) #[] #[.pointer (some ⟨bt,0,none⟩),.pointer (some ⟨ba,0,none⟩)],76)∈Lb bt bm ba gB:=by simp [Lb]
 obtain ⟨J0,lh⟩:=av (MJ B (Lb bt bm ba gB) bm (RP Fb Nb))
 have HG:Hid (∀ M w,J0 M w->Bx M w gB #[.func (.func 59) #[] #[.pointer (some ⟨bt,0,none⟩),.pointer (some ⟨ba,0,none⟩)]] 76):=hid (λM w h=>by
  rw [<-lh] at h;exact h.bx _ yz)
 rw [lh] at hJ2 fm ⊢;obtain ⟨vS,yW⟩:=av (Value.func (.func 33) #[] #[.pointer (some ⟨bp,0,none⟩),.pointer (some ⟨gB,0,none⟩)])
 rw [yW] at hJ2 ⊢;clear lh yz hJ0 yW dm;intro M w a m c p hj hi hT hB ht;show Calls prog 33 #[.slice a m c,.agg #[.pointer p],.pointer (some ⟨bp,0,none⟩),.pointer (some ⟨gB,0,none⟩)] w _;obtain ⟨w1,hw1⟩:=au ((w.alloc (.cells #[.pointer p] 31)).alloc (.cells (chA none 0) 81))
 have hb1:Below w.heap.size w w1:=by rw [hw1]; exact al2 _ _ _
 have af:Rg.Own w1 w.heap.size #[.pointer p] 31:=by rw [hw1]; exact (Rg.Own.new _ _ _).below (al1 _ _)
 have hX1:Rg.Own w1 (w.heap.size+1) (chA none 0) 81:=by
  have:=Rg.Own.new (w.alloc (.cells #[.pointer p] 31)) (chA none 0) 81;rw [hw1];simpa using this
 have hS1:=(Sg.start hJ2 hi hT hj).below hJ2 hb1;have h0:w1.cell? ⟨bp,1,none⟩=some (.int .i64 d):=Tm.aU (j:=1) hS1.j.1.2.o rfl;have HC:Hid (w1.cell? ⟨gB,0,none⟩=some (.func (.func 59) #[] #[.pointer (some ⟨bt,0,none⟩),.pointer (some ⟨ba,0,none⟩)])):=hid (Tm.aU (j:=0) (HG.out M w1 hS1.j.1.1).o rfl);have bj:=hid hS1;have bc:Hid (Bx M w1 (w.heap.size+1) (chA none 0) 81):=hid ⟨hX1,hi.free (Nat.le_succ _),ku _ _⟩
 have bd:Hid (Bx M w1 w.heap.size #[.pointer p] 31):=hid ⟨af,hi.free aF,cZ _⟩;have HW1:=hid hw1;have HJ:=hid hJ2;have HT:=hid ht;have aw:Hid (bs+1<=w.heap.size/\0<w.heap.size):=hid ⟨hJ2.sz M w hj,hT.pos⟩;have HK:Hid (bm<bp/\bm<bs/\bm<w.heap.size):=hid (by have:=hJ2.sz M w hj; omega);have z3:=hid fm;obtain ⟨gT,ce⟩:=av w.heap.size
 obtain ⟨gX,bo⟩:=av (w.heap.size+1)
 have bu:Hid (gX=w.heap.size+1):=hid bo.symm;have dy:Hid (w.heap.size=gT):=hid ce;rw [bo] at bc;rw [ce] at bd;by_cases h1:d<=1
 .have hr:RB (dN d) st s=none:=if_pos (by unfold dN; omega);rw [hr];have q1:decide (d<=1)=true:=aI h1;have ae:Hid (∀ w9,Rg.Upd w1 gX w9->Hf (λk=>k=bm) (JB (JC J0 bp (plA px d) 79) bs vS 84) M w none (.returned (.tuple #[.agg (chA none 0),.bool false])) w9):=hid (λw9 hu=>by
   have h:=bj.out.upd HJ.out aw.out.1 aw.out.2 hu (by rw [bu.out]; exact Nat.le_succ _) bc.out.n;exact ⟨rfl,h.f,h.i,h.t,h.j⟩)
  clear hb1 af hX1 hS1 hi hT hj ht hB hJ2 fm hw1 ce bo hr z3 hd dj hbp hbs h1 HC;go_enter func33,ntmps33;go_wp2_with (first
   | (refine ay (bE _ _ _ gX (by rw [bu.out]; simp) rfl) ?_; rw [<-HW1.out,dy.out])
   | (refine ay (bK DC ⟨_,rfl,rfl⟩) ?_)
   | (refine bB bc.out.o rfl none 0 rfl _ _ rfl rfl rfl rfl ?_; intro w9 ai al; have bh:Hid (Rg.Own w9 gX (chA none 0) 81):=hid ai; have cv:=hid (ae.out w9 al); clear ai al))
  exact bodyPost_ret (zx (u:=6) (v:=7) rfl _ rfl bh.out) rfl cv.out
 .have hr:RB (dN d) st s=some (Fb (d-1) s,Nb (d-1) s):=by
   unfold RB Fb Nb;have e:dN d-1=dN (d-1):=by unfold dN; omega
   rw [if_neg (by unfold dN; omega),e]
  rw [hr];have q1:decide (d<=1)=false:=decide_eq_false h1;have q2:1<d:=by omega
  have cH:=hid (z3.out q2 M w1 p bj.out.j.1.1 bj.out.i bj.out.t ht);obtain ⟨t',ht'⟩:=av (Fb (d-1) s)
  obtain ⟨n,hn⟩:=av (Nb (d-1) s)
  obtain ⟨cc,hcc⟩:=av (fJ n)
  have eN:=hid hcc;rw [ht',hn] at cH ⊢;clear hb1 af hX1 hS1 hi hT hj ht hB hJ2 fm hw1 ce bo hr z3 dj hbp hbs ht' hn hcc;go_enter func33,ntmps33;go_wp2_with (first
   | (refine ay (bE _ _ _ gX (by rw [bu.out]; simp) rfl) ?_; rw [<-HW1.out,dy.out])
   | (refine ay (XA HC.out ⟨_,rfl,rfl⟩) ?_)
   | (refine ay (aT (Tm.aU (j:=0) bd.out.o rfl) ⟨_,rfl,rfl⟩) ?_)
   | (refine ay (bK (Gj p (d-1)) ⟨_,rfl,rfl⟩) ?_))
  refine cH.out.mono ?_;rintro e w2 ⟨q,M2,rfl,ht2,f2,i2,t2,j2⟩;rw [eN.out];have HS2:=hid (bj.out.call f2 i2 t2 ⟨⟨j2,bj.out.j.1.2.fk bj.out.i f2 (by have:=HK.out; omega)⟩,bj.out.j.2.fk bj.out.i f2 (by have:=HK.out; omega)⟩);have cm:=hid (bc.out.fk bj.out.i f2 (by have:=HK.out; have:=bu.out; omega));have ae:Hid (∀ w9,Rg.Upd w2 gX w9->Hf (λk=>k=bm) (JB (JC J0 bp (plA px d) 79) bs vS 84) M w (some (t',n)) (.returned (.tuple #[.agg (chA q cc),.bool true])) w9):=hid (λw9 hu=>by
   have h:=HS2.out.upd HJ.out aw.out.1 aw.out.2 hu (by rw [bu.out]; exact Nat.le_succ _) cm.out.n;exact ⟨q,M2,by rw [<-eN.out],ht2,h.f,h.i,h.t,h.j⟩)
  clear ht2 f2 i2 t2 j2 cH bc bd HC h0;go_wp2_with (first
   | (refine bB cm.out.o rfl q cc rfl _ _ rfl rfl rfl rfl ?_; intro w9 ai al; have bh:Hid (Rg.Own w9 gX (chA q cc) 81):=hid ai; have cv:=hid (ae.out w9 al); clear ai al))
  exact bodyPost_ret (zx (u:=6) (v:=7) rfl _ rfl bh.out) rfl cv.out
theorem Mc {B bt bm ba gB:Nat} (dm:∀ x∈Lb bt bm ba gB,x.1<B) (dj:bm<B) (M:Mp) (p:aJ) (d:Int) (hd : -9223372036854775808<=d/\d<=9223372036854775807) (x:T) (L:Nat) (g:Tr.Good x L) (hL:L<=64) (f:Fine x) (hf:Tr.Full x)
  (fm:∀ s,s∈aZ x->1<d->∀ (M:Mp) (w:World) (p:aJ),MJ B (Lb bt bm ba gB) bm (RP Fb Nb) M w->Inv M w->Tab w->IsT M p s->Calls prog 59 #[.agg (plA p (d-1)),.pointer (some ⟨bt,0,none⟩),.pointer (some ⟨ba,0,none⟩)] w (iw (λk=>k=bm) (MJ B (Lb bt bm ba gB) bm (RP Fb Nb)) M w (Fb (d-1) s) (Nb (d-1) s)))
  (w:World) (hi:Inv M w) (ht:IsT M p x) (hT:Tab w) (hj:MJ B (Lb bt bm ba gB) bm (RP Fb Nb) M w) :
  Calls prog 31 #[.agg (plA p d),.pointer (some ⟨gB,0,none⟩)] w (iw (λk=>k=bm) (MJ B (Lb bt bm ba gB) bm (RP Fb Nb)) M w (Fb d x) (Nb d x)):=by
 have hJ0:=Eo (Fa Fb Nb) dm dj;have hBw:=hJ0.sz M w hj;obtain ⟨c1,c2,c3⟩:=KA g hL f hf (dN d);obtain ⟨w1,hw1⟩:=au ((w.alloc (.cells (plA p d) 79)).alloc (.cells (chA none 0) 81))
 have hb1:Below w.heap.size w w1:=by rw [hw1]; exact al2 _ _ _
 have af:Rg.Own w1 w.heap.size (plA p d) 79:=by rw [hw1]; exact (Rg.Own.new _ _ _).below (al1 _ _)
 have hX1:Rg.Own w1 (w.heap.size+1) (chA none 0) 81:=by
  have:=Rg.Own.new (w.alloc (.cells (plA p d) 79)) (chA none 0) 81;rw [hw1];simpa using this
 have hS1:=(Sg.start hJ0 hi hT hj).below hJ0 hb1;have hPb:Bx M w1 w.heap.size (plA p d) 79:=⟨af,hi.free aF,XC _ _⟩
 have ir:=hid (λ(w2:World) (t7:Nat) (hb2:Below w1.heap.size w1 w2) (hx:Bx M w2 t7 #[.pointer p] 31)=>by
  have h:=Eb (hJ0.YA hBw (plA p d) 79) 33 #[.pointer (some ⟨w.heap.size,0,none⟩),.pointer (some ⟨gB,0,none⟩)] (enters_of func33 (by kernel_rfl) rfl) M p x L g hL f (RB (dN d)) c1
   (λj bs hjl hbs _=>Jo dm dj hBw (Nat.lt_of_succ_le hbs) p d hd _ _ (λh1=>fm _ (oO hjl) h1)) t7 w2 ((hS1.below hJ0 hb2).i) ht ((hS1.below hJ0 hb2).t) ⟨(hS1.below hJ0 hb2).j,hPb.below hb2⟩ hx
  rwa [c2,c3] at h)
 have bc:Hid (Bx M w1 (w.heap.size+1) (chA none 0) 81):=hid ⟨hX1,hi.free (Nat.le_succ _),ku _ _⟩;have bd:=hid hPb;have bj:=hid hS1;have HJ:=hid hJ0;have HW1:=hid hw1;have aw:Hid (B<=w.heap.size/\0<w.heap.size/\bm<w.heap.size):=hid ⟨hBw,hT.pos,by omega⟩;obtain ⟨J0,lh⟩:=av (MJ B (Lb bt bm ba gB) bm (RP Fb Nb))
 rw [lh] at bj HJ ir ⊢;obtain ⟨t',ht'⟩:=av (Fb d x)
 obtain ⟨n,hn⟩:=av (Nb d x)
 obtain ⟨cc,hcc⟩:=av (fJ n)
 have eN:=hid hcc;have t8:Hid (∀ (w2:World) (t7:Nat),Below w1.heap.size w1 w2->Bx M w2 t7 #[.pointer p] 31->Calls prog 60 #[.func (.func 33) #[] #[.pointer (some ⟨w.heap.size,0,none⟩),.pointer (some ⟨gB,0,none⟩)],.pointer (some ⟨t7,0,none⟩)] w2 (iw (λk=>k=bm) (JC J0 w.heap.size (plA p d) 79) M w2 t' n)):=hid (λw2 t7 hb hx=>by
  rw [<-ht',<-hn];exact ir.out w2 t7 hb hx)
 rw [ht',hn];obtain ⟨gX,bo⟩:=av (w.heap.size+1)
 have bu:Hid (gX=w.heap.size+1):=hid bo.symm;rw [bo] at bc;obtain ⟨gP,ta⟩:=av w.heap.size
 have UI:Hid (w.heap.size=gP):=hid ta;rw [ta] at bd t8;clear hJ0 hBw c1 c2 c3 hb1 af hX1 hS1 hPb hi ht hT hj fm hw1 lh ht' hn hcc bo ta ir dm dj g f hf hd;have eR:∀ (fn:Fn) (first cap:aM) (w:World),(Instr.makeFunc fn first cap).run prog w = .ok (.func fn first cap) w:=λ_ _ _ _=>rfl;go_enter func31,ntmps31;go_wp2_with (first
  | (refine ay (bE _ _ _ gX (by rw [bu.out]; simp) rfl) ?_; rw [<-HW1.out,UI.out])
  | (refine ay (aT (Tm.aU (j:=0) bd.out.o rfl) ⟨_,rfl,rfl⟩) ?_))
 refine (yM p w1).mono ?_;rintro e w2 ⟨rfl,hO2,hb2⟩;have mT:=hid (t8.out w2 w1.heap.size hb2 ⟨hO2,bj.out.i.free aF,cZ _⟩);have HS2:=hid (bj.out.below HJ.out hb2);have cm:=hid (bc.out.below hb2);clear hO2 hb2 t8 bc bd bj;go_wp2_with fail
 refine mT.out.mono ?_;rintro e w3 ⟨q,M3,rfl,ht3,f3,i3,t3,j3⟩;rw [eN.out];have cC:=hid (HS2.out.call f3 i3 t3 j3.1);have cF:=hid (cm.out.fk HS2.out.i f3 (by have:=aw.out; have:=bu.out; omega));have ae:Hid (∀ w9,Rg.Upd w3 gX w9->iw (λk=>k=bm) J0 M w t' n (.returned (.agg (chA q cc))) w9):=hid (λw9 hu=>by
  rw [<-eN.out];exact (cC.out.upd HJ.out aw.out.1 aw.out.2.1 hu (by rw [bu.out]; exact Nat.le_succ _) cF.out.n).chg n ht3)
 clear ht3 f3 i3 t3 j3 mT HS2 cm;go_wp2_with (first
  | (refine bB cF.out.o rfl q cc rfl _ _ rfl rfl rfl rfl ?_; intro w9 ai al; have bh:Hid (Rg.Own w9 gX (chA q cc) 81):=hid ai; have cv:=hid (ae.out w9 al); clear ai al))
 exact bodyPost_ret (jO rfl _ rfl bh.out) rfl cv.out
theorem LV {B bt bm ba gB:Nat} (dm:∀ x∈Lb bt bm ba gB,x.1<B) (dj:bm<B) (L:Nat):L<=64->∀ (x:T),Tr.Good x L->Fine x->Tr.Full x->∀ (d:Int), -9223372036854775808<=d/\d<=9223372036854775807->∀ (M:Mp) (w:World) (p:aJ),MJ B (Lb bt bm ba gB) bm (RP Fb Nb) M w->Inv M w->Tab w->IsT M p x->
  Calls prog 59 #[.agg (plA p d),.pointer (some ⟨bt,0,none⟩),.pointer (some ⟨ba,0,none⟩)] w (iw (λk=>k=bm) (MJ B (Lb bt bm ba gB) bm (RP Fb Nb)) M w (Fb d x) (Nb d x)):=by
 induction L using Nat.strongRecOn with
 | ind L ih =>
  intro hL x g f hf d hd M w p hj hi hT ht;exact PS Fb Nb dm dj bt ba 31 #[.pointer (some ⟨gB,0,none⟩)] (by simp [Lb]) (by simp [Lb]) (enters_of func31 (by kernel_rfl) rfl) M p d x w hi ht hT hj λw1 hj1 hi1 hT1 =>
   Mc dm dj M p d hd x L g hL f hf (λs hs h1 M w p hj hi hT ht=>by
    obtain ⟨_,f',hf',L',hl,g'⟩:=iE g f s hs;exact ih L' hl (by omega) s g' f' (hf' hf) (d-1) (by omega) M w p hj hi hT ht) w1 hi1 ht hT1 hj1
def wY (M:Mp) (w:World) (t:T) (e:Ending) (w':World):Prop:=∃ q M',e = .returned (tv q)/\IsT M' q t/\Fnw M M' w w'/\Inv M' w'/\Tab w'
theorem Sb (m:Nat):∀ (j:Nat) (x:Int),(#[Value.map (some m)]:aM)[j]? ≠ some (Value.int .u8 x):=λj x h=>by
 match j,h with
 | 0,h=>simp at h
 | j+1,h=>simp at h
theorem BL {b:Nat} (h:w.heap[b]? = some (.map #[] 0)) (R:Value->Value->Prop):oJ w b R:=⟨#[],0,h,λe he=>by simp at he⟩
theorem OC (M:Mp) (p:aJ) (t:T) (L:Nat) (g:Tr.Good t L) (hL:L<=64) (f:Fine t) (hf:Tr.Full t) (d:Int) (hd : -9223372036854775808<=d/\d<=9223372036854775807) (w:World) (hi:Inv M w) (ht:IsT M p t) (hT:Tab w) :
  Calls prog 11 #[tv p,.int .i64 d] w (wY M w (Fb d t)):=by
 obtain ⟨w1,hw1⟩:=au ((w.alloc (.cells #[.pointer p] 31)).alloc (.cells #[.pointer none] 31))
 obtain ⟨w2,hw2⟩:=au (w1.alloc (.cells #[.nilFunc] 76))
 have hb1:Below w.heap.size w w1:=by rw [hw1]; exact al2 _ _ _
 have hs1:w1.heap.size=w.heap.size+2:=by rw [hw1]; simp
 have d9:Below w1.heap.size w1 w2:=by rw [hw2]; exact al1 _ _
 have hs2:w2.heap.size=w.heap.size+3:=by rw [hw2]; simp [hs1]
 have hb2:Below w.heap.size w w2:=bst hb1 d9;have hO:Rg.Own w2 w.heap.size #[.pointer p] 31:=by
  refine Rg.Own.below ?_ d9;rw [hw1];exact (Rg.Own.new _ _ _).below (al1 _ _)
 have hX:Rg.Own w2 (w.heap.size+1) #[.pointer none] 31:=by
  refine Rg.Own.below ?_ d9;have:=Rg.Own.new (w.alloc (.cells #[.pointer p] 31)) #[.pointer none] 31;rw [hw1];simpa using this
 have hG:Rg.Own w2 (w.heap.size+2) #[.nilFunc] 76:=by
  have:=Rg.Own.new w1 #[.nilFunc] 76;rw [hs1] at this;rw [hw2];exact this
 obtain ⟨gT,ce⟩:=av w.heap.size
 obtain ⟨gX,bo⟩:=av (w.heap.size+1)
 obtain ⟨gB,hgB⟩:=av (w.heap.size+2)
 have jz:=hid (LP 31 #[.pointer (some ⟨gB,0,none⟩)] w2);have lR:Hid (∀ w3 w4,Below w2.heap.size w2 w3->Rg.Own w3 w2.heap.size #[.func (.func 31) #[] #[.pointer (some ⟨gB,0,none⟩)]] 76->w3.heap[w2.heap.size+1]? = some (.map #[] 0)->Rg.Own w3 (w2.heap.size+2) #[.map (some (w2.heap.size+1))] 118->
   Rg.Own w4 gB #[.func (.func 59) #[] #[.pointer (some ⟨w2.heap.size+2,0,none⟩),.pointer (some ⟨w2.heap.size,0,none⟩)]] 76->Rg.Upd w3 gB w4->
   Bx M w4 gT #[.pointer p] 31/\Bx M w4 gX #[.pointer none] 31/\Calls prog 59 #[.agg (plA p d),.pointer (some ⟨w2.heap.size+2,0,none⟩),.pointer (some ⟨w2.heap.size,0,none⟩)] w4 (λe w'=>∃ q M' c,e = .returned (.agg (chA q c))/\IsT M' q (Fb d t)/\Fnw M M' w w'/\Inv M' w'/\Tab w'/\Bx M' w' gX #[.pointer none] 31)):=hid (λw3 w4 hb3 ha hm hbt hg hu=>by
  have hs3:=hb3.size;have hl3:=(Array.getElem?_eq_some_iff.1 hbt.2).1;have hb4:Below w.heap.size w w4:=hu.below (hb2.trans (hb3.mono (by omega))) (by omega);have hi4:=hi.below hb4;have hs4:=hu.size;have hfr:∀ k,w.heap.size<=k->¬ M.ft k:=λk hk=>hi.free hk;have lA:Bx M w4 gX #[.pointer none] 31:=⟨by rw [<-bo]; exact (hX.below hb3).upd hu (by omega),hfr _ (by omega),cZ _⟩
  have hO4:Bx M w4 gT #[.pointer p] 31:=⟨by rw [<-ce]; exact (hO.below hb3).upd hu (by omega),hfr _ (by omega),cZ _⟩
  have hj:MJ w4.heap.size (Lb (w2.heap.size+2) (w2.heap.size+1) w2.heap.size gB) (w2.heap.size+1) (RP Fb Nb) M w4:=by
   refine ⟨λx hx=>?_,BL ((hu.block _ (by omega)).trans hm) _,hfr _ (by omega),aF⟩;unfold Lb at hx;rcases List.mem_cons.1 hx with rfl | hx
   .exact ⟨hbt.upd hu (by show w2.heap.size+2≠gB; omega),hfr _ (by show w.heap.size<=w2.heap.size+2; omega),Sb _⟩
   .rcases List.mem_cons.1 hx with rfl | hx
    .exact ⟨ha.upd hu (by show w2.heap.size≠gB; omega),hfr _ (by show w.heap.size<=w2.heap.size; omega),IU _ _⟩
    .rw [List.mem_singleton.1 hx];exact ⟨hg,hfr _ (by show w.heap.size<=gB; omega),IU _ _⟩
  refine ⟨hO4,lA,?_⟩;refine (LV (B:=w4.heap.size) (λx hx=>(hj.bx x hx).o.1) hj.m.lt L hL t g f hf d hd M w4 p hj hi4 (hT.below hb4 hT.pos) ht).mono ?_;rintro e w' ⟨q,M',he,hq,z5,hi',ht',_⟩;exact ⟨q,M',_,he,hq,(Fnw.of (Fr.below M hb4)).trans z5 (λk hk=>.inr (by omega)),hi',ht',lA.fk hi4 z5 (by omega)⟩)
 have HX:Hid (Rg.Own w2 gX #[.pointer none] 31):=hid (by rw [<-bo]; exact hX);have HG:Hid (Rg.Own w2 gB #[.nilFunc] 76):=hid (by rw [<-hgB]; exact hG);have HS:Hid (gT=w.heap.size/\gX=w.heap.size+1/\gB=w.heap.size+2/\0<w.heap.size):=hid ⟨ce.symm,bo.symm,hgB.symm,hT.pos⟩;have HW1:=hid hw1;have HW2:=hid hw2;have bj:=hid hs1;obtain ⟨t',ht'⟩:=av (Fb d t)
 rw [ht'] at lR ⊢;clear hb1 hs1 d9 hs2 hb2 hO hX hG ce bo hgB hi ht hT hw1 hw2 ht' g f hf hd;have eR:∀ (fn:Fn) (first cap:aM) (w:World),(Instr.makeFunc fn first cap).run prog w = .ok (.func fn first cap) w:=λ_ _ _ _=>rfl;have hgo:Calls prog 11 #[.agg #[.pointer p],.int .i64 d] w (wY M w t'):=by
  go_enter func11,ntmps11;go_wp2_with (first
   | (refine ay (aW _ _ _ gX (by rw [HS.out.2.1]; simp) rfl) ?_; rw [<-HW1.out,<-HS.out.1])
   | (refine ay (YQ _ _ _ gB (by rw [HS.out.2.2.1,bj.out]) rfl) ?_; rw [<-HW2.out]))
  refine jz.out.mono ?_;rintro e w3 ⟨rfl,ha,hm,hbt,hb3⟩;have gv:=hid (HG.out.below hb3);have HT3:Hid (∀ w4,_->_->_):=hid (λw4=>lR.out w3 w4 hb3 ha hm hbt);clear ha hm hbt hb3 jz lR;go_wp2_with (first
   | (refine jA gv.out Zk rfl _ _ rfl rfl rfl ?_; intro w4 hO4 cX; have pj:=hid hO4; obtain ⟨hb4,hx4,hc4⟩:=HT3.out w4 hO4 cX; have ch:=hid hb4; have cP:=hid hx4; have tb:=hid hc4; clear hO4 cX hb4 hx4 hc4)
   | (refine ay (XA (Tm.aU (j:=0) pj.out rfl) ⟨_,rfl,rfl⟩) ?_)
   | (refine ay (aT (Tm.aU (j:=0) ch.out.o rfl) ⟨_,rfl,rfl⟩) ?_)
   | (refine ay (bK (Gj p d) ⟨_,rfl,rfl⟩) ?_))
  refine tb.out.mono ?_;rintro e w5 ⟨q,M5,c,rfl,rf,f5,i5,t5,x5⟩;have cT:=hid x5;have ae:Hid (∀ w9,Rg.Upd w5 gX w9->wY M w t' (.returned (tv q)) w9):=hid (λw9 hu=>⟨q,M5,rfl,rf,Fk.upd f5 hu (by have:=HS.out; omega),i5.upd hu x5.n,lC t5 hu (by have:=HS.out; omega)⟩);clear rf f5 i5 t5 x5 tb cP ch pj;go_wp2_with (first
   | (refine ay (yU ⟨_,rfl,rfl⟩) ?_)
   | (refine aX cT.out.o (by simp) q rfl _ _ rfl rfl rfl ?_; intro w9 ai al; have bh:Hid (Rg.Own w9 gX #[.pointer q] 31):=hid ai; have cv:=hid (ae.out w9 al); clear ai al))
  exact bodyPost_ret (dW (q:=4) rfl _ rfl bh.out) rfl cv.out
 exact hgo
theorem Hq (M:Mp) (p:aJ) (t:T) (L:Nat) (g:Tr.Good t L) (hL:L<=64) (f:Fine t) (hf:Tr.Full t) (w:World) (hi:Inv M w) (ht:IsT M p t) (hT:Tab w) :
  Calls prog 6 #[tv p] w (wY M w (bY 1 t)):=by
 obtain ⟨w1,hw1⟩:=au ((w.alloc (.cells #[.pointer p] 31)).alloc (.cells #[.pointer none] 31))
 have hb1:Below w.heap.size w w1:=by rw [hw1]; exact al2 _ _ _
 have af:Rg.Own w1 w.heap.size #[.pointer p] 31:=by rw [hw1]; exact (Rg.Own.new _ _ _).below (al1 _ _)
 have hX1:Rg.Own w1 (w.heap.size+1) #[.pointer none] 31:=by
  have:=Rg.Own.new (w.alloc (.cells #[.pointer p] 31)) #[.pointer none] 31;rw [hw1];simpa using this
 have cD:=hid (OC M p t L g hL f hf 1 (by omega) w1 (hi.below hb1) ht (hT.below hb1 hT.pos));have bc:Hid (Bx M w1 (w.heap.size+1) #[.pointer none] 31):=hid ⟨hX1,hi.free (Nat.le_succ _),cZ _⟩;have bd:=hid af;have HW1:=hid hw1;have Hb:Hid (Fnw M M w w1/\Inv M w1/\0<w.heap.size):=hid ⟨Fnw.of (Fr.below M hb1),hi.below hb1,hT.pos⟩;obtain ⟨gX,bo⟩:=av (w.heap.size+1)
 have bu:Hid (gX=w.heap.size+1):=hid bo.symm;rw [bo] at bc;obtain ⟨t',ht'⟩:=av (bY 1 t)
 have e1:Fb 1 t=t':=ht';rw [e1] at cD;rw [ht'];clear hb1 af hX1 hi ht hT hw1 bo ht' e1 g f hf;have hgo:Calls prog 6 #[.agg #[.pointer p]] w (wY M w t'):=by
  go_enter func6,ntmps6;go_wp2_with (first
   | (refine ay (aW _ _ _ gX (by rw [bu.out]; simp) rfl) ?_; rw [<-HW1.out])
   | (refine ay (aT (Tm.aU (j:=0) bd.out rfl) ⟨_,rfl,rfl⟩) ?_))
  refine cD.out.mono ?_;rintro e w2 ⟨q,M2,rfl,ht2,f2,i2,t2⟩;have hX2:=Bx.fn bc.out Hb.out.2.1 f2;have cm:=hid hX2;have ae:Hid (∀ w9,Rg.Upd w2 gX w9->wY M w t' (.returned (tv q)) w9):=hid (λw9 hu=>⟨q,M2,rfl,ht2,Fk.upd (Hb.out.1.trans f2 λ_ h=>h.elim) hu (by rw [bu.out]; exact Nat.le_succ _),i2.upd hu hX2.n,lC t2 hu (by have:=bu.out; have:=Hb.out.2.2; omega)⟩);clear ht2 f2 i2 t2 hX2 cD bc bd;go_wp2_with (first
   | (refine aX cm.out.o (by simp) q rfl _ _ rfl rfl rfl ?_; intro w9 ai al; have bh:Hid (Rg.Own w9 gX #[.pointer q] 31):=hid ai; have cv:=hid (ae.out w9 al); clear ai al))
  exact bodyPost_ret (dW (q:=2) rfl _ rfl bh.out) rfl cv.out
 exact hgo
end Sx
end
end Go.Proofs.YtlcplcgigjagpaaGreatDoor
