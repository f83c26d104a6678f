/-
 The contracts of dropper and what it makes: trees right within are dropped, but for those of which is told what becomes of them.
-/
import Derived.Test.YtoipgepkhomfgaaGreatDoorPd18
import Derived.Laws.EntriesVeiled
import Derived.Deep.Fields
import Derived.Deep.Strs
import Derived.LaidMore
import Derived.ShutString
import Derived.Stop.Joined
open Go.Lib (hid)
open Go.Proofs.Tryz
set_option linter.unusedSimpArgs false
set_option linter.unusedVariables false
set_option maxHeartbeats 40000000
set_option maxRecDepth 100000
namespace Go.Proofs.YtoipgepkhomfgaaGreatDoor
variable {a q:aK} {ev:Operand->Value} {o:Oper} {v:Value} {c j:Nat} {W:World}
section
open Go.RowKit
namespace Sx
open Tr Ni Pk Ky No Rf Rl Tm
open Sm (Tab)
structure Sg (K:Nat->Prop) (J:Mp->World->Prop) (M0:Mp) (w0:World) (M:Mp) (w:World):Prop where
 f:Fk K M0 M w0 w
 i:Inv M w
 t:Tab w
 j:J M w
section
variable {B:Nat} {K:Nat->Prop} {J:Mp->World->Prop} {M0 M M':Mp} {w0 w w':World}
theorem Sg.start (hJ:JOk B K J) (hi:Inv M w) (hT:Tab w) (hj:J M w):Sg K J M w M w:=⟨(Fr.refl M w).k (hJ.kc M w hj hi),hi,hT,hj⟩
theorem Sg.fn (h:Sg K J M0 w0 M w) (hJ:JOk B K J) (f:Fnw M M' w w') (i:Inv M' w') (t:Tab w'):Sg K J M0 w0 M' w' :=
 ⟨h.f.trans (f.k (hJ.kc M w h.j h.i)) λ_ hk=>.inl hk,i,t,hJ.fn h.j h.i f⟩
theorem Sg.fr (h:Sg K J M0 w0 M w) (hJ:JOk B K J) (f:Fr M M w w') (i:Inv M w') (t:Tab w'):Sg K J M0 w0 M w':=h.fn hJ (Fnw.of f) i t
theorem Sg.below (h:Sg K J M0 w0 M w) (hJ:JOk B K J) (hb:Below w.heap.size w w'):Sg K J M0 w0 M w':=h.fr hJ (Fr.below M hb) (h.i.below hb) (h.t.below hb h.t.pos)
theorem Sg.call (h:Sg K J M0 w0 M w) (f:Fk K M M' w w') (i:Inv M' w') (t:Tab w') (j:J M' w'):Sg K J M0 w0 M' w':=⟨h.f.trans f λ_ hk=>.inl hk,i,t,j⟩
theorem Sg.upd (h:Sg K J M0 w0 M w) (hJ:JOk B K J) {g:Nat} (hB:B<=w0.heap.size) (hz:0<w0.heap.size) (hu:Rg.Upd w g w') (hg:w0.heap.size<=g) (hf:¬ M.ft g):Sg K J M0 w0 M w' :=
 ⟨Fk.upd h.f hu hg,h.i.upd hu hf,lQ h.t hu (by omega),hJ.fr M M w w' h.j h.i (by rw [hu.size]; exact aG) (λk hk _=>hu.block k (by omega)) (λ_ _ h=>h) (λ_ _ h=>h) (λ_ _ h=>h)⟩
theorem Sg.chg (h:Sg K J M0 w0 M w) {t:T} (n:Nat) (hq:IsT M q t):qF K J M0 w0 t n (.returned (.agg (chA q (kF n)))) w:=⟨q,M,rfl,hq,h.f,h.i,h.t,h.j⟩
end
theorem Bx.fn {M M':Mp} {w w':World} {g:Nat} {cs:aN} {t:TypeId} (h:Bx M w g cs t) (hi:Inv M w) (f:Fnw M M' w w'):Bx M' w' g cs t:=Bx.fk h hi f λe=>e
abbrev EA:Type:=Option (T × Nat)
def RV (K:Nat->Prop) (J:Mp->World->Prop) (M:Mp) (w:World) (r:EA) (e:Ending) (w':World):Prop:=match r with
 | some x=>∃ q M',e = .returned (.tuple #[.agg (chA q (kF x.2)),.bool true])/\IsT M' q x.1/\Fk K M M' w w'/\Inv M' w'/\Tab w'/\J M' w'
 | none=>e = .returned (.tuple #[.agg (chA none 0),.bool false])/\Fk K M M w w'/\Inv M w'/\Tab w'/\J M w'
def FE (K:Nat->Prop) (J:Mp->World->Prop) (fs:Nat) (cs:aN) (st:Pa) (s:T) (r:EA):Prop :=
 ∀ (M:Mp) (w:World) (a:aK) (m c:Nat) (p:aK),J M w->Inv M w->Tab w->bf w a m c st->IsT M p s->Calls prog fs (#[.slice a m c,tv p]++cs) w (RV K J M w r)
def VN (r:aL):EA->T
 | some x=>x.1
 | none=>.stub r
def Vb:EA->Nat
 | some x=>x.2
 | none=>1
def qB (R:Pa->T->EA) (st:Pa) (s:T):T:=if (ref s).size=32 then VN (ref s) (R st s) else s
def pI (R:Pa->T->EA) (st:Pa) (s:T):Nat:=if (ref s).size=32 then Vb (R st s) else 0
theorem YK {t:T} {L:Nat} (g:Tr.Good t L) (hL:L<=64) (f:Fine t) (hn:t ≠ .nil):(ref t).size<=32:=by
 have h:=(eT t L g hL f hn).2.1;unfold bW dN at h;rw [Bool.or_eq_true,Bool.and_eq_true] at h;rcases h with h | ⟨h,_⟩
 .have:=of_decide_eq_true h;omega
 .have:=of_decide_eq_true h;omega
def JB (J:Mp->World->Prop) (bs:Nat) (v:Value) (ty:TypeId) (M:Mp) (w:World):Prop:=J M w/\Bx M w bs #[v] ty
theorem JOk.box {B:Nat} {K:Nat->Prop} {J:Mp->World->Prop} (h:JOk B K J) {bs:Nat} (hb:B<=bs) (v:Value) (ty:TypeId):JOk (bs+1) K (JB J bs v ty):=by
 refine ⟨λM M' w w' hj hi hs hk hm hf hx=>⟨h.fr M M' w w' hj.1 hi hs (λk hk'=>hk k (by omega)) hm (λk hk'=>hf k (by omega)) (λk hk'=>hx k (by omega)),⟨⟨aI hj.2.o.1 hs,(hk bs (Nat.lt_succ_self _) (nR hi hj.2.n)).trans hj.2.o.2⟩,λe=>hj.2.n (hf bs (Nat.lt_succ_self _) e),hj.2.h⟩⟩,λM w hj hi=>h.kc M w hj.1 hi,λk hk=>by have:=h.lt k hk; omega,λM w hj=>hj.2.o.1⟩
theorem ZM (f:Nat) (cs:aN):∀ (j:Nat) (x:Int),(#[Value.func (.func f) #[] cs]:aN)[j]? ≠ some (Value.int .u8 x):=λj x h=>by
 match j,h with
 | 0,h=>simp at h
 | j+1,h=>simp at h
theorem BK {w:World} {b:Nat} (hc:w.cell? ⟨b,0,none⟩=some v) (ho:∃ x,o.op = .load 149 x/\ev x = .pointer (some ⟨b,0,none⟩)) :
  (execOp ev o).run prog w = .ok (.value v) w:=by
 obtain ⟨x,ho,hx⟩:=ho;unfold execOp;simp [ho,hx,go_sem,hc]
theorem Km {B:Nat} {K:Nat->Prop} {J:Mp->World->Prop} (hJ:JOk B K J) (fs:Nat) (cs:aN) (eS:∀ args w,(callFunc fs args).run prog w = .ok (.enter fs args) w) (bs:Nat) (hbs:B<=bs) (st:Pa) (s:T) (L:Nat) (g:Tr.Good s L) (hL:L<=64) (f:Fine s) (hn:s ≠ .nil) (R:Pa->T->EA)
  (hS:(ref s).size=32->FE K (JB J bs (.func (.func fs) #[] cs) 149) fs cs st s (R st s)) :
  Nv K (JB J bs (.func (.func fs) #[] cs) 149) 125 #[.pointer (some ⟨bs,0,none⟩)] st s (qB R st s) (pI R st s):=by
 have hJ2:=hJ.box hbs (.func (.func fs) #[] cs) 149;obtain ⟨J2,hJe⟩:=ay (JB J bs (.func (.func fs) #[] cs) 149)
 have BT:Hid (∀ M w,J2 M w->Bx M w bs #[.func (.func fs) #[] cs] 149):=hid (λM w h=>by rw [<-hJe] at h; exact h.2);rw [hJe] at hS hJ2 ⊢;clear hJe;intro M w a m c p hj hi hT hB ht;show Calls prog 125 #[.slice a m c,.agg #[.pointer p],.pointer (some ⟨bs,0,none⟩)] w (qF K J2 M w (qB R st s) (pI R st s));obtain ⟨w1,hw1⟩:=au ((w.alloc (.cells #[.pointer p] 35)).alloc (.cells (chA none 0) 88))
 have hb1:Below w.heap.size w w1:=by rw [hw1]; exact al2 _ _ _
 have ab:Rg.Own w1 w.heap.size #[.pointer p] 35:=by rw [hw1]; exact (Rg.Own.new _ _ _).below (al1 _ _)
 have hX1:Rg.Own w1 (w.heap.size+1) (chA none 0) 88:=by
  have:=Rg.Own.new (w.alloc (.cells #[.pointer p] 35)) (chA none 0) 88;rw [hw1];simpa using this
 have bj:=hid ((Sg.start hJ2 hi hT hj).below hJ2 hb1);have cM:Hid (Bx M w1 (w.heap.size+1) (chA none 0) 88):=hid ⟨hX1,hi.free (Nat.le_succ _),zH _ _⟩;have bd:Hid (Bx M w1 w.heap.size #[.pointer p] 35):=hid ⟨ab,hi.free aG,eH _⟩;have HW1:=hid hw1;have HB1:=hid (hB.below hb1);have HJ:=hid hJ2;have HT:=hid ht;have BV:=hid (λ(M:Mp) (w:World) (hi:Inv M w) (ht:IsT M p s) (hT:Tab w)=>Je M p s L g hL f w hi ht hT);have hle:=YK g hL f hn;have fh:=hid (Rf.dA (ref s) (by unfold maxLen; omega))
 have cG:Hid (bs+1<=w.heap.size/\0<w.heap.size):=hid ⟨hJ2.sz M w hj,hT.pos⟩;have cw:=hid hS;have vu:=hid (Uj g hL f hn);have Ss:Hid (∀ k,K k->k<w.heap.size):=hid (λk hk=>by have:=hJ2.lt k hk; have:=hJ2.sz M w hj; omega);obtain ⟨gT,eo⟩:=ay w.heap.size
 obtain ⟨gX,df⟩:=ay (w.heap.size+1)
 have eA:Hid (gX=w.heap.size+1):=hid df.symm;have lk:Hid (w.heap.size=gT):=hid eo;have fd:Hid (w.heap.size<=gX/\¬ K gX/\¬ K gT):=hid ⟨by omega,λe=>by have:=Ss.out _ e; omega,λe=>by have:=Ss.out _ e; omega⟩;rw [df] at cM;rw [eo] at bd;clear hb1 ab hX1 hi hT hj ht hB hJ hJ2 hS hw1 eo df g f hn hL;obtain ⟨r,hr⟩:=ay (ref s)
 by_cases h32:(ref s).size=32
 .have HF:Hid (qB R st s=VN (ref s) (R st s)/\pI R st s=Vb (R st s)):=hid ⟨if_pos h32,if_pos h32⟩;have hk1:mq (ref s)=1:=by unfold mq; rw [if_neg (by omega),if_pos h32]
  have jb:=hid (λ(M:Mp) (w:World) (hi:Inv M w)=>DV M (ref s) (by unfold maxLen; omega) (.inl hk1) w hi);replace cw:=hid (cw.out h32);rw [hk1] at fh;rw [HF.out.1,HF.out.2];clear h32 hk1 hle vu HF;obtain ⟨y,hy⟩:=ay (R st s)
  rw [hy] at cw ⊢;rw [hr] at BV jb fh ⊢;clear hy hr;have hgo:Calls prog 125 #[.slice a m c,.agg #[.pointer p],.pointer (some ⟨bs,0,none⟩)] w (qF K J2 M w (VN r y) (Vb y)):=by
   go_enter func125,ntmps125;go_wp2_with (first
    | (refine aA (eP _ _ _ gX (by rw [eA.out]; simp) rfl) ?_; rw [<-HW1.out,lk.out])
    | (refine aA (aU (Tm.aV (j:=0) bd.out.o rfl) ⟨_,rfl,rfl⟩) ?_))
   refine (BV.out M w1 bj.out.i HT.out bj.out.t).mono ?_;rintro e w2 ⟨rfl,f2,i2,t2⟩;have HS2:=hid (bj.out.fr HJ.out f2 i2 t2);have cF:=hid (cM.out.frm bj.out.i f2);have c8:=hid (bd.out.frm bj.out.i f2);have HB2:=hid (mP bj.out.i HB1.out f2);clear f2 i2 t2 cM bd HB1 bj;go_wp2_with fail
   refine (fh.out w2).mono ?_;rintro e w3 ⟨rfl,hb3⟩;have cn:=hid (HS2.out.below HJ.out hb3);have cN:=hid (cF.out.below hb3);have ag:=hid (c8.out.below hb3);have HB3:=hid (HB2.out.below hb3);have cR:=hid (BT.out M w3 cn.out.j);clear hb3 cF c8 HB2 HS2;go_wp2_with (first
    | (refine aA (BK (Tm.aV (j:=0) cR.out.o rfl) ⟨_,rfl,rfl⟩) ?_)
    | (refine aA (aU (Tm.aV (j:=0) ag.out.o rfl) ⟨_,rfl,rfl⟩) ?_))
   refine (cw.out M w3 a m c p cn.out.j cn.out.i cn.out.t HB3.out HT.out).mono ?_;cases y with
   | some x =>
    rintro e w4 ⟨q,M4,rfl,np,f4,i4,t4,j4⟩;have du:=hid (cn.out.call f4 i4 t4 j4);have di:=hid (cN.out.fk cn.out.i f4 fd.out.2.1);have hNew:=Rg.Own.new w4 (chA none 0) 88;have vz:=hid hNew;obtain ⟨n,hnn⟩:=ay (kF x.2)
    have ae:Hid (∀ w5,Below w4.heap.size w4 w5->∀ w6,Rg.Upd w5 gX w6->qF K J2 M w x.1 x.2 (.returned (.agg (chA q n))) w6):=hid (λw5 hb w6 hu=>by
     rw [<-hnn];exact ((du.out.below HJ.out hb).upd HJ.out cG.out.1 cG.out.2 hu fd.out.1 di.out.n).chg x.2 np)
    rw [hnn];clear np f4 i4 t4 j4 hNew cn cN ag HB3 cR hnn;go_wp2_with (first
     | (refine aA (eP _ _ _ w4.heap.size rfl rfl) ?_)
     | (refine dU vz.out rfl q n rfl _ _ rfl rfl rfl rfl ?_; intro w5 ap aq; have az:Hid (Rg.Own w5 w4.heap.size (chA q n) 88):=hid ap; have aa:Hid (Below w4.heap.size w4 w5):=hid (aq.below (al1 _ _) aG); clear ap aq; have fy:=hid (di.out.below aa.out); have GS:=hid (ae.out w5 aa.out))
     | (refine aA (JX az.out ⟨_,rfl,rfl⟩) ?_)
     | (refine dU fy.out.o rfl q n rfl _ _ rfl rfl rfl rfl ?_; intro w9 ax aE; have ce:Hid (Rg.Own w9 gX (chA q n) 88):=hid ax; have fS:=hid (GS.out w9 aE); clear ax aE))
    exact bodyPost_ret (um rfl _ rfl ce.out) rfl fS.out
   | none =>
    rintro e w4 ⟨rfl,f4,i4,t4,j4⟩;have du:=hid (cn.out.call f4 i4 t4 j4);have di:=hid (cN.out.fk cn.out.i f4 fd.out.2.1);have b8:=hid (ag.out.fk cn.out.i f4 fd.out.2.2);have hNew:=Rg.Own.new w4 (chA none 0) 88;have vz:=hid hNew;clear f4 i4 t4 j4 hNew cn cN ag HB3 cR;go_wp2_with (first
     | (refine aA (eP _ _ _ w4.heap.size rfl rfl) ?_)
     | (refine dU vz.out rfl none 0 rfl _ _ rfl rfl rfl rfl ?_; intro w5 ap aq; have aa:Hid (Below w4.heap.size w4 w5):=hid (aq.below (al1 _ _) aG); clear ap aq; have az:=hid (b8.out.below aa.out))
     | (refine aA (aU (Tm.aV (j:=0) az.out.o rfl) ⟨_,rfl,rfl⟩) ?_))
    have lm:=hid (du.out.below HJ.out aa.out);have fy:=hid (di.out.below aa.out);refine (BV.out M w5 lm.out.i HT.out lm.out.t).mono ?_;rintro e w6 ⟨rfl,f6,i6,t6⟩;have e9:=hid (lm.out.fr HJ.out f6 i6 t6);have oS:=hid (fy.out.frm lm.out.i f6);clear f6 i6 t6 du lm di fy b8 az vz aa;go_wp2_with fail
    refine (jb.out M w6 e9.out.i).mono ?_;rintro e w7 ⟨q,M7,rfl,Su,f7,i7,b7,k7⟩;have L8:Fnw M M7 w6 w7:=f7.n k7;have rf:=hid (e9.out.fn HJ.out L8 i7 (e9.out.t.below b7 e9.out.t.pos));have mL:=hid (Bx.fn oS.out e9.out.i L8);have ae:Hid (∀ w9,Rg.Upd w7 gX w9->qF K J2 M w (.stub r) 1 (.returned (.agg (chA q 1))) w9):=hid (λw9 hu=>(rf.out.upd HJ.out cG.out.1 cG.out.2 hu fd.out.1 mL.out.n).chg 1 Su);clear Su f7 i7 b7 k7 L8 e9 oS;go_wp2_with (first
     | (refine aA (bL (Jo q 1) ⟨_,rfl,rfl⟩) ?_)
     | (refine dU mL.out.o rfl q 1 rfl _ _ rfl rfl rfl rfl ?_; intro w9 ax aE; have ce:Hid (Rg.Own w9 gX (chA q 1) 88):=hid ax; have fS:=hid (ae.out w9 aE); clear ax aE))
    exact bodyPost_ret (um rfl _ rfl ce.out) rfl fS.out
  exact hgo
 .have hk2:mq (ref s)=2:=vu.out.resolve_left λe=>by
   unfold mq at e;rw [if_neg h32] at e;split at e
   .cases e
   .split at e <;> cases e
  rw [hk2] at fh;rw [show qB R st s=s from if_neg h32,show pI R st s=0 from if_neg h32];rw [hr] at BV fh;clear h32 hk2 hle vu hr cw BT;have hgo:Calls prog 125 #[.slice a m c,.agg #[.pointer p],.pointer (some ⟨bs,0,none⟩)] w (qF K J2 M w s 0):=by
   go_enter func125,ntmps125;go_wp2_with (first
    | (refine aA (eP _ _ _ gX (by rw [eA.out]; simp) rfl) ?_; rw [<-HW1.out,lk.out])
    | (refine aA (aU (Tm.aV (j:=0) bd.out.o rfl) ⟨_,rfl,rfl⟩) ?_))
   refine (BV.out M w1 bj.out.i HT.out bj.out.t).mono ?_;rintro e w2 ⟨rfl,f2,i2,t2⟩;have HS2:=hid (bj.out.fr HJ.out f2 i2 t2);have cF:=hid (cM.out.frm bj.out.i f2);have c8:=hid (bd.out.frm bj.out.i f2);clear f2 i2 t2 cM bd HB1 bj;go_wp2_with fail
   refine (fh.out w2).mono ?_;rintro e w3 ⟨rfl,hb3⟩;have cn:=hid (HS2.out.below HJ.out hb3);have cN:=hid (cF.out.below hb3);have ag:=hid (c8.out.below hb3);have ae:Hid (∀ w9,Rg.Upd w3 gX w9->qF K J2 M w s 0 (.returned (.agg (chA p 0))) w9):=hid (λw9 hu=>(cn.out.upd HJ.out cG.out.1 cG.out.2 hu fd.out.1 cN.out.n).chg 0 HT.out);clear hb3 cF c8 HS2;go_wp2_with (first
    | (refine aA (aU (Tm.aV (j:=0) ag.out.o rfl) ⟨_,rfl,rfl⟩) ?_)
    | (refine aA (bL (CS p) ⟨_,rfl,rfl⟩) ?_)
    | (refine dU cN.out.o rfl p 0 rfl _ _ rfl rfl rfl rfl ?_; intro w9 ax aE; have ce:Hid (Rg.Own w9 gX (chA p 0) 88):=hid ax; have fS:=hid (ae.out w9 aE); clear ax aE))
   exact bodyPost_ret (um rfl _ rfl ce.out) rfl fS.out
  exact hgo
theorem Rp {B:Nat} {K:Nat->Prop} {J:Mp->World->Prop} (hJ:JOk B K J) (fs:Nat) (cs:aN) (eS:∀ args w,(callFunc fs args).run prog w = .ok (.enter fs args) w) (M:Mp) (p:aK) (t:T) (L:Nat) (g:Tr.Good t L) (hL:L<=64) (f:Fine t) (R:Pa->T->EA) (hok:OkF (qB R) (pI R) t)
  (hS:∀ j bs,j<(aY t).length->B<=bs->(ref ((aY t).getD j .nil)).size=32->FE K (JB J bs (.func (.func fs) #[] cs) 149) fs cs ((dO t).getD j []) ((aY t).getD j .nil) (R ((dO t).getD j []) ((aY t).getD j .nil)))
  (bt:Nat) (w:World) (hi:Inv M w) (ht:IsT M p t) (hT:Tab w) (hj:J M w) (hb:Bx M w bt #[.pointer p] 35) :
  Calls prog 123 #[.func (.func fs) #[] cs,.pointer (some ⟨bt,0,none⟩)] w (qF K J M w (vZ (qB R) t) (kE (pI R) t (aY t).length)):=by
 obtain ⟨w1,hw1⟩:=au ((w.alloc (.cells #[.func (.func fs) #[] cs] 149)).alloc (.cells (chA none 0) 88))
 have hb1:Below w.heap.size w w1:=by rw [hw1]; exact al2 _ _ _
 have ab:Rg.Own w1 w.heap.size #[.func (.func fs) #[] cs] 149:=by rw [hw1]; exact (Rg.Own.new _ _ _).below (al1 _ _)
 have hX1:Rg.Own w1 (w.heap.size+1) (chA none 0) 88:=by
  have:=Rg.Own.new (w.alloc (.cells #[.func (.func fs) #[] cs] 149)) (chA none 0) 88;rw [hw1];simpa using this
 have hB:=hJ.sz M w hj;have hJ2:=hJ.box hB (.func (.func fs) #[] cs) 149;have hS1:=(Sg.start hJ hi hT hj).below hJ hb1;have hX:Bx M w1 (w.heap.size+1) (chA none 0) 88:=⟨hX1,hi.free (Nat.le_succ _),zH _ _⟩
 have hO:Bx M w1 w.heap.size #[.func (.func fs) #[] cs] 149:=⟨ab,hi.free aG,ZM _ _⟩
 have SD:=hid (hb.below hb1);have vf:=hid (GL hJ2 125 #[.pointer (some ⟨w.heap.size,0,none⟩)] (enters_of func125 (by kernel_rfl) rfl) (qB R) (pI R) M p t L g hL f hok (λj hj'=>by
  obtain ⟨hne,hf,_,L',hl,hg⟩:=nu g f _ (yO hj');exact Km hJ fs cs eS w.heap.size hB _ _ L' hg (by omega) hf hne R λh=>hS j w.heap.size hj' hB h) w1 hS1.i ht hS1.t ⟨hS1.j,hO⟩)
 have cM:=hid hX;have bj:=hid hS1;have HJ:=hid hJ;have HW1:=hid hw1;have cG:Hid (B<=w.heap.size/\0<w.heap.size/\¬ K (w.heap.size+1)):=hid ⟨hB,hT.pos,λe=>by have:=hJ.lt _ e; omega⟩;obtain ⟨gX,df⟩:=ay (w.heap.size+1)
 have eA:Hid (gX=w.heap.size+1):=hid df.symm;rw [df] at cM cG;obtain ⟨t',ht'⟩:=ay (vZ (qB R) t)
 obtain ⟨n,hn⟩:=ay (kE (pI R) t (aY t).length)
 rw [ht',hn] at vf ⊢;clear hb1 ab hX1 hB hJ2 hS1 hX hO hb hi hT hj hJ hok hS hw1 df ht' hn g f hL;go_enter func123,ntmps123;go_wp2_with (first
  | (refine aA (eP _ _ _ gX (by rw [eA.out]; simp) rfl) ?_; rw [<-HW1.out])
  | (refine aA (aU (Tm.aV (j:=0) SD.out.o rfl) ⟨_,rfl,rfl⟩) ?_))
 refine vf.out.mono ?_;rintro e w2 ⟨q,M2,rfl,ht2,f2,i2,t2,j2⟩;have HS2:=hid (bj.out.call f2 i2 t2 j2.1);have cF:=hid (cM.out.fk bj.out.i f2 cG.out.2.2);obtain ⟨c,hc⟩:=ay (kF n)
 have ae:Hid (∀ w9,Rg.Upd w2 gX w9->qF K J M w t' n (.returned (.agg (chA q c))) w9):=hid (λw9 hu=>by
  rw [<-hc];exact (HS2.out.upd HJ.out cG.out.1 cG.out.2.1 hu (by rw [eA.out]; exact Nat.le_succ _) cF.out.n).chg n ht2)
 rw [hc];clear ht2 f2 i2 t2 j2 hc vf SD cM bj;go_wp2_with (first
  | (refine dU cF.out.o rfl q c rfl _ _ rfl rfl rfl rfl ?_; intro w9 ax aE; have ce:Hid (Rg.Own w9 gX (chA q c) 88):=hid ax; have fS:=hid (ae.out w9 aE); clear ax aE))
 exact bodyPost_ret (um rfl _ rfl ce.out) rfl fS.out
theorem Gg (p:aK) (w:World):Calls prog 81 #[tv p] w λe w'=>e = .returned (.func (.func 123) #[] #[.pointer (some ⟨w.heap.size,0,none⟩)])/\Rg.Own w' w.heap.size #[.pointer p] 35/\Below w.heap.size w w':=by
 have da:∀ (fn:Fn) (first cap:aN) (w:World),(Instr.makeFunc fn first cap).run prog w = .ok (.func fn first cap) w:=λ_ _ _ _=>rfl;have hgo:Calls prog 81 #[.agg #[.pointer p]] w λe w'=>e = .returned (.func (.func 123) #[] #[.pointer (some ⟨w.heap.size,0,none⟩)])/\Rg.Own w' w.heap.size #[.pointer p] 35/\Below w.heap.size w w':=by
  go_enter func81,ntmps81;go_wp2;go_ret;exact ⟨rfl,Rg.Own.new _ _ _,al1 _ _⟩
 exact hgo
theorem OkF.congr {F:Pa->T->T} {C C':Pa->T->Nat} {t:T} (h:OkF F C t) (e:∀ j,j<(aY t).length->C' ((dO t).getD j []) ((aY t).getD j .nil)=C ((dO t).getD j []) ((aY t).getD j .nil)):OkF F C' t:=λj hj=>by
 obtain ⟨h1,h2,h3,h4⟩:=h j hj;exact ⟨h1,h2,λhz=>h3 (by rw [<-e j hj]; exact hz),h4⟩
theorem Kg {C C':Pa->T->Nat} {t:T} (e:∀ j,j<(aY t).length->C' ((dO t).getD j []) ((aY t).getD j .nil)=C ((dO t).getD j []) ((aY t).getD j .nil)):kE C' t (aY t).length=kE C t (aY t).length:=by
 unfold kE;congr 1;apply List.map_congr_left;intro j hj;exact e j (List.mem_range.1 hj)
theorem SB {t:T} {L:Nat} (g:Tr.Good t L) (f:Fine t) (hf:Tr.Full t) (hj:j<(aY t).length):fG ((aY t).getD j .nil)=0:=uJ _ ((nu g f _ (yO hj)).2.2.1 hf)
def XQ (M:Mp) (w:World) (t:T) (e:Ending) (w':World):Prop:=∃ q M',e = .returned (tv q)/\IsT M' q t/\Fnw M M' w w'/\Inv M' w'/\Tab w'
end Sx
end
section
open Go.RowKit
namespace Ew
open Tr Ni Pk Ky No Rf Rl Tm
end Ew
end
section
open Go.RowKit
namespace Sx
open Tr Ni Pk Ky No Rf Rl Tm
open Sm (Tab)
def Ih (w:World) (l:aM) (e:Ending) (w':World):Prop:=∃ r:Hdl,e = .returned (.slice r.1 r.2.1 r.2.2)/\BsP (λb=>w.heap.size<=b) w' r l/\Below w.heap.size w w'
theorem uL (s:aL) (hs:s.size<=1000) (w:World) :
  Calls prog 71 #[.string s] w (Ih w (fJ s)):=by
 obtain ⟨m,hm⟩:=ay (2*s.size)
 have hmk:=run_make_row' (P:=prog) 40 5 (.int .u8 0) 1 underlying40 Ni.mW rfl .i64 .i64 m (by omega) (by omega);have e:((m:Nat):Int)=2*(s.size:Int):=by omega
 rw [e] at hmk;have HS:=hid (Spr.start w s);rw [hm] at HS;have HM:=hid hm;have hm2:m<=2*s.size:=by omega
 clear e hm;go_enter func71,ntmps71;go_wp2_with fail
 refine (Ni.dX _ _).mono ?_;rintro e w1 ⟨rfl,rfl⟩;go_wp2;clear hmk;go_loopw [14] (λi wr=>∃ k:Nat,k<=m/\i = .int .i64 k/\Spr w s k wr) (λi _=>m-(intOf i).toNat)
 case atStart=>exact ⟨0,Nat.zero_le _,rfl,HS.out⟩
 case round =>
  obtain ⟨k,hk,rfl,hS⟩:=hrel;by_cases hlt:k<m
  .have hc:=hS.2.1;have hz:=hS.1.lt;have hcell:wr.cell? ⟨w.heap.size+1,k,none⟩=some (.int .u8 0):=by
    rw [hS.1.cell (by rw [HM.out]; exact hlt)]; simp
   have hfr:=hS.1.frozen k;go_wp2_with fail
   refine (Ni.jc _ s k (by unfold maxLen; omega) (by omega) _ hc).mono ?_;rintro e w2 ⟨rfl,rfl⟩;go_wp2;go_roundw
   case rel=>exact ⟨k+1,by omega,by go_num,hS.next (by rw [HM.out]; exact hlt)⟩
   case measure=>simp [intOf]; omega
  .obtain rfl:k=m:=by omega
   have HG:Hid (bf wr (some ⟨w.heap.size+1,0,none⟩) k k (fJ s)):=hid (by
    refine bf.ofRow (fJ s) (by unfold maxLen; omega) (by have:=hS.1; rw [HM.out] at this; exact this) (by rw [fE,HM.out]) (λj hj=>?_);rw [if_pos hj,lq s j (by rw [HM.out]; exact hj)])
   have hB:=hS.2.2;go_wp2;go_ret;exact ⟨(some ⟨w.heap.size+1,0,none⟩,k,k),rfl,⟨HG.out,λad e _=>by obtain rfl:=(Option.some.inj e).symm; exact Nat.le_succ _⟩,hB⟩
theorem zy (k:aM) (hk:k.length=32) (w:World) :
  Calls prog 38 #[.agg (kc k)] w (Ih w (bJ k)):=by
 have h0:bf (w.alloc (.cells (kc k) 24)) (some ⟨w.heap.size,0,none⟩) k.length k.length k:=bf.new w k (by unfold maxLen; omega) _ _ rfl;rw [hk] at h0;have hcv:=kQ h0;obtain ⟨s,hs⟩:=ay (⟨k.toArray⟩:aL)
 have hsz:s.size=32:=by rw [<-hs]; show k.toArray.size=32; simp [hk]
 have HP:Hid (bJ k=Ni.fJ s):=hid (by unfold bJ; rw [hs]);have As:=hid (λwx=>uL s (by omega) wx);rw [hs] at hcv;obtain ⟨C,hC⟩:=ay (kc k)
 rw [hC] at hcv ⊢;clear h0 hs hC hsz hk;go_enter func38,ntmps38;go_wp2_with fail
 refine (As.out _).mono ?_;rintro e w1 ⟨r,rfl,hx,hb⟩;go_wp2;go_ret;exact ⟨r,rfl,by rw [HP.out]; exact hx.to λb _ hp=>Nat.le_trans (by simp) hp,((Below.refl w.heap.size w).alloc aG _).trans (hb.mono (by simp))⟩
theorem uo (a b:aK) (n m c d:Nat) (x y:aM) (w:World) (ha:bf w a n c x) (hb:bf w b m d y) :
  Calls prog 89 #[.slice a n c,.slice b m d] w λe w'=>e = .returned (.bool (decide (x=y)))/\w=w':=by
 have h1:=kQ ha;have h2:=kQ hb;have HE:Hid (((⟨x.toArray⟩:aL).toList==(⟨y.toArray⟩:aL).toList)=decide (x=y)):=hid (by
  rw [str_eq];by_cases e:x=y
  .subst e; simp
  .rw [decide_eq_false e,decide_eq_false (λg=>e (by
    have:=congrArg (λb:aL=>b.data.toList) g;simpa using this))])
 clear ha hb;generalize hX:(⟨x.toArray⟩:aL)=X at *
 generalize hY:(⟨y.toArray⟩:aL)=Y at *
 go_enter func89,ntmps89;go_wp2;go_ret;exact ⟨by rw [<-HE.out]; rfl,rfl⟩
theorem tT (a b:aK) (n m c d:Nat) (x y:aM) (hn:n<=m) (hm:m<=1000000) (w:World) (ha:bf w a n c x) (hb:bf w b m d y) :
  Calls prog 49 #[.slice b m d,.slice a n c] w λe w'=>e = .returned (.bool (decide (x<+:y)))/\w=w':=by
 have HL:=hid (uo b a n n d c (y.take n) x w (Nu hb n hn) ha);have HR:Hid (decide (y.take n=x)=decide (x<+:y)):=hid (by
  have:=ha.len;by_cases e:x<+:y
  .rw [aJ e,aJ];rw [<-this];exact (List.prefix_iff_eq_take.1 e).symm
  .rw [decide_eq_false e,decide_eq_false];intro g;exact e (by rw [<-g]; exact List.take_prefix _ _))
 have hmd:=hb.1;have hi:(n:Int)<=(m:Int):=by omega
 have hc:n<=d:=by omega
 clear ha hb;go_enter func49,ntmps49;go_wp2_with (first
  | (refine Rg.runW (by rfl) _ _ (pX (j:=n) iL jJ hc ⟨_,_,rfl,rfl,rfl⟩) ?_))
 refine HL.out.mono ?_;rintro e w1 ⟨rfl,rfl⟩;go_wp2;go_ret;exact ⟨by rw [<-HR.out]; rfl,rfl⟩
theorem QZ (a b:aK) (n m c d:Nat) (x y:aM) (hn:m<n) (w:World) (ha:bf w a n c x) (hb:bf w b m d y) :
  Calls prog 49 #[.slice b m d,.slice a n c] w λe w'=>e = .returned (.bool (decide (x<+:y)))/\w=w':=by
 have HR:Hid (decide (x<+:y)=false):=hid (decide_eq_false λh=>by
  have h1:=h.length_le;have h2:=ha.len;have h3:=hb.len;omega)
 have hi:¬ (n:Int)<=(m:Int):=by omega
 have hi2:decide ((n:Int)<=(m:Int))=false:=decide_eq_false hi;rw [HR.out];clear ha hb HR;go_enter func49,ntmps49;go_wp2;go_ret;exact ⟨rfl,rfl⟩
theorem TP (a b:aK) (n m c d:Nat) (x y:aM) (hm:m<=1000000) (w:World) (ha:bf w a n c x) (hb:bf w b m d y) :
  Calls prog 49 #[.slice b m d,.slice a n c] w λe w'=>e = .returned (.bool (decide (x<+:y)))/\w=w':=by
 by_cases h:n<=m
 .exact tT a b n m c d x y h hm w ha hb
 .exact QZ a b n m c d x y (by omega) w ha hb
theorem Tp (a b:aK) (n m c d:Nat) (x y:aM) (hm:m<=1000000) (w:World) (ha:bf w a n c x) (hb:bf w b m d y) :
  Calls prog 128 #[.slice b m d,.slice a n c] w λe w'=>e = .returned (if x<+:y then .tuple #[.slice (dL b d n) (m-n) (d-n),.bool true] else .tuple #[.slice b m d,.bool false])/\(x<+:y->n<=m)/\w=w':=by
 have HP:=hid (TP a b n m c d x y hm w ha hb);have hlen:x<+:y->n<=m:=λh=>by
  have h1:=h.length_le;have h2:=ha.len;have h3:=hb.len;omega
 have HL:=hid hlen;clear ha hb;by_cases h:x<+:y
 .have hnm:=hlen h;rw [if_pos h];rw [aJ h] at HP;clear hlen h;go_enter func128,ntmps128;go_wp2_with fail
  refine HP.out.mono ?_;rintro e w1 ⟨rfl,rfl⟩;go_wp2_with (first
   | (refine aA (kP iL jJ hnm ⟨_,_,rfl,rfl,rfl⟩) ?_))
  go_ret2
  exact ⟨rfl,HL.out,rfl⟩
 .rw [if_neg h];rw [decide_eq_false h] at HP;clear hlen h;go_enter func128,ntmps128;go_wp2_with fail
  refine HP.out.mono ?_;rintro e w1 ⟨rfl,rfl⟩;go_wp2;go_ret2
  exact ⟨rfl,HL.out,rfl⟩
theorem Qa {B:Nat} {w:World} {xs:List Pa} (h:Ew.nI B w v xs):∃ a c,v = .slice a xs.length c:=by
 obtain ⟨_,_,ho,_⟩:=h;rcases ho.2 with ⟨rfl,h0⟩ | ⟨g,cap,cur,rfl,_⟩
 .exact ⟨_,_,by rw [h0]⟩
 .exact ⟨_,_,rfl⟩
theorem MB (a b:aK) (n m c d:Nat) (ws:List Pa) (q:Pa) (w:World) (hW:Ew.sS w a n c ws) (hB:bf w b m d q) (hn:n<=1000) (hk:∀ x∈ws,x.length<=64) :
  Calls prog 83 #[.slice a n c,.slice b m d] w λe w'=>∃ v,e = .returned v/\Ew.nI w.heap.size w' v (onP q ws)/\Below w.heap.size w w':=by
 have HW:=hid hW;have HB:=hid hB;have HK:=hid hk;have HL:=hid hW.len;clear hW hB hk;go_enter func83,ntmps83;go_wp2;go_loopw [5,12] (λv0 i wr=>∃ (j:Nat) (v:Value),v=v0/\j<=n/\i = .int .i64 j/\Hid (Ew.nI w.heap.size wr v (onP q (ws.take j)))/\Hid (Below w.heap.size w wr)) (λ_ i _=>n-(intOf i).toNat)
 case atStart=>exact ⟨0,_,rfl,Nat.zero_le _,rfl,hid (Ew.nI.nil _ _),hid aH⟩
 case round =>
  obtain ⟨j,v,rfl,hj,rfl,HR,cH⟩:=hrel;by_cases hlt:j<n
  .have i1:(j:Int)<(n:Int):=by omega
   obtain ⟨k,off,⟨ha,hm,hc⟩,rfl,d8,hcell,hbs⟩:=HW.out.at' j hlt;have hjl:j<ws.length:=by rw [HL.out]; exact hlt
   have cw:=hid (Vq q ws hjl);have hxl:(ws.getD j []).length<=64:=HK.out _ (by rw [List.getD_eq_getElem?_getD,List.getElem?_eq_getElem hjl]; exact List.getElem_mem _);have hol:=Vf q (ws.take j);rw [List.length_take] at hol;have vA:Hid ((onP q (ws.take j)).length<=1000000):=hid (by omega);have HC:=hid ((Below.cell (p:=⟨k,off+j,none⟩) cH.out d8).trans hcell);have BY:=hid (Tp b ha m hm d hc q (ws.getD j []) (by have:=hbs.len; have h2:(ws.getD j []).length=hm:=this; omega) wr (HB.out.below cH.out) (hbs.below cH.out))
   have C0:Hid (∀ w2,Below wr.heap.size wr w2->BsP (λz=>v.ownBlock≠some z) w2 (ha,hm,hc) (ws.getD j [])):=hid (λw2 hb=>by
    have h1:=(BsP.old (h:=(ha,hm,hc)) hbs).kept (w':=w2) (Nat.le_trans cH.out.size hb.size) λz hz _=>(hb.block z (aI hz cH.out.size)).trans (cH.out.block z hz);exact h1.to λz _ hz e=>by have:=(HR.out.lt z e).1; omega)
   obtain ⟨x,hx⟩:=ay (ws.getD j [])
   rw [hx] at cw BY C0;have HLm:=hid (show m=q.length from HB.out.len.symm);clear hcell hbs hxl hx hjl d8 hol;by_cases hq:q<+:x
   .rw [if_pos hq] at cw BY;have HQ:=hid hq;clear hq;go_wp2_with (first
     | (refine aA (Ew.rZ HC.out ⟨_,rfl,rfl⟩) ?_))
    refine BY.out.mono ?_;rintro e w1 ⟨rfl,hle,rfl⟩;have hA:=al1 wr (.cells #[Ew.wv (dL ha hc m,hm-m,hc-m)] 40);have HA:=hid hA;have pD:Hid (BsP (λz=>v.ownBlock≠some z) (wr.alloc (.cells #[Ew.wv (dL ha hc m,hm-m,hc-m)] 40)) (dL ha hc m,hm-m,hc-m) (x.drop q.length)):=hid (by
     rw [<-HLm.out];exact Ew.UC (C0.out _ hA) m (hle HQ.out))
    have lw:=hid (HR.out.below hA);have eJ:Hid (w.heap.size<=(wr.alloc (.cells #[Ew.wv (dL ha hc m,hm-m,hc-m)] 40)).heap.size):=hid (Nat.le_trans cH.out.size hA.size);clear hA hle;go_wp2_with (first
     | (refine aA (Ew.IG (h:=(dL ha hc m,hm-m,hc-m)) wr.heap.size rfl ⟨_,rfl,rfl⟩) ?_)
     | (refine Ew.Bc lw.out (Rg.Own.new wr _ _) pD.out vA.out eJ.out rfl ⟨_,_,rfl,rfl,rfl⟩ ?_))
    intro v' w5 eN hg5 _;have dc:=hid eN;have aa:Hid (Below w.heap.size w w5):=hid ((cH.out.trans (HA.out.mono cH.out.size)).grown hg5 eJ.out (λg hg=>(lw.out.lt g hg).1));clear eN hg5;go_wp2;go_roundw
    case rel=>exact ⟨j+1,_,rfl,by omega,by go_num,by rw [cw.out]; exact dc,aa⟩
    case measure=>simp [intOf]; omega
   .rw [if_neg hq] at cw BY;clear hq;go_wp2_with (first
     | (refine aA (Ew.rZ HC.out ⟨_,rfl,rfl⟩) ?_))
    refine BY.out.mono ?_;rintro e w1 ⟨rfl,hle,rfl⟩;go_wp2;go_roundw
    case rel=>exact ⟨j+1,_,rfl,by omega,by go_num,by rw [cw.out,List.append_nil]; exact HR,cH⟩
    case measure=>simp [intOf]; omega
  .obtain rfl:j=n:=by omega
   have ae:Hid (Ew.nI w.heap.size wr v (onP q ws)):=hid (by
    have:=HR.out;rwa [<-HL.out,List.take_length] at this)
   go_wp2;go_ret;exact ⟨v,rfl,ae.out,cH.out⟩
end Sx
end
section
open Go.RowKit Go.ChangeShapes Go.WideShapes Go.Deep
namespace Ew
open Tr Ni Pk Ky Tm
section
variable {H:Type} {enc:TypeId × Value->H} {w:World} {fuel:Nat} {cs:List Value} {x:DataW H × List MemPlace}
def Zf (k:aM):List Value:=k.map λb=>Value.int .u8 b.toNat
def Gd (w:World) (a:aK) (n c:Nat) (l:List (aM)):Prop :=
 n<=c/\c<=maxLen/\l.length=n/\(a=none->c=0)/\(∀ x∈l,x.length=32)/\∀ j,j<n->∃ b off,a=some ⟨b,off,none⟩/\b<w.heap.size/\w.rangeAt b (off+j*32) (Zf (l.getD j []))
theorem Gd.len {w:World} {n:Nat} {l:List (aM)} (h:Gd w a n c l):l.length=n:=h.2.2.1
theorem Gd.keys {w:World} {n:Nat} {l:List (aM)} (h:Gd w a n c l):∀ x∈l,x.length=32:=h.2.2.2.2.1
theorem Gd.at' {w:World} {n:Nat} {l:List (aM)} (h:Gd w a n c l) (j:Nat) (hj:j<n):∃ b off,a=some ⟨b,off,none⟩/\b<w.heap.size/\w.rangeAt b (off+j*32) (Zf (l.getD j []))/\(l.getD j []).length=32:=by
 obtain ⟨b,off,e,hlt,hp⟩:=h.2.2.2.2.2 j hj;refine ⟨b,off,e,hlt,hp,h.keys _ ?_⟩;have hl:=h.len;rw [List.getD_eq_getElem?_getD,List.getElem?_eq_getElem (by omega)];exact List.getElem_mem _
end
end Ew
end
section
open Go.RowKit
namespace Sx
open Tr Ni Pk Ky No Rf Rl Tm
open Sm (Tab)
structure Kp (M0:Mp) (w0:World) (M:Mp) (w:World):Prop where
 size:w0.heap.size<=w.heap.size
 block:∀ k,k<w0.heap.size->M0.at_ k=none->w.heap[k]? = w0.heap[k]?
 mono:∀ k t,M0.at_ k=some t->M.at_ k=some t
 fresh:∀ k,k<w0.heap.size->M0.at_ k=none->M.at_ k=none
 foot:∀ k,k<w0.heap.size->M.ft k->M0.ft k
theorem Kp.refl (M:Mp) (w:World):Kp M w M w:=⟨aG,λ_ _ _=>rfl,λ_ _ h=>h,λ_ _ h=>h,λ_ _ h=>h⟩
theorem Yo (M0:Mp) (w0:World):JOk w0.heap.size (λ_=>False) (Kp M0 w0) :=
 ⟨λ_ _ _ _ hj _ hs hk hm hf hx=>⟨Nat.le_trans hj.size hs,λk hl h0=>(hk k hl (hj.fresh k hl h0)).trans (hj.block k hl h0),λk t h=>hm k t (hj.mono k t h),λk hl h0=>hx k hl (hj.fresh k hl h0),λk hl h=>hj.foot k hl (hf k hl h)⟩,λ_ _ _ _ _ h=>h.elim,λ_ h=>h.elim,λ_ _ hj=>hj.size⟩
section
variable {M0 M:Mp} {w0 w:World}
theorem Kp.cell (h:Kp M0 w0 M w) {b o:Nat} (hb:b<w0.heap.size) (hm:M0.at_ b=none):w.cell? ⟨b,o,none⟩=w0.cell? ⟨b,o,none⟩:=World.cell?_of_block (w:=w0) (h.block b hb hm)
theorem Kp.bs (h:Kp M0 w0 M w) (hi:Inv M0 w0) {n:Nat} {l:aM} (g:bf w0 a n c l):bf w a n c l:=by
 refine ⟨g.1,g.2.1,g.2.2.1,g.2.2.2.1,λj hj=>?_⟩;obtain ⟨b,off,e,hlt,hc⟩:=g.2.2.2.2 j hj;exact ⟨b,off,e,aI hlt h.size,by rw [h.cell hlt (hi.cZ hc)]; exact hc⟩
theorem Kp.ws (h:Kp M0 w0 M w) (hi:Inv M0 w0) {n:Nat} {l:List Pa} (g:Ew.sS w0 a n c l) (hf:∀ ad,a=some ad->¬ M0.ft ad.block):Ew.sS w a n c l :=
 ⟨g.1,g.2.1,g.2.2.1,g.2.2.2.1,λj hj=>by
  obtain ⟨b,off,x,e,hlt,hp,hb⟩:=g.2.2.2.2 j hj;exact ⟨b,off,x,e,aI hlt h.size,by rw [h.cell hlt (nR hi (hf _ e))]; exact hp,h.bs hi hb⟩⟩
theorem Kp.bx (h:Kp M0 w0 M w) (hi:Inv M0 w0) {g:Nat} {cs:aN} {t:TypeId} (b:Bx M0 w0 g cs t):Bx M w g cs t:=⟨⟨aI b.o.1 h.size,(h.block g b.o.1 (nR hi b.n)).trans b.o.2⟩,λe=>b.n (h.foot g b.o.1 e),b.h⟩
end
def RK (ws:List Pa) (st:Pa) (s:T):EA:=if onP st ws=[] then none else some (fH (onP st ws) s,fG (fH (onP st ws) s))
theorem LK (ws:List Pa):qB (RK ws)=qV ws:=by
 funext st s;unfold qB RK qV;by_cases h:(ref s).size=32
 .rw [if_pos h,if_pos h];by_cases hd:onP st ws=[]
  .rw [if_pos hd,if_pos hd]; rfl
  .rw [if_neg hd,if_neg hd]; rfl
 .rw [if_neg h,if_neg h]
theorem Lg {ws:List Pa} {st:Pa} {s:T} (hs:fG s=0):pI (RK ws) st s=fG (qV ws st s):=by
 unfold pI RK qV;by_cases h:(ref s).size=32
 .rw [if_pos h,if_pos h];by_cases hd:onP st ws=[]
  .rw [if_pos hd,if_pos hd]; rfl
  .rw [if_neg hd,if_neg hd]; rfl
 .rw [if_neg h,if_neg h]; exact hs.symm
theorem Oy {t:T} {L:Nat} (g:Tr.Good t L) (hL:L<=64) (f:Fine t) (hf:Tr.Full t) (ws:List Pa):OkF (qB (RK ws)) (pI (RK ws)) t/\vZ (qB (RK ws)) t=fH ws t/\kE (pI (RK ws)) t (aY t).length=fG (fH ws t):=by
 have e:∀ j,j<(aY t).length->pI (RK ws) ((dO t).getD j []) ((aY t).getD j .nil)=fG (qV ws ((dO t).getD j []) ((aY t).getD j .nil)):=λj hj=>Lg (SB g f hf hj);have h:=YZ g hL f (Om ws);rw [LK];refine ⟨h.congr e,Hl ws t,?_⟩;rw [Kg (C:=λst s=>fG (qV ws st s)) e,QC _ _ (DK hf),Hl]
theorem ZJ (a:aK) (n c:Nat):∀ (j:Nat) (x:Int),(#[Value.slice a n c]:aN)[j]? ≠ some (Value.int .u8 x):=λj x h=>by
 match j,h with
 | 0,h=>simp at h
 | j+1,h=>simp at h
theorem Bg {w:World} {b:Nat} (hc:w.cell? ⟨b,0,none⟩=some v) (ho:∃ x,o.op = .load 86 x/\ev x = .pointer (some ⟨b,0,none⟩)) :
  (execOp ev o).run prog w = .ok (.value v) w:=by
 obtain ⟨x,ho,hx⟩:=ho;unfold execOp;simp [ho,hx,go_sem,hc]
def Oa (L:Nat):Prop:=∀ (x:T),Tr.Good x L->Fine x->Tr.Full x->∀ (ws:List Pa),(∀ y∈ws,y.length<=64)->∀ (M:Mp) (w:World) (p a:aK) (n c:Nat),n<=1000->Ew.sS w a n c ws->(∀ ad,a=some ad->¬ M.ft ad.block)->Inv M w->Tab w->IsT M p x->
 Calls prog 44 #[tv p,.slice a n c] w (qF (λ_=>False) (λ_ _=>True) M w (fH ws x) (fG (fH ws x)))
theorem PD {q:Pa} {ws:List Pa} (h:∀ y∈ws,y.length<=64):∀ y∈onP q ws,y.length<=64:=λy hy=>by
 obtain ⟨z,hz,rfl⟩:=List.mem_map.1 hy;have:=h z (List.mem_filter.1 hz).1;rw [List.length_drop];omega
theorem QU {M0:Mp} {w0:World} (hi0:Inv M0 w0) {pb bs:Nat} (hbs:w0.heap.size<=bs) {a:aK} {n c:Nat} (hpb:Bx M0 w0 pb #[.slice a n c] 86) {ws:List Pa} (hws:Ew.sS w0 a n c ws) (hwf:∀ ad,a=some ad->¬ M0.ft ad.block) (hn:n<=1000) (hsh:∀ y∈ws,y.length<=64) (st:Pa) (s:T) (L:Nat) (SJ:Oa L) (g:Tr.Good s L) (f:Fine s) (hf:Tr.Full s) :
  FE (λ_=>False) (JB (Kp M0 w0) bs (.func (.func 82) #[] #[.pointer (some ⟨pb,0,none⟩)]) 149) 82 #[.pointer (some ⟨pb,0,none⟩)] st s (RK ws st s):=by
 have hJ2:=(Yo M0 w0).box hbs (.func (.func 82) #[] #[.pointer (some ⟨pb,0,none⟩)]) 149;obtain ⟨vS,SM⟩:=ay (Value.func (.func 82) #[] #[.pointer (some ⟨pb,0,none⟩)])
 rw [SM] at hJ2 ⊢;clear SM;intro M w b m d p hj hi hT hB ht;show Calls prog 82 #[.slice b m d,.agg #[.pointer p],.pointer (some ⟨pb,0,none⟩)] w _;obtain ⟨w1,hw1⟩:=au ((w.alloc (.cells #[.pointer p] 35)).alloc (.cells (chA none 0) 88))
 have hb1:Below w.heap.size w w1:=by rw [hw1]; exact al2 _ _ _
 have ab:Rg.Own w1 w.heap.size #[.pointer p] 35:=by rw [hw1]; exact (Rg.Own.new _ _ _).below (al1 _ _)
 have hX1:Rg.Own w1 (w.heap.size+1) (chA none 0) 88:=by
  have:=Rg.Own.new (w.alloc (.cells #[.pointer p] 35)) (chA none 0) 88;rw [hw1];simpa using this
 have hS1:=(Sg.start hJ2 hi hT hj).below hJ2 hb1;have C1:=hid (MB a b n m c d ws st w1 (hS1.j.1.ws hi0 hws hwf) (hB.below hb1) hn hsh);have HC:Hid (w1.cell? ⟨pb,0,none⟩=some (.slice a n c)):=hid (Tm.aV (j:=0) (hS1.j.1.bx hi0 hpb).o rfl);have bj:=hid hS1;have cM:Hid (Bx M w1 (w.heap.size+1) (chA none 0) 88):=hid ⟨hX1,hi.free (Nat.le_succ _),zH _ _⟩;have bd:Hid (Bx M w1 w.heap.size #[.pointer p] 35):=hid ⟨ab,hi.free aG,eH _⟩;have HW1:=hid hw1;have HJ:=hid hJ2;have HT:=hid ht
 have cG:Hid (bs+1<=w.heap.size/\0<w.heap.size):=hid ⟨hJ2.sz M w hj,hT.pos⟩;have E9:Hid ((onP st ws).length<=1000/\∀ y∈onP st ws,y.length<=64):=hid ⟨Nat.le_trans (Vf st ws) (by rw [hws.len]; exact hn),PD hsh⟩;have qr:=hid (SJ s g f hf (onP st ws) E9.out.2 M);obtain ⟨gT,eo⟩:=ay w.heap.size
 obtain ⟨gX,df⟩:=ay (w.heap.size+1)
 have eA:Hid (gX=w.heap.size+1):=hid df.symm;have lk:Hid (w.heap.size=gT):=hid eo;rw [df] at cM;rw [eo] at bd;clear hb1 ab hX1 hS1 hi hT hj ht hB hJ2 SJ hw1 eo df hws hwf hn hsh hpb hbs g f hf hi0;by_cases h1:onP st ws=[]
 .have hr:RK ws st s=none:=if_pos h1;rw [hr];rw [h1] at C1;clear h1 hr qr E9;go_enter func82,ntmps82;go_wp2_with (first
   | (refine aA (eP _ _ _ gX (by rw [eA.out]; simp) rfl) ?_; rw [<-HW1.out,lk.out])
   | (refine aA (Bg HC.out ⟨_,rfl,rfl⟩) ?_))
  refine C1.out.mono ?_;rintro e w2 ⟨v,rfl,hR,hb2⟩;obtain ⟨a2,c2,rfl⟩:=Qa hR;have HS2:=hid (bj.out.below HJ.out hb2);have cF:=hid (cM.out.below hb2);have ae:Hid (∀ w9,Rg.Upd w2 gX w9->RV (λ_=>False) (JB (Kp M0 w0) bs vS 149) M w none (.returned (.tuple #[.agg (chA none 0),.bool false])) w9):=hid (λw9 hu=>by
   have h:=HS2.out.upd HJ.out cG.out.1 cG.out.2 hu (by rw [eA.out]; exact Nat.le_succ _) cF.out.n;exact ⟨rfl,h.f,h.i,h.t,h.j⟩)
  clear hR hb2 C1 cM bd bj HC;go_wp2_with (first
   | (refine aA (bL Rq ⟨_,rfl,rfl⟩) ?_)
   | (refine dU cF.out.o rfl none 0 rfl _ _ rfl rfl rfl rfl ?_; intro w9 ax aE; have ce:Hid (Rg.Own w9 gX (chA none 0) 88):=hid ax; have fS:=hid (ae.out w9 aE); clear ax aE))
  exact bodyPost_ret (Oh (u:=5) (v:=6) rfl _ rfl ce.out) rfl fS.out
 .have hr:RK ws st s=some (fH (onP st ws) s,fG (fH (onP st ws) s)):=if_neg h1;rw [hr];have hpos:(onP st ws).length≠0:=λe=>h1 (List.length_eq_zero_iff.1 e);obtain ⟨t',ht'⟩:=ay (fH (onP st ws) s)
  rw [ht'] at qr ⊢;obtain ⟨k,hk⟩:=ay (fG t')
  rw [hk] at qr ⊢;obtain ⟨cc,hcc⟩:=ay (kF k)
  have tM:=hid hcc;clear hr h1 ht' hk hcc;go_enter func82,ntmps82;go_wp2_with (first
   | (refine aA (eP _ _ _ gX (by rw [eA.out]; simp) rfl) ?_; rw [<-HW1.out,lk.out])
   | (refine aA (Bg HC.out ⟨_,rfl,rfl⟩) ?_))
  refine C1.out.mono ?_;rintro e w2 ⟨v,rfl,hR,hb2⟩;have hlt:=hR.lt;obtain ⟨a2,c2,rfl,hW2⟩:=hR.done;have HS2:=hid (bj.out.below HJ.out hb2);have cF:=hid (cM.out.below hb2);have c8:=hid (bd.out.below hb2);have tR:=hid (qr.out w2 p a2 (onP st ws).length c2 E9.out.1 hW2 (λad e=>bj.out.i.free (by subst e; exact (hlt ad.block rfl).1)) HS2.out.i HS2.out.t HT.out);obtain ⟨l,hl⟩:=ay ((onP st ws).length)
  rw [hl] at hpos tR ⊢;have b0:((l:Int)==0)=false:=by rw [beq_eq_false_iff_ne]; omega
  have b1:decide ((l:Int)=0)=false:=decide_eq_false (by omega);have b2:(l==0)=false:=by rw [beq_eq_false_iff_ne]; exact hpos
  have b3:decide (l=0)=false:=decide_eq_false hpos;clear hR hb2 hlt hW2 C1 cM bd bj HC qr E9 hl hpos;go_wp2_with (first
   | (refine aA (aU (Tm.aV (j:=0) c8.out.o rfl) ⟨_,rfl,rfl⟩) ?_))
  refine tR.out.mono ?_;rintro e w3 ⟨q,M3,rfl,ht3,f3,i3,t3,_⟩;rw [tM.out];have cn:=hid (HS2.out.fn HJ.out f3 i3 t3);have cN:=hid (Bx.fn cF.out HS2.out.i f3);have ae:Hid (∀ w9,Rg.Upd w3 gX w9->RV (λ_=>False) (JB (Kp M0 w0) bs vS 149) M w (some (t',k)) (.returned (.tuple #[.agg (chA q cc),.bool true])) w9):=hid (λw9 hu=>by
   have h:=cn.out.upd HJ.out cG.out.1 cG.out.2 hu (by rw [eA.out]; exact Nat.le_succ _) cN.out.n;exact ⟨q,M3,by rw [<-tM.out],ht3,h.f,h.i,h.t,h.j⟩)
  clear ht3 f3 i3 t3 tR cF c8 HS2 b0 b1 b2 b3;go_wp2_with (first
   | (refine dU cN.out.o rfl q cc rfl _ _ rfl rfl rfl rfl ?_; intro w9 ax aE; have ce:Hid (Rg.Own w9 gX (chA q cc) 88):=hid ax; have fS:=hid (ae.out w9 aE); clear ax aE))
  exact bodyPost_ret (Oh (u:=5) (v:=6) rfl _ rfl ce.out) rfl fS.out
theorem WE {L:Nat} (hL:L<=64) (ih:∀ m,m<L->Oa m):Oa L:=by
 intro x g f hf ws hsh M w p a n c hn hws hwf hi hT ht;obtain ⟨c1,c2,c3⟩:=Oy g hL f hf ws;obtain ⟨w1,hw1⟩:=au ((w.alloc (.cells #[.pointer p] 35)).alloc (.cells #[.slice a n c] 86))
 obtain ⟨w2,hw2⟩:=au (w1.alloc (.cells (chA none 0) 88))
 have hb1:Below w.heap.size w w1:=by rw [hw1]; exact al2 _ _ _
 have hs1:w1.heap.size=w.heap.size+2:=by rw [hw1]; simp
 have bu:Below w1.heap.size w1 w2:=by rw [hw2]; exact al1 _ _
 have hb2:=bst hb1 bu;have hO:Rg.Own w2 w.heap.size #[.pointer p] 35:=by
  refine Rg.Own.below ?_ bu;rw [hw1];exact (Rg.Own.new _ _ _).below (al1 _ _)
 have hP:Rg.Own w2 (w.heap.size+1) #[.slice a n c] 86:=by
  refine Rg.Own.below ?_ bu;have:=Rg.Own.new (w.alloc (.cells #[.pointer p] 35)) #[.slice a n c] 86;rw [hw1];simpa using this
 have hX:Rg.Own w2 (w.heap.size+2) (chA none 0) 88:=by
  have:=Rg.Own.new w1 (chA none 0) 88;rw [hs1] at this;rw [hw2];exact this
 have hfr:∀ k,w.heap.size<=k->¬ M.ft k:=λk hk=>hi.free hk;have jb:=hid (λ(w3:World) (bt:Nat) (hb3:Below w2.heap.size w2 w3) (hx:Bx M w3 bt #[.pointer p] 35)=>by
  have tS:=bst hb2 hb3;have hi3:=hi.below tS;have h:=Rp (Yo M w3) 82 #[.pointer (some ⟨w.heap.size+1,0,none⟩)] (enters_of func82 (by kernel_rfl) rfl) M p x L g hL f (RK ws) c1
   (λj bs hjl hbs _=>by
    obtain ⟨_,f',hf',L',hl,g'⟩:=nu g f _ (yO hjl);exact QU hi3 hbs ⟨hP.below hb3,hfr _ (Nat.le_succ _),ZJ _ _ _⟩ (hws.below tS) hwf hn hsh _ _ L' (ih L' hl) g' f' (hf' hf)) bt w3 hi3 ht (hT.below tS hT.pos) (Kp.refl M w3) hx
  rwa [c2,c3] at h)
 have HX:Hid (Bx M w2 (w.heap.size+2) (chA none 0) 88):=hid ⟨hX,hfr _ (by omega),zH _ _⟩;have HO:=hid hO;have HB2:=hid hb2;have HI:=hid hi;have HW1:=hid hw1;have HW2:=hid hw2;have HZ:Hid (0<w.heap.size):=hid hT.pos;obtain ⟨t',ht'⟩:=ay (fH ws x)
 rw [ht'] at jb ⊢;obtain ⟨k,hk⟩:=ay (fG t')
 rw [hk] at jb ⊢;obtain ⟨cc,hcc⟩:=ay (kF k)
 have tM:=hid hcc;obtain ⟨gT,eo⟩:=ay w.heap.size
 obtain ⟨gP,Lk⟩:=ay (w.heap.size+1)
 obtain ⟨gX,df⟩:=ay (w.heap.size+2)
 have HG:Hid (w.heap.size=gT/\w.heap.size+1=gP/\gX=w.heap.size+2/\w1.heap.size=gX):=hid ⟨eo,Lk,df.symm,by rw [hs1]; exact df⟩;rw [df] at HX;rw [eo] at HO;rw [Lk] at jb;clear c1 c2 c3 hb1 hs1 bu hb2 hO hP hX hfr hi hT ht hws hwf hw1 hw2 ht' hk hcc eo Lk df g f hf hsh ih hn;have da:∀ (fn:Fn) (first cap:aN) (w:World),(Instr.makeFunc fn first cap).run prog w = .ok (.func fn first cap) w:=λ_ _ _ _=>rfl;have hgo:Calls prog 44 #[.agg #[.pointer p],.slice a n c] w (qF (λ_=>False) (λ_ _=>True) M w t' k):=by
  go_enter func44,ntmps44;go_wp2_with (first
   | (refine aA (eP _ _ _ gX (by first | exact HG.out.2.2.2.symm | (rw [<-HG.out.2.2.2,HW1.out]) | simp [HG.out.2.2.1]) rfl) ?_; rw [<-HW1.out,<-HW2.out,HG.out.1,show gT+1=gP by rw [<-HG.out.1]; exact HG.out.2.1])
   | (refine aA (aU (Tm.aV (j:=0) HO.out rfl) ⟨_,rfl,rfl⟩) ?_))
  refine (Gg p w2).mono ?_;rintro e w3 ⟨rfl,hO3,hb3⟩;have eQ:=hid (jb.out w3 w2.heap.size hb3 ⟨hO3,HI.out.free HB2.out.size,eH _⟩);have cN:=hid (HX.out.below hb3);have HB3:=hid (bst HB2.out hb3);clear hO3 hb3 jb HX HO;go_wp2_with fail
  refine eQ.out.mono ?_;rintro e w4 ⟨q,M4,rfl,np,f4,i4,t4,j4⟩;rw [tM.out];have hF:Fnw M M4 w w4:=(Fnw.of (Fr.below M HB3.out)).trans f4 λ_ h=>h.elim;have pj:=Bx.fn cN.out (HI.out.below HB3.out) f4;have di:=hid pj;have ae:Hid (∀ w9,Rg.Upd w4 gX w9->qF (λ_=>False) (λ_ _=>True) M w t' k (.returned (.agg (chA q cc))) w9):=hid (λw9 hu=>⟨q,M4,by rw [<-tM.out],np,Fk.upd hF hu (by have:=HG.out; omega),i4.upd hu pj.n,lQ t4 hu (by have:=HG.out; have:=HZ.out; omega),trivial⟩);clear np f4 i4 t4 j4 hF pj eQ cN;go_wp2_with (first
   | (refine dU di.out.o rfl q cc rfl _ _ rfl rfl rfl rfl ?_; intro w9 ax aE; have ce:Hid (Rg.Own w9 gX (chA q cc) 88):=hid ax; have fS:=hid (ae.out w9 aE); clear ax aE))
  exact bodyPost_ret (um rfl _ rfl ce.out) rfl fS.out
 exact hgo
theorem OG (L:Nat):L<=64->Oa L:=by
 induction L using Nat.strongRecOn with
 | ind L ih=>exact λhL=>WE hL λm hm=>ih m hm (by omega)
theorem UZ (M:Mp) (p:aK) (t:T) (k:aM) (hk:k.length=32) (w:World) (hi:Inv M w) (ht:IsT M p t) (hg:Tr.Good t 64) :
  Calls prog 24 #[tv p,.agg (kc k)] w λe w'=>e = .returned (.bool (Tr.get t (path k)).isSome)/\Below w.heap.size w w':=by
 obtain ⟨w1,hw1⟩:=au ((w.alloc (.cells #[.pointer p] 35)).alloc (.cells (kc k) 24))
 have hb1:Below w.heap.size w w1:=by rw [hw1]; exact al2 _ _ _
 have ab:Rg.Own w1 w.heap.size #[.pointer p] 35:=by rw [hw1]; exact (Rg.Own.new _ _ _).below (al1 _ _)
 have hK1:Rg.Own w1 (w.heap.size+1) (kc k) 24:=by
  have:=Rg.Own.new (w.alloc (.cells #[.pointer p] 35)) (kc k) 24;rw [hw1];simpa using this
 have Eg:=hid (vY M p t k hk w1 (hi.below hb1) ht hg);have bd:=hid ab;have oB:=hid hK1.2;have HB1:=hid hb1;have HW1:=hid hw1;have cl:=hid hk;clear hb1 ab hK1 hw1 hi ht hg hk;have hgo:Calls prog 24 #[.agg #[.pointer p],.agg (kc k)] w λe w'=>e = .returned (.bool (Tr.get t (path k)).isSome)/\Below w.heap.size w w':=by
  obtain ⟨v,hv⟩:=ay (Tr.get t (path k))
  rw [hv] at Eg ⊢;obtain ⟨C,hC⟩:=ay (kc k)
  have Ek:=hid hC;rw [hC] at Eg HW1 ⊢;clear hv hC;go_enter func24,ntmps24;go_wp2_with (first
   | (rw [<-HW1.out]; refine aA (aU (Tm.aV (j:=0) bd.out rfl) ⟨_,rfl,rfl⟩) ?_)
   | (refine aA (aU (Tm.aV (j:=0) bd.out rfl) ⟨_,rfl,rfl⟩) ?_)
   | (refine Rg.run rfl (.agg C) _ (by rw [<-Ek.out]; exact bX cl.out oB.out ⟨_,rfl,rfl⟩) ?_))
  refine Eg.out.mono ?_;rintro e w2 ⟨rfl,hb2⟩;have HB2:=hid (bst HB1.out hb2);clear hb2 Eg;rcases v with _ | _ | v;all_goals
   dsimp only [Ov];go_wp2;go_ret;exact ⟨rfl,HB2.out⟩
 exact hgo
theorem Uy (M:Mp) (p:aK) (t:T) (g:Tr.Good t 64) (f:Fine t) (hf:Tr.Full t) (a:aK) (n c:Nat) (l:List (aM)) (hn:n<=1000) (w:World) (hK:Ew.Gd w a n c l) (hi:Inv M w) (ht:IsT M p t) (hT:Tab w) :
  Calls prog 23 #[tv p,.slice a n c] w (XQ M w (fH (l.map bJ) t)):=by
 obtain ⟨w1,hw1⟩:=au ((w.alloc (.cells #[.pointer p] 35)).alloc (.cells #[.pointer none] 35))
 have hb1:Below w.heap.size w w1:=by rw [hw1]; exact al2 _ _ _
 have ab:Rg.Own w1 w.heap.size #[.pointer p] 35:=by rw [hw1]; exact (Rg.Own.new _ _ _).below (al1 _ _)
 have hX1:Rg.Own w1 (w.heap.size+1) #[.pointer none] 35:=by
  have:=Rg.Own.new (w.alloc (.cells #[.pointer p] 35)) #[.pointer none] 35;rw [hw1];simpa using this
 have ju:=hid hK;have rv:=hid hK.len;have bd:=hid ab;have cM:=hid hX1;have HB1:=hid hb1;have HW1:=hid hw1;have HI:=hid hi;have HT:=hid hT;have HTr:=hid ht;have de:Hid (∀ y∈l.map bJ,y.length<=64):=hid (λy hy=>by
  obtain ⟨x,hx,rfl⟩:=List.mem_map.1 hy;rw [kJ x (hK.keys x hx)];exact aG)
 have qr:=hid (λa c wx hw=>OG 64 aG t g f hf (l.map bJ) de.out M wx p a l.length c (by rw [hK.len]; exact hn) hw);obtain ⟨gX,df⟩:=ay (w.heap.size+1)
 have eA:Hid (gX=w.heap.size+1):=hid df.symm;rw [df] at cM;clear hb1 ab hX1 hw1 hi hT ht hK g f hf df;obtain ⟨t',ht'⟩:=ay (fH (l.map bJ) t)
 rw [ht'] at qr ⊢;clear ht';have hgo:Calls prog 23 #[.agg #[.pointer p],.slice a n c] w (XQ M w t'):=by
  go_enter func23,ntmps23;go_wp2_with (first
   | (refine aA (aX _ _ _ gX (by rw [eA.out]; simp) rfl) ?_; rw [<-HW1.out]))
  go_loopw [5,10] (λv0 i wr=>∃ (j:Nat) (v:Value),v=v0/\j<=n/\i = .int .i64 j/\Hid (Ew.nI w1.heap.size wr v ((l.map bJ).take j))/\Hid (Below w1.heap.size w1 wr)) (λ_ i _=>n-(intOf i).toNat)
  case atStart=>exact ⟨0,_,rfl,Nat.zero_le _,rfl,hid (Ew.nI.nil _ _),hid aH⟩
  case round =>
   obtain ⟨j,v,rfl,hj,rfl,HR,cH⟩:=hrel;by_cases hlt:j<n
   .have i1:(j:Int)<(n:Int):=by omega
    obtain ⟨b,off,rfl,hblt,hrg,hkl⟩:=ju.out.at' j hlt;have hjl:j<l.length:=by rw [rv.out]; exact hlt
    have fw:Hid ((l.map bJ).take (j+1)=(l.map bJ).take j++[bJ (l.getD j [])]):=hid (by
     rw [List.take_succ_eq_append_getElem (by rw [List.length_map]; exact hjl)];simp [List.getD,hjl])
    have vA:Hid (((l.map bJ).take j).length<=1000000):=hid (by rw [List.length_take]; omega);have hbr:=bst HB1.out cH.out;have SO:Hid (wr.rangeAt b (off+j*32) ((l.getD j []).map λb=>Value.int .u8 b.toNat)):=hid (λi v hv=>aW hbr (hrg i v hv));obtain ⟨k,hk⟩:=ay (l.getD j [])
    rw [hk] at fw hkl SO;have cl:=hid hkl;have DG:Rg.Own (wr.alloc (.cells (kc zk) 24)) wr.heap.size (kc zk) 24:=Rg.Own.new _ _ _;have uA:=hid DG;have HHk:=hid (iq k);clear hblt hrg hkl hjl hbr hk DG;go_wp2_with (first
     | (refine aA (iK cl.out SO.out ⟨_,rfl,rfl⟩) ?_)
     | (refine aA (Bz _ _ _ wr.heap.size rfl rfl) ?_)
     | (refine BX uA.out rfl k cl.out rfl _ _ rfl rfl rfl rfl ?_; intro w3 hO3 hu3; have ag:=hid hO3.2; have HB3:Hid (Below wr.heap.size wr w3):=hid (hu3.below (al1 _ _) aG); clear hO3 hu3)
     | (refine aA (bX cl.out ag.out ⟨_,rfl,rfl⟩) ?_))
    refine (zy k cl.out w3).mono ?_;rintro e w4 ⟨⟨ra,rm,rc⟩,rfl,hr4,hb4⟩;have hA:=al1 w4 (.cells #[Ew.wv (ra,rm,rc)] 40);have fL:Below wr.heap.size wr w4:=bst HB3.out hb4;have lw:=hid ((HR.out.below fL).below hA);have pD:Hid (BsP (λz=>v.ownBlock≠some z) (w4.alloc (.cells #[Ew.wv (ra,rm,rc)] 40)) (ra,rm,rc) (bJ k)):=hid (by
     have h1:=hr4.kept (w':=w4.alloc (.cells #[Ew.wv (ra,rm,rc)] 40)) hA.size λz _ hz=>hA.block z hz;exact h1.to λz _ hz e=>by
      have h2:=(HR.out.lt z e).2;have h3:=HB3.out.size;omega)
    have eJ:Hid (w1.heap.size<=(w4.alloc (.cells #[Ew.wv (ra,rm,rc)] 40)).heap.size):=hid (Nat.le_trans (Nat.le_trans cH.out.size fL.size) hA.size);have HBA:Hid (Below w1.heap.size w1 (w4.alloc (.cells #[Ew.wv (ra,rm,rc)] 40))):=hid (bst (bst cH.out fL) hA);clear hA fL hr4 hb4 HB3 ag;go_wp2_with (first
     | (refine aA (Ew.IG (h:=(ra,rm,rc)) w4.heap.size rfl ⟨_,rfl,rfl⟩) ?_)
     | (refine Ew.Bc lw.out (Rg.Own.new w4 _ _) pD.out vA.out eJ.out rfl ⟨_,_,rfl,rfl,rfl⟩ ?_))
    intro v' w5 eN hg5 _;have dc:=hid eN;have aa:Hid (Below w1.heap.size w1 w5):=hid (HBA.out.grown hg5 eJ.out (λg hg=>(lw.out.lt g hg).1));clear eN hg5;go_wp2;go_roundw
    case rel=>exact ⟨j+1,_,rfl,by omega,by go_num,by rw [fw.out]; exact dc,aa⟩
    case measure=>simp [intOf]; omega
   .obtain rfl:j=n:=by omega
    have hR:=HR.out;rw [List.take_of_length_le (by rw [List.length_map,rv.out]; exact aG)] at hR;have hlo:=hR.lt;obtain ⟨a2,c2,rfl,hW⟩:=hR.done;have hbr:=bst HB1.out cH.out;rw [List.length_map] at hW hlo;have SR:=hid (qr.out a2 c2 wr hW (λad e=>HI.out.free (by subst e; exact Nat.le_trans HB1.out.size (hlo ad.block rfl).1)) (HI.out.below hbr) (HT.out.below hbr HT.out.pos) HTr.out);have ST:=hid (cM.out.below cH.out);have HOr:=hid (bd.out.below cH.out);have C3:=hid hbr;rw [List.length_map];clear hR hlo hW hbr HR qr cM bd;go_wp2_with (first
     | (refine aA (aU (Tm.aV (j:=0) HOr.out rfl) ⟨_,rfl,rfl⟩) ?_))
    refine SR.out.mono ?_;rintro e w5 ⟨q,M5,rfl,BE,f5,i5,t5,_⟩;have kw:Bx M5 w5 gX #[.pointer none] 35:=Bx.fn ⟨ST.out,HI.out.free (by rw [eA.out]; exact Nat.le_succ _),eH _⟩ (HI.out.below C3.out) f5;have fy:=hid kw;obtain ⟨cc,hcc⟩:=ay (kF (fG t'))
    rw [hcc];have ae:Hid (∀ w9,Rg.Upd w5 gX w9->XQ M w t' (.returned (tv q)) w9):=hid (λw9 hu=>⟨q,M5,rfl,BE,Fk.upd ((Fnw.of (Fr.below M C3.out)).trans f5 λ_ h=>h.elim) hu (by rw [eA.out]; exact Nat.le_succ _),i5.upd hu kw.n,lQ t5 hu (by have:=eA.out; have:=HT.out.pos; omega)⟩);clear BE f5 i5 t5 kw hcc SR ST HOr;go_wp2_with (first
     | (refine aA (Jd ⟨_,rfl,rfl⟩) ?_)
     | (refine aZ fy.out.o (by simp) q rfl _ _ rfl rfl rfl ?_; intro w9 ax aE; have ce:Hid (Rg.Own w9 gX #[.pointer q] 35):=hid ax; have fS:=hid (ae.out w9 aE); clear ax aE))
    exact bodyPost_ret (eF (q:=4) rfl _ rfl ce.out) rfl fS.out
 exact hgo
end Sx
end
section
open Go.RowKit
namespace Tr
theorem Fg:∀ {t u:T},Cut t u->∀ w:Pa,get u w≠none->bG u w=bG t w
 | .nil,_,h,_,_=>by rw [show _=T.nil from h]
 | .leaf _ _,_,h,_,_=>by rw [show _=T.leaf _ _ from h]
 | .stub _,_,h,_,_=>by rw [show _=T.stub _ from h]
 | .ext q s,_,h,w,hg=>by
  have hn:=h.node;obtain ⟨s',rfl,h⟩:=h;show bg (.ext q s')::(if q<+:w then bG s' (w.drop q.length) else [])=bg (.ext q s)::(if q<+:w then bG s (w.drop q.length) else [])
  rw [hn];by_cases hq:q<+:w
  .rw [if_pos hq,if_pos hq];rw [show get (.ext q s') w=get s' (w.drop q.length) by simp [get,hq]] at hg;rcases h with ⟨rfl,_⟩ | h
   .exact absurd rfl hg
   .rw [Fg h _ hg]
  .rw [if_neg hq,if_neg hq]
 | .br ks,_,h,[],_=>by
  have hn:=h.node;obtain ⟨ks',rfl,_⟩:=h;show [bg (.br ks')]=[bg (.br ks)]
  rw [hn]
 | .br ks,_,h,c::r,hg=>by
  have hn:=h.node;obtain ⟨ks',rfl,h⟩:=h;show bg (.br ks')::bG (ks' (nb c)) r=bg (.br ks)::bG (ks (nb c)) r;rw [hn];have hg':get (ks' (nb c)) r≠none:=hg;rcases h (nb c) with ⟨e,_⟩ | h
  .rw [e] at hg'; exact absurd rfl hg'
  .rw [Fg h _ hg']
theorem Iw {f g:Fin 16->Nat}:∀ l:List (Fin 16),(∀ i,f i<=g i)->(l.map f).sum<=(l.map g).sum
 | [],_=>aG
 | i::r,h=>by
  have h1:=Iw r h;have h2:=h i;simp only [List.map_cons,List.sum_cons];omega
theorem Ey:∀ {t u:T},Cut t u->gZ u<=gZ t
 | .nil,_,h=>by rw [show _=T.nil from h]; exact aG
 | .leaf _ _,_,h=>by rw [show _=T.leaf _ _ from h]; exact aG
 | .stub _,_,h=>by rw [show _=T.stub _ from h]; exact aG
 | .ext q s,_,h=>by
  obtain ⟨s',rfl,h⟩:=h;show 1+gZ s'<=1+gZ s;rcases h with ⟨rfl,_⟩ | h
  .have:=yZ s;show 1+1<=_;omega
  .have:=Ey h;omega
 | .br ks,_,h=>by
  obtain ⟨ks',rfl,h⟩:=h;have hk:bI ks'=bI ks:=by
   unfold bI;refine List.filter_congr λi _=>?_;rcases h i with ⟨e,hn⟩ | hc
   .rw [e];cases hx:ks i with
    | nil=>exact absurd hx hn
    | _=>rfl
   .by_cases hn:ks i = .nil
    .rw [hn] at hc ⊢;rw [hc.nil]
    .have hn':=hc.ne hn;cases hx:ks i with
     | nil=>exact absurd hx hn
     | _=>cases hy:ks' i with
      | nil=>exact absurd hy hn'
      | _=>rfl
  have hl:∀ i,gZ (ks' i)<=gZ (ks i):=λi=>by
   rcases h i with ⟨e,_⟩ | hc
   .rw [e]; exact yZ _
   .exact Ey hc
  show 1+((bI ks').map λi=>gZ (ks' i)).sum<=1+((bI ks).map λi=>gZ (ks i)).sum;rw [hk];exact Nat.add_le_add_left (Iw _ hl) 1
end Tr
namespace Tm
open Tr Ni Pk Ky No Rf Rl
open Sm (Tab)
structure Dq (w0:World) (M:Mp) (w:World) (ga gb:Nat) (A B:aM) (L:List (Nat × aK × T)):Prop where
 l:Lw w0 M w
 ka:Rg.Own w ga (kc A) 24
 kb:Rg.Own w gb (kc B) 24
 kla:A.length=32
 klb:B.length=32
 bs:∀ x∈L,Bx M w x.1 #[.pointer x.2.1] 35/\IsT M x.2.1 x.2.2
namespace Dq
variable {w0:World} {M M':Mp} {w w':World} {ga gb g:Nat} {A B:aM} {L:List (Nat × aK × T)} {p p':aK} {t t':T}
theorem below (h:Dq w0 M w ga gb A B L) (hb:Below w.heap.size w w'):Dq w0 M w' ga gb A B L:=⟨h.l.below hb,h.ka.below hb,h.kb.below hb,h.kla,h.klb,λx hx=>⟨(h.bs x hx).1.below hb,(h.bs x hx).2⟩⟩
theorem frm (h:Dq w0 M w ga gb A B L) (f:Fr M M' w w') (i:Inv M' w') (tt:Tab w'):Dq w0 M' w' ga gb A B L:=⟨h.l.fr f i tt,qQ h.ka (EW h.kla) h.l.i f,qQ h.kb (EW h.klb) h.l.i f,h.kla,h.klb,λx hx=>⟨(h.bs x hx).1.frm h.l.i f,(h.bs x hx).2.mono f.mono⟩⟩
theorem add (h:Dq w0 M w ga gb A B L) (hx:Bx M w g #[.pointer p] 35) (ht:IsT M p t):Dq w0 M w ga gb A B ((g,p,t)::L):=⟨h.l,h.ka,h.kb,h.kla,h.klb,λx hm=>by
 rcases List.mem_cons.1 hm with rfl | hm
 .exact ⟨hx,ht⟩
 .exact h.bs x hm⟩
theorem box (h:Dq w0 M w ga gb A B L) (ht:IsT M p t) (hO:Rg.Own w' w.heap.size #[.pointer p] 35) (hu:Rg.Upd (w.alloc (.cells #[.pointer none] 35)) w.heap.size w'):Dq w0 M w' ga gb A B ((w.heap.size,p,t)::L):=by
 have hb:Below w.heap.size w w':=hu.below (al1 _ _) aG;exact (h.below hb).add ⟨hO,h.l.i.free aG,eH _⟩ ht
theorem cell (h:Dq w0 M w ga gb A B L) (hm:(g,p,t)∈L):w.cell? ⟨g,0,none⟩=some (.pointer p):=aV (j:=0) (h.bs _ hm).1.o rfl
theorem tr (h:Dq w0 M w ga gb A B L) (hm:(g,p,t)∈L):IsT M p t:=(h.bs _ hm).2
end Dq
theorem EJ {w:World} {k:aM} (hk:k.length=32) (b:Nat) (hb:b=w.heap.size) (ho:∃ p,o.op = .buildSlice 85 1 #[(0,p)]/\ev p = .agg (kc k)) :
  (execOp ev o).run prog w = .ok (.value (.slice (some ⟨b,0,none⟩) 1 1)) (w.alloc (.cells (kc k) 24)):=by
 obtain ⟨p,ho,hx⟩:=ho;subst hb;unfold execOp;simp only [ho,List.map_toArray,List.map_cons,List.map_nil,hx];obtain ⟨a0,a1,a2,a3,a4,a5,a6,a7,b0,b1,b2,b3,b4,b5,b6,b7,c0,c1,c2,c3,c4,c5,c6,c7,d0,d1,d2,d3,d4,d5,d6,d7,rfl⟩:=pq k hk;kernel_rfl
theorem JU {w:World} {b:Nat} {k:aM} {t:TypeId} (h:Rg.Own w b (kc k) t) (hk:k.length=32):Ew.Gd w (some ⟨b,0,none⟩) 1 1 [k] :=
 ⟨aG,by unfold maxLen; omega,rfl,λe=>(by cases e),λx hx=>by rw [List.mem_singleton.1 hx]; exact hk,λj hj=>by
  obtain rfl:j=0:=by omega
  refine ⟨b,0,rfl,h.1,λi v hv=>aV h ?_⟩;unfold kc;simpa [Ew.Zf] using hv⟩
theorem uN (SU:∀ W,Tab W->Calls prog 10 #[] W λe w'=>e = .returned (.bool true)/\Below W.heap.size W w')
  (rh:∀ M W p t (k:aM),k.length=32->Inv M W->IsT M p t->Tab W->Tr.Good t 64->Fine t->gZ t<=200000->Calls prog 8 #[tv p,.agg (kc k)] W (Pd (Tr.get t (bJ k)).isSome M W (mG (bG t (bJ k)))))
  (SW:∀ W a n c b m d xs,fO W a n c xs->fO W b m d xs->n<=1000->m<=1000->Calls prog 25 #[.slice a n c,.slice b m d] W λe w'=>e = .returned (.bool true)/\Below W.heap.size W w')
  (l:List Tr.Pair) (la:aK) (ln lc:Nat) (F G:aM) (w:World) (h:nK w la ln lc l) (hF:F.length=32) (hG:G.length=32) (hT:Tab w) :
  Calls prog 5 #[.slice la ln lc,.agg (kc F),.agg (kc G)] w λe w'=>e = .returned (.bool true)/\Below w.heap.size w w':=by
 obtain ⟨w1,hw1⟩:=au ((w.alloc (.cells (kc F) 24)).alloc (.cells (kc G) 24))
 have hb1:Below w.heap.size w w1:=by rw [hw1]; exact al2 _ _ _
 have hA:Rg.Own w1 w.heap.size (kc F) 24:=by rw [hw1]; exact (Rg.Own.new _ _ _).below (al1 _ _)
 have hB:Rg.Own w1 (w.heap.size+1) (kc G) 24:=by
  have:=Rg.Own.new (w.alloc (.cells (kc F) 24)) (kc G) 24;rw [hw1];simpa using this
 have HD1:Hid (Dq w M0 w1 w.heap.size (w.heap.size+1) F G []):=hid ⟨(Lw.start hT).below hb1,hA,hB,hF,hG,λx hx=>by cases hx⟩;have HP:=hid (wS l la ln lc w1 (h.below hb1));have hok:Gj (eU l):=Jw h.keys;have hlen:=Cq l;have yp:=hid hF;have fd:=hid hG;obtain ⟨P,hP⟩:=ay (eU l)
 rw [hP] at HP hok hlen;have gm:=hid hok;have hhas:=hok.has;have hcnt:gZ (bq .nil P)<=200000:=Xi hhas hok.1 hok.2 hlen;have hcut:Cut (bq .nil P) (fH [bJ G] (bq .nil P)):=wm _ _;have EE:=hcut.good hhas.good;have Ln:=hcut.fine hhas.good aG hhas.fine;have nt:=Nat.le_trans (Ey hcut) hcnt;have SZ:(Tr.get (bq .nil P) (bJ F)).isSome=true:=by rw [show Tr.get (bq .nil P) (bJ F)=_ from hhas.get F hF]; rfl
 have T2:(Tr.get (bq .nil P) (bJ G)).isSome=true:=by rw [show Tr.get (bq .nil P) (bJ G)=_ from hhas.get G hG]; rfl
 have Lo:=wU (bq .nil P) [bJ G] (bJ G) hhas.full (kH G) (List.mem_singleton.2 rfl);have bd:Hid (∀ (M:Mp) (W:World) p,Inv M W->IsT M p (bq .nil P)->Tab W->Calls prog 8 #[tv p,.agg (kc F)] W (VX M W (mG (bG (bq .nil P) (bJ F))))):=hid (λM W p hi ht h=>by
  have:=rh M W p _ F hF hi ht h hhas.good hhas.fine hcnt;rw [SZ] at this;exact this.mono λ_ _ h=>h.yes)
 have b8:Hid (∀ (M:Mp) (W:World) p,Inv M W->IsT M p (bq .nil P)->Tab W->Calls prog 8 #[tv p,.agg (kc G)] W (VX M W (mG (bG (bq .nil P) (bJ G))))):=hid (λM W p hi ht h=>by
  have:=rh M W p _ G hG hi ht h hhas.good hhas.fine hcnt;rw [T2] at this;exact this.mono λ_ _ h=>h.yes)
 have ag:Hid (∀ (M:Mp) (W:World) p,Inv M W->IsT M p (fH [bJ G] (bq .nil P))->Tab W->Calls prog 8 #[tv p,.agg (kc G)] W (VX M W (mG (bG (bq .nil P) (bJ G))))):=hid (λM W p hi ht h=>by
  have:=rh M W p _ G hG hi ht h EE Ln nt;rw [show (Tr.get (fH [bJ G] (bq .nil P)) (bJ G)).isSome=true from Option.isSome_iff_ne_none.2 Lo,Fg hcut _ Lo] at this;exact this.mono λ_ _ h=>h.yes)
 obtain ⟨b,hb⟩:=ay ((Tr.get (fH [bJ G] (bq .nil P)) (bJ F)).isSome)
 have c8:Hid (∀ (M:Mp) (W:World) p,Inv M W->IsT M p (fH [bJ G] (bq .nil P))->Tab W->Calls prog 8 #[tv p,.agg (kc F)] W (Pd b M W (mG (bG (bq .nil P) (bJ F))))):=hid (λM W p hi ht h=>by
  have:=rh M W p _ F hF hi ht h EE Ln nt;rw [hb] at this;cases b with
  | true =>
   rw [Fg hcut _ (Option.isSome_iff_ne_none.1 hb)] at this;exact this
  | false =>
   refine this.mono ?_;rintro e w' ⟨a,n,c,M',cd,he,_,h2,h3⟩;exact ⟨a,n,c,M',cd,he,λe=>(by cases e),h2,h3⟩)
 have EQ:Hid (∀ (M:Mp) (W:World) p,Inv M W->IsT M p (fH [bJ G] (bq .nil P))->Calls prog 24 #[tv p,.agg (kc F)] W λe w'=>e = .returned (.bool b)/\Below W.heap.size W w'):=hid (λM W p hi ht=>by
  have:=Sx.UZ M p _ F hF W hi ht EE;rw [show (Tr.get (fH [bJ G] (bq .nil P)) (path F)).isSome=b from hb] at this;exact this)
 have EV:Hid (∀ (M:Mp) (W:World) p g,Inv M W->IsT M p (bq .nil P)->Tab W->Rg.Own W g (kc G) 24->Calls prog 23 #[tv p,.slice (some ⟨g,0,none⟩) 1 1] W (Sx.XQ M W (fH [bJ G] (bq .nil P)))):=hid (λM W p g hi ht h ho=>Sx.Uy M p _ hhas.good hhas.fine hhas.full (some ⟨g,0,none⟩) 1 1 [G] (by omega) W (JU ho hG) hi ht h);have hl1:(mG (bG (bq .nil P) (bJ F))).length<=1000:=by
  have h1:=ES (bG (bq .nil P) (bJ F));have h2:=at_len _ 64 (bJ F) hhas.good;rw [kJ F hF] at h2;omega
 have hl2:(mG (bG (bq .nil P) (bJ G))).length<=1000:=by
  have h1:=ES (bG (bq .nil P) (bJ G));have h2:=at_len _ 64 (bJ G) hhas.good;rw [kJ G hG] at h2;omega
 have oR:=hid SW;have F0:=hid SU;obtain ⟨X,hX⟩:=ay (mG (bG (bq .nil P) (bJ F)))
 obtain ⟨Y,hY⟩:=ay (mG (bG (bq .nil P) (bJ G)))
 rw [hX] at bd c8 hl1;rw [hY] at ag b8 hl2;clear hA hB hb1 h hok hhas hcnt hF hG hT hP rh SW SU hcut EE Ln nt SZ T2 Lo hb hX hY;have HW:Hid (_=_):=hid hw1;clear hw1;obtain ⟨t,ht⟩:=ay (bq .nil P)
 have T3:=hid ht;rw [ht] at bd c8 ag b8 EQ EV;obtain ⟨u,hu⟩:=ay (fH [bJ G] t)
 rw [hu] at c8 ag EQ EV;obtain ⟨CF,Lq⟩:=ay (kc F)
 obtain ⟨CG,Lt⟩:=ay (kc G)
 rw [Lq,Lt];rw [Lq,Lt] at HW;clear ht hu Lq Lt;go_enter func5,ntmps5;go_wp2_with fail
 rw [<-HW.out];refine HP.out.mono ?_;rintro e w2 ⟨pa,pn,pc,rfl,hps,hb2⟩;have hpn:pn<=24:=by rw [<-hps.len]; exact hlen
 have T4:=hid hps;have HD2:=hid (HD1.out.below hb2);clear hps hb2 HD1 HP HW;go_wp2_with fail
 refine (FU M0 pa pn pc P gm.out w2 HD2.out.l.i T4.out (by omega)).mono ?_;intro e w3 hG;obtain ⟨p3,M3,rfl,io,hL3,hf3,hb3⟩:=HD2.out.l.got hG;rw [T3.out] at io;have HT3:=hid io;have HD3:=hid (HD2.out.frm hf3 hL3.i hL3.t);have ix:=hid (Rg.Own.new w3 #[.pointer none] 35);clear hG io hL3 hf3 hb3 HD2 T4 gm T3;go_wp2_with (first
  | (refine aA (aX _ _ _ w3.heap.size rfl rfl) ?_)
  | (refine aZ ix.out (by decide) p3 rfl _ _ rfl rfl rfl ?_; intro w4 hO4 fR; have HD4:=hid (HD3.out.box HT3.out hO4 fR); clear hO4 fR)
  | (refine aA (aU (HD4.out.cell (p:=p3) (t:=t) (by simp)) ⟨_,rfl,rfl⟩) ?_)
  | (refine aA (bX fd.out HD4.out.kb.2 ⟨_,rfl,rfl⟩) ?_)
  | (refine aA (EJ fd.out w4.heap.size rfl ⟨_,rfl,rfl⟩) ?_))
 obtain ⟨g7,ic⟩:=ay w3.heap.size
 rw [ic] at HD4;rw [ic];have hb5:=al1 w4 (.cells (kc G) 24);have HD5:=hid (HD4.out.below hb5);clear ix HD3 ic hb5 HD4 HT3;refine (EV.out M3 _ p3 w4.heap.size HD5.out.l.i (HD5.out.tr (g:=g7) (by simp)) HD5.out.l.t (Rg.Own.new _ _ _)).mono ?_;rintro e w6 ⟨pu,M6,rfl,kv,f6,i6,t6⟩;have uv:=hid kv;have HD6:=hid (HD5.out.frm (f6.fr λ_ h=>h.elim) i6 t6);have jt:=hid (Rg.Own.new w6 #[.pointer none] 35);clear kv f6 i6 t6 HD5 EV;go_wp2_with (first
  | (refine aA (aX _ _ _ w6.heap.size rfl rfl) ?_)
  | (refine aZ jt.out (by decide) pu rfl _ _ rfl rfl rfl ?_; intro w7 cY cQ; have HD7:=hid (HD6.out.box uv.out cY cQ); clear cY cQ)
  | (refine aA (aU (HD7.out.cell (g:=g7) (p:=p3) (t:=t) (by simp)) ⟨_,rfl,rfl⟩) ?_)
  | (refine aA (bX yp.out HD7.out.ka.2 ⟨_,rfl,rfl⟩) ?_))
 obtain ⟨g8,Ly⟩:=ay w6.heap.size
 rw [Ly] at HD7;rw [Ly];clear jt HD6 Ly uv;refine (bd.out M6 w7 p3 HD7.out.l.i (HD7.out.tr (g:=g7) (by simp)) HD7.out.l.t).mono ?_;rintro e w8 ⟨a1,n1,c1,M8,rfl,m5,T5,f8,i8,t8⟩;have tU:=hid (HD7.out.frm f8 i8 t8);have bj:Hid (Stx M8 w8 a1 n1 c1 X):=hid ⟨m5,T5⟩;clear m5 T5 f8 i8 t8 HD7 bd;go_wp2_with (first
  | (refine aA (aU (tU.out.cell (g:=g8) (p:=pu) (t:=u) (by simp)) ⟨_,rfl,rfl⟩) ?_)
  | (refine aA (bX yp.out tU.out.ka.2 ⟨_,rfl,rfl⟩) ?_))
 refine (c8.out M8 w8 pu tU.out.l.i (tU.out.tr (g:=g8) (by simp)) tU.out.l.t).mono ?_;rintro e w9 ⟨a2,n2,c2,M9,cd,rfl,F1,F2,f9,i9,t9⟩;have tW:=hid (tU.out.frm f9 i9 t9);replace bj:=hid (bj.out.fr f9);have HY:Hid (b=true->cd=0/\Stx M9 w9 a2 n2 c2 X):=hid (λh=>⟨(F1 h).1,(F1 h).2.1,(F1 h).2.2⟩);have vq:=hid F2;clear F1 F2 f9 i9 t9 tU c8;go_wp2_with (first
  | (refine aA (aU (tW.out.cell (g:=g8) (p:=pu) (t:=u) (by simp)) ⟨_,rfl,rfl⟩) ?_)
  | (refine aA (bX fd.out tW.out.kb.2 ⟨_,rfl,rfl⟩) ?_))
 refine (ag.out M9 w9 pu tW.out.l.i (tW.out.tr (g:=g8) (by simp)) tW.out.l.t).mono ?_;rintro e af ⟨a3,n3,c3,Lz,rfl,C4,C5,f10,i10,t10⟩;have j9:=hid (tW.out.frm f10 i10 t10);replace bj:=hid (bj.out.fr f10);replace HY:Hid (b=true->cd=0/\Stx Lz af a2 n2 c2 X):=hid (λh=>⟨(HY.out h).1,(HY.out h).2.fr f10⟩);have cn:Hid (Stx Lz af a3 n3 c3 Y):=hid ⟨C4,C5⟩;clear C4 C5 f10 i10 t10 tW ag;go_wp2_with (first
  | (refine aA (aU (j9.out.cell (g:=g7) (p:=p3) (t:=t) (by simp)) ⟨_,rfl,rfl⟩) ?_)
  | (refine aA (bX fd.out j9.out.kb.2 ⟨_,rfl,rfl⟩) ?_))
 refine (b8.out Lz af p3 j9.out.l.i (j9.out.tr (g:=g7) (by simp)) j9.out.l.t).mono ?_;rintro e ee ⟨a4,n4,c4,M11,rfl,qn,C6,f11,i11,t11⟩;have l9:=hid (j9.out.frm f11 i11 t11);replace bj:=hid (bj.out.fr f11);replace HY:Hid (b=true->cd=0/\Stx M11 ee a2 n2 c2 X):=hid (λh=>⟨(HY.out h).1,(HY.out h).2.fr f11⟩);replace cn:=hid (cn.out.fr f11);have du:Hid (Stx M11 ee a4 n4 c4 Y):=hid ⟨qn,C6⟩;clear qn C6 f11 i11 t11 j9 b8;go_wp2_with (first
  | (refine aA (aU (l9.out.cell (g:=g8) (p:=pu) (t:=u) (by simp)) ⟨_,rfl,rfl⟩) ?_)
  | (refine aA (bX yp.out l9.out.ka.2 ⟨_,rfl,rfl⟩) ?_))
 refine (EQ.out M11 ee pu l9.out.l.i (l9.out.tr (g:=g8) (by simp))).mono ?_;rintro e mA ⟨rfl,bu⟩;have ld:=hid (l9.out.below bu);replace bj:=hid (bj.out.below bu);replace HY:Hid (b=true->cd=0/\Stx M11 mA a2 n2 c2 X):=hid (λh=>⟨(HY.out h).1,(HY.out h).2.below bu⟩);replace cn:=hid (cn.out.below bu);replace du:=hid (du.out.below bu);clear bu l9 EQ;have hn1:n1<=1000:=by rw [<-bj.out.s.len]; exact hl1
 have ec:n3<=1000:=by rw [<-cn.out.s.len]; exact hl2
 have B9:n4<=1000:=by rw [<-du.out.s.len]; exact hl2
 cases b with
 | false =>
  obtain ⟨rfl,rfl⟩:=vq.out rfl;clear HY vq;go_wp2_with fail
  refine (F0.out mA ld.out.l.t).mono ?_;rintro e k9 ⟨rfl,cr⟩;have nv:=hid (ld.out.below cr);replace cn:=hid (cn.out.below cr);replace du:=hid (du.out.below cr);clear cr ld F0 bj;go_wp2_with fail
  refine (oR.out k9 a3 n3 c3 a4 n4 c4 Y cn.out.s du.out.s ec B9).mono ?_;rintro e A0 ⟨rfl,cE⟩;have qt:=hid (nv.out.below cE);clear cE nv cn du oR;go_wp2;go_ret;exact ⟨rfl,qt.out.l.b⟩
 | true =>
  obtain ⟨rfl,hs2⟩:=HY.out rfl;have HS2:=hid hs2;have hn2:n2<=1000:=by rw [<-hs2.s.len]; exact hl1
  clear HY vq hs2;go_wp2_with fail
  refine (F0.out mA ld.out.l.t).mono ?_;rintro e k9 ⟨rfl,cr⟩;have nv:=hid (ld.out.below cr);replace bj:=hid (bj.out.below cr);replace HS2:=hid (HS2.out.below cr);replace cn:=hid (cn.out.below cr);replace du:=hid (du.out.below cr);clear cr ld F0;go_wp2_with fail
  refine (oR.out k9 a1 n1 c1 a2 n2 c2 X bj.out.s HS2.out.s hn1 hn2).mono ?_;rintro e A0 ⟨rfl,cE⟩;have qt:=hid (nv.out.below cE);replace cn:=hid (cn.out.below cE);replace du:=hid (du.out.below cE);clear cE nv bj HS2;go_wp2_with fail
  refine (oR.out A0 a3 n3 c3 a4 n4 c4 Y cn.out.s du.out.s ec B9).mono ?_;rintro e w15 ⟨rfl,C7⟩;have LE:=hid (qt.out.below C7);clear C7 qt cn du oR;go_wp2;go_ret;exact ⟨rfl,LE.out.l.b⟩
end Tm
end
section
open Go.RowKit
namespace Tm
open Tr Ni Pk Ky No Rf Rl
open Sm (Tab)
theorem Fz (l:List Tr.Pair) (la:aK) (ln lc:Nat) (F G:aM) (w:World) (h:nK w la ln lc l) (hF:F.length=32) (hG:G.length=32) (hT:Tab w) :
  Calls prog 5 #[.slice la ln lc,.agg (kc F),.agg (kc G)] w λe w'=>e = .returned (.bool true)/\Below w.heap.size w w' :=
 uN Ju (λM W p t k hk hi ht hT hg hf hc=>Dh M p t k hk hg hf hc W hi ht hT)
  (λW a n c b m d xs h1 h2 _ _=>by
   have:=UR a b n m c d xs xs W h1 h2;rw [qm rfl] at this;exact this) l la ln lc F G w h hF hG hT
end Tm
end
section
open Go.RowKit Go.ChangeShapes Go.WideShapes
end
section
open Go.ChangeShapes Go.WideShapes Go.ChangeAt Go.WideMaps Go.WideElems Go.RowKit
namespace Sm
open Sh
theorem WV : prog.globalNamed "dormouse/sum.rounds" = some 0 := by kernel_rfl
theorem XR:(prog.globals[0]?).map (·.type)=some 223:=by kernel_rfl
theorem WU {H:Type}:(Rows.laid_dormouse_sum_rounds:DataW H) = .agg ((List.range 64).map λi=>.lit (.int .u32 (kN i:Nat))):=rfl
theorem Qu:prog.cellsOf 125=1:=by kernel_rfl
theorem xH (h : laidMetH prog [("dormouse/sum.rounds", Rows.laid_dormouse_sum_rounds)] W) : Tab W := by
 rw [MakeChecks.laidMetH_plain _ _ _ (by kernel_rfl)] at h;obtain ⟨ps,⟨g0,t0,cs0,f0,p0,q0,hg0,ht0,hv0,hd0,_⟩,_,_⟩:=h;obtain rfl:=Option.some.inj (WV.symm.trans hg0);obtain rfl:=Option.some.inj (XR.symm.trans ht0);obtain ⟨xs,m1,rfl,hx1,hlen,ec,hel⟩:=DataW.trod_array underlying223 hd0;rw [WU] at hx1;simp only [Prod.mk.injEq,DataW.agg.injEq] at hx1;intro i hi;have h1:=hel i hi;rw [Qu,Nat.mul_one] at h1;have hi2:i<xs.length:=by omega
 rw [List.getElem?_eq_getElem hi2] at h1;obtain ⟨n,e1,e2,_⟩:=DataW.trod_int underlying125 h1;have e3:=congrArg (λl=>l[i]?) hx1.1;simp only [List.getElem?_map,List.getElem?_eq_getElem hi2,List.getElem?_range hi,Option.map_some,e2] at e3;have e4:n=(kN i:Nat):=by
  have:=Option.some.inj e3;simpa using this.symm
 subst e4;rw [World.var?_cell hg0 hv0 i];obtain ⟨l⟩:=cs0;have e5:=congrArg (λl=>l[0]?) e1;simp only [List.getElem?_take,List.getElem?_drop,Nat.add_zero] at e5;simpa using e5
end Sm
end
end Go.Proofs.YtoipgepkhomfgaaGreatDoor
