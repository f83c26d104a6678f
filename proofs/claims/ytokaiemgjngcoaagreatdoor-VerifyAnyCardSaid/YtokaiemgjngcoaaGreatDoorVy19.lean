/-
 The plain answer's Key, of any texts.
-/
import Derived.Test.YtokaiemgjngcoaaGreatDoorVy18
open Go.Lib (hid)
open Go.Proofs.Tryz
set_option linter.unusedSimpArgs false
set_option linter.unusedVariables false
set_option maxHeartbeats 40000000
set_option maxRecDepth 100000
namespace Go.Proofs.YtokaiemgjngcoaaGreatDoor
variable {X:Bool}
section
open Go.RowKit
namespace Tm
open Tr Ni Pk Ky No Rf Rl
open Sm (Tab)
theorem GH {x y:aN} (h:(!decide (x=y))=X):x=y↔X=false:=by
 subst h;by_cases e:x=y <;> simp [e]
theorem Ta (l:List aM) (hx:∀ s∈l,s.size<=900000) (la:aL) (ln lc:Nat) (r:aN) (hr:r.length=32) (q0:Pa) (hq:Nib q0) (GB:q0.length<=64) (AS:aL) (AT AW:Nat) (w:World) (hl:lK w la ln lc l) (hp:bf w AS AT AW q0) :
  Calls prog 9 #[.agg (Sm.kc r),.slice AS AT AW,.slice la ln lc] w λe w'=>e = .returned (.agg (sdV (eU l r q0)))/\Below w.heap.size w w':=by
 have dg:=hid hr;have eo:=hid hl;have L0:=hid hp;have HX:=hid hx;have hln:=hl.len;have cD:=hid hln;have hlc:=hl.1;have hlm:=hl.2.1;unfold maxLen at hlm;obtain ⟨w1,hw1⟩:=ay ((w.alloc (.cells (Sm.kc r) 23)).alloc (.cells (sdC eB false false 0) 33))
 have hb1:Below w.heap.size w w1:=by rw [hw1]; exact al2 _ _ _
 have hs1:w1.heap.size=w.heap.size+2:=by rw [hw1]; simp
 have hS1:Rg.Own w1 w.heap.size (Sm.kc r) 23:=by rw [hw1]; exact (Rg.Own.new _ _ _).below (al1 _ _)
 have gm:Rg.Own w1 (w.heap.size+1) (sdC eB false false 0) 33:=by
  have:=Rg.Own.new (w.alloc (.cells (Sm.kc r) 23)) (sdC eB false false 0) 33;rw [hw1];simpa using this
 have HB1:=hid hb1;have cJ:=hid hS1;have HR1:=hid gm;have nw:Hid (Rg.Own (w1.alloc (.cells (sdC eB false false 0) 33)) (w.heap.size+2) (sdC eB false false 0) 33):=hid (by
  have:=Rg.Own.new w1 (sdC eB false false 0) 33;rw [hs1] at this;exact this)
 have HW:Hid (_=_):=hid hw1;clear hr hl hp hx hw1 hb1 hS1 gm;by_cases h0:ln=0
 .have hq0:((ln:Int)==0)=true:=by simp [h0]
  obtain ⟨X,hX⟩:=aA (!decide (r=eT eB))
  have lk:=hid hX;have HV:Hid (sdV (eU l r q0)=sdC eB false X 0):=hid (by
   unfold eU;rw [if_pos (by omega)];have:=GH hX;by_cases e:r=eT eB
   .rw [if_pos e,this.1 e]; rfl
   .rw [if_neg e];cases X with
    | true=>rfl
    | false=>exact absurd (this.2 rfl) e)
  have io:=hid (AP eB (Nat.zero_le _));have kq:=hid (iq eB);obtain ⟨Z,hZ⟩:=aA (eT eB)
  rw [hZ] at io kq lk;clear hX hZ;go_enter func9,ntmps9;go_hide hQ
  go_wp2_with (first
   | (refine aB (dz _ _ _ (w.heap.size+1) (by simp) rfl) ?_; rw [<-HW.out])
   | (refine aB (dz _ _ _ (w.heap.size+2) (by rw [hs1]) rfl) ?_)
   | (refine aB (bC wG ⟨_,rfl,rfl⟩) ?_)
   | (refine bL nw.out rfl _ _ _ _ rfl _ _ rfl rfl rfl rfl ?_; intro w3 hO3 hu3; have cm:Hid (Below w1.heap.size w1 w3):=hid (hu3.below (al1 _ _) (by omega)); have S5:=hid hO3.drew; have H0:=hid (cJ.out.below cm.out); have H6:=hid (HR1.out.below cm.out); have ap:=hid (bst HB1.out cm.out); clear hO3 hu3))
  refine aD (S:=λw'=>Rg.Own w' w.heap.size (Sm.kc r) 23/\Rg.Own w' (w.heap.size+1) (sdC eB false false 0) 33/\Below w.heap.size w w') (⟨H0.out.drew,H6.out.drew,ap.out.drew⟩) λhld=>?_;refine aj 0 ?_ (hy:=by intro wz hSw; (refine Sm.cu _ _ _ w.heap.size r dg.out ?_ hSw.1; exact ⟨_,rfl,rfl⟩));try simp only [Act.put,au]
  refine ak 1 λK hK=>?_;go_simp;go_at_call 24
  (with_reducible refine (io.out _).mono ?_)
  rintro e y1 ⟨rfl,hbx⟩;have S6:=hid (S5.out.below hbx);refine hK.out _ _ (⟨hld.1.below hbx,hld.2.1.below hbx,hld.2.2.trans (hbx.mono hld.2.2.size)⟩) λhld=>?_;clear hK K hbx S5;try simp only [Act.put,au]
  refine aj 2 ?_ (hy:=by intro wz hSw; (refine rC dg.out kq.out lk.out ?_; exact ⟨_,_,_,rfl,rfl,rfl⟩));try simp only [Act.put,au]
  refine aj 3 ?_;try simp only [Act.put,au]
  refine ak 4 λK hK=>?_;have el:Hid (Rg.Own (y1.setCell ⟨w.heap.size+2,2,none⟩ (.bool X)) (w.heap.size+2) (sdC eB false X 0) 33):=hid (cO (o:=2) S6.out (.bool X));have hu2:=bQ y1 (w.heap.size+2) 2 (.bool X);have cG:=hid (hld.2.1.upd hu2 (by omega));have HB2:Hid (Below w.heap.size w (y1.setCell ⟨w.heap.size+2,2,none⟩ (.bool X))):=hid (hu2.below hld.2.2 (by omega));have hS0:=hld.1.upd hu2 (by omega);refine NI (by rfl) _ (wm (off:=2) S6.out (by decide) X ⟨_,_,rfl,rfl,rfl⟩) ?_
  refine hK.out _ _ (⟨hS0,cG.out,HB2.out⟩) λhld=>?_;clear hK K hu2 hS0;try simp only [Act.put,au]
  refine aC ?_;clear hld;go_wp2_with (first
   | (refine aB (iA el.out ⟨_,rfl,rfl⟩) ?_)
   | (refine bL cG.out rfl _ _ _ _ rfl _ _ rfl rfl rfl rfl ?_; intro w9 ae af; have b8:=hid ae; have bo:=hid (af.below HB2.out (by omega)); clear ae af))
  subst hQ;exact bodyPost_ret (jd (q:=6) rfl _ rfl b8.out) rfl ⟨by rw [HV.out],bo.out⟩
 have hq0:((ln:Int)==0)=false:=by simp [h0]
 have u0:(0:Int)<ln:=by omega
 have qv:0<ln:=by omega
 by_cases yi:70<ln
 .have m6:decide ((70:Int)<(ln:Int))=true:=aK (by omega);have HV:Hid (sdV (eU l r q0)=sdC eB false true 0):=hid (by
   unfold eU;rw [if_neg (by omega),if_pos (by omega)];rfl)
  go_enter func9,ntmps9;go_hide hQ
  go_wp2_with (first
   | (refine aB (dz _ _ _ (w.heap.size+1) (by simp) rfl) ?_; rw [<-HW.out])
   | (refine aB (dz _ _ _ (w.heap.size+2) (by rw [hs1]) rfl) ?_)
   | (refine aB (bC wG ⟨_,rfl,rfl⟩) ?_)
   | (refine bL nw.out rfl _ _ _ _ rfl _ _ rfl rfl rfl rfl ?_; intro w3 hO3 hu3; have cm:Hid (Below w1.heap.size w1 w3):=hid (hu3.below (al1 _ _) (by omega)); have H7:=hid hO3; have H0:=hid (cJ.out.below cm.out); have H6:=hid (HR1.out.below cm.out); have ap:=hid (bst HB1.out cm.out); clear hO3 hu3))
  refine aD (S:=λw'=>Below w3.heap.size w3 w') (aI.drew) λhld=>?_;refine aj 0 ?_;try simp only [Act.put,au]
  refine aj 1 ?_;try simp only [Act.put,au]
  refine aj 2 ?_ (hy:=by intro wz hSw; (have q0:=yi; go_simp <;> with_reducible rfl));try simp only [Act.put,au]
  refine aj 3 ?_;try simp only [Act.put,au]
  refine Rg.takeL (i:=4) (v:=undef) rfl (by kernel_rfl) (by kernel_rfl) (by kernel_rfl) (λ_ _ _ h=>h) (Or.inr ⟨by rfl,rfl⟩) (by assumption) ?_;try simp only [Act.put,au]
  refine Rg.takeL (i:=5) (v:=undef) rfl (by kernel_rfl) (by kernel_rfl) (by kernel_rfl) (λ_ _ _ h=>h) (Or.inr ⟨by rfl,rfl⟩) (by assumption) ?_;try simp only [Act.put,au]
  refine Rg.takeL (i:=6) (v:=undef) rfl (by kernel_rfl) (by kernel_rfl) (by kernel_rfl) (λ_ _ _ h=>h) (Or.inr ⟨by rfl,rfl⟩) (by assumption) ?_;try simp only [Act.put,au]
  refine Rg.takeL (i:=7) (v:=undef) rfl (by kernel_rfl) (by kernel_rfl) (by kernel_rfl) (λ_ _ _ h=>h) (Or.inr ⟨by rfl,rfl⟩) (by assumption) ?_;try simp only [Act.put,au]
  refine Rg.takeL (i:=8) (v:=undef) rfl (by kernel_rfl) (by kernel_rfl) (by kernel_rfl) (λ_ _ _ h=>h) (Or.inr ⟨by rfl,rfl⟩) (by assumption) ?_;try simp only [Act.put,au]
  refine Rg.takeL (i:=9) (v:=undef) rfl (by kernel_rfl) (by kernel_rfl) (by kernel_rfl) (λ_ _ _ h=>h) (Or.inr ⟨by rfl,rfl⟩) (by assumption) ?_;try simp only [Act.put,au]
  refine aj 10 ?_;try simp only [Act.put,au]
  refine aC ?_;have am:=hid hld;clear hld;go_wp2_with (first
   | (refine aB (iA (H7.out.below am.out) ⟨_,rfl,rfl⟩) ?_)
   | (refine bL (H6.out.below am.out) rfl _ _ _ _ rfl _ _ rfl rfl rfl rfl ?_; intro w9 ae af; have b8:=hid ae; have bo:=hid (af.below (ap.out.trans (am.out.mono ap.out.size)) (by omega)); clear ae af))
  subst hQ;exact bodyPost_ret (jd (q:=6) rfl _ rfl b8.out) rfl ⟨by rw [HV.out],bo.out⟩
 have m6:decide ((70:Int)<(ln:Int))=false:=decide_eq_false (by omega);have o9:decide (70<ln)=false:=decide_eq_false yi;have hm0:l.getD 0 eB∈l:=Rf.gW (by omega);have hsz0:=HX.out _ hm0;obtain ⟨b0,o0,hla,hblt,hc0⟩:=eo.out.at' 0 (by omega);obtain ⟨X,hX⟩:=aA (!decide (eT (l.getD 0 eB)=r))
 have lk:=hid hX;have eS:Hid (eU l r q0=if X=true then (none,0) else jc l 200 (l.getD 0 eB) q0 1 false):=hid (by
  unfold eU;rw [if_neg (by omega),if_neg (by omega)];have:=GH hX;by_cases e:eT (l.getD 0 eB)=r
  .rw [if_pos e,if_neg (by rw [this.1 e]; decide)]
  .rw [if_neg e];cases X with
   | true=>rfl
   | false=>exact absurd (this.2 rfl) e)
 have qS:=hid (AP (l.getD 0 eB) hsz0);have kq:=hid (iq (l.getD 0 eB));have hc0:w.cell? ⟨b0,o0,none⟩=some (.string (l.getD 0 eB)):=by simpa using hc0
 have hc1:w1.cell? ⟨b0,o0,none⟩=some (.string (l.getD 0 eB)):=aX HB1.out hc0;obtain ⟨E0,hE0⟩:=aA (l.getD 0 eB)
 rw [hE0] at lk eS qS kq hc1 hsz0;obtain ⟨Z,hZ⟩:=aA (eT E0)
 rw [hZ] at qS kq lk;have B2:=hid hsz0;subst hla;clear hX hZ hm0 hc0 hE0 hsz0;go_enter func9,ntmps9;go_hide hQ
 go_wp2_with (first
  | (refine aB (dz _ _ _ (w.heap.size+1) (by simp) rfl) ?_; rw [<-HW.out])
  | (refine aB (dz _ _ _ (w.heap.size+2) (by rw [hs1]) rfl) ?_)
  | (refine aB (bC wG ⟨_,rfl,rfl⟩) ?_)
  | (refine bL nw.out rfl _ _ _ _ rfl _ _ rfl rfl rfl rfl ?_; intro w3 hO3 hu3; have cm:Hid (Below w1.heap.size w1 w3):=hid (hu3.below (al1 _ _) (by omega)); have H7:=hid hO3; have H0:=hid (cJ.out.below cm.out); have H6:=hid (HR1.out.below cm.out); have ap:=hid (bst HB1.out cm.out); have hc0:=aX cm.out hc1; have hs3:=cm.out.size; clear hO3 hu3))
 refine aD (S:=λw'=>Below w3.heap.size w3 w') (aI.drew) λhld=>?_;refine aj 0 ?_;try simp only [Act.put,au]
 refine aj 1 ?_;try simp only [Act.put,au]
 refine aj 2 ?_ (hy:=by intro wz hSw; (have q0:=m6; have q1:=o9; go_simp <;> with_reducible rfl));try simp only [Act.put,au]
 refine aj 3 ?_;try simp only [Act.put,au]
 refine aj 4 ?_;try simp only [Act.put,au]
 refine aj 5 ?_ (hy:=by intro wz hSw; (have q0:=u0; have q1:=qv; go_simp <;> with_reducible rfl));try simp only [Act.put,au]
 refine aj 6 ?_ (hy:=by intro wz hSw; (have q0:=aX hSw hc0; go_simp <;> with_reducible rfl));try simp only [Act.put,au]
 refine aj 8 ?_ (hy:=by intro wz hSw; (refine Sm.cu _ _ _ w.heap.size r dg.out ?_ (H0.out.below hSw); exact ⟨_,rfl,rfl⟩));try simp only [Act.put,au]
 refine ak 7 λK hK=>?_;go_simp;go_at_call 24
 (with_reducible refine (qS.out _).mono ?_)
 rintro e y1 ⟨rfl,hbx⟩;refine hK.out _ _ (Below.trans hld (hbx.mono hld.size)) λhld=>?_;clear hK K hbx;try simp only [Act.put,au]
 refine aj 9 ?_ (hy:=by intro wz hSw; (refine rC kq.out dg.out lk.out ?_; exact ⟨_,_,_,rfl,rfl,rfl⟩));try simp only [Act.put,au]
 refine aj 10 ?_;try simp only [Act.put,au]
 refine aC ?_;have am:=hid hld;clear hld;by_cases L1:X=true
 .subst L1;have HV:Hid (sdV (eU l r q0)=sdC eB false true 0):=hid (by rw [eS.out,if_pos rfl]; rfl);go_wp2_with (first
   | (refine aB (iA (H7.out.below am.out) ⟨_,rfl,rfl⟩) ?_)
   | (refine bL (H6.out.below am.out) rfl _ _ _ _ rfl _ _ rfl rfl rfl rfl ?_; intro w9 ae af; have b8:=hid ae; have bo:=hid (af.below (ap.out.trans (am.out.mono ap.out.size)) (by omega)); clear ae af))
  subst hQ;exact bodyPost_ret (jd (q:=6) rfl _ rfl b8.out) rfl ⟨by rw [HV.out],bo.out⟩
 have XO:X=false:=by cases X with
  | true=>exact absurd rfl L1
  | false=>rfl
 subst XO;have HR:Hid (eU l r q0=jc l 200 E0 q0 1 false):=hid (by rw [eS.out,if_neg (by decide)]);clear eS L1 lk qS kq;have hcy:=aX am.out hc0;go_wp2
 go_loopw [1,8,9,10,11] (λvp vu ve vx vs wr=>∃ (s:Nat) (E:aM) (q:Pa) (us:Nat) (b:Bool) (pa:aL) (pn pc:Nat),s<=200/\vs = .int .i64 (200-s:Nat)/\vp = .slice pa pn pc/\vu = .int .i64 us/\ve = .string E/\vx = .bool b/\Hid (bf wr pa pn pc q)/\Hid (Nib q)/\pn<=64/\us<=70/\Hid (E.size<=900000)/\Hid (jc l s E q us b=eU l r q0)/\Hid (Below w3.heap.size w3 wr)) (λ_ _ _ _ vs _=>200-(intOf vs).toNat)
 case atStart=>exact ⟨200,E0,q0,1,false,AS,AT,AW,aH,rfl,rfl,rfl,rfl,rfl,hid ((L0.out.below ap.out).below am.out),hid hq,by have:=L0.out.len; omega,by omega,B2,hid HR.out.symm,am⟩
 case round =>
  obtain ⟨s,E,q,us,b,pa,pn,pc,hs,rfl,rfl,rfl,rfl,rfl,HQ,qT,hpn,m7,HE,di,HB⟩:=hrel;clear am hcy L0 hq B2 HR;cases s with
  | zero =>
   have am:=HB;have HV:Hid (sdV (eU l r q0)=sdC eB false true 0):=hid (by rw [<-di.out]; rfl);go_wp2_with (first
    | (refine aB (iA (H7.out.below am.out) ⟨_,rfl,rfl⟩) ?_)
    | (refine bL (H6.out.below am.out) rfl _ _ _ _ rfl _ _ rfl rfl rfl rfl ?_; intro w9 ae af; have b8:=hid ae; have bo:=hid (af.below (ap.out.trans (am.out.mono ap.out.size)) (by omega)); clear ae af))
   subst hQ;exact bodyPost_ret (jd (q:=6) rfl _ rfl b8.out) rfl ⟨by rw [HV.out],bo.out⟩
  | succ s =>
   obtain ⟨st,hst⟩:=aA (200-(s+1))
   have r3:st+1=200-s:=by omega
   have XP:st<200:=by omega
   have XQ:(st:Int)<200:=by omega
   rw [hst];have HG:=hid (PN E (Nat.le_trans HE.out (by decide)) wr);have HLen:Hid (E.data.toList.length<=4294967296):=hid (by rw [dZ]; exact Nat.le_trans HE.out (by decide));go_wp2_with fail
   refine HG.out.mono ?_;rintro e w5 ⟨N,na,nn,nc,ok,rfl,hok,hbp,j4,hb5⟩;have al:=hid (bst HB.out hb5);have fm:=hid (HQ.out.below hb5);have fW:=hid hbp.1;have ag:=hid j4;have hal:=al1 w5 (.cells (ndC nd0 none 0 0) 67);have gx:=hid (Rg.Own.new w5 (ndC nd0 none 0 0) 67);clear hbp j4 hb5 HG HB HQ;rcases hok with ⟨rfl,hg⟩ | ⟨rfl,hg⟩
   rotate_left
   .have HV:Hid (sdV (eU l r q0)=sdC eB false true us):=hid (by
     rw [<-di.out];unfold jc;rw [hg];rfl)
    go_wp2_with (first
     | (refine aB (aY _ _ _ w5.heap.size rfl rfl) ?_)
     | (refine bS gx.out bK N na nn nc ag.out rfl _ _ rfl rfl rfl rfl ?_; intro w6 az bh; have aq:=hid az; have aa:Hid (Below w5.heap.size w5 w6):=hid (bh.below hal aH); have bd:=hid (bst al.out aa.out); have cM:=hid (fm.out.below aa.out); have cQ:=hid (fW.out.below aa.out); clear az bh)
     | (refine aB (bC (kI us) ⟨_,rfl,rfl⟩) ?_)
     | (refine bL (H6.out.below bd.out) rfl _ _ _ _ rfl _ _ rfl rfl rfl rfl ?_; intro w9 ae af; have b8:=hid ae; have bo:=hid (af.below (ap.out.trans (Below.mono bd.out ap.out.size)) (Nat.le_succ _)); clear ae af))
    subst hQ;exact bodyPost_ret (jd (q:=6) rfl _ rfl b8.out) rfl ⟨by rw [HV.out],bo.out⟩
   obtain ⟨hkd,_,L2,hk2,hks⟩:=SN HLen.out hg;have gO:=hid hg;have eS:=hid hks;have u1:=hid hk2;have fS:Hid ((ndC N na nn nc)[0]? = some (.int .i64 N.kd)):=hid rfl;have hpl:=fW.out.len;have GB:=fm.out.len;have es:=fm.out;clear hg hks hk2;by_cases fX:b=true/\N.kd≠3
   .have HV:Hid (sdV (eU l r q0)=sdC eB false true us):=hid (by
     rw [<-di.out];unfold jc;rw [gO.out];dsimp only;rw [if_pos fX];rfl)
    obtain ⟨rfl,hk3⟩:=fX;have L3:(N.kd != 3)=true:=by simpa using hk3
    have L4:(N.kd==3)=false:=by simpa using hk3
    go_wp2_with (first
     | (refine aB (aY _ _ _ w5.heap.size rfl rfl) ?_)
     | (refine bS gx.out bK N na nn nc ag.out rfl _ _ rfl rfl rfl rfl ?_; intro w6 az bh; have aq:=hid az; have aa:Hid (Below w5.heap.size w5 w6):=hid (bh.below hal aH); have bd:=hid (bst al.out aa.out); have cM:=hid (fm.out.below aa.out); have cQ:=hid (fW.out.below aa.out); have k0:w6.cell? ⟨w5.heap.size,0,none⟩=some (.int .i64 N.kd):=aV (j:=0) aq.out fS.out; clear az bh)
     | (refine aB (bC (kI us) ⟨_,rfl,rfl⟩) ?_)
     | (refine bL (H6.out.below bd.out) rfl _ _ _ _ rfl _ _ rfl rfl rfl rfl ?_; intro w9 ae af; have b8:=hid ae; have bo:=hid (af.below (ap.out.trans (Below.mono bd.out ap.out.size)) (Nat.le_succ _)); clear ae af))
    subst hQ;exact bodyPost_ret (jd (q:=6) rfl _ rfl b8.out) rfl ⟨by rw [HV.out],bo.out⟩
   have eM:Hid (¬ (b=true/\N.kd≠3)):=hid fX;have cV:N.kd≠3->b=false:=λh=>by
    cases b with
    | false=>rfl
    | true=>exact absurd ⟨rfl,h⟩ fX
   by_cases hext:N.kd=2/\N.p<+:q
   .have hR:=eS.out _ (Rf.gW (xs:=N.ks) (j:=0) (by rw [ag.out]; decide));have m8:=u1.out hext.1;have eN:Hid (onward N q=(N.ks.getD 0 eB,q.drop N.p.length)):=hid (by unfold onward; rw [if_pos hext]);have da:Hid ((ndC N na nn nc)[0]? = some (.int .i64 2)):=hid (by rw [<-hext.1]; rfl);have j5:Hid (N.kd=2):=hid hext.1;have oa:(N.kd==3)=false:=by rw [hext.1]; rfl
    have hle:=hext.2.length_le;have hnp:nn<=pn:=by omega
    have cC:Hid ((ndC N na nn nc)[3+0]? = some (.string (N.ks.getD 0 eB))):=hid (sI N na nn nc (by decide) ag.out);have ge:Hid (Nib (q.drop nn)):=hid (λc hc=>qT.out c (List.mem_of_mem_drop hc));have hn2:pn-nn<=64:=by omega
    rw [hpl] at eN;obtain rfl:=cV (by rw [hext.1]; decide);obtain ⟨R,hRe⟩:=aA (N.ks.getD 0 eB)
    rw [hRe] at hR m8 eN cC;have sg:=hid hR;have e9:=hid (di.out.symm.trans (mM gO.out eM.out eN.out));go_wp2_with (first
     | (refine aB (aY _ _ _ w5.heap.size rfl rfl) ?_)
     | (refine bS gx.out bK N na nn nc ag.out rfl _ _ rfl rfl rfl rfl ?_; intro w6 az bh; have aq:=hid az; have aa:Hid (Below w5.heap.size w5 w6):=hid (bh.below hal aH); have bd:=hid (bst al.out aa.out); have cM:=hid (fm.out.below aa.out); have cQ:=hid (fW.out.below aa.out); have k0:w6.cell? ⟨w5.heap.size,0,none⟩=some (.int .i64 N.kd):=aV (j:=0) aq.out fS.out; clear az bh))
    obtain ⟨cn,hcn⟩:=aA (iV N.p q)
    have hcp:cn=nn↔N.p<+:q:=by rw [<-hcn,sD,<-hpl]; exact wT.symm
    have GC:Hid (∀ W,Below w6.heap.size w6 W->Calls prog 26 #[.slice na nn nc,.slice pa pn pc] W λe w'=>e = .returned (.int .i64 (cn:Nat))/\∃ m,w'=W.drewN m):=hid (λW hb=>by
     have:=xU na pa nn pn nc pc N.p q (by omega) (by omega) W (cQ.out.below hb) (cM.out.below hb);rw [hcn] at this;exact this)
    have hcb:((cn:Int)==(nn:Int))=true:=by
     have:cn=nn:=hcp.2 hext.2;simp [this]
    have r4:cn=nn:=hcp.2 hext.2;clear hcn hcp hRe hext cV hle fX;refine aD (S:=λw'=>Below w6.heap.size w6 w') (aI.drew) λhld=>?_;refine aj 0 ?_;try simp only [Act.put,au]
    refine aj 1 ?_ (hy:=by intro wz hSw; (have k0:=aV (j:=0) (aq.out.below hSw) da.out; go_simp <;> with_reducible rfl));try simp only [Act.put,au]
    refine aj 2 ?_;try simp only [Act.put,au]
    refine aj 3 ?_;try simp only [Act.put,au]
    refine aj 4 ?_;try simp only [Act.put,au]
    refine aj 5 ?_ (hy:=by intro wz hSw; (have k1:=aV (j:=1) (aq.out.below hSw) (iO N na nn nc); go_simp <;> with_reducible rfl));try simp only [Act.put,au]
    refine aj 6 ?_;try simp only [Act.put,au]
    refine aj 8 ?_;try simp only [Act.put,au]
    refine aj 9 ?_ (hy:=by intro wz hSw; (have k1:=aV (j:=1) (aq.out.below hSw) (iO N na nn nc); go_simp <;> with_reducible rfl));try simp only [Act.put,au]
    refine aj 10 ?_;try simp only [Act.put,au]
    refine ak 7 λK hK=>?_;go_simp;go_at_call 26
    (with_reducible refine (GC.out _ hld).mono ?_)
    rintro e y1 ⟨rfl,m9,hbx⟩;have hby:=below_drewN hld m9;rw [<-hbx] at hby;clear hbx;refine hK.out _ _ (hby) λhld=>?_;clear hK K hby;try simp only [Act.put,au]
    refine aj 11 ?_ (hy:=by intro wz hSw; (have q2:=hcb; have q3:=r4; go_simp <;> with_reducible rfl));try simp only [Act.put,au]
    refine aj 12 ?_;try simp only [Act.put,au]
    refine aC ?_;obtain ⟨wc,hwc⟩:=aA y1
    rw [hwc] at hld;rw [hwc];have cX:=hid hld;clear hld hwc;have et:=hid (aq.out.below cX.out);have sh:=hid (cQ.out.below cX.out);have py:=hid (cM.out.below cX.out);have cr:=hid (bst bd.out cX.out);clear cX aq cQ cM bd aa;have ma:=hid (sJ py.out nn hnp);have k1:=aV (j:=1) et.out (iO N na nn nc);have k3:=aV (j:=3+0) et.out cC.out;clear hcb r4 GC;have hne:=Ni.bZ (s:=R) (by omega);have cJ:=hid (e9.out.trans (if_neg m8));have k0:wc.cell? ⟨w5.heap.size,0,none⟩=some (.int .i64 N.kd):=aV (j:=0) et.out rfl;have hb2:(N.kd==2)=true:=by rw [j5.out]; rfl
    have HB2:Hid (decide (N.kd=2)=true):=hid (by rw [<-hb2]; rfl);rw [HB2.out] at cJ;go_upto_region 23 with (first
     | (refine aB (jk (a:=pa) (n:=pn) (c:=pc) (i:=nn) fV iD hnp ⟨_,_,rfl,rfl,rfl⟩) ?_))
    by_cases h32:R.size<32
    .have oc:decide ((R.size:Int)<32)=true:=aK (by omega);have od:decide (R.size<32)=true:=aK h32;have kf:Hid (jc l s R (q.drop nn) us true=eU l r q0):=hid (by rw [cJ.out,if_pos h32]);go_wp2;go_roundw
     case rel=>exact ⟨s,R,(q.drop nn),us,true,eX pa pc nn,pn-nn,pc-nn,by omega,by rw [<-r3]; go_num,rfl,rfl,rfl,rfl,ma,ge,hn2,m7,sg,kf,cr⟩
     case measure=>simp [intOf]; omega
    .have oc:decide ((R.size:Int)<32)=false:=decide_eq_false (by omega);have od:decide (R.size<32)=false:=decide_eq_false h32;have HS2:=hid (cJ.out.trans (if_neg h32));by_cases hu:us<ln
     .have u2:decide ((us:Int)<(ln:Int))=true:=aK (by omega);have u4:(us:Int)<(ln:Int):=by omega
      obtain ⟨bu,ou,he,XR,ua⟩:=eo.out.at' us hu;obtain ⟨rfl,rfl⟩:bu=b0/\ou=o0:=by
       have e1:=Option.some.inj he;exact ⟨(congrArg Addr.block e1).symm,(congrArg Addr.off e1).symm⟩
      have ib:=aX ap.out ua;have ua:=aX cr.out ib;have hmu:l.getD us eB∈l:=Rf.gW (by rw [cD.out]; exact hu);have hsu:=HX.out _ hmu;obtain ⟨Y,hY⟩:=aA (l.getD us eB)
      rw [hY] at ua ib hsu;have L5:=hid ib;have L6:=hid hsu;have r5:=HS2;rw [hY] at r5;have cT:=hid (λW=>GN Y hsu W);have L7:=hid (show us<l.length by rw [cD.out]; exact hu);clear ib hY hmu hsu HS2 cJ e9;by_cases hy0:Y.size=0
      .obtain rfl:=cZ hy0;have HV:Hid (sdV (eU l r q0)=sdC eB false true us):=hid (by rw [r5.out,if_neg (λh=>h.2.1 rfl)]; rfl);go_upto_region 35 with fail
       go_wp2_with (first
        | (refine aB (bC (kI us) ⟨_,rfl,rfl⟩) ?_)
        | (refine bL (H6.out.below cr.out) rfl _ _ _ _ rfl _ _ rfl rfl rfl rfl ?_; intro w9 ae af; have b8:=hid ae; have bo:=hid (af.below (ap.out.trans (Below.mono cr.out ap.out.size)) (Nat.le_succ _)); clear ae af))
       subst hQ;exact bodyPost_ret (jd (q:=6) rfl _ rfl b8.out) rfl ⟨by rw [HV.out],bo.out⟩
      .have L8:=Ni.bZ (s:=Y) (by omega);by_cases hym:ofP Y=R
       .rw [hym] at cT;have kf:Hid (jc l s Y (q.drop nn) (us+1) true=eU l r q0):=hid (by rw [r5.out,if_pos ⟨L7.out,hy0,hym⟩]);go_wp2_with fail
        refine (cT.out wc).mono ?_;rintro e w7 ⟨rfl,cH⟩;have am:=hid (bst cr.out cH);have B3:=hid (ma.out.below cH);clear cH;have L9:=aX am.out L5.out;go_wp2_with (first
         | fail)
        go_roundw
        case rel=>exact ⟨s,Y,(q.drop nn),us+1,true,eX pa pc nn,pn-nn,pc-nn,by omega,by rw [<-r3]; go_num,rfl,by go_num,rfl,rfl,B3,ge,hn2,by omega,L6,kf,am⟩
        case measure=>simp [intOf]; omega
       .have ub:=ny hym;have HV:Hid (sdV (eU l r q0)=sdC eB false true us):=hid (by rw [r5.out,if_neg (λh=>hym h.2.2)]; rfl);obtain ⟨O,hO⟩:=aA (ofP Y)
        rw [hO] at cT ub;go_wp2_with fail
        refine (cT.out wc).mono ?_;rintro e w7 ⟨rfl,cH⟩;have am:=hid (bst cr.out cH);have B3:=hid (ma.out.below cH);clear cH;go_wp2_with (first
         | (refine aB (bC (kI us) ⟨_,rfl,rfl⟩) ?_)
         | (refine bL (H6.out.below am.out) rfl _ _ _ _ rfl _ _ rfl rfl rfl rfl ?_; intro w9 ae af; have b8:=hid ae; have bo:=hid (af.below (ap.out.trans (Below.mono am.out ap.out.size)) (Nat.le_succ _)); clear ae af))
        subst hQ;exact bodyPost_ret (jd (q:=6) rfl _ rfl b8.out) rfl ⟨by rw [HV.out],bo.out⟩
     .have u2:decide ((us:Int)<(ln:Int))=false:=decide_eq_false (by omega);have u4:¬ (us:Int)<(ln:Int):=by omega
      have HV:Hid (sdV (eU l r q0)=sdC eB false true us):=hid (by rw [HS2.out,if_neg (λh=>hu (by rw [<-cD.out]; exact h.1))]; rfl);go_upto_region 35 with fail
      go_wp2_with (first
       | (refine aB (bC (kI us) ⟨_,rfl,rfl⟩) ?_)
       | (refine bL (H6.out.below cr.out) rfl _ _ _ _ rfl _ _ rfl rfl rfl rfl ?_; intro w9 ae af; have b8:=hid ae; have bo:=hid (af.below (ap.out.trans (Below.mono cr.out ap.out.size)) (Nat.le_succ _)); clear ae af))
      subst hQ;exact bodyPost_ret (jd (q:=6) rfl _ rfl b8.out) rfl ⟨by rw [HV.out],bo.out⟩
   by_cases hbr:N.kd=3/\∃ c t,q=c::t/\(N.ks.getD c.toNat eB).size≠0
   .obtain ⟨hk3,c,t,rfl,m8⟩:=hbr;have hc16:c.toNat<16:=qT.out c List.mem_cons_self;have hR:=eS.out _ (Rf.gW (xs:=N.ks) (j:=c.toNat) (by rw [ag.out]; exact hc16));have eN:Hid (onward N (c::t)=(N.ks.getD c.toNat eB,t)):=hid (by
     unfold onward;rw [if_neg (λh=>hext h),if_pos hk3])
    have j5:Hid (N.kd=3):=hid hk3;have oa:(N.kd==3)=true:=by rw [hk3]; rfl
    have kt:(N.kd==2)=false:=by rw [hk3]; rfl
    have B4:(N.kd != 3)=false:=by rw [hk3]; rfl
    have cC:Hid ((ndC N na nn nc)[3+c.toNat]? = some (.string (N.ks.getD c.toNat eB))):=hid (sI N na nn nc hc16 ag.out);have ge:Hid (Nib t):=hid (λx hx=>qT.out x (List.mem_cons_of_mem _ hx));obtain ⟨R,hRe⟩:=aA (N.ks.getD c.toNat eB)
    rw [hRe] at hR m8 eN cC;have e9:=hid (di.out.symm.trans (mM gO.out eM.out eN.out));obtain ⟨bq,oq,rfl,hbq,hcq⟩:=es.at' 0 (by have:=es.len; have:(c::t).length=pn:=this; simp at this; omega);have uc:t.length+1=pn:=by have:=es.len; simpa using this
    have hcq:w5.cell? ⟨bq,oq,none⟩=some (.int .u8 c.toNat):=by simpa using hcq
    obtain ⟨d,hd⟩:=aA c.toNat
    rw [hd] at cC hcq hc16;have lj:=hid hcq;have oe:(0:Int)<pn:=by omega
    have dj:0<pn:=by omega
    have ud:decide (0<pn)=true:=aK dj;have hdi:(d:Int)<16:=by omega
    have hd0:(0:Int)<=d:=by omega
    have hdn:d<16:=hc16;have hn2:pn-1<=64:=by omega
    have sg:=hid hR;clear hRe hd fX cV hk3 hext es hbq hcq;cases b;all_goals
     go_wp2_with (first
      | (refine aB (aY _ _ _ w5.heap.size rfl rfl) ?_)
      | (refine bS gx.out bK N na nn nc ag.out rfl _ _ rfl rfl rfl rfl ?_; intro w6 az bh; have aq:=hid az; have aa:Hid (Below w5.heap.size w5 w6):=hid (bh.below hal aH); have bd:=hid (bst al.out aa.out); have cM:=hid (fm.out.below aa.out); have cQ:=hid (fW.out.below aa.out); have k0:w6.cell? ⟨w5.heap.size,0,none⟩=some (.int .i64 N.kd):=aV (j:=0) aq.out fS.out; clear az bh))
     refine aD (S:=λw'=>Below w6.heap.size w6 w') (aI.drew) λhld=>?_;refine aj 0 ?_;try simp only [Act.put,au]
     refine aj 1 ?_ (hy:=by intro wz hSw; (have k0:=aV (j:=0) (aq.out.below hSw) fS.out; have q1:=kt; go_simp <;> with_reducible rfl));try simp only [Act.put,au]
     refine aj 2 ?_;try simp only [Act.put,au]
     refine aj 3 ?_;try simp only [Act.put,au]
     refine Rg.takeL (i:=4) (v:=undef) rfl (by kernel_rfl) (by kernel_rfl) (by kernel_rfl) (λ_ _ _ h=>h) (Or.inr ⟨by rfl,rfl⟩) (by assumption) ?_;try simp only [Act.put,au]
     refine Rg.takeL (i:=5) (v:=undef) rfl (by kernel_rfl) (by kernel_rfl) (by kernel_rfl) (λ_ _ _ h=>h) (Or.inr ⟨by rfl,rfl⟩) (by assumption) ?_;try simp only [Act.put,au]
     refine Rg.takeL (i:=6) (v:=undef) rfl (by kernel_rfl) (by kernel_rfl) (by kernel_rfl) (λ_ _ _ h=>h) (Or.inr ⟨by rfl,rfl⟩) (by assumption) ?_;try simp only [Act.put,au]
     refine Rg.takeL (i:=7) (v:=undef) rfl (by kernel_rfl) (by kernel_rfl) (by kernel_rfl) (λ_ _ _ h=>h) (Or.inr ⟨by rfl,rfl⟩) (by assumption) ?_;try simp only [Act.put,au]
     refine Rg.takeL (i:=8) (v:=undef) rfl (by kernel_rfl) (by kernel_rfl) (by kernel_rfl) (λ_ _ _ h=>h) (Or.inr ⟨by rfl,rfl⟩) (by assumption) ?_;try simp only [Act.put,au]
     refine Rg.takeL (i:=9) (v:=undef) rfl (by kernel_rfl) (by kernel_rfl) (by kernel_rfl) (λ_ _ _ h=>h) (Or.inr ⟨by rfl,rfl⟩) (by assumption) ?_;try simp only [Act.put,au]
     refine Rg.takeL (i:=10) (v:=undef) rfl (by kernel_rfl) (by kernel_rfl) (by kernel_rfl) (λ_ _ _ h=>h) (Or.inr ⟨by rfl,rfl⟩) (by assumption) ?_;try simp only [Act.put,au]
     refine Rg.takeL (i:=11) (v:=undef) rfl (by kernel_rfl) (by kernel_rfl) (by kernel_rfl) (λ_ _ _ h=>h) (Or.inr ⟨by rfl,rfl⟩) (by assumption) ?_;try simp only [Act.put,au]
     refine aj 12 ?_;try simp only [Act.put,au]
     refine aC ?_;obtain ⟨wc,hwc⟩:=aA w6.drew
     rw [hwc] at hld;rw [hwc];have cX:=hid hld;clear hld hwc;have et:=hid (aq.out.below cX.out);have sh:=hid (cQ.out.below cX.out);have py:=hid (cM.out.below cX.out);have cr:=hid (bst bd.out cX.out);have ue:Hid (Below w5.heap.size w5 wc):=hid (aa.out.trans (cX.out.mono aa.out.size));clear cX aq cQ cM bd aa;have hcc:=aX ue.out lj.out;have k3:=aV (j:=3+d) et.out cC.out;have ma:=hid (sJ py.out 1 dj);have hne:=Ni.bZ (s:=R) (by omega);have cJ:=hid (e9.out.trans (if_neg m8));have k0:wc.cell? ⟨w5.heap.size,0,none⟩=some (.int .i64 N.kd):=aV (j:=0) et.out rfl
     have hb2:(N.kd==2)=false:=by rw [j5.out]; rfl
     have HB2:Hid (decide (N.kd=2)=false):=hid (by rw [<-hb2]; rfl);rw [HB2.out] at cJ;go_upto_region 23 with (first
      | (refine aB (jk (a:=some ⟨bq,oq,none⟩) (n:=pn) (c:=pc) (i:=1) fV iD dj ⟨_,_,rfl,rfl,rfl⟩) ?_))
     by_cases h32:R.size<32
     .have oc:decide ((R.size:Int)<32)=true:=aK (by omega);have od:decide (R.size<32)=true:=aK h32;have kf:Hid (jc l s R t us false=eU l r q0):=hid (by rw [cJ.out,if_pos h32]);go_wp2;go_roundw
      case rel=>exact ⟨s,R,t,us,false,eX (some ⟨bq,oq,none⟩) pc 1,pn-1,pc-1,by omega,by rw [<-r3]; go_num,rfl,rfl,rfl,rfl,ma,ge,hn2,m7,sg,kf,cr⟩
      case measure=>simp [intOf]; omega
     .have oc:decide ((R.size:Int)<32)=false:=decide_eq_false (by omega);have od:decide (R.size<32)=false:=decide_eq_false h32;have HS2:=hid (cJ.out.trans (if_neg h32));by_cases hu:us<ln
      .have u2:decide ((us:Int)<(ln:Int))=true:=aK (by omega);have u4:(us:Int)<(ln:Int):=by omega
       obtain ⟨bu,ou,he,XR,ua⟩:=eo.out.at' us hu;obtain ⟨rfl,rfl⟩:bu=b0/\ou=o0:=by
        have e1:=Option.some.inj he;exact ⟨(congrArg Addr.block e1).symm,(congrArg Addr.off e1).symm⟩
       have ib:=aX ap.out ua;have ua:=aX cr.out ib;have hmu:l.getD us eB∈l:=Rf.gW (by rw [cD.out]; exact hu);have hsu:=HX.out _ hmu;obtain ⟨Y,hY⟩:=aA (l.getD us eB)
       rw [hY] at ua ib hsu;have L5:=hid ib;have L6:=hid hsu;have r5:=HS2;rw [hY] at r5;have cT:=hid (λW=>GN Y hsu W);have L7:=hid (show us<l.length by rw [cD.out]; exact hu);clear ib hY hmu hsu HS2 cJ e9;by_cases hy0:Y.size=0
       .obtain rfl:=cZ hy0;have HV:Hid (sdV (eU l r q0)=sdC eB false true us):=hid (by rw [r5.out,if_neg (λh=>h.2.1 rfl)]; rfl);go_upto_region 35 with fail
        go_wp2_with (first
         | (refine aB (bC (kI us) ⟨_,rfl,rfl⟩) ?_)
         | (refine bL (H6.out.below cr.out) rfl _ _ _ _ rfl _ _ rfl rfl rfl rfl ?_; intro w9 ae af; have b8:=hid ae; have bo:=hid (af.below (ap.out.trans (Below.mono cr.out ap.out.size)) (Nat.le_succ _)); clear ae af))
        subst hQ;exact bodyPost_ret (jd (q:=6) rfl _ rfl b8.out) rfl ⟨by rw [HV.out],bo.out⟩
       .have L8:=Ni.bZ (s:=Y) (by omega);by_cases hym:ofP Y=R
        .rw [hym] at cT;have kf:Hid (jc l s Y t (us+1) false=eU l r q0):=hid (by rw [r5.out,if_pos ⟨L7.out,hy0,hym⟩]);go_wp2_with fail
         refine (cT.out wc).mono ?_;rintro e w7 ⟨rfl,cH⟩;have am:=hid (bst cr.out cH);have B3:=hid (ma.out.below cH);clear cH;have L9:=aX am.out L5.out;go_wp2_with (first
          | fail)
         go_roundw
         case rel=>exact ⟨s,Y,t,us+1,false,eX (some ⟨bq,oq,none⟩) pc 1,pn-1,pc-1,by omega,by rw [<-r3]; go_num,rfl,by go_num,rfl,rfl,B3,ge,hn2,by omega,L6,kf,am⟩
         case measure=>simp [intOf]; omega
        .have ub:=ny hym;have HV:Hid (sdV (eU l r q0)=sdC eB false true us):=hid (by rw [r5.out,if_neg (λh=>hym h.2.2)]; rfl);obtain ⟨O,hO⟩:=aA (ofP Y)
         rw [hO] at cT ub;go_wp2_with fail
         refine (cT.out wc).mono ?_;rintro e w7 ⟨rfl,cH⟩;have am:=hid (bst cr.out cH);have B3:=hid (ma.out.below cH);clear cH;go_wp2_with (first
          | (refine aB (bC (kI us) ⟨_,rfl,rfl⟩) ?_)
          | (refine bL (H6.out.below am.out) rfl _ _ _ _ rfl _ _ rfl rfl rfl rfl ?_; intro w9 ae af; have b8:=hid ae; have bo:=hid (af.below (ap.out.trans (Below.mono am.out ap.out.size)) (Nat.le_succ _)); clear ae af))
         subst hQ;exact bodyPost_ret (jd (q:=6) rfl _ rfl b8.out) rfl ⟨by rw [HV.out],bo.out⟩
      .have u2:decide ((us:Int)<(ln:Int))=false:=decide_eq_false (by omega);have u4:¬ (us:Int)<(ln:Int):=by omega
       have HV:Hid (sdV (eU l r q0)=sdC eB false true us):=hid (by rw [HS2.out,if_neg (λh=>hu (by rw [<-cD.out]; exact h.1))]; rfl);go_upto_region 35 with fail
       go_wp2_with (first
        | (refine aB (bC (kI us) ⟨_,rfl,rfl⟩) ?_)
        | (refine bL (H6.out.below cr.out) rfl _ _ _ _ rfl _ _ rfl rfl rfl rfl ?_; intro w9 ae af; have b8:=hid ae; have bo:=hid (af.below (ap.out.trans (Below.mono cr.out ap.out.size)) (Nat.le_succ _)); clear ae af))
       subst hQ;exact bodyPost_ret (jd (q:=6) rfl _ rfl b8.out) rfl ⟨by rw [HV.out],bo.out⟩
   have hend:∃ q2,onward N q=(eB,q2)/\(N.kd=1->q2=q):=by
    unfold onward;rw [if_neg hext];by_cases hk3:N.kd=3
    .rw [if_pos hk3];cases q with
     | nil=>exact ⟨[],rfl,λh=>by omega⟩
     | cons c t =>
      refine ⟨t,?_,λh=>by omega⟩;have:(N.ks.getD c.toNat eB).size=0:=Decidable.byContradiction λh=>hbr ⟨hk3,c,t,rfl,h⟩;show (N.ks.getD c.toNat eB,t)=_;rw [cZ this]
    .rw [if_neg hk3];exact ⟨q,rfl,λ_=>rfl⟩
   rcases hkd with hk1 | fs | hk3
   .have kt:(N.kd==2)=false:=by rw [hk1]; rfl
    have oa:(N.kd==3)=false:=by rw [hk1]; rfl
    have ui:(N.kd==1)=true:=by rw [hk1]; rfl
    obtain rfl:=cV (by rw [hk1]; decide);obtain ⟨q2,fw,hq2⟩:=hend;obtain rfl:=hq2 hk1;have eN:=hid fw;have e9:=hid (di.out.symm.trans (mM gO.out eM.out eN.out));clear fX cV hext es hbr fw hq2;go_wp2_with (first
     | (refine aB (aY _ _ _ w5.heap.size rfl rfl) ?_)
     | (refine bS gx.out bK N na nn nc ag.out rfl _ _ rfl rfl rfl rfl ?_; intro w6 az bh; have aq:=hid az; have aa:Hid (Below w5.heap.size w5 w6):=hid (bh.below hal aH); have bd:=hid (bst al.out aa.out); have cM:=hid (fm.out.below aa.out); have cQ:=hid (fW.out.below aa.out); have k0:w6.cell? ⟨w5.heap.size,0,none⟩=some (.int .i64 N.kd):=aV (j:=0) aq.out fS.out; clear az bh))
    refine aD (S:=λw'=>Below w6.heap.size w6 w') (aI.drew) λhld=>?_;refine aj 0 ?_;try simp only [Act.put,au]
    refine aj 1 ?_ (hy:=by intro wz hSw; (have k0:=aV (j:=0) (aq.out.below hSw) fS.out; have q1:=kt; go_simp <;> with_reducible rfl));try simp only [Act.put,au]
    refine aj 2 ?_;try simp only [Act.put,au]
    refine aj 3 ?_;try simp only [Act.put,au]
    refine Rg.takeL (i:=4) (v:=undef) rfl (by kernel_rfl) (by kernel_rfl) (by kernel_rfl) (λ_ _ _ h=>h) (Or.inr ⟨by rfl,rfl⟩) (by assumption) ?_;try simp only [Act.put,au]
    refine Rg.takeL (i:=5) (v:=undef) rfl (by kernel_rfl) (by kernel_rfl) (by kernel_rfl) (λ_ _ _ h=>h) (Or.inr ⟨by rfl,rfl⟩) (by assumption) ?_;try simp only [Act.put,au]
    refine Rg.takeL (i:=6) (v:=undef) rfl (by kernel_rfl) (by kernel_rfl) (by kernel_rfl) (λ_ _ _ h=>h) (Or.inr ⟨by rfl,rfl⟩) (by assumption) ?_;try simp only [Act.put,au]
    refine Rg.takeL (i:=7) (v:=undef) rfl (by kernel_rfl) (by kernel_rfl) (by kernel_rfl) (λ_ _ _ h=>h) (Or.inr ⟨by rfl,rfl⟩) (by assumption) ?_;try simp only [Act.put,au]
    refine Rg.takeL (i:=8) (v:=undef) rfl (by kernel_rfl) (by kernel_rfl) (by kernel_rfl) (λ_ _ _ h=>h) (Or.inr ⟨by rfl,rfl⟩) (by assumption) ?_;try simp only [Act.put,au]
    refine Rg.takeL (i:=9) (v:=undef) rfl (by kernel_rfl) (by kernel_rfl) (by kernel_rfl) (λ_ _ _ h=>h) (Or.inr ⟨by rfl,rfl⟩) (by assumption) ?_;try simp only [Act.put,au]
    refine Rg.takeL (i:=10) (v:=undef) rfl (by kernel_rfl) (by kernel_rfl) (by kernel_rfl) (λ_ _ _ h=>h) (Or.inr ⟨by rfl,rfl⟩) (by assumption) ?_;try simp only [Act.put,au]
    refine Rg.takeL (i:=11) (v:=undef) rfl (by kernel_rfl) (by kernel_rfl) (by kernel_rfl) (λ_ _ _ h=>h) (Or.inr ⟨by rfl,rfl⟩) (by assumption) ?_;try simp only [Act.put,au]
    refine aj 12 ?_;try simp only [Act.put,au]
    refine aC ?_;obtain ⟨wc,hwc⟩:=aA w6.drew
    rw [hwc] at hld;rw [hwc];have cX:=hid hld;clear hld hwc;have et:=hid (aq.out.below cX.out);have sh:=hid (cQ.out.below cX.out);have py:=hid (cM.out.below cX.out);have cr:=hid (bst bd.out cX.out);clear cX aq cQ cM bd aa;have k0:wc.cell? ⟨w5.heap.size,0,none⟩=some (.int .i64 N.kd):=aV (j:=0) et.out rfl;have kw:Hid (eU l r q0=(if us≠l.length then none else some (if N.kd=1/\N.p=q2 then some N.v else none),us)):=hid (by rw [e9.out,if_pos (show eB.size=0 from rfl)]);obtain ⟨rf,hrf⟩:=aA ((us:Int) != (ln:Int))
    have j0:Hid (rf=decide (us≠l.length)):=hid (by
     rw [<-hrf,cD.out];by_cases e:us=ln
     .simp [e]
     .have e2:¬ (us:Int)=(ln:Int):=by omega
      simp [e,e2])
    have cf:=hid (Rg.Own.new wc (sdC eB false false 0) 33);go_upto_region 24 with fail
    by_cases hpq:N.p=q2
    .have cJ:Hid (eU l r q0=(if us≠l.length then none else some (some N.v),us)):=hid (by rw [kw.out,if_pos (show N.kd=1/\N.p=q2 from ⟨hk1,hpq⟩)]);cases rf with
     | true =>
      have HV:Hid (sdV (eU l r q0)=sdC eB false true us):=hid (by rw [cJ.out,if_pos (of_decide_eq_true j0.out.symm)]; rfl);go_upto_region 25 with (first
       | (refine aB (bC (nP us true) ⟨_,rfl,rfl⟩) ?_)
       | (refine aB (dz _ _ _ wc.heap.size rfl rfl) ?_)
       | (refine bL cf.out rfl _ _ _ _ rfl _ _ rfl rfl rfl rfl ?_; intro w7 dE cE; have cN:=hid dE; have cI:Hid (Below wc.heap.size wc w7):=hid (cE.below (al1 _ _) aH); clear dE cE))
      have am:=hid (bst cr.out cI.out);clear k0;have k0:w7.cell? ⟨w5.heap.size,0,none⟩=some (.int .i64 N.kd):=aV (j:=0) (et.out.below cI.out) rfl;have kp:=aV (j:=1) (et.out.below cI.out) (iO N na nn nc);have GE:=gY (sh.out.below cI.out);have S7:=gY (py.out.below cI.out);have kr:w7.cell? ⟨wc.heap.size,2,none⟩=some (.bool true):=aV (j:=2) cN.out rfl;rw [hpq] at GE;go_upto_region 28 with fail
      go_wp2_with (first
       | (refine aB (iA cN.out ⟨_,rfl,rfl⟩) ?_)
       | (refine bL (H6.out.below am.out) rfl _ _ _ _ rfl _ _ rfl rfl rfl rfl ?_; intro w9 ae af; have b8:=hid ae; have bo:=hid (af.below (ap.out.trans (am.out.mono ap.out.size)) (Nat.le_succ _)); clear ae af))
      subst hQ;exact bodyPost_ret (jd (q:=6) rfl _ rfl b8.out) rfl ⟨by rw [HV.out],bo.out⟩
     | false =>
      have HV:Hid (sdV (eU l r q0)=sdC N.v true false us):=hid (by rw [cJ.out,if_neg (of_decide_eq_false j0.out.symm)]; rfl);go_upto_region 25 with (first
       | (refine aB (bC (nP us false) ⟨_,rfl,rfl⟩) ?_)
       | (refine aB (dz _ _ _ wc.heap.size rfl rfl) ?_)
       | (refine bL cf.out rfl _ _ _ _ rfl _ _ rfl rfl rfl rfl ?_; intro w7 dE cE; have cN:=hid dE; have cI:Hid (Below wc.heap.size wc w7):=hid (cE.below (al1 _ _) aH); clear dE cE))
      have am:=hid (bst cr.out cI.out);clear k0;have k0:w7.cell? ⟨w5.heap.size,0,none⟩=some (.int .i64 N.kd):=aV (j:=0) (et.out.below cI.out) rfl;have kp:=aV (j:=1) (et.out.below cI.out) (iO N na nn nc);have GE:=gY (sh.out.below cI.out);have S7:=gY (py.out.below cI.out);have kr:w7.cell? ⟨wc.heap.size,2,none⟩=some (.bool false):=aV (j:=2) cN.out rfl;rw [hpq] at GE;have kv:=aV (j:=2) (et.out.below cI.out) (DZ N na nn nc);obtain ⟨w8,hw8⟩:=aA (w7.setCell ⟨wc.heap.size,1,none⟩ (.bool true))
      have cU:Hid (Rg.Own w8 wc.heap.size (sdC eB true false us) 33):=hid (by rw [<-hw8]; exact cO (o:=1) cN.out (.bool true));have j3:Rg.Upd w7 wc.heap.size w8:=by rw [<-hw8]; exact bQ _ _ _ _
      have Zj:=aV (j:=2) ((et.out.below cI.out).upd j3 (Nat.ne_of_lt et.out.1)) (DZ N na nn nc);obtain ⟨wx,hwx⟩:=aA (w8.setCell ⟨wc.heap.size,0,none⟩ (.string N.v))
      have XS:Hid (Rg.Own wx wc.heap.size (sdC N.v true false us) 33):=hid (by rw [<-hwx]; exact cO (o:=0) cU.out (.string N.v));have S8:Rg.Upd w8 wc.heap.size wx:=by rw [<-hwx]; exact bQ _ _ _ _
      have mz:=hid (bst cr.out (S8.below (j3.below cI.out aH) aH));have yk:=hid hw8;have XT:=hid hwx;clear hw8 hwx j3 S8 kv;go_upto_region 27 with (first
       | (refine rX rfl _ (wm (off:=1) cN.out (show 1<4 by decide) true ⟨_,_,rfl,rfl,rfl⟩) ?_; rw [yk.out]))
      go_upto_region 28 with (first
       | (refine rX rfl _ (Cm (off:=0) cU.out (show 0<4 by decide) N.v ⟨_,_,rfl,rfl,rfl⟩) ?_; rw [XT.out]))
      go_wp2_with (first
       | (refine aB (iA XS.out ⟨_,rfl,rfl⟩) ?_)
       | (refine bL (H6.out.below mz.out) rfl _ _ _ _ rfl _ _ rfl rfl rfl rfl ?_; intro w9 ae af; have b8:=hid ae; have bo:=hid (af.below (ap.out.trans (mz.out.mono ap.out.size)) (Nat.le_succ _)); clear ae af))
      subst hQ;exact bodyPost_ret (jd (q:=6) rfl _ rfl b8.out) rfl ⟨by rw [HV.out],bo.out⟩
    .have hne2:=ny (show (⟨N.p.toArray⟩:aM)≠⟨q2.toArray⟩ from λe=>hpq (by
      injection e with e;have:=congrArg Array.toList e;simpa using this))
     have HV:Hid (sdV (eU l r q0)=sdC eB false rf us):=hid (by
      rw [kw.out,if_neg (show ¬ (N.kd=1/\N.p=q2) from λh=>hpq h.2)];by_cases e:us≠l.length
      .rw [if_pos e,j0.out,aK e]; rfl
      .rw [if_neg e,j0.out,decide_eq_false e]; rfl)
     go_upto_region 25 with (first
      | (refine aB (bC (nP us rf) ⟨_,rfl,rfl⟩) ?_)
      | (refine aB (dz _ _ _ wc.heap.size rfl rfl) ?_)
      | (refine bL cf.out rfl _ _ _ _ rfl _ _ rfl rfl rfl rfl ?_; intro w7 dE cE; have cN:=hid dE; have cI:Hid (Below wc.heap.size wc w7):=hid (cE.below (al1 _ _) aH); clear dE cE))
     have am:=hid (bst cr.out cI.out);clear k0;have k0:w7.cell? ⟨w5.heap.size,0,none⟩=some (.int .i64 N.kd):=aV (j:=0) (et.out.below cI.out) rfl;have kp:=aV (j:=1) (et.out.below cI.out) (iO N na nn nc);have GE:=gY (sh.out.below cI.out);have S7:=gY (py.out.below cI.out);have kr:w7.cell? ⟨wc.heap.size,2,none⟩=some (.bool rf):=aV (j:=2) cN.out rfl;go_upto_region 28 with fail
     go_wp2_with (first
      | (refine aB (iA cN.out ⟨_,rfl,rfl⟩) ?_)
      | (refine bL (H6.out.below am.out) rfl _ _ _ _ rfl _ _ rfl rfl rfl rfl ?_; intro w9 ae af; have b8:=hid ae; have bo:=hid (af.below (ap.out.trans (am.out.mono ap.out.size)) (Nat.le_succ _)); clear ae af))
     subst hQ;exact bodyPost_ret (jd (q:=6) rfl _ rfl b8.out) rfl ⟨by rw [HV.out],bo.out⟩
   .have hk1:¬ N.kd=1:=by rw [fs]; decide
    have da:Hid ((ndC N na nn nc)[0]? = some (.int .i64 2)):=hid (by rw [<-fs]; rfl);have oa:(N.kd==3)=false:=by rw [fs]; rfl
    obtain rfl:=cV (by rw [fs]; decide);obtain ⟨q2,fw,_⟩:=hend;have eN:=hid fw;have e9:=hid (di.out.symm.trans (mM gO.out eM.out eN.out));go_wp2_with (first
     | (refine aB (aY _ _ _ w5.heap.size rfl rfl) ?_)
     | (refine bS gx.out bK N na nn nc ag.out rfl _ _ rfl rfl rfl rfl ?_; intro w6 az bh; have aq:=hid az; have aa:Hid (Below w5.heap.size w5 w6):=hid (bh.below hal aH); have bd:=hid (bst al.out aa.out); have cM:=hid (fm.out.below aa.out); have cQ:=hid (fW.out.below aa.out); have k0:w6.cell? ⟨w5.heap.size,0,none⟩=some (.int .i64 N.kd):=aV (j:=0) aq.out fS.out; clear az bh))
    obtain ⟨cn,hcn⟩:=aA (iV N.p q)
    have hcp:cn=nn↔N.p<+:q:=by rw [<-hcn,sD,<-hpl]; exact wT.symm
    have GC:Hid (∀ W,Below w6.heap.size w6 W->Calls prog 26 #[.slice na nn nc,.slice pa pn pc] W λe w'=>e = .returned (.int .i64 (cn:Nat))/\∃ m,w'=W.drewN m):=hid (λW hb=>by
     have:=xU na pa nn pn nc pc N.p q (by omega) (by omega) W (cQ.out.below hb) (cM.out.below hb);rw [hcn] at this;exact this)
    have r4:¬ cn=nn:=λe=>hext ⟨fs,hcp.1 e⟩;have hcb:((cn:Int)==(nn:Int))=false:=by
     have:¬ (cn:Int)=(nn:Int):=by omega
     simp [this]
    clear fX cV hext es hbr fw hcn hcp fs;refine aD (S:=λw'=>Below w6.heap.size w6 w') (aI.drew) λhld=>?_;refine aj 0 ?_;try simp only [Act.put,au]
    refine aj 1 ?_ (hy:=by intro wz hSw; (have k0:=aV (j:=0) (aq.out.below hSw) da.out; go_simp <;> with_reducible rfl));try simp only [Act.put,au]
    refine aj 2 ?_;try simp only [Act.put,au]
    refine aj 3 ?_;try simp only [Act.put,au]
    refine aj 4 ?_;try simp only [Act.put,au]
    refine aj 5 ?_ (hy:=by intro wz hSw; (have k1:=aV (j:=1) (aq.out.below hSw) (iO N na nn nc); go_simp <;> with_reducible rfl));try simp only [Act.put,au]
    refine aj 6 ?_;try simp only [Act.put,au]
    refine aj 8 ?_;try simp only [Act.put,au]
    refine aj 9 ?_ (hy:=by intro wz hSw; (have k1:=aV (j:=1) (aq.out.below hSw) (iO N na nn nc); go_simp <;> with_reducible rfl));try simp only [Act.put,au]
    refine aj 10 ?_;try simp only [Act.put,au]
    refine ak 7 λK hK=>?_;go_simp;go_at_call 26
    (with_reducible refine (GC.out _ hld).mono ?_)
    rintro e y1 ⟨rfl,m9,hbx⟩;have hby:=below_drewN hld m9;rw [<-hbx] at hby;clear hbx;refine hK.out _ _ (hby) λhld=>?_;clear hK K hby;try simp only [Act.put,au]
    refine aj 11 ?_ (hy:=by intro wz hSw; (have q2:=hcb; have q3:=r4; go_simp <;> with_reducible rfl));try simp only [Act.put,au]
    refine aj 12 ?_;try simp only [Act.put,au]
    refine aC ?_;obtain ⟨wc,hwc⟩:=aA y1
    rw [hwc] at hld;rw [hwc];have cX:=hid hld;clear hld hwc;have et:=hid (aq.out.below cX.out);have sh:=hid (cQ.out.below cX.out);have py:=hid (cM.out.below cX.out);have cr:=hid (bst bd.out cX.out);clear cX aq cQ cM bd aa;have ui:(N.kd==1)=false:=by simpa using hk1
    have k0:wc.cell? ⟨w5.heap.size,0,none⟩=some (.int .i64 N.kd):=aV (j:=0) et.out rfl;have kw:Hid (eU l r q0=(if us≠l.length then none else some (if N.kd=1/\N.p=q2 then some N.v else none),us)):=hid (by rw [e9.out,if_pos (show eB.size=0 from rfl)]);obtain ⟨rf,hrf⟩:=aA ((us:Int) != (ln:Int))
    have j0:Hid (rf=decide (us≠l.length)):=hid (by
     rw [<-hrf,cD.out];by_cases e:us=ln
     .simp [e]
     .have e2:¬ (us:Int)=(ln:Int):=by omega
      simp [e,e2])
    have cf:=hid (Rg.Own.new wc (sdC eB false false 0) 33);go_upto_region 24 with fail
    have HV:Hid (sdV (eU l r q0)=sdC eB false rf us):=hid (by
     rw [kw.out,if_neg (show ¬ (N.kd=1/\N.p=q2) from λh=>hk1 h.1)];by_cases e:us≠l.length
     .rw [if_pos e,j0.out,aK e]; rfl
     .rw [if_neg e,j0.out,decide_eq_false e]; rfl)
    go_upto_region 25 with (first
     | (refine aB (bC (nP us rf) ⟨_,rfl,rfl⟩) ?_)
     | (refine aB (dz _ _ _ wc.heap.size rfl rfl) ?_)
     | (refine bL cf.out rfl _ _ _ _ rfl _ _ rfl rfl rfl rfl ?_; intro w7 dE cE; have cN:=hid dE; have cI:Hid (Below wc.heap.size wc w7):=hid (cE.below (al1 _ _) aH); clear dE cE))
    have am:=hid (bst cr.out cI.out);clear k0;have k0:w7.cell? ⟨w5.heap.size,0,none⟩=some (.int .i64 N.kd):=aV (j:=0) (et.out.below cI.out) rfl;go_upto_region 28 with fail
    go_wp2_with (first
     | (refine aB (iA cN.out ⟨_,rfl,rfl⟩) ?_)
     | (refine bL (H6.out.below am.out) rfl _ _ _ _ rfl _ _ rfl rfl rfl rfl ?_; intro w9 ae af; have b8:=hid ae; have bo:=hid (af.below (ap.out.trans (am.out.mono ap.out.size)) (Nat.le_succ _)); clear ae af))
    subst hQ;exact bodyPost_ret (jd (q:=6) rfl _ rfl b8.out) rfl ⟨by rw [HV.out],bo.out⟩
   .cases q with
    | nil =>
     have hk1:¬ N.kd=1:=by rw [hk3]; decide
     have oa:(N.kd==3)=true:=by rw [hk3]; rfl
     have kt:(N.kd==2)=false:=by rw [hk3]; rfl
     have B4:(N.kd != 3)=false:=by rw [hk3]; rfl
     obtain ⟨q2,fw,_⟩:=hend;have eN:=hid fw;have e9:=hid (di.out.symm.trans (mM gO.out eM.out eN.out));obtain rfl:pn=0:=by have:=es.len; simpa using this.symm
     clear fX cV hext es hbr fw hk3;cases b;all_goals
      go_wp2_with (first
       | (refine aB (aY _ _ _ w5.heap.size rfl rfl) ?_)
       | (refine bS gx.out bK N na nn nc ag.out rfl _ _ rfl rfl rfl rfl ?_; intro w6 az bh; have aq:=hid az; have aa:Hid (Below w5.heap.size w5 w6):=hid (bh.below hal aH); have bd:=hid (bst al.out aa.out); have cM:=hid (fm.out.below aa.out); have cQ:=hid (fW.out.below aa.out); have k0:w6.cell? ⟨w5.heap.size,0,none⟩=some (.int .i64 N.kd):=aV (j:=0) aq.out fS.out; clear az bh))
      refine aD (S:=λw'=>Below w6.heap.size w6 w') (aI.drew) λhld=>?_;refine aj 0 ?_;try simp only [Act.put,au]
      refine aj 1 ?_ (hy:=by intro wz hSw; (have k0:=aV (j:=0) (aq.out.below hSw) fS.out; have q1:=kt; go_simp <;> with_reducible rfl));try simp only [Act.put,au]
      refine aj 2 ?_;try simp only [Act.put,au]
      refine aj 3 ?_;try simp only [Act.put,au]
      refine Rg.takeL (i:=4) (v:=undef) rfl (by kernel_rfl) (by kernel_rfl) (by kernel_rfl) (λ_ _ _ h=>h) (Or.inr ⟨by rfl,rfl⟩) (by assumption) ?_;try simp only [Act.put,au]
      refine Rg.takeL (i:=5) (v:=undef) rfl (by kernel_rfl) (by kernel_rfl) (by kernel_rfl) (λ_ _ _ h=>h) (Or.inr ⟨by rfl,rfl⟩) (by assumption) ?_;try simp only [Act.put,au]
      refine Rg.takeL (i:=6) (v:=undef) rfl (by kernel_rfl) (by kernel_rfl) (by kernel_rfl) (λ_ _ _ h=>h) (Or.inr ⟨by rfl,rfl⟩) (by assumption) ?_;try simp only [Act.put,au]
      refine Rg.takeL (i:=7) (v:=undef) rfl (by kernel_rfl) (by kernel_rfl) (by kernel_rfl) (λ_ _ _ h=>h) (Or.inr ⟨by rfl,rfl⟩) (by assumption) ?_;try simp only [Act.put,au]
      refine Rg.takeL (i:=8) (v:=undef) rfl (by kernel_rfl) (by kernel_rfl) (by kernel_rfl) (λ_ _ _ h=>h) (Or.inr ⟨by rfl,rfl⟩) (by assumption) ?_;try simp only [Act.put,au]
      refine Rg.takeL (i:=9) (v:=undef) rfl (by kernel_rfl) (by kernel_rfl) (by kernel_rfl) (λ_ _ _ h=>h) (Or.inr ⟨by rfl,rfl⟩) (by assumption) ?_;try simp only [Act.put,au]
      refine Rg.takeL (i:=10) (v:=undef) rfl (by kernel_rfl) (by kernel_rfl) (by kernel_rfl) (λ_ _ _ h=>h) (Or.inr ⟨by rfl,rfl⟩) (by assumption) ?_;try simp only [Act.put,au]
      refine Rg.takeL (i:=11) (v:=undef) rfl (by kernel_rfl) (by kernel_rfl) (by kernel_rfl) (λ_ _ _ h=>h) (Or.inr ⟨by rfl,rfl⟩) (by assumption) ?_;try simp only [Act.put,au]
      refine aj 12 ?_;try simp only [Act.put,au]
      refine aC ?_;obtain ⟨wc,hwc⟩:=aA w6.drew
      rw [hwc] at hld;rw [hwc];have cX:=hid hld;clear hld hwc;have et:=hid (aq.out.below cX.out);have sh:=hid (cQ.out.below cX.out);have py:=hid (cM.out.below cX.out);have cr:=hid (bst bd.out cX.out);clear cX aq cQ cM bd aa;have ui:(N.kd==1)=false:=by simpa using hk1
      have k0:wc.cell? ⟨w5.heap.size,0,none⟩=some (.int .i64 N.kd):=aV (j:=0) et.out rfl;have kw:Hid (eU l r q0=(if us≠l.length then none else some (if N.kd=1/\N.p=q2 then some N.v else none),us)):=hid (by rw [e9.out,if_pos (show eB.size=0 from rfl)]);obtain ⟨rf,hrf⟩:=aA ((us:Int) != (ln:Int))
      have j0:Hid (rf=decide (us≠l.length)):=hid (by
       rw [<-hrf,cD.out];by_cases e:us=ln
       .simp [e]
       .have e2:¬ (us:Int)=(ln:Int):=by omega
        simp [e,e2])
      have cf:=hid (Rg.Own.new wc (sdC eB false false 0) 33);go_upto_region 24 with fail
      have HV:Hid (sdV (eU l r q0)=sdC eB false rf us):=hid (by
       rw [kw.out,if_neg (show ¬ (N.kd=1/\N.p=q2) from λh=>hk1 h.1)];by_cases e:us≠l.length
       .rw [if_pos e,j0.out,aK e]; rfl
       .rw [if_neg e,j0.out,decide_eq_false e]; rfl)
      go_upto_region 25 with (first
       | (refine aB (bC (nP us rf) ⟨_,rfl,rfl⟩) ?_)
       | (refine aB (dz _ _ _ wc.heap.size rfl rfl) ?_)
       | (refine bL cf.out rfl _ _ _ _ rfl _ _ rfl rfl rfl rfl ?_; intro w7 dE cE; have cN:=hid dE; have cI:Hid (Below wc.heap.size wc w7):=hid (cE.below (al1 _ _) aH); clear dE cE))
      have am:=hid (bst cr.out cI.out);clear k0;have k0:w7.cell? ⟨w5.heap.size,0,none⟩=some (.int .i64 N.kd):=aV (j:=0) (et.out.below cI.out) rfl;go_upto_region 28 with fail
      go_wp2_with (first
       | (refine aB (iA cN.out ⟨_,rfl,rfl⟩) ?_)
       | (refine bL (H6.out.below am.out) rfl _ _ _ _ rfl _ _ rfl rfl rfl rfl ?_; intro w9 ae af; have b8:=hid ae; have bo:=hid (af.below (ap.out.trans (am.out.mono ap.out.size)) (Nat.le_succ _)); clear ae af))
      subst hQ;exact bodyPost_ret (jd (q:=6) rfl _ rfl b8.out) rfl ⟨by rw [HV.out],bo.out⟩
    | cons c t =>
     have hk1:¬ N.kd=1:=by rw [hk3]; decide
     have oa:(N.kd==3)=true:=by rw [hk3]; rfl
     have kt:(N.kd==2)=false:=by rw [hk3]; rfl
     have B4:(N.kd != 3)=false:=by rw [hk3]; rfl
     obtain ⟨q2,fw,_⟩:=hend;have eN:=hid fw;have e9:=hid (di.out.symm.trans (mM gO.out eM.out eN.out));have B5:(N.ks.getD c.toNat eB).size=0:=Decidable.byContradiction λh=>hbr ⟨hk3,c,t,rfl,h⟩;have hc16:c.toNat<16:=qT.out c List.mem_cons_self;have cC:Hid ((ndC N na nn nc)[3+c.toNat]? = some (.string (N.ks.getD c.toNat eB))):=hid (sI N na nn nc hc16 ag.out);rw [cZ B5] at cC;obtain ⟨bq,oq,rfl,hbq,hcq⟩:=es.at' 0 (by have:=es.len; have:(c::t).length=pn:=this; simp at this; omega)
     have uc:t.length+1=pn:=by have:=es.len; simpa using this
     have hcq:w5.cell? ⟨bq,oq,none⟩=some (.int .u8 c.toNat):=by simpa using hcq
     obtain ⟨d,hd⟩:=aA c.toNat
     rw [hd] at cC hcq hc16;have lj:=hid hcq;have oe:(0:Int)<pn:=by omega
     have dj:0<pn:=by omega
     have ud:decide (0<pn)=true:=aK dj;have hdi:(d:Int)<16:=by omega
     have hd0:(0:Int)<=d:=by omega
     have hdn:d<16:=hc16;clear B5 hd fX cV hk3 hext es hbq hcq hbr fw;cases b;all_goals
      go_wp2_with (first
       | (refine aB (aY _ _ _ w5.heap.size rfl rfl) ?_)
       | (refine bS gx.out bK N na nn nc ag.out rfl _ _ rfl rfl rfl rfl ?_; intro w6 az bh; have aq:=hid az; have aa:Hid (Below w5.heap.size w5 w6):=hid (bh.below hal aH); have bd:=hid (bst al.out aa.out); have cM:=hid (fm.out.below aa.out); have cQ:=hid (fW.out.below aa.out); have k0:w6.cell? ⟨w5.heap.size,0,none⟩=some (.int .i64 N.kd):=aV (j:=0) aq.out fS.out; clear az bh))
      refine aD (S:=λw'=>Below w6.heap.size w6 w') (aI.drew) λhld=>?_;refine aj 0 ?_;try simp only [Act.put,au]
      refine aj 1 ?_ (hy:=by intro wz hSw; (have k0:=aV (j:=0) (aq.out.below hSw) fS.out; have q1:=kt; go_simp <;> with_reducible rfl));try simp only [Act.put,au]
      refine aj 2 ?_;try simp only [Act.put,au]
      refine aj 3 ?_;try simp only [Act.put,au]
      refine Rg.takeL (i:=4) (v:=undef) rfl (by kernel_rfl) (by kernel_rfl) (by kernel_rfl) (λ_ _ _ h=>h) (Or.inr ⟨by rfl,rfl⟩) (by assumption) ?_;try simp only [Act.put,au]
      refine Rg.takeL (i:=5) (v:=undef) rfl (by kernel_rfl) (by kernel_rfl) (by kernel_rfl) (λ_ _ _ h=>h) (Or.inr ⟨by rfl,rfl⟩) (by assumption) ?_;try simp only [Act.put,au]
      refine Rg.takeL (i:=6) (v:=undef) rfl (by kernel_rfl) (by kernel_rfl) (by kernel_rfl) (λ_ _ _ h=>h) (Or.inr ⟨by rfl,rfl⟩) (by assumption) ?_;try simp only [Act.put,au]
      refine Rg.takeL (i:=7) (v:=undef) rfl (by kernel_rfl) (by kernel_rfl) (by kernel_rfl) (λ_ _ _ h=>h) (Or.inr ⟨by rfl,rfl⟩) (by assumption) ?_;try simp only [Act.put,au]
      refine Rg.takeL (i:=8) (v:=undef) rfl (by kernel_rfl) (by kernel_rfl) (by kernel_rfl) (λ_ _ _ h=>h) (Or.inr ⟨by rfl,rfl⟩) (by assumption) ?_;try simp only [Act.put,au]
      refine Rg.takeL (i:=9) (v:=undef) rfl (by kernel_rfl) (by kernel_rfl) (by kernel_rfl) (λ_ _ _ h=>h) (Or.inr ⟨by rfl,rfl⟩) (by assumption) ?_;try simp only [Act.put,au]
      refine Rg.takeL (i:=10) (v:=undef) rfl (by kernel_rfl) (by kernel_rfl) (by kernel_rfl) (λ_ _ _ h=>h) (Or.inr ⟨by rfl,rfl⟩) (by assumption) ?_;try simp only [Act.put,au]
      refine Rg.takeL (i:=11) (v:=undef) rfl (by kernel_rfl) (by kernel_rfl) (by kernel_rfl) (λ_ _ _ h=>h) (Or.inr ⟨by rfl,rfl⟩) (by assumption) ?_;try simp only [Act.put,au]
      refine aj 12 ?_;try simp only [Act.put,au]
      refine aC ?_;obtain ⟨wc,hwc⟩:=aA w6.drew
      rw [hwc] at hld;rw [hwc];have cX:=hid hld;clear hld hwc;have et:=hid (aq.out.below cX.out);have sh:=hid (cQ.out.below cX.out);have py:=hid (cM.out.below cX.out);have cr:=hid (bst bd.out cX.out);have ue:Hid (Below w5.heap.size w5 wc):=hid (aa.out.trans (cX.out.mono aa.out.size));clear cX aq cQ cM bd aa;have hcc:=aX ue.out lj.out;have k3:=aV (j:=3+d) et.out cC.out;have ui:(N.kd==1)=false:=by simpa using hk1
      have k0:wc.cell? ⟨w5.heap.size,0,none⟩=some (.int .i64 N.kd):=aV (j:=0) et.out rfl;have kw:Hid (eU l r q0=(if us≠l.length then none else some (if N.kd=1/\N.p=q2 then some N.v else none),us)):=hid (by rw [e9.out,if_pos (show eB.size=0 from rfl)]);obtain ⟨rf,hrf⟩:=aA ((us:Int) != (ln:Int))
      have j0:Hid (rf=decide (us≠l.length)):=hid (by
       rw [<-hrf,cD.out];by_cases e:us=ln
       .simp [e]
       .have e2:¬ (us:Int)=(ln:Int):=by omega
        simp [e,e2])
      have cf:=hid (Rg.Own.new wc (sdC eB false false 0) 33);go_upto_region 24 with (first
       | (refine aB (jk (a:=some ⟨bq,oq,none⟩) (n:=pn) (c:=pc) (i:=1) fV iD dj ⟨_,_,rfl,rfl,rfl⟩) ?_))
      have HV:Hid (sdV (eU l r q0)=sdC eB false rf us):=hid (by
       rw [kw.out,if_neg (show ¬ (N.kd=1/\N.p=q2) from λh=>hk1 h.1)];by_cases e:us≠l.length
       .rw [if_pos e,j0.out,aK e]; rfl
       .rw [if_neg e,j0.out,decide_eq_false e]; rfl)
      go_upto_region 25 with (first
       | (refine aB (bC (nP us rf) ⟨_,rfl,rfl⟩) ?_)
       | (refine aB (dz _ _ _ wc.heap.size rfl rfl) ?_)
       | (refine bL cf.out rfl _ _ _ _ rfl _ _ rfl rfl rfl rfl ?_; intro w7 dE cE; have cN:=hid dE; have cI:Hid (Below wc.heap.size wc w7):=hid (cE.below (al1 _ _) aH); clear dE cE))
      have am:=hid (bst cr.out cI.out);clear k0;have k0:w7.cell? ⟨w5.heap.size,0,none⟩=some (.int .i64 N.kd):=aV (j:=0) (et.out.below cI.out) rfl;go_upto_region 28 with fail
      go_wp2_with (first
       | (refine aB (iA cN.out ⟨_,rfl,rfl⟩) ?_)
       | (refine bL (H6.out.below am.out) rfl _ _ _ _ rfl _ _ rfl rfl rfl rfl ?_; intro w9 ae af; have b8:=hid ae; have bo:=hid (af.below (ap.out.trans (am.out.mono ap.out.size)) (Nat.le_succ _)); clear ae af))
      subst hQ;exact bodyPost_ret (jd (q:=6) rfl _ rfl b8.out) rfl ⟨by rw [HV.out],bo.out⟩
end Tm
end
end Go.Proofs.YtokaiemgjngcoaaGreatDoor
