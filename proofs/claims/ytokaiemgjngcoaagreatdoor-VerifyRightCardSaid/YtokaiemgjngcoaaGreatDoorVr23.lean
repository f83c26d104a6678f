/-
 The contract of verify.follow, of any texts.
-/
import Derived.Test.YtokaiemgjngcoaaGreatDoorVr22
open Go.Lib (hid)
open Go.Proofs.Tryz
set_option linter.unusedSimpArgs false
set_option linter.unusedVariables false
set_option maxHeartbeats 40000000
set_option maxRecDepth 100000
namespace Go.Proofs.YtokaiemgjngcoaaGreatDoor
section
open Go.RowKit
namespace Tm
open Tr Ni Pk Ky No Rf Rl
open Sm (Tab)
theorem vV (l:List aM) (hx:∀ s∈l,s.size<=900000) (la:aL) (ln lc:Nat) (r k:aN) (hr:r.length=32) (hk:k.length=32) (w:World) (hl:kW w la ln lc l) (h1k:ln<=1000) (hT:Tab w) :
  Calls prog 23 #[.agg (Sm.kc r),.agg (kc k),.slice la ln lc] w (Ve w (nK l r (bE k))):=by
 have fd:=hid hr;have cf:=hid hk;have dE:=hid hl;have HX:=hid hx;have m6:=hid hT;have hln:=hl.len;have kq:=hid hln;obtain ⟨w1,hw1⟩:=ay (((w.alloc (.cells (Sm.kc r) 23)).alloc (.cells (kc k) 24)).alloc (.cells (vdC eB false 0 false) 62))
 have hb1:Below w.heap.size w w1:=by rw [hw1]; exact bst (al2 _ _ _) (al1 _ _)
 have hs1:w1.heap.size=w.heap.size+3:=by rw [hw1]; simp
 have hS1:Rg.Own w1 w.heap.size (Sm.kc r) 23:=by rw [hw1]; exact (Rg.Own.new _ _ _).below (al2 _ _ _)
 have hK1:Rg.Own w1 (w.heap.size+1) (kc k) 24:=by
  have:=(Rg.Own.new (w.alloc (.cells (Sm.kc r) 23)) (kc k) 24).below (al1 _ (.cells (vdC eB false 0 false) 62));rw [hw1];simpa using this
 have am:Rg.Own w1 (w.heap.size+2) (vdC eB false 0 false) 62:=by
  have:=Rg.Own.new ((w.alloc (.cells (Sm.kc r) 23)).alloc (.cells (kc k) 24)) (vdC eB false 0 false) 62;rw [hw1];simpa using this
 have HB1:=hid hb1;have cE:=hid hS1;have cz:=hid hK1;have de:=hid am;have HW:Hid (_=_):=hid hw1;obtain ⟨C,hC⟩:=aA (kc k)
 have HC:=hid hC;rw [hC];rw [hC] at HW cz;clear hb1 hS1 hK1 am hw1 hr hl hx hC;by_cases h0:ln=0
 .have hq0:((ln:Int)==0)=true:=by simp [h0]
  have ro:Hid (∀ W,Below w.heap.size w W->Calls prog 33 #[.string eB] W λe w'=>e = .returned (.agg (Sm.kc (fC eB)))/\Below W.heap.size W w'):=hid (λW hb=>zA eB (Nat.zero_le _) W (m6.out.below hb m6.out.pos));have rp:=hid (iN eB);have HV:Hid (Says (nK l r (bE k)) (vdC eB false 0 (decide (r=fC eB)))):=hid (by
   unfold nK;rw [if_pos (by omega)];by_cases e:r=fC eB
   .rw [if_pos e,aK e]; rfl
   .rw [if_neg e,decide_eq_false e]; exact ⟨_,_,rfl⟩)
  obtain ⟨S,hS⟩:=aA (nK l r (bE k))
  rw [hS] at HV;rw [hS];obtain ⟨Z,hZ⟩:=aA (fC eB)
  rw [hZ] at ro rp HV;obtain ⟨X,hX⟩:=aA (decide (r=Z))
  have sR:=hid hX;rw [hX] at HV;clear hS hZ hX hT;go_enter func23,ntmps23;go_wp2_with (first
   | (refine aB (dN _ _ _ (w.heap.size+2) (by simp) rfl) ?_; rw [<-HW.out]))
  go_step3
  go_wp2_with fail
  refine aD (S:=λw'=>Rg.Own w' w.heap.size (Sm.kc r) 23/\(∃ c,Rg.Own w' (w.heap.size+2) c 62/\c.size=4)/\Below w.heap.size w w') (⟨cE.out.drew,⟨_,de.out.drew,rfl⟩,HB1.out.drew⟩) λhld=>?_;refine aj 0 ?_ (hy:=by intro wz hSw; (refine Sm.fJ _ _ _ w.heap.size r fd.out ?_ hSw.1; exact ⟨_,rfl,rfl⟩));try simp only [Act.put,au]
  refine ak 1 λK hK=>?_;go_simp;go_at_call 33
  (with_reducible refine (ro.out _ hld.2.2).mono ?_)
  rintro e y1 ⟨rfl,hbx⟩;refine hK.out _ _ (⟨hld.1.below hbx,(by obtain ⟨c,h1,h2⟩:=hld.2.1; exact ⟨c,h1.below hbx,h2⟩),hld.2.2.trans (hbx.mono hld.2.2.size)⟩) λhld=>?_;clear hK K hbx;try simp only [Act.put,au]
  refine aj 2 ?_ (hy:=by intro wz hSw; (refine CZ fd.out rp.out sR.out ?_; exact ⟨_,_,_,rfl,rfl,rfl⟩));try simp only [Act.put,au]
  refine aj 3 ?_ (hy:=by intro wz hSw; (refine bM (KZ X) ?_; exact ⟨_,rfl,rfl⟩));try simp only [Act.put,au]
  refine ak 4 λK hK=>?_;obtain ⟨c6,h6,L4⟩:=hld.2.1;refine Rg.meetStore (by rfl) h6 62 (vdC eB false 0 X) ⟨_,_,rfl,rfl,rfl⟩ Db L4 (Jh _ _ _ _) ?_;intro w9 aw ba;have lE:=hld.1.upd ba (by omega);have cF:=hid (ba.below hld.2.2 (by omega));have cc:=hid aw;clear h6 L4 ba aw;refine hK.out _ _ (⟨lE,⟨_,cc.out,rfl⟩,cF.out⟩) λhld=>?_;clear hK K lE;try simp only [Act.put,au]
  refine aC ?_;clear hld;go_wp2;exact bodyPost_ret (ji (q:=6) rfl _ rfl cc.out) rfl ⟨_,rfl,HV.out,cF.out⟩
 have hq0:((ln:Int)==0)=false:=by simp [h0]
 have F2:(0:Int)<ln:=by omega
 have xo:0<ln:=by omega
 by_cases D7:70<ln
 .have rq:decide ((70:Int)<(ln:Int))=true:=aK (by omega);have rr:decide (70<ln)=true:=aK D7;have HV:Hid (Says (nK l r (bE k)) (vdC eB false 0 false)):=hid (by
   unfold nK;rw [if_neg (by omega),if_pos (by omega)];exact ⟨_,_,rfl⟩)
  obtain ⟨S,hS⟩:=aA (nK l r (bE k))
  rw [hS] at HV;rw [hS];clear hS hT;go_enter func23,ntmps23;go_wp2_with (first
   | (refine aB (dN _ _ _ (w.heap.size+2) (by simp) rfl) ?_; rw [<-HW.out]))
  go_step3
  go_wp2_with fail
  refine aD (S:=λw'=>Below w1.heap.size w1 w') (aI.drew) λhld=>?_;refine aj 0 ?_;try simp only [Act.put,au]
  refine aj 1 ?_;try simp only [Act.put,au]
  refine aj 2 ?_ (hy:=by intro wz hSw; (have q0:=rq; have q1:=rr; go_simp <;> with_reducible rfl));try simp only [Act.put,au]
  refine aj 3 ?_;try simp only [Act.put,au]
  refine Rg.takeL (i:=4) (v:=undef) rfl (by kernel_rfl) (by kernel_rfl) (by kernel_rfl) (λ_ _ _ h=>h) (Or.inr ⟨by rfl,rfl⟩) (by assumption) ?_;try simp only [Act.put,au]
  refine Rg.takeL (i:=5) (v:=undef) rfl (by kernel_rfl) (by kernel_rfl) (by kernel_rfl) (λ_ _ _ h=>h) (Or.inr ⟨by rfl,rfl⟩) (by assumption) ?_;try simp only [Act.put,au]
  refine Rg.takeL (i:=6) (v:=undef) rfl (by kernel_rfl) (by kernel_rfl) (by kernel_rfl) (λ_ _ _ h=>h) (Or.inr ⟨by rfl,rfl⟩) (by assumption) ?_;try simp only [Act.put,au]
  refine Rg.takeL (i:=7) (v:=undef) rfl (by kernel_rfl) (by kernel_rfl) (by kernel_rfl) (λ_ _ _ h=>h) (Or.inr ⟨by rfl,rfl⟩) (by assumption) ?_;try simp only [Act.put,au]
  refine Rg.takeL (i:=8) (v:=undef) rfl (by kernel_rfl) (by kernel_rfl) (by kernel_rfl) (λ_ _ _ h=>h) (Or.inr ⟨by rfl,rfl⟩) (by assumption) ?_;try simp only [Act.put,au]
  refine Rg.takeL (i:=9) (v:=undef) rfl (by kernel_rfl) (by kernel_rfl) (by kernel_rfl) (λ_ _ _ h=>h) (Or.inr ⟨by rfl,rfl⟩) (by assumption) ?_;try simp only [Act.put,au]
  refine aj 10 ?_;try simp only [Act.put,au]
  refine aC ?_;have cP:=hid hld;clear hld;go_wp2_with (first
   | (refine aB (bM Bt ⟨_,rfl,rfl⟩) ?_)
   | (refine bL (de.out.below cP.out) rfl _ _ _ _ rfl _ _ rfl rfl rfl rfl ?_; intro w9 aw ba; have cc:=hid aw; have cF:=hid (ba.below (HB1.out.trans (cP.out.mono HB1.out.size)) (by omega)); clear aw ba))
  exact bodyPost_ret (ji (q:=6) rfl _ rfl cc.out) rfl ⟨_,rfl,HV.out,cF.out⟩
 have rq:decide ((70:Int)<(ln:Int))=false:=decide_eq_false (by omega);have rr:decide (70<ln)=false:=decide_eq_false D7;have hm0:l.getD 0 eB∈l:=Rf.kP (by omega);have hsz0:=HX.out _ hm0;obtain ⟨b0,o0,hla,hblt,hc0⟩:=dE.out.at' 0 (by omega);have ro:Hid (∀ W,Below w.heap.size w W->Calls prog 33 #[.string (l.getD 0 eB)] W λe w'=>e = .returned (.agg (Sm.kc (fC (l.getD 0 eB))))/\Below W.heap.size W w'):=hid (λW hb=>zA _ hsz0 W (m6.out.below hb m6.out.pos));have rp:=hid (iN (l.getD 0 eB))
 obtain ⟨X,hX⟩:=aA (!decide (fC (l.getD 0 eB)=r))
 have sR:=hid hX;have eR:Hid (nK l r (bE k)=if X=true then (none,0) else jO l ((bE k).length+1) (l.getD 0 eB) (bE k) 1 false):=hid (by
  unfold nK;rw [if_neg (by omega),if_neg (by omega)];by_cases e:fC (l.getD 0 eB)=r
  .have:X=false:=by rw [<-hX,aK e]; rfl
   rw [if_pos e,if_neg (by rw [this]; decide)];have hp:=iM k hk;exact nM l HX.out _ _ _ _ _ _ hsz0 (by omega) (by omega)
  .have:X=true:=by rw [<-hX,decide_eq_false e]; rfl
   rw [if_neg e,if_pos this])
 have hc0:w.cell? ⟨b0,o0,none⟩=some (.string (l.getD 0 eB)):=by simpa using hc0
 have sE:=hid hc0;have hc1:w1.cell? ⟨b0,o0,none⟩=some (.string (l.getD 0 eB)):=aX HB1.out hc0;obtain ⟨E0,hE0⟩:=aA (l.getD 0 eB)
 rw [hE0] at sR eR ro rp hc1 hsz0 sE;obtain ⟨Z,hZ⟩:=aA (fC E0)
 rw [hZ] at ro rp sR;have L5:=hid hsz0;have xp:=hid hc1;have gC:=hid (λW=>DV k hk W);have me:=hid (iM k hk);have F3:=hid (DK k);have hlat:∀ g,w.heap.size<=g->∀ ad,la=some ad->ad.block≠g:=λg hg ad e=>by
  rw [hla] at e;rw [<-Option.some.inj e];show b0≠g;omega
 have rv:=hid hlat;obtain ⟨q0,rx⟩:=aA (bE k)
 rw [rx] at eR gC me F3;rw [rx];obtain ⟨KS,ry⟩:=aA (nK l r q0)
 rw [ry] at eR;rw [ry];clear ry;subst hla;rw [HC.out] at gC;clear hX hZ hm0 hc0 hE0 hsz0 hc1 rx hlat hT;go_enter func23,ntmps23;go_wp2_with (first
  | (refine aB (dN _ _ _ (w.heap.size+2) (by simp) rfl) ?_; rw [<-HW.out]))
 go_step3
 go_wp2_with fail
 refine aD (S:=λw'=>Below w1.heap.size w1 w') (aI.drew) λhld=>?_;refine aj 0 ?_;try simp only [Act.put,au]
 refine aj 1 ?_;try simp only [Act.put,au]
 refine aj 2 ?_ (hy:=by intro wz hSw; (have q0:=rq; have q1:=rr; go_simp <;> with_reducible rfl));try simp only [Act.put,au]
 refine aj 3 ?_;try simp only [Act.put,au]
 refine aj 4 ?_;try simp only [Act.put,au]
 refine aj 5 ?_ (hy:=by intro wz hSw; (have q0:=F2; have q1:=xo; go_simp <;> with_reducible rfl));try simp only [Act.put,au]
 refine aj 6 ?_ (hy:=by intro wz hSw; (have q0:=aX hSw xp.out; go_simp <;> with_reducible rfl));try simp only [Act.put,au]
 refine aj 8 ?_ (hy:=by intro wz hSw; (refine Sm.fJ _ _ _ w.heap.size r fd.out ?_ (cE.out.below hSw); exact ⟨_,rfl,rfl⟩));try simp only [Act.put,au]
 refine ak 7 λK hK=>?_;go_simp;go_at_call 33
 (with_reducible refine (ro.out _ (HB1.out.trans (Below.mono hld HB1.out.size))).mono ?_)
 rintro e y1 ⟨rfl,hbx⟩;refine hK.out _ _ (Below.trans hld (hbx.mono hld.size)) λhld=>?_;clear hK K hbx;try simp only [Act.put,au]
 refine aj 9 ?_ (hy:=by intro wz hSw; (refine Fp rp.out fd.out sR.out ?_; exact ⟨_,_,_,rfl,rfl,rfl⟩));try simp only [Act.put,au]
 refine aj 10 ?_;try simp only [Act.put,au]
 refine aC ?_;obtain ⟨wa,F4⟩:=aA y1
 rw [F4] at hld;rw [F4];have cP:=hid hld;clear hld F4;cases X with
 | true =>
  have HV:Hid (Says KS (vdC eB false 0 false)):=hid (by rw [eR.out,if_pos rfl]; exact ⟨_,_,rfl⟩);clear eR;go_wp2_with (first
   | (refine aB (bM Bt ⟨_,rfl,rfl⟩) ?_)
   | (refine bL (de.out.below cP.out) rfl _ _ _ _ rfl _ _ rfl rfl rfl rfl ?_; intro w9 aw ba; have cc:=hid aw; have cF:=hid (ba.below (HB1.out.trans (cP.out.mono HB1.out.size)) (by omega)); clear aw ba))
  exact bodyPost_ret (ji (q:=6) rfl _ rfl cc.out) rfl ⟨_,rfl,HV.out,cF.out⟩
 | false =>
  have sl:Hid (jO l (q0.length+1) E0 q0 1 false=KS):=hid (by rw [eR.out,if_neg (by decide)]);clear eR;have xr:Hid (Below w.heap.size w wa):=hid (HB1.out.trans (cP.out.mono HB1.out.size));have hsa:w.heap.size+3<=wa.heap.size:=by have:=cP.out.size; omega
  have HI0:=hid (Rg.Own.new wa #[.int .i64 0] 3);obtain ⟨wb,hwb⟩:=aA ((wa.alloc (.cells #[.int .i64 0] 3)).setCell ⟨wa.heap.size,0,none⟩ (.int .i64 1))
  have hib:Rg.Own wb wa.heap.size #[.int .i64 ((1:Nat):Int)] 3:=by rw [<-hwb]; exact bR (o:=0) HI0.out _
  have hub:Below wa.heap.size wa wb:=by rw [<-hwb]; exact (bG _ _ _ _).below (al1 _ _) aH
  have L6:=hid hib;have Ax:=hid hub;have L7:=hid hwb;have xi:=hid (de.out.below cP.out);have L8:=hid (cz.out.below cP.out);have hsb:wa.heap.size<wb.heap.size:=hib.1;clear hib hub hwb cP de cz cE HB1 sR ro rp xp HW hs1;go_wp2_with (first
   | (refine aB (Ar _ _ _ wa.heap.size rfl rfl) ?_)
   | (refine wH rfl _ (BK (off:=0) HI0.out (by decide) 1 ⟨_,_,rfl,rfl,rfl⟩) ?_; rw [L7.out]))
  refine (EG (some ⟨b0,o0,none⟩) ln lc wa.heap.size wb).mono ?_;rintro e wc ⟨bp,bu,rfl,hbp,hbu,hou,hop,hbc⟩;have F5:Hid (Fol w (some ⟨b0,o0,none⟩) ln lc (w.heap.size+2) wa.heap.size bu bp 1 wc):=hid ⟨bst (bst xr.out Ax.out) hbc,(xi.out.below Ax.out).below hbc,L6.out.below hbc,hou,hop,by omega,by omega,by omega,by omega⟩;have L9:=hid ((L8.out.below Ax.out).below hbc);have hsc:wa.heap.size<wc.heap.size:=by have:=hbc.size; omega
  clear hou hop hbc hbp hbu xi L8 Ax L6 HI0 L7 xr;obtain ⟨g,hg⟩:=aA wa.heap.size
  rw [hg] at F5 hsc hsa;rw [hg];clear hg hsb;go_wp2_with (first
   | (refine Rg.run rfl (.agg C) _ (by rw [<-HC.out]; exact bC cf.out (by rw [HC.out]; exact L9.out.2) ⟨_,rfl,rfl⟩) ?_))
  refine (gC.out wc).mono ?_;rintro e wd ⟨r0,rfl,hr0,hbd⟩;have F6:=hid (F5.out.below hbd);have F7:=hid hr0;have F8:r0.2.1=64:=by rw [<-hr0.1.len]; exact me.out
  have hcd:=aX F6.out.b sE.out;have AC:Hid (g<wc.heap.size):=hid hsc;obtain ⟨B,hB⟩:=aA wc.heap.size
  rw [hB] at F7 AC;obtain ⟨Su,Sx,SD⟩:=r0;obtain rfl:Sx=64:=F8;clear hr0 hbd F5 L9 gC hsc hB;go_wp2;go_step3
  go_wp2
  go_loopw [9,10,11,12,13] (λv9 v10 v11 v12 v13 wr=>∃ (E:aM) (q:Pa) (us:Nat) (th:Bool) (ah:Int) (pa:aL) (pn pc:Nat) (R0:aM),v9 = .slice pa pn pc/\v10 = .string R0/\v11 = .int .i64 ah/\v12 = .string E/\v13 = .bool th/\Hid (BsP (λb=>B<=b) wr (pa,pn,pc) q)/\Hid (Nib q)/\pn<=64/\us<=ln/\Hid (th=true->E.size<=900000)/\Hid (th=true->jO l (q.length+1) E q us (decide (ah=2))=KS)/\Hid (th=false->KS=(none,us))/\Hid (Fol w (some ⟨b0,o0,none⟩) ln lc (w.heap.size+2) g bu bp us wr)) (λv9 _ _ _ v13 _=>Ti v9+thV v13)
  case atStart=>exact ⟨E0,q0,1,true,0,Su,64,SD,eB,rfl,rfl,rfl,rfl,rfl,F7,F3,aH,xo,hid (λ_=>L5.out),hid (λ_=>sl.out),hid (λe=>by cases e),F6⟩
  case round =>
   obtain ⟨E,q,us,th,ah,pa,pn,pc,R0,rfl,rfl,rfl,rfl,rfl,HQ,AD,hpn,lO,SJ,fY,Lk,HF⟩:=hrel;clear F7 F3 L5 F6 hcd sl;have k7:=aV (j:=0) HF.out.fg rfl;cases th with
   | false =>
    have HV:Hid (KS=(none,us)):=hid (Lk.out rfl);have HO:=HF;go_wp2_with (first
     | (refine aB (bM (uK us) ⟨_,rfl,rfl⟩) ?_)
     | (refine bL HO.out.fo rfl _ _ _ _ rfl _ _ rfl rfl rfl rfl ?_; intro w9 aw ba; have cc:=hid aw; have cF:=hid (ba.below HO.out.b (by have:=HO.out.lo; omega)); clear aw ba))
    exact bodyPost_ret (ji (q:=6) rfl _ rfl cc.out) rfl ⟨_,rfl,by rw [HV.out]; exact ⟨_,_,rfl⟩,cF.out⟩
   | true =>
    have iu:=hid (fY.out rfl);have HE:=hid (SJ.out rfl);have HG:=hid (Ga E (Nat.le_trans HE.out (by decide)) wr);have HLen:Hid (E.data.toList.length<=4294967296):=hid (by rw [gT]; exact Nat.le_trans HE.out (by decide));have hlq:q.length=pn:=HQ.out.1.len;clear fY Lk;go_wp2_with fail
    refine HG.out.mono ?_;rintro e w5 ⟨N,na,nn,nc,er,rfl,hok,hbp,l9,hb5⟩;have ld:=hid (HF.out.below hb5);have j3:=hid (dH HQ.out hb5);have eQ:=hid hbp.1;have ap:=hid l9;have hal:=al1 w5 (.cells (ndC nd0 none 0 0) 67);have lg:=hid (Rg.Own.new w5 (ndC nd0 none 0 0) 67);have hs5:=hb5.size;clear hbp l9 hb5 HG HQ HF k7;rcases hok with ⟨rfl,hg⟩ | ⟨her,rfl,hg⟩
    rotate_left
    .have HV:Hid (KS=(none,us)):=hid (by
      rw [<-iu.out];unfold jO;rw [hg])
     have hen:(er != 0)=true:=by simpa using her
     go_wp2_with (first
      | (refine aB (aY _ _ _ w5.heap.size rfl rfl) ?_)
      | (refine bW lg.out bP _ na nn nc ap.out rfl _ _ rfl rfl rfl rfl ?_; intro w6 b8 bo; have c8:=hid b8; have ae:Hid (Below w5.heap.size w5 w6):=hid (bo.below hal aH); have HO:=hid (ld.out.below ae.out); have df:=hid (dH j3.out ae.out); have cT:=hid (eQ.out.below ae.out); have k0:=aV (j:=0) c8.out (v:=.int .i64 nd0.kd) rfl; have k7:=aV (j:=0) HO.out.fg rfl; clear b8 bo)
      | (refine aB (bM (uK us) ⟨_,rfl,rfl⟩) ?_)
      | (refine bL HO.out.fo rfl _ _ _ _ rfl _ _ rfl rfl rfl rfl ?_; intro w9 aw ba; have cc:=hid aw; have cF:=hid (ba.below HO.out.b (by have:=HO.out.lo; omega)); clear aw ba))
     exact bodyPost_ret (ji (q:=6) rfl _ rfl cc.out) rfl ⟨_,rfl,by rw [HV.out]; exact ⟨_,_,rfl⟩,cF.out⟩
    obtain ⟨hkd,_,SM,hk2,hks⟩:=TW HLen.out hg;have j5:=hid hg;have eR:=hid hks;have F9:=hid hk2;have hpl:=eQ.out.len;have Ln:nn<=64:=by omega
    by_cases lh:ah=2/\N.kd≠3
    .have HV:Hid (KS=(none,us)):=hid (by
      rw [<-iu.out];unfold jO;rw [hg];dsimp only;rw [if_pos ⟨aK lh.1,lh.2⟩])
     obtain ⟨rfl,hk3⟩:=lh;have SO:(N.kd != 3)=true:=by simpa using hk3
     have SR:(N.kd==3)=false:=by simpa using hk3
     have zv:Hid ((ndC N na nn nc)[0]? = some (.int .i64 N.kd)):=hid rfl;go_wp2_with (first
      | (refine aB (aY _ _ _ w5.heap.size rfl rfl) ?_)
      | (refine bW lg.out bP _ na nn nc ap.out rfl _ _ rfl rfl rfl rfl ?_; intro w6 b8 bo; have c8:=hid b8; have ae:Hid (Below w5.heap.size w5 w6):=hid (bo.below hal aH); have HO:=hid (ld.out.below ae.out); have df:=hid (dH j3.out ae.out); have cT:=hid (eQ.out.below ae.out); have k0:=aV (j:=0) c8.out zv.out; have k7:=aV (j:=0) HO.out.fg rfl; clear b8 bo)
      | (refine aB (bM (uK us) ⟨_,rfl,rfl⟩) ?_)
      | (refine bL HO.out.fo rfl _ _ _ _ rfl _ _ rfl rfl rfl rfl ?_; intro w9 aw ba; have cc:=hid aw; have cF:=hid (ba.below HO.out.b (by have:=HO.out.lo; omega)); clear aw ba))
     exact bodyPost_ret (ji (q:=6) rfl _ rfl cc.out) rfl ⟨_,rfl,by rw [HV.out]; exact ⟨_,_,rfl⟩,cF.out⟩
    have AE:Hid (¬ (decide (ah=2)=true/\N.kd≠3)):=hid (λh=>lh ⟨of_decide_eq_true h.1,h.2⟩);obtain ⟨ab,hab⟩:=aA (ah==2)
    have eA:N.kd≠3->ab=false:=λh=>by
     have:¬ ah=2:=λe=>lh ⟨e,h⟩;rw [<-hab];simpa using this
    have gS:bf w5 pa pn pc q:=j3.out.1;by_cases hext:N.kd=2/\N.p<+:q
    .have hR:=eR.out _ (Rf.kP (xs:=N.ks) (j:=0) (by rw [ap.out]; decide));have rB:=F9.out hext.1;have nm:Hid (onward N q=(N.ks.getD 0 eB,q.drop N.p.length)):=hid (by unfold onward; rw [if_pos hext]);have cU:Hid ((ndC N na nn nc)[0]? = some (.int .i64 2)):=hid (by rw [<-hext.1]; rfl);have np:Hid (N.kd=2):=hid hext.1;have hle:=hext.2.length_le;have Fc:=gS.len;have hnp:nn<=pn:=by omega
     have hless:=vQ HLen.out j5.out q (by rw [nm.out]; exact rB);rw [nm.out] at hless;dsimp only at hless;rw [hpl] at nm hless;have cJ:Hid ((ndC N na nn nc)[3+0]? = some (.string (N.ks.getD 0 eB))):=hid (Cv N na nn nc (by decide) ap.out);have nt:Hid (Nib (q.drop nn)):=hid (λc hc=>AD.out c (List.mem_of_mem_drop hc));have nv:pn-nn<=64:=by omega
     have hdl:(q.drop nn).length=pn-nn:=by rw [List.length_drop]; omega
     have Fd:Hid (∀ W,bf W na nn nc N.p->bf W pa pn pc q->Calls prog 44 #[.slice pa pn pc,.slice na nn nc] W λe w'=>e = .returned (.bool true)/\W=w'):=hid (λW h1 h2=>by
      have:=FV na pa nn pn nc pc N.p q (by omega) W h1 h2;rw [aK hext.2] at this;exact this)
     obtain rfl:=eA (by rw [hext.1]; decide);obtain ⟨R,hRe⟩:=aA (N.ks.getD 0 eB)
     rw [hRe] at hR rB nm cJ;clear hRe hext lh hle eA Fc gS;go_wp2_with (first
      | (refine aB (aY _ _ _ w5.heap.size rfl rfl) ?_)
      | (refine bW lg.out bP _ na nn nc ap.out rfl _ _ rfl rfl rfl rfl ?_; intro w6 b8 bo; have c8:=hid b8; have ae:Hid (Below w5.heap.size w5 w6):=hid (bo.below hal aH); have HO:=hid (ld.out.below ae.out); have df:=hid (dH j3.out ae.out); have cT:=hid (eQ.out.below ae.out); have k0:=aV (j:=0) c8.out cU.out; have k7:=aV (j:=0) HO.out.fg rfl; have k1:=aV (j:=1) c8.out (pY N na nn nc); clear b8 bo))
     refine (Fd.out w6 cT.out df.out.1).mono ?_;rintro e y ⟨rfl,rfl⟩;go_wp2_with fail
     refine aD (S:=λw'=>Below w6.heap.size w6 w') (aI.drew) λhld=>?_;refine aj 0 ?_;try simp only [Act.put,au]
     refine aj 1 ?_;try simp only [Act.put,au]
     refine aj 2 ?_ (hy:=by intro wz hSw; (have q0:=aV (j:=3+0) (c8.out.below hSw) cJ.out; go_simp <;> with_reducible rfl));try simp only [Act.put,au]
     refine aj 3 ?_;try simp only [Act.put,au]
     refine aj 4 ?_;try simp only [Act.put,au]
     refine aj 5 ?_ (hy:=by intro wz hSw; (have q0:=aV (j:=1) (c8.out.below hSw) (pY N na nn nc); go_simp <;> with_reducible rfl));try simp only [Act.put,au]
     refine aj 6 ?_;try simp only [Act.put,au]
     refine aj 7 ?_ (hy:=by intro wz hSw; (refine jH (a:=pa) (n:=pn) (c:=pc) (i:=nn) fQ iJ hnp ?_; exact ⟨_,_,rfl,rfl,rfl⟩));try simp only [Act.put,au]
     refine aj 8 ?_;try simp only [Act.put,au]
     refine aj 9 ?_;try simp only [Act.put,au]
     refine aC ?_;have cL:=hid hld;clear hld;obtain ⟨w7,hw7⟩:=aA w6.drew
     rw [hw7] at cL;rw [hw7];clear hw7;have pr:=hid (dH (zI df.out nn hnp) cL.out);have el:=hid (HO.out.below cL.out);clear cL HO df cT c8 ae k0 k7 k1;have HO:=el;clear el;go_wp2_with fail
     refine (uR l HX.out (some ⟨b0,o0,none⟩) ln lc R us g bu bp w7 (dE.out.below HO.out.b) hR lO h1k HO.out.fg HO.out.fu HO.out.fp (by have:=HO.out.gu; omega) (by have:=HO.out.gp; omega) (rv.out g (by have:=HO.out.lo; have:=HO.out.og; omega)) (m6.out.below HO.out.b m6.out.pos)).mono ?_;intro e w8 pt;obtain ⟨X,th,us',rfl,ht,hf,ke,hq8⟩:=HO.out.next pt;have xt:=hid ke;have xv:=hid (hq8 B _ _ AC.out pr.out);have hX:th=true->X.size<=900000/\us'<=l.length:=λe=>IL HX.out hR (by rw [kq.out]; exact lO) (ht e)
     have fe:=iu.out.symm.trans (zu j5.out AE.out nm.out rB);have li:Hid (th=true->jO l ((q.drop nn).length+1) X (q.drop nn) us' (decide ((2:Int)=2))=KS):=hid (λe=>by
      rw [ht e,np.out] at fe;exact (nM l HX.out _ _ _ _ _ _ (hX e).1 (by omega) (by omega)).trans fe.symm)
     have lj:Hid (th=false->KS=(none,us')):=hid (λe=>by
      rw [(hf e).1] at fe;rw [(hf e).2];exact fe)
     have m3:Hid (th=true->X.size<=900000):=hid (λe=>(hX e).1);have lk:us'<=ln:=by
      cases th with
      | true=>rw [<-kq.out]; exact (hX rfl).2
      | false=>rw [(hf rfl).2]; exact lO
     clear pt ht hf ke hq8 hX fe HO pr;go_wp2;go_roundw
     case rel=>exact ⟨X,(q.drop nn),us',th,2,dX pa pc nn,pn-nn,pc-nn,R,rfl,rfl,rfl,rfl,rfl,xv,nt,nv,lk,m3,li,lj,xt⟩
     case measure=>cases th <;> simp [Ti,thV] <;> omega
    by_cases hbr:N.kd=3/\∃ c t,q=c::t/\(N.ks.getD c.toNat eB).size≠0
    .obtain ⟨hk3,c,t,rfl,rB⟩:=hbr;have hc16:c.toNat<16:=AD.out c List.mem_cons_self;have hR:=eR.out _ (Rf.kP (xs:=N.ks) (j:=c.toNat) (by rw [ap.out]; exact hc16));have nm:Hid (onward N (c::t)=(N.ks.getD c.toNat eB,t)):=hid (by
      unfold onward;rw [if_neg (λh=>hext h),if_pos hk3])
     have cU:Hid ((ndC N na nn nc)[0]? = some (.int .i64 3)):=hid (by rw [<-hk3]; rfl);have np:Hid (N.kd=3):=hid hk3;obtain ⟨bq,oq,rfl,hbq,hcq⟩:=gS.at' 0 (by have:=gS.len; have:(c::t).length=pn:=this; simp at this; omega);have Ff:t.length+1=pn:=by have:=gS.len; simpa using this
     have hcq:w5.cell? ⟨bq,oq,none⟩=some (.int .u8 c.toNat):=by simpa using hcq
     obtain ⟨d,hd⟩:=aA c.toNat
     have hless:t.length<(c::t).length:=Nat.lt_succ_self _;have cJ:Hid ((ndC N na nn nc)[3+c.toNat]? = some (.string (N.ks.getD c.toNat eB))):=hid (Cv N na nn nc hc16 ap.out);have nt:Hid (Nib t):=hid (λx hx=>AD.out x (List.mem_cons_of_mem _ hx));obtain ⟨R,hRe⟩:=aA (N.ks.getD c.toNat eB)
     rw [hRe] at hR rB nm cJ;rw [hd] at cJ hcq hc16;have rI:=hid hcq;have rK:(0:Int)<pn:=by omega
     have eC:0<pn:=by omega
     have Fi:decide (0<pn)=true:=aK eC;have hdi:(d:Int)<16:=by omega
     have hd0:(0:Int)<=d:=by omega
     have hdn:d<16:=hc16;have nv:pn-1<=64:=by omega
     have hne:=Ni.dP (s:=R) (by omega);clear hRe hd lh eA hk3 hext gS hbq hcq;cases ab with
     | true =>
      go_wp2_with (first
       | (refine aB (aY _ _ _ w5.heap.size rfl rfl) ?_)
       | (refine bW lg.out bP _ na nn nc ap.out rfl _ _ rfl rfl rfl rfl ?_; intro w6 b8 bo; have c8:=hid b8; have ae:Hid (Below w5.heap.size w5 w6):=hid (bo.below hal aH); have HO:=hid (ld.out.below ae.out); have df:=hid (dH j3.out ae.out); have cT:=hid (eQ.out.below ae.out); have k0:=aV (j:=0) c8.out cU.out; have k7:=aV (j:=0) HO.out.fg rfl; have hc6:=aX ae.out rI.out; have xw:=hid hc6; have k3:=aV (j:=3+d) c8.out cJ.out; clear b8 bo))
      refine aD (S:=λw'=>Below w6.heap.size w6 w') (aI.drew) λhld=>?_;refine aj 0 ?_;try simp only [Act.put,au]
      refine aj 1 ?_ (hy:=by intro wz hSw; (have q0:=rK; have q1:=eC; go_simp <;> with_reducible rfl));try simp only [Act.put,au]
      refine aj 2 ?_ (hy:=by intro wz hSw; (have q0:=aX hSw xw.out; go_simp <;> with_reducible rfl));try simp only [Act.put,au]
      refine aj 3 ?_;try simp only [Act.put,au]
      refine aj 4 ?_ (hy:=by intro wz hSw; (have q0:=hdi; have q1:=hd0; have q2:=hdn; go_simp <;> with_reducible rfl));try simp only [Act.put,au]
      refine aj 5 ?_ (hy:=by intro wz hSw; (have q0:=aV (j:=3+d) (c8.out.below hSw) cJ.out; have q1:=hdi; have q2:=hd0; have q3:=hdn; go_simp <;> with_reducible rfl));try simp only [Act.put,au]
      refine aj 6 ?_;try simp only [Act.put,au]
      refine aj 7 ?_ (hy:=by intro wz hSw; (refine jH (a:=some ⟨bq,oq,none⟩) (n:=pn) (c:=pc) (i:=1) fQ iJ eC ?_; exact ⟨_,_,rfl,rfl,rfl⟩));try simp only [Act.put,au]
      refine aj 8 ?_;try simp only [Act.put,au]
      refine aj 9 ?_;try simp only [Act.put,au]
      refine aC ?_;have cL:=hid hld;clear hld;obtain ⟨w7,hw7⟩:=aA w6.drew
      rw [hw7] at cL;rw [hw7];clear hw7;have pr:=hid (dH (zI df.out 1 eC) cL.out);have el:=hid (HO.out.below cL.out);clear cL HO df cT c8 ae k0 k7 hc6 xw k3;have HO:=el;clear el;go_wp2_with fail
      refine (uR l HX.out (some ⟨b0,o0,none⟩) ln lc R us g bu bp w7 (dE.out.below HO.out.b) hR lO h1k HO.out.fg HO.out.fu HO.out.fp (by have:=HO.out.gu; omega) (by have:=HO.out.gp; omega) (rv.out g (by have:=HO.out.lo; have:=HO.out.og; omega)) (m6.out.below HO.out.b m6.out.pos)).mono ?_;intro e w8 pt;obtain ⟨X,th,us',rfl,ht,hf,ke,hq8⟩:=HO.out.next pt;have xt:=hid ke;have xv:=hid (hq8 B _ _ AC.out pr.out);have hX:th=true->X.size<=900000/\us'<=l.length:=λe=>IL HX.out hR (by rw [kq.out]; exact lO) (ht e)
      have fe:=iu.out.symm.trans (zu j5.out AE.out nm.out rB);have li:Hid (th=true->jO l (t.length+1) X t us' (decide ((3:Int)=2))=KS):=hid (λe=>by
       rw [ht e,np.out] at fe;exact (nM l HX.out _ _ _ _ _ _ (hX e).1 (by omega) (by omega)).trans fe.symm)
      have lj:Hid (th=false->KS=(none,us')):=hid (λe=>by
       rw [(hf e).1] at fe;rw [(hf e).2];exact fe)
      have m3:Hid (th=true->X.size<=900000):=hid (λe=>(hX e).1);have lk:us'<=ln:=by
       cases th with
       | true=>rw [<-kq.out]; exact (hX rfl).2
       | false=>rw [(hf rfl).2]; exact lO
      clear pt ht hf ke hq8 hX fe HO pr;go_wp2;go_roundw
      case rel=>exact ⟨X,t,us',th,3,dX (some ⟨bq,oq,none⟩) pc 1,pn-1,pc-1,R,rfl,rfl,rfl,rfl,rfl,xv,nt,nv,lk,m3,li,lj,xt⟩
      case measure=>cases th <;> simp [Ti,thV] <;> omega
     | false =>
      go_wp2_with (first
       | (refine aB (aY _ _ _ w5.heap.size rfl rfl) ?_)
       | (refine bW lg.out bP _ na nn nc ap.out rfl _ _ rfl rfl rfl rfl ?_; intro w6 b8 bo; have c8:=hid b8; have ae:Hid (Below w5.heap.size w5 w6):=hid (bo.below hal aH); have HO:=hid (ld.out.below ae.out); have df:=hid (dH j3.out ae.out); have cT:=hid (eQ.out.below ae.out); have k0:=aV (j:=0) c8.out cU.out; have k7:=aV (j:=0) HO.out.fg rfl; have hc6:=aX ae.out rI.out; have xw:=hid hc6; have k3:=aV (j:=3+d) c8.out cJ.out; clear b8 bo))
      refine aD (S:=λw'=>Below w6.heap.size w6 w') (aI.drew) λhld=>?_;refine aj 0 ?_;try simp only [Act.put,au]
      refine aj 1 ?_ (hy:=by intro wz hSw; (have q0:=rK; have q1:=eC; go_simp <;> with_reducible rfl));try simp only [Act.put,au]
      refine aj 2 ?_ (hy:=by intro wz hSw; (have q0:=aX hSw xw.out; go_simp <;> with_reducible rfl));try simp only [Act.put,au]
      refine aj 3 ?_;try simp only [Act.put,au]
      refine aj 4 ?_ (hy:=by intro wz hSw; (have q0:=hdi; have q1:=hd0; have q2:=hdn; go_simp <;> with_reducible rfl));try simp only [Act.put,au]
      refine aj 5 ?_ (hy:=by intro wz hSw; (have q0:=aV (j:=3+d) (c8.out.below hSw) cJ.out; have q1:=hdi; have q2:=hd0; have q3:=hdn; go_simp <;> with_reducible rfl));try simp only [Act.put,au]
      refine aj 6 ?_;try simp only [Act.put,au]
      refine aj 7 ?_ (hy:=by intro wz hSw; (refine jH (a:=some ⟨bq,oq,none⟩) (n:=pn) (c:=pc) (i:=1) fQ iJ eC ?_; exact ⟨_,_,rfl,rfl,rfl⟩));try simp only [Act.put,au]
      refine aj 8 ?_;try simp only [Act.put,au]
      refine aj 9 ?_;try simp only [Act.put,au]
      refine aC ?_;have cL:=hid hld;clear hld;obtain ⟨w7,hw7⟩:=aA w6.drew
      rw [hw7] at cL;rw [hw7];clear hw7;have pr:=hid (dH (zI df.out 1 eC) cL.out);have el:=hid (HO.out.below cL.out);clear cL HO df cT c8 ae k0 k7 hc6 xw k3;have HO:=el;clear el;go_wp2_with fail
      refine (uR l HX.out (some ⟨b0,o0,none⟩) ln lc R us g bu bp w7 (dE.out.below HO.out.b) hR lO h1k HO.out.fg HO.out.fu HO.out.fp (by have:=HO.out.gu; omega) (by have:=HO.out.gp; omega) (rv.out g (by have:=HO.out.lo; have:=HO.out.og; omega)) (m6.out.below HO.out.b m6.out.pos)).mono ?_;intro e w8 pt;obtain ⟨X,th,us',rfl,ht,hf,ke,hq8⟩:=HO.out.next pt;have xt:=hid ke;have xv:=hid (hq8 B _ _ AC.out pr.out);have hX:th=true->X.size<=900000/\us'<=l.length:=λe=>IL HX.out hR (by rw [kq.out]; exact lO) (ht e)
      have fe:=iu.out.symm.trans (zu j5.out AE.out nm.out rB);have li:Hid (th=true->jO l (t.length+1) X t us' (decide ((3:Int)=2))=KS):=hid (λe=>by
       rw [ht e,np.out] at fe;exact (nM l HX.out _ _ _ _ _ _ (hX e).1 (by omega) (by omega)).trans fe.symm)
      have lj:Hid (th=false->KS=(none,us')):=hid (λe=>by
       rw [(hf e).1] at fe;rw [(hf e).2];exact fe)
      have m3:Hid (th=true->X.size<=900000):=hid (λe=>(hX e).1);have lk:us'<=ln:=by
       cases th with
       | true=>rw [<-kq.out]; exact (hX rfl).2
       | false=>rw [(hf rfl).2]; exact lO
      clear pt ht hf ke hq8 hX fe HO pr;go_wp2;go_roundw
      case rel=>exact ⟨X,t,us',th,3,dX (some ⟨bq,oq,none⟩) pc 1,pn-1,pc-1,R,rfl,rfl,rfl,rfl,rfl,xv,nt,nv,lk,m3,li,lj,xt⟩
      case measure=>cases th <;> simp [Ti,thV] <;> omega
    have hend:∃ q2,onward N q=(eB,q2)/\(N.kd=1->q2=q):=by
     unfold onward;rw [if_neg hext];by_cases hk3:N.kd=3
     .rw [if_pos hk3];cases q with
      | nil=>exact ⟨[],rfl,λh=>by omega⟩
      | cons c t =>
       refine ⟨t,?_,λh=>by omega⟩;have:(N.ks.getD c.toNat eB).size=0:=Decidable.byContradiction λh=>hbr ⟨hk3,c,t,rfl,h⟩;show (N.ks.getD c.toNat eB,t)=_;rw [dQ this]
     .rw [if_neg hk3];exact ⟨q,rfl,λ_=>rfl⟩
    have HV:Hid (Says KS (wD N q us l.length)):=hid (by
     obtain ⟨q2,h1,h2⟩:=hend;rw [<-iu.out];exact Qx j5.out AE.out h1 h2)
    obtain ⟨ev,ei,eu,rL⟩:∃ v i r,wD N q us ln=vdC v i us r:=by
     unfold wD;split <;> exact ⟨_,_,_,rfl⟩
    rw [kq.out,rL] at HV;rcases hkd with hk1 | nw | hk3
    .have cU:Hid ((ndC N na nn nc)[0]? = some (.int .i64 1)):=hid (by rw [<-hk1]; rfl);obtain rfl:=eA (by rw [hk1]; decide);clear lh eA hk1 hext gS hbr hend;go_wp2_with (first
      | (refine aB (aY _ _ _ w5.heap.size rfl rfl) ?_)
      | (refine bW lg.out bP _ na nn nc ap.out rfl _ _ rfl rfl rfl rfl ?_; intro w6 b8 bo; have c8:=hid b8; have ae:Hid (Below w5.heap.size w5 w6):=hid (bo.below hal aH); have HO:=hid (ld.out.below ae.out); have df:=hid (dH j3.out ae.out); have cT:=hid (eQ.out.below ae.out); have k0:=aV (j:=0) c8.out cU.out; have k7:=aV (j:=0) HO.out.fg rfl; clear b8 bo)
      | (refine aB (bV c8.out ap.out ⟨_,rfl,rfl⟩) ?_))
     refine (nO N na nn nc ap.out _ _ _ _ us ln w6 cT.out df.out.1).mono ?_;rintro e w8 ⟨rfl,cM⟩;have cw:=hid (HO.out.below cM);rw [rL];clear cM;go_wp2_with (first
      | (refine bL cw.out.fo rfl _ _ _ _ rfl _ _ rfl rfl rfl rfl ?_; intro w9 aw ba; have cc:=hid aw; have cF:=hid (ba.below cw.out.b (by have:=cw.out.lo; omega)); clear aw ba))
     exact bodyPost_ret (ji (q:=6) rfl _ rfl cc.out) rfl ⟨_,rfl,HV.out,cF.out⟩
    .have cU:Hid ((ndC N na nn nc)[0]? = some (.int .i64 2)):=hid (by rw [<-nw]; rfl);obtain rfl:=eA (by rw [nw]; decide);have Fd:Hid (∀ W,bf W na nn nc N.p->bf W pa pn pc q->Calls prog 44 #[.slice pa pn pc,.slice na nn nc] W λe w'=>e = .returned (.bool false)/\W=w'):=hid (λW h1 h2=>by
      have:=FV na pa nn pn nc pc N.p q (by omega) W h1 h2;rw [decide_eq_false (λh=>hext ⟨nw,h⟩)] at this;exact this)
     clear lh eA nw hext gS hbr hend;go_wp2_with (first
      | (refine aB (aY _ _ _ w5.heap.size rfl rfl) ?_)
      | (refine bW lg.out bP _ na nn nc ap.out rfl _ _ rfl rfl rfl rfl ?_; intro w6 b8 bo; have c8:=hid b8; have ae:Hid (Below w5.heap.size w5 w6):=hid (bo.below hal aH); have HO:=hid (ld.out.below ae.out); have df:=hid (dH j3.out ae.out); have cT:=hid (eQ.out.below ae.out); have k0:=aV (j:=0) c8.out cU.out; have k7:=aV (j:=0) HO.out.fg rfl; have k1:=aV (j:=1) c8.out (pY N na nn nc); clear b8 bo))
     refine (Fd.out w6 cT.out df.out.1).mono ?_;rintro e y ⟨rfl,rfl⟩;go_wp2_with (first
      | (refine aB (bV c8.out ap.out ⟨_,rfl,rfl⟩) ?_))
     refine (nO N na nn nc ap.out _ _ _ _ us ln w6 cT.out df.out.1).mono ?_;rintro e w8 ⟨rfl,cM⟩;have cw:=hid (HO.out.below cM);rw [rL];clear cM;go_wp2_with (first
      | (refine bL cw.out.fo rfl _ _ _ _ rfl _ _ rfl rfl rfl rfl ?_; intro w9 aw ba; have cc:=hid aw; have cF:=hid (ba.below cw.out.b (by have:=cw.out.lo; omega)); clear aw ba))
     exact bodyPost_ret (ji (q:=6) rfl _ rfl cc.out) rfl ⟨_,rfl,HV.out,cF.out⟩
    .have cU:Hid ((ndC N na nn nc)[0]? = some (.int .i64 3)):=hid (by rw [<-hk3]; rfl);cases q with
     | nil =>
      obtain rfl:pn=0:=by have:=gS.len; simpa using this.symm
      clear lh eA hk3 hext gS hbr hend;cases ab with
      | true =>
       go_wp2_with (first
        | (refine aB (aY _ _ _ w5.heap.size rfl rfl) ?_)
        | (refine bW lg.out bP _ na nn nc ap.out rfl _ _ rfl rfl rfl rfl ?_; intro w6 b8 bo; have c8:=hid b8; have ae:Hid (Below w5.heap.size w5 w6):=hid (bo.below hal aH); have HO:=hid (ld.out.below ae.out); have df:=hid (dH j3.out ae.out); have cT:=hid (eQ.out.below ae.out); have k0:=aV (j:=0) c8.out cU.out; have k7:=aV (j:=0) HO.out.fg rfl; clear b8 bo)
        | (refine aB (bV c8.out ap.out ⟨_,rfl,rfl⟩) ?_))
       refine (nO N na nn nc ap.out _ _ _ _ us ln w6 cT.out df.out.1).mono ?_;rintro e w8 ⟨rfl,cM⟩;have cw:=hid (HO.out.below cM);rw [rL];clear cM;go_wp2_with (first
        | (refine bL cw.out.fo rfl _ _ _ _ rfl _ _ rfl rfl rfl rfl ?_; intro w9 aw ba; have cc:=hid aw; have cF:=hid (ba.below cw.out.b (by have:=cw.out.lo; omega)); clear aw ba))
       exact bodyPost_ret (ji (q:=6) rfl _ rfl cc.out) rfl ⟨_,rfl,HV.out,cF.out⟩
      | false =>
       go_wp2_with (first
        | (refine aB (aY _ _ _ w5.heap.size rfl rfl) ?_)
        | (refine bW lg.out bP _ na nn nc ap.out rfl _ _ rfl rfl rfl rfl ?_; intro w6 b8 bo; have c8:=hid b8; have ae:Hid (Below w5.heap.size w5 w6):=hid (bo.below hal aH); have HO:=hid (ld.out.below ae.out); have df:=hid (dH j3.out ae.out); have cT:=hid (eQ.out.below ae.out); have k0:=aV (j:=0) c8.out cU.out; have k7:=aV (j:=0) HO.out.fg rfl; clear b8 bo)
        | (refine aB (bV c8.out ap.out ⟨_,rfl,rfl⟩) ?_))
       refine (nO N na nn nc ap.out _ _ _ _ us ln w6 cT.out df.out.1).mono ?_;rintro e w8 ⟨rfl,cM⟩;have cw:=hid (HO.out.below cM);rw [rL];clear cM;go_wp2_with (first
        | (refine bL cw.out.fo rfl _ _ _ _ rfl _ _ rfl rfl rfl rfl ?_; intro w9 aw ba; have cc:=hid aw; have cF:=hid (ba.below cw.out.b (by have:=cw.out.lo; omega)); clear aw ba))
       exact bodyPost_ret (ji (q:=6) rfl _ rfl cc.out) rfl ⟨_,rfl,HV.out,cF.out⟩
     | cons c t =>
      have Lo:(N.ks.getD c.toNat eB).size=0:=Decidable.byContradiction λh=>hbr ⟨hk3,c,t,rfl,h⟩;have hc16:c.toNat<16:=AD.out c List.mem_cons_self;have cJ:Hid ((ndC N na nn nc)[3+c.toNat]? = some (.string (N.ks.getD c.toNat eB))):=hid (Cv N na nn nc hc16 ap.out);rw [dQ Lo] at cJ;obtain ⟨bq,oq,rfl,hbq,hcq⟩:=gS.at' 0 (by have:=gS.len; have:(c::t).length=pn:=this; simp at this; omega);have Ff:t.length+1=pn:=by have:=gS.len; simpa using this
      have hcq:w5.cell? ⟨bq,oq,none⟩=some (.int .u8 c.toNat):=by simpa using hcq
      obtain ⟨d,hd⟩:=aA c.toNat
      rw [hd] at cJ hcq hc16;have rI:=hid hcq;have rK:(0:Int)<pn:=by omega
      have eC:0<pn:=by omega
      have Fi:decide (0<pn)=true:=aK eC;have hdi:(d:Int)<16:=by omega
      have hd0:(0:Int)<=d:=by omega
      have hdn:d<16:=hc16;clear Lo hd lh eA hk3 hext gS hbq hcq hbr hend;cases ab with
      | true =>
       go_wp2_with (first
        | (refine aB (aY _ _ _ w5.heap.size rfl rfl) ?_)
        | (refine bW lg.out bP _ na nn nc ap.out rfl _ _ rfl rfl rfl rfl ?_; intro w6 b8 bo; have c8:=hid b8; have ae:Hid (Below w5.heap.size w5 w6):=hid (bo.below hal aH); have HO:=hid (ld.out.below ae.out); have df:=hid (dH j3.out ae.out); have cT:=hid (eQ.out.below ae.out); have k0:=aV (j:=0) c8.out cU.out; have k7:=aV (j:=0) HO.out.fg rfl; have hc6:=aX ae.out rI.out; have k3:=aV (j:=3+d) c8.out cJ.out; clear b8 bo)
        | (refine aB (bV c8.out ap.out ⟨_,rfl,rfl⟩) ?_))
       refine (nO N na nn nc ap.out _ _ _ _ us ln w6 cT.out df.out.1).mono ?_;rintro e w8 ⟨rfl,cM⟩;have cw:=hid (HO.out.below cM);rw [rL];clear cM;go_wp2_with (first
        | (refine bL cw.out.fo rfl _ _ _ _ rfl _ _ rfl rfl rfl rfl ?_; intro w9 aw ba; have cc:=hid aw; have cF:=hid (ba.below cw.out.b (by have:=cw.out.lo; omega)); clear aw ba))
       exact bodyPost_ret (ji (q:=6) rfl _ rfl cc.out) rfl ⟨_,rfl,HV.out,cF.out⟩
      | false =>
       go_wp2_with (first
        | (refine aB (aY _ _ _ w5.heap.size rfl rfl) ?_)
        | (refine bW lg.out bP _ na nn nc ap.out rfl _ _ rfl rfl rfl rfl ?_; intro w6 b8 bo; have c8:=hid b8; have ae:Hid (Below w5.heap.size w5 w6):=hid (bo.below hal aH); have HO:=hid (ld.out.below ae.out); have df:=hid (dH j3.out ae.out); have cT:=hid (eQ.out.below ae.out); have k0:=aV (j:=0) c8.out cU.out; have k7:=aV (j:=0) HO.out.fg rfl; have hc6:=aX ae.out rI.out; have k3:=aV (j:=3+d) c8.out cJ.out; clear b8 bo)
        | (refine aB (bV c8.out ap.out ⟨_,rfl,rfl⟩) ?_))
       refine (nO N na nn nc ap.out _ _ _ _ us ln w6 cT.out df.out.1).mono ?_;rintro e w8 ⟨rfl,cM⟩;have cw:=hid (HO.out.below cM);rw [rL];clear cM;go_wp2_with (first
        | (refine bL cw.out.fo rfl _ _ _ _ rfl _ _ rfl rfl rfl rfl ?_; intro w9 aw ba; have cc:=hid aw; have cF:=hid (ba.below cw.out.b (by have:=cw.out.lo; omega)); clear aw ba))
       exact bodyPost_ret (ji (q:=6) rfl _ rfl cc.out) rfl ⟨_,rfl,HV.out,cF.out⟩
end Tm
end
end Go.Proofs.YtokaiemgjngcoaaGreatDoor
