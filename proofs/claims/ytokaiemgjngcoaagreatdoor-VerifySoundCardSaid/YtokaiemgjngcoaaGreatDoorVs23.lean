/-
 The contract of verify.follow, of any texts.
-/
import Derived.Test.YtokaiemgjngcoaaGreatDoorVs22
open Go.Lib (hid)
open Go.Proofs.Tryz
set_option linter.unusedSimpArgs false
set_option linter.unusedVariables false
set_option maxHeartbeats 40000000
set_option maxRecDepth 100000
namespace Go.Proofs.YtokaiemgjngcoaaGreatDoor
section
open Go.RowKit
namespace Tm
open Tr Ni Pk Ky No Rf Rl
open Sm (Tab)
theorem yB (l:List aM) (hx:∀ s∈l,s.size<=900000) (la:aL) (ln lc:Nat) (r k:aN) (hr:r.length=32) (hk:k.length=32) (w:World) (hl:kD w la ln lc l) (h1k:ln<=1000) (hT:Tab w) :
  Calls prog 23 #[.agg (Sm.kc r),.agg (kc k),.slice la ln lc] w (YE w (mY l r (bG k))):=by
 have f9:=hid hr;have co:=hid hk;have eM:=hid hl;have HX:=hid hx;have pj:=hid hT;have hln:=hl.len;have mA:=hid hln;obtain ⟨w1,hw1⟩:=ay (((w.alloc (.cells (Sm.kc r) 23)).alloc (.cells (kc k) 24)).alloc (.cells (vdC eB false 0 false) 62))
 have hb1:Below w.heap.size w w1:=by rw [hw1]; exact bst (al2 _ _ _) (al1 _ _)
 have hs1:w1.heap.size=w.heap.size+3:=by rw [hw1]; simp
 have hS1:Rg.Own w1 w.heap.size (Sm.kc r) 23:=by rw [hw1]; exact (Rg.Own.new _ _ _).below (al2 _ _ _)
 have hK1:Rg.Own w1 (w.heap.size+1) (kc k) 24:=by
  have:=(Rg.Own.new (w.alloc (.cells (Sm.kc r) 23)) (kc k) 24).below (al1 _ (.cells (vdC eB false 0 false) 62));rw [hw1];simpa using this
 have am:Rg.Own w1 (w.heap.size+2) (vdC eB false 0 false) 62:=by
  have:=Rg.Own.new ((w.alloc (.cells (Sm.kc r) 23)).alloc (.cells (kc k) 24)) (vdC eB false 0 false) 62;rw [hw1];simpa using this
 have HB1:=hid hb1;have cW:=hid hS1;have cR:=hid hK1;have ec:=hid am;have HW:Hid (_=_):=hid hw1;obtain ⟨C,hC⟩:=aA (kc k)
 have HC:=hid hC;rw [hC];rw [hC] at HW cR;clear hb1 hS1 hK1 am hw1 hr hl hx hC;by_cases h0:ln=0
 .have hq0:((ln:Int)==0)=true:=by simp [h0]
  have ve:Hid (∀ W,Below w.heap.size w W->Calls prog 33 #[.string eB] W λe w'=>e = .returned (.agg (Sm.kc (eG eB)))/\Below W.heap.size W w'):=hid (λW hb=>Aq eB (Nat.zero_le _) W (pj.out.below hb pj.out.pos));have vh:=hid (jE eB);have HV:Hid (Says (mY l r (bG k)) (vdC eB false 0 (decide (r=eG eB)))):=hid (by
   unfold mY;rw [if_pos (by omega)];by_cases e:r=eG eB
   .rw [if_pos e,aK e]; rfl
   .rw [if_neg e,decide_eq_false e]; exact ⟨_,_,rfl⟩)
  obtain ⟨S,hS⟩:=aA (mY l r (bG k))
  rw [hS] at HV;rw [hS];obtain ⟨Z,hZ⟩:=aA (eG eB)
  rw [hZ] at ve vh HV;obtain ⟨X,hX⟩:=aA (decide (r=Z))
  have ym:=hid hX;rw [hX] at HV;clear hS hZ hX hT;go_enter func23,ntmps23;go_wp2_with (first
   | (refine aB (dW _ _ _ (w.heap.size+2) (by simp) rfl) ?_; rw [<-HW.out]))
  go_step3
  go_wp2_with fail
  refine aD (S:=λw'=>Rg.Own w' w.heap.size (Sm.kc r) 23/\(∃ c,Rg.Own w' (w.heap.size+2) c 62/\c.size=4)/\Below w.heap.size w w') (⟨cW.out.drew,⟨_,ec.out.drew,rfl⟩,HB1.out.drew⟩) λhld=>?_;refine aj 0 ?_ (hy:=by intro wz hSw; (refine Sm.gJ _ _ _ w.heap.size r f9.out ?_ hSw.1; exact ⟨_,rfl,rfl⟩));try simp only [Act.put,au]
  refine ak 1 λK hK=>?_;go_simp;go_at_call 33
  (with_reducible refine (ve.out _ hld.2.2).mono ?_)
  rintro e y1 ⟨rfl,hbx⟩;refine hK.out _ _ (⟨hld.1.below hbx,(by obtain ⟨c,h1,h2⟩:=hld.2.1; exact ⟨c,h1.below hbx,h2⟩),hld.2.2.trans (hbx.mono hld.2.2.size)⟩) λhld=>?_;clear hK K hbx;try simp only [Act.put,au]
  refine aj 2 ?_ (hy:=by intro wz hSw; (refine FB f9.out vh.out ym.out ?_; exact ⟨_,_,_,rfl,rfl,rfl⟩));try simp only [Act.put,au]
  refine aj 3 ?_ (hy:=by intro wz hSw; (refine bQ (Nw X) ?_; exact ⟨_,rfl,rfl⟩));try simp only [Act.put,au]
  refine ak 4 λK hK=>?_;obtain ⟨c6,h6,U6⟩:=hld.2.1;refine Rg.meetStore (by rfl) h6 62 (vdC eB false 0 X) ⟨_,_,rfl,rfl,rfl⟩ EG U6 (Mc _ _ _ _) ?_;intro w9 aw b8;have oY:=hld.1.upd b8 (by omega);have cX:=hid (b8.below hld.2.2 (by omega));have cl:=hid aw;clear h6 U6 b8 aw;refine hK.out _ _ (⟨oY,⟨_,cl.out,rfl⟩,cX.out⟩) λhld=>?_;clear hK K oY;try simp only [Act.put,au]
  refine aC ?_;clear hld;go_wp2;exact bodyPost_ret (jX (q:=6) rfl _ rfl cl.out) rfl ⟨_,rfl,HV.out,cX.out⟩
 have hq0:((ln:Int)==0)=false:=by simp [h0]
 have Nm:(0:Int)<ln:=by omega
 have De:0<ln:=by omega
 by_cases y0:70<ln
 .have vl:decide ((70:Int)<(ln:Int))=true:=aK (by omega);have vm:decide (70<ln)=true:=aK y0;have HV:Hid (Says (mY l r (bG k)) (vdC eB false 0 false)):=hid (by
   unfold mY;rw [if_neg (by omega),if_pos (by omega)];exact ⟨_,_,rfl⟩)
  obtain ⟨S,hS⟩:=aA (mY l r (bG k))
  rw [hS] at HV;rw [hS];clear hS hT;go_enter func23,ntmps23;go_wp2_with (first
   | (refine aB (dW _ _ _ (w.heap.size+2) (by simp) rfl) ?_; rw [<-HW.out]))
  go_step3
  go_wp2_with fail
  refine aD (S:=λw'=>Below w1.heap.size w1 w') (aI.drew) λhld=>?_;refine aj 0 ?_;try simp only [Act.put,au]
  refine aj 1 ?_;try simp only [Act.put,au]
  refine aj 2 ?_ (hy:=by intro wz hSw; (have q0:=vl; have q1:=vm; go_simp <;> with_reducible rfl));try simp only [Act.put,au]
  refine aj 3 ?_;try simp only [Act.put,au]
  refine Rg.takeL (i:=4) (v:=undef) rfl (by kernel_rfl) (by kernel_rfl) (by kernel_rfl) (λ_ _ _ h=>h) (Or.inr ⟨by rfl,rfl⟩) (by assumption) ?_;try simp only [Act.put,au]
  refine Rg.takeL (i:=5) (v:=undef) rfl (by kernel_rfl) (by kernel_rfl) (by kernel_rfl) (λ_ _ _ h=>h) (Or.inr ⟨by rfl,rfl⟩) (by assumption) ?_;try simp only [Act.put,au]
  refine Rg.takeL (i:=6) (v:=undef) rfl (by kernel_rfl) (by kernel_rfl) (by kernel_rfl) (λ_ _ _ h=>h) (Or.inr ⟨by rfl,rfl⟩) (by assumption) ?_;try simp only [Act.put,au]
  refine Rg.takeL (i:=7) (v:=undef) rfl (by kernel_rfl) (by kernel_rfl) (by kernel_rfl) (λ_ _ _ h=>h) (Or.inr ⟨by rfl,rfl⟩) (by assumption) ?_;try simp only [Act.put,au]
  refine Rg.takeL (i:=8) (v:=undef) rfl (by kernel_rfl) (by kernel_rfl) (by kernel_rfl) (λ_ _ _ h=>h) (Or.inr ⟨by rfl,rfl⟩) (by assumption) ?_;try simp only [Act.put,au]
  refine Rg.takeL (i:=9) (v:=undef) rfl (by kernel_rfl) (by kernel_rfl) (by kernel_rfl) (λ_ _ _ h=>h) (Or.inr ⟨by rfl,rfl⟩) (by assumption) ?_;try simp only [Act.put,au]
  refine aj 10 ?_;try simp only [Act.put,au]
  refine aC ?_;have cD:=hid hld;clear hld;go_wp2_with (first
   | (refine aB (bQ Dr ⟨_,rfl,rfl⟩) ?_)
   | (refine bS (ec.out.below cD.out) rfl _ _ _ _ rfl _ _ rfl rfl rfl rfl ?_; intro w9 aw b8; have cl:=hid aw; have cX:=hid (b8.below (HB1.out.trans (cD.out.mono HB1.out.size)) (by omega)); clear aw b8))
  exact bodyPost_ret (jX (q:=6) rfl _ rfl cl.out) rfl ⟨_,rfl,HV.out,cX.out⟩
 have vl:decide ((70:Int)<(ln:Int))=false:=decide_eq_false (by omega);have vm:decide (70<ln)=false:=decide_eq_false y0;have hm0:l.getD 0 eB∈l:=Rf.jL (by omega);have hsz0:=HX.out _ hm0;obtain ⟨b0,o0,hla,hblt,hc0⟩:=eM.out.at' 0 (by omega);have ve:Hid (∀ W,Below w.heap.size w W->Calls prog 33 #[.string (l.getD 0 eB)] W λe w'=>e = .returned (.agg (Sm.kc (eG (l.getD 0 eB))))/\Below W.heap.size W w'):=hid (λW hb=>Aq _ hsz0 W (pj.out.below hb pj.out.pos));have vh:=hid (jE (l.getD 0 eB))
 obtain ⟨X,hX⟩:=aA (!decide (eG (l.getD 0 eB)=r))
 have ym:=hid hX;have gt:Hid (mY l r (bG k)=if X=true then (none,0) else jA l ((bG k).length+1) (l.getD 0 eB) (bG k) 1 false):=hid (by
  unfold mY;rw [if_neg (by omega),if_neg (by omega)];by_cases e:eG (l.getD 0 eB)=r
  .have:X=false:=by rw [<-hX,aK e]; rfl
   rw [if_pos e,if_neg (by rw [this]; decide)];have hp:=fM k hk;exact qc l HX.out _ _ _ _ _ _ hsz0 (by omega) (by omega)
  .have:X=true:=by rw [<-hX,decide_eq_false e]; rfl
   rw [if_neg e,if_pos this])
 have hc0:w.cell? ⟨b0,o0,none⟩=some (.string (l.getD 0 eB)):=by simpa using hc0
 have yi:=hid hc0;have hc1:w1.cell? ⟨b0,o0,none⟩=some (.string (l.getD 0 eB)):=aX HB1.out hc0;obtain ⟨E0,hE0⟩:=aA (l.getD 0 eB)
 rw [hE0] at ym gt ve vh hc1 hsz0 yi;obtain ⟨Z,hZ⟩:=aA (eG E0)
 rw [hZ] at ve vh ym;have U7:=hid hsz0;have Dg:=hid hc1;have kf:=hid (λW=>II k hk W);have py:=hid (fM k hk);have Nx:=hid (BO k);have hlat:∀ g,w.heap.size<=g->∀ ad,la=some ad->ad.block≠g:=λg hg ad e=>by
  rw [hla] at e;rw [<-Option.some.inj e];show b0≠g;omega
 have vp:=hid hlat;obtain ⟨q0,vq⟩:=aA (bG k)
 rw [vq] at gt kf py Nx;rw [vq];obtain ⟨KS,vr⟩:=aA (mY l r q0)
 rw [vr] at gt;rw [vr];clear vr;subst hla;rw [HC.out] at kf;clear hX hZ hm0 hc0 hE0 hsz0 hc1 vq hlat hT;go_enter func23,ntmps23;go_wp2_with (first
  | (refine aB (dW _ _ _ (w.heap.size+2) (by simp) rfl) ?_; rw [<-HW.out]))
 go_step3
 go_wp2_with fail
 refine aD (S:=λw'=>Below w1.heap.size w1 w') (aI.drew) λhld=>?_;refine aj 0 ?_;try simp only [Act.put,au]
 refine aj 1 ?_;try simp only [Act.put,au]
 refine aj 2 ?_ (hy:=by intro wz hSw; (have q0:=vl; have q1:=vm; go_simp <;> with_reducible rfl));try simp only [Act.put,au]
 refine aj 3 ?_;try simp only [Act.put,au]
 refine aj 4 ?_;try simp only [Act.put,au]
 refine aj 5 ?_ (hy:=by intro wz hSw; (have q0:=Nm; have q1:=De; go_simp <;> with_reducible rfl));try simp only [Act.put,au]
 refine aj 6 ?_ (hy:=by intro wz hSw; (have q0:=aX hSw Dg.out; go_simp <;> with_reducible rfl));try simp only [Act.put,au]
 refine aj 8 ?_ (hy:=by intro wz hSw; (refine Sm.gJ _ _ _ w.heap.size r f9.out ?_ (cW.out.below hSw); exact ⟨_,rfl,rfl⟩));try simp only [Act.put,au]
 refine ak 7 λK hK=>?_;go_simp;go_at_call 33
 (with_reducible refine (ve.out _ (HB1.out.trans (Below.mono hld HB1.out.size))).mono ?_)
 rintro e y1 ⟨rfl,hbx⟩;refine hK.out _ _ (Below.trans hld (hbx.mono hld.size)) λhld=>?_;clear hK K hbx;try simp only [Act.put,au]
 refine aj 9 ?_ (hy:=by intro wz hSw; (refine IJ vh.out f9.out ym.out ?_; exact ⟨_,_,_,rfl,rfl,rfl⟩));try simp only [Act.put,au]
 refine aj 10 ?_;try simp only [Act.put,au]
 refine aC ?_;obtain ⟨wa,NB⟩:=aA y1
 rw [NB] at hld;rw [NB];have cD:=hid hld;clear hld NB;cases X with
 | true =>
  have HV:Hid (Says KS (vdC eB false 0 false)):=hid (by rw [gt.out,if_pos rfl]; exact ⟨_,_,rfl⟩);clear gt;go_wp2_with (first
   | (refine aB (bQ Dr ⟨_,rfl,rfl⟩) ?_)
   | (refine bS (ec.out.below cD.out) rfl _ _ _ _ rfl _ _ rfl rfl rfl rfl ?_; intro w9 aw b8; have cl:=hid aw; have cX:=hid (b8.below (HB1.out.trans (cD.out.mono HB1.out.size)) (by omega)); clear aw b8))
  exact bodyPost_ret (jX (q:=6) rfl _ rfl cl.out) rfl ⟨_,rfl,HV.out,cX.out⟩
 | false =>
  have xx:Hid (jA l (q0.length+1) E0 q0 1 false=KS):=hid (by rw [gt.out,if_neg (by decide)]);clear gt;have DA:Hid (Below w.heap.size w wa):=hid (HB1.out.trans (cD.out.mono HB1.out.size));have hsa:w.heap.size+3<=wa.heap.size:=by have:=cD.out.size; omega
  have HI0:=hid (Rg.Own.new wa #[.int .i64 0] 3);obtain ⟨wb,hwb⟩:=aA ((wa.alloc (.cells #[.int .i64 0] 3)).setCell ⟨wa.heap.size,0,none⟩ (.int .i64 1))
  have hib:Rg.Own wb wa.heap.size #[.int .i64 ((1:Nat):Int)] 3:=by rw [<-hwb]; exact bZ (o:=0) HI0.out _
  have hub:Below wa.heap.size wa wb:=by rw [<-hwb]; exact (bM _ _ _ _).below (al1 _ _) aH
  have U8:=hid hib;have Hi:=hid hub;have sB:=hid hwb;have D7:=hid (ec.out.below cD.out);have DB:=hid (cR.out.below cD.out);have hsb:wa.heap.size<wb.heap.size:=hib.1;clear hib hub hwb cD ec cR cW HB1 ym ve vh Dg HW hs1;go_wp2_with (first
   | (refine aB (CU _ _ _ wa.heap.size rfl rfl) ?_)
   | (refine zw rfl _ (Dj (off:=0) HI0.out (by decide) 1 ⟨_,_,rfl,rfl,rfl⟩) ?_; rw [sB.out]))
  refine (Jy (some ⟨b0,o0,none⟩) ln lc wa.heap.size wb).mono ?_;rintro e wc ⟨bp,bu,rfl,hbp,hbu,hou,hop,hbc⟩;have NE:Hid (Fol w (some ⟨b0,o0,none⟩) ln lc (w.heap.size+2) wa.heap.size bu bp 1 wc):=hid ⟨bst (bst DA.out Hi.out) hbc,(D7.out.below Hi.out).below hbc,U8.out.below hbc,hou,hop,by omega,by omega,by omega,by omega⟩;have U9:=hid ((DB.out.below Hi.out).below hbc);have hsc:wa.heap.size<wc.heap.size:=by have:=hbc.size; omega
  clear hou hop hbc hbp hbu D7 DB Hi U8 HI0 sB DA;obtain ⟨g,hg⟩:=aA wa.heap.size
  rw [hg] at NE hsc hsa;rw [hg];clear hg hsb;go_wp2_with (first
   | (refine Rg.run rfl (.agg C) _ (by rw [<-HC.out]; exact bJ co.out (by rw [HC.out]; exact U9.out.2) ⟨_,rfl,rfl⟩) ?_))
  refine (kf.out wc).mono ?_;rintro e wd ⟨r0,rfl,hr0,hbd⟩;have NF:=hid (NE.out.below hbd);have NL:=hid hr0;have NN:r0.2.1=64:=by rw [<-hr0.1.len]; exact py.out
  have hcd:=aX NF.out.b yi.out;have Hj:Hid (g<wc.heap.size):=hid hsc;obtain ⟨B,hB⟩:=aA wc.heap.size
  rw [hB] at NL Hj;obtain ⟨pa0,pn0,pc0⟩:=r0;obtain rfl:pn0=64:=NN;clear hr0 hbd NE U9 kf hsc hB;go_wp2;go_step3
  go_wp2
  go_loopw [9,10,11,12,13] (λv9 v10 v11 v12 v13 wr=>∃ (E:aM) (q:Pa) (us:Nat) (th:Bool) (ah:Int) (pa:aL) (pn pc:Nat) (R0:aM),v9 = .slice pa pn pc/\v10 = .string R0/\v11 = .int .i64 ah/\v12 = .string E/\v13 = .bool th/\Hid (BsP (λb=>B<=b) wr (pa,pn,pc) q)/\Hid (Nib q)/\pn<=64/\us<=ln/\Hid (th=true->E.size<=900000)/\Hid (th=true->jA l (q.length+1) E q us (decide (ah=2))=KS)/\Hid (th=false->KS=(none,us))/\Hid (Fol w (some ⟨b0,o0,none⟩) ln lc (w.heap.size+2) g bu bp us wr)) (λv9 _ _ _ v13 _=>WJ v9+thV v13)
  case atStart=>exact ⟨E0,q0,1,true,0,pa0,64,pc0,eB,rfl,rfl,rfl,rfl,rfl,NL,Nx,aH,De,hid (λ_=>U7.out),hid (λ_=>xx.out),hid (λe=>by cases e),NF⟩
  case round =>
   obtain ⟨E,q,us,th,ah,pa,pn,pc,R0,rfl,rfl,rfl,rfl,rfl,HQ,Hm,hpn,p7,HEt,j0,Up,HF⟩:=hrel;clear NL Nx U7 NF hcd xx;have k7:=aV (j:=0) HF.out.fg rfl;cases th with
   | false =>
    have HV:Hid (KS=(none,us)):=hid (Up.out rfl);have HO:=HF;go_wp2_with (first
     | (refine aB (bQ (wK us) ⟨_,rfl,rfl⟩) ?_)
     | (refine bS HO.out.fo rfl _ _ _ _ rfl _ _ rfl rfl rfl rfl ?_; intro w9 aw b8; have cl:=hid aw; have cX:=hid (b8.below HO.out.b (by have:=HO.out.lo; omega)); clear aw b8))
    exact bodyPost_ret (jX (q:=6) rfl _ rfl cl.out) rfl ⟨_,rfl,by rw [HV.out]; exact ⟨_,_,rfl⟩,cX.out⟩
   | true =>
    have lv:=hid (j0.out rfl);have HE:=hid (HEt.out rfl);have HG:=hid (Ic E (Nat.le_trans HE.out (by decide)) wr);have HLen:Hid (E.data.toList.length<=4294967296):=hid (by rw [iC]; exact Nat.le_trans HE.out (by decide));have hlq:q.length=pn:=HQ.out.1.len;clear j0 Up;go_wp2_with fail
    refine HG.out.mono ?_;rintro e w5 ⟨N,na,nn,nc,er,rfl,hok,hbp,nh,hb5⟩;have nj:=hid (HF.out.below hb5);have lA:=hid (dP HQ.out hb5);have eW:=hid hbp.1;have az:=hid nh;have hal:=al1 w5 (.cells (ndC nd0 none 0 0) 67);have nl:=hid (Rg.Own.new w5 (ndC nd0 none 0 0) 67);have hs5:=hb5.size;clear hbp nh hb5 HG HQ HF k7;rcases hok with ⟨rfl,hg⟩ | ⟨her,rfl,hg⟩
    rotate_left
    .have HV:Hid (KS=(none,us)):=hid (by
      rw [<-lv.out];unfold jA;rw [hg])
     have hen:(er != 0)=true:=by simpa using her
     go_wp2_with (first
      | (refine aB (aY _ _ _ w5.heap.size rfl rfl) ?_)
      | (refine bI nl.out cB _ na nn nc az.out rfl _ _ rfl rfl rfl rfl ?_; intro w6 bj cm; have cz:=hid bj; have af:Hid (Below w5.heap.size w5 w6):=hid (cm.below hal aH); have HO:=hid (nj.out.below af.out); have ed:=hid (dP lA.out af.out); have dl:=hid (eW.out.below af.out); have k0:=aV (j:=0) cz.out (v:=.int .i64 nd0.kd) rfl; have k7:=aV (j:=0) HO.out.fg rfl; clear bj cm)
      | (refine aB (bQ (wK us) ⟨_,rfl,rfl⟩) ?_)
      | (refine bS HO.out.fo rfl _ _ _ _ rfl _ _ rfl rfl rfl rfl ?_; intro w9 aw b8; have cl:=hid aw; have cX:=hid (b8.below HO.out.b (by have:=HO.out.lo; omega)); clear aw b8))
     exact bodyPost_ret (jX (q:=6) rfl _ rfl cl.out) rfl ⟨_,rfl,by rw [HV.out]; exact ⟨_,_,rfl⟩,cX.out⟩
    obtain ⟨hkd,_,hp64,hk2,hks⟩:=Xz HLen.out hg;have lO:=hid hg;have gt:=hid hks;have NO:=hid hk2;have hpl:=eW.out.len;have UB:nn<=64:=by omega
    by_cases nm:ah=2/\N.kd≠3
    .have HV:Hid (KS=(none,us)):=hid (by
      rw [<-lv.out];unfold jA;rw [hg];dsimp only;rw [if_pos ⟨aK nm.1,nm.2⟩])
     obtain ⟨rfl,hk3⟩:=nm;have hk3b:(N.kd != 3)=true:=by simpa using hk3
     have hk3c:(N.kd==3)=false:=by simpa using hk3
     have GO:Hid ((ndC N na nn nc)[0]? = some (.int .i64 N.kd)):=hid rfl;go_wp2_with (first
      | (refine aB (aY _ _ _ w5.heap.size rfl rfl) ?_)
      | (refine bI nl.out cB _ na nn nc az.out rfl _ _ rfl rfl rfl rfl ?_; intro w6 bj cm; have cz:=hid bj; have af:Hid (Below w5.heap.size w5 w6):=hid (cm.below hal aH); have HO:=hid (nj.out.below af.out); have ed:=hid (dP lA.out af.out); have dl:=hid (eW.out.below af.out); have k0:=aV (j:=0) cz.out GO.out; have k7:=aV (j:=0) HO.out.fg rfl; clear bj cm)
      | (refine aB (bQ (wK us) ⟨_,rfl,rfl⟩) ?_)
      | (refine bS HO.out.fo rfl _ _ _ _ rfl _ _ rfl rfl rfl rfl ?_; intro w9 aw b8; have cl:=hid aw; have cX:=hid (b8.below HO.out.b (by have:=HO.out.lo; omega)); clear aw b8))
     exact bodyPost_ret (jX (q:=6) rfl _ rfl cl.out) rfl ⟨_,rfl,by rw [HV.out]; exact ⟨_,_,rfl⟩,cX.out⟩
    have Hn:Hid (¬ (decide (ah=2)=true/\N.kd≠3)):=hid (λh=>nm ⟨of_decide_eq_true h.1,h.2⟩);obtain ⟨ab,hab⟩:=aA (ah==2)
    have fW:N.kd≠3->ab=false:=λh=>by
     have:¬ ah=2:=λe=>nm ⟨e,h⟩;rw [<-hab];simpa using this
    have kl:bf w5 pa pn pc q:=lA.out.1;by_cases hext:N.kd=2/\N.p<+:q
    .have hR:=gt.out _ (Rf.jL (xs:=N.ks) (j:=0) (by rw [az.out]; decide));have vt:=NO.out hext.1;have r7:Hid (onward N q=(N.ks.getD 0 eB,q.drop N.p.length)):=hid (by unfold onward; rw [if_pos hext]);have dp:Hid ((ndC N na nn nc)[0]? = some (.int .i64 2)):=hid (by rw [<-hext.1]; rfl);have r8:Hid (N.kd=2):=hid hext.1;have hle:=hext.2.length_le;have NX:=kl.len;have hnp:nn<=pn:=by omega
     have hless:=yg HLen.out lO.out q (by rw [r7.out]; exact vt);rw [r7.out] at hless;dsimp only at hless;rw [hpl] at r7 hless;have db:Hid ((ndC N na nn nc)[3+0]? = some (.string (N.ks.getD 0 eB))):=hid (EN N na nn nc (by decide) az.out);have ra:Hid (Nib (q.drop nn)):=hid (λc hc=>Hm.out c (List.mem_of_mem_drop hc));have rc:pn-nn<=64:=by omega
     have hdl:(q.drop nn).length=pn-nn:=by rw [List.length_drop]; omega
     have O0:Hid (∀ W,bf W na nn nc N.p->bf W pa pn pc q->Calls prog 44 #[.slice pa pn pc,.slice na nn nc] W λe w'=>e = .returned (.bool true)/\W=w'):=hid (λW h1 h2=>by
      have:=Ho na pa nn pn nc pc N.p q (by omega) W h1 h2;rw [aK hext.2] at this;exact this)
     obtain rfl:=fW (by rw [hext.1]; decide);obtain ⟨R,hRe⟩:=aA (N.ks.getD 0 eB)
     rw [hRe] at hR vt r7 db;clear hRe hext nm hle fW NX kl;go_wp2_with (first
      | (refine aB (aY _ _ _ w5.heap.size rfl rfl) ?_)
      | (refine bI nl.out cB _ na nn nc az.out rfl _ _ rfl rfl rfl rfl ?_; intro w6 bj cm; have cz:=hid bj; have af:Hid (Below w5.heap.size w5 w6):=hid (cm.below hal aH); have HO:=hid (nj.out.below af.out); have ed:=hid (dP lA.out af.out); have dl:=hid (eW.out.below af.out); have k0:=aV (j:=0) cz.out dp.out; have k7:=aV (j:=0) HO.out.fg rfl; have k1:=aV (j:=1) cz.out (rz N na nn nc); clear bj cm))
     refine (O0.out w6 dl.out ed.out.1).mono ?_;rintro e y ⟨rfl,rfl⟩;go_wp2_with fail
     refine aD (S:=λw'=>Below w6.heap.size w6 w') (aI.drew) λhld=>?_;refine aj 0 ?_;try simp only [Act.put,au]
     refine aj 1 ?_;try simp only [Act.put,au]
     refine aj 2 ?_ (hy:=by intro wz hSw; (have q0:=aV (j:=3+0) (cz.out.below hSw) db.out; go_simp <;> with_reducible rfl));try simp only [Act.put,au]
     refine aj 3 ?_;try simp only [Act.put,au]
     refine aj 4 ?_;try simp only [Act.put,au]
     refine aj 5 ?_ (hy:=by intro wz hSw; (have q0:=aV (j:=1) (cz.out.below hSw) (rz N na nn nc); go_simp <;> with_reducible rfl));try simp only [Act.put,au]
     refine aj 6 ?_;try simp only [Act.put,au]
     refine aj 7 ?_ (hy:=by intro wz hSw; (refine jP (a:=pa) (n:=pn) (c:=pc) (i:=nn) fZ iL hnp ?_; exact ⟨_,_,rfl,rfl,rfl⟩));try simp only [Act.put,au]
     refine aj 8 ?_;try simp only [Act.put,au]
     refine aj 9 ?_;try simp only [Act.put,au]
     refine aC ?_;have dc:=hid hld;clear hld;obtain ⟨w7,hw7⟩:=aA w6.drew
     rw [hw7] at dc;rw [hw7];clear hw7;have sC:=hid (dP (AX ed.out nn hnp) dc.out);have eK:=hid (HO.out.below dc.out);clear dc HO ed dl cz af k0 k7 k1;have HO:=eK;clear eK;go_wp2_with fail
     refine (wV l HX.out (some ⟨b0,o0,none⟩) ln lc R us g bu bp w7 (eM.out.below HO.out.b) hR p7 h1k HO.out.fg HO.out.fu HO.out.fp (by have:=HO.out.gu; omega) (by have:=HO.out.gp; omega) (vp.out g (by have:=HO.out.lo; have:=HO.out.og; omega)) (pj.out.below HO.out.b pj.out.pos)).mono ?_;intro e w8 sE;obtain ⟨X,th,us',rfl,ht,hf,mt,hq8⟩:=HO.out.next sE;have tE:=hid mt;have DD:=hid (hq8 B _ _ Hj.out sC.out);have hX:th=true->X.size<=900000/\us'<=l.length:=λe=>Kw HX.out hR (by rw [mA.out]; exact p7) (ht e)
     have ii:=lv.out.symm.trans (AB lO.out Hn.out r7.out vt);have np:Hid (th=true->jA l ((q.drop nn).length+1) X (q.drop nn) us' (decide ((2:Int)=2))=KS):=hid (λe=>by
      rw [ht e,r8.out] at ii;exact (qc l HX.out _ _ _ _ _ _ (hX e).1 (by omega) (by omega)).trans ii.symm)
     have nt:Hid (th=false->KS=(none,us')):=hid (λe=>by
      rw [(hf e).1] at ii;rw [(hf e).2];exact ii)
     have pf:Hid (th=true->X.size<=900000):=hid (λe=>(hX e).1);have nv:us'<=ln:=by
      cases th with
      | true=>rw [<-mA.out]; exact (hX rfl).2
      | false=>rw [(hf rfl).2]; exact p7
     clear sE ht hf mt hq8 hX ii HO sC;go_wp2;go_roundw
     case rel=>exact ⟨X,(q.drop nn),us',th,2,eP pa pc nn,pn-nn,pc-nn,R,rfl,rfl,rfl,rfl,rfl,DD,ra,rc,nv,pf,np,nt,tE⟩
     case measure=>cases th <;> simp [WJ,thV] <;> omega
    by_cases hbr:N.kd=3/\∃ c t,q=c::t/\(N.ks.getD c.toNat eB).size≠0
    .obtain ⟨hk3,c,t,rfl,vt⟩:=hbr;have hc16:c.toNat<16:=Hm.out c List.mem_cons_self;have hR:=gt.out _ (Rf.jL (xs:=N.ks) (j:=c.toNat) (by rw [az.out]; exact hc16));have r7:Hid (onward N (c::t)=(N.ks.getD c.toNat eB,t)):=hid (by
      unfold onward;rw [if_neg (λh=>hext h),if_pos hk3])
     have dp:Hid ((ndC N na nn nc)[0]? = some (.int .i64 3)):=hid (by rw [<-hk3]; rfl);have r8:Hid (N.kd=3):=hid hk3;obtain ⟨bq,oq,rfl,hbq,hcq⟩:=kl.at' 0 (by have:=kl.len; have:(c::t).length=pn:=this; simp at this; omega);have O4:t.length+1=pn:=by have:=kl.len; simpa using this
     have hcq:w5.cell? ⟨bq,oq,none⟩=some (.int .u8 c.toNat):=by simpa using hcq
     obtain ⟨d,hd⟩:=aA c.toNat
     have hless:t.length<(c::t).length:=Nat.lt_succ_self _;have db:Hid ((ndC N na nn nc)[3+c.toNat]? = some (.string (N.ks.getD c.toNat eB))):=hid (EN N na nn nc hc16 az.out);have ra:Hid (Nib t):=hid (λx hx=>Hm.out x (List.mem_cons_of_mem _ hx));obtain ⟨R,hRe⟩:=aA (N.ks.getD c.toNat eB)
     rw [hRe] at hR vt r7 db;rw [hd] at db hcq hc16;have vu:=hid hcq;have vx:(0:Int)<pn:=by omega
     have fX:0<pn:=by omega
     have O5:decide (0<pn)=true:=aK fX;have hdi:(d:Int)<16:=by omega
     have hd0:(0:Int)<=d:=by omega
     have hdn:d<16:=hc16;have rc:pn-1<=64:=by omega
     have hne:=Ni.dJ (s:=R) (by omega);clear hRe hd nm fW hk3 hext kl hbq hcq;cases ab with
     | true =>
      go_wp2_with (first
       | (refine aB (aY _ _ _ w5.heap.size rfl rfl) ?_)
       | (refine bI nl.out cB _ na nn nc az.out rfl _ _ rfl rfl rfl rfl ?_; intro w6 bj cm; have cz:=hid bj; have af:Hid (Below w5.heap.size w5 w6):=hid (cm.below hal aH); have HO:=hid (nj.out.below af.out); have ed:=hid (dP lA.out af.out); have dl:=hid (eW.out.below af.out); have k0:=aV (j:=0) cz.out dp.out; have k7:=aV (j:=0) HO.out.fg rfl; have hc6:=aX af.out vu.out; have DE:=hid hc6; have k3:=aV (j:=3+d) cz.out db.out; clear bj cm))
      refine aD (S:=λw'=>Below w6.heap.size w6 w') (aI.drew) λhld=>?_;refine aj 0 ?_;try simp only [Act.put,au]
      refine aj 1 ?_ (hy:=by intro wz hSw; (have q0:=vx; have q1:=fX; go_simp <;> with_reducible rfl));try simp only [Act.put,au]
      refine aj 2 ?_ (hy:=by intro wz hSw; (have q0:=aX hSw DE.out; go_simp <;> with_reducible rfl));try simp only [Act.put,au]
      refine aj 3 ?_;try simp only [Act.put,au]
      refine aj 4 ?_ (hy:=by intro wz hSw; (have q0:=hdi; have q1:=hd0; have q2:=hdn; go_simp <;> with_reducible rfl));try simp only [Act.put,au]
      refine aj 5 ?_ (hy:=by intro wz hSw; (have q0:=aV (j:=3+d) (cz.out.below hSw) db.out; have q1:=hdi; have q2:=hd0; have q3:=hdn; go_simp <;> with_reducible rfl));try simp only [Act.put,au]
      refine aj 6 ?_;try simp only [Act.put,au]
      refine aj 7 ?_ (hy:=by intro wz hSw; (refine jP (a:=some ⟨bq,oq,none⟩) (n:=pn) (c:=pc) (i:=1) fZ iL fX ?_; exact ⟨_,_,rfl,rfl,rfl⟩));try simp only [Act.put,au]
      refine aj 8 ?_;try simp only [Act.put,au]
      refine aj 9 ?_;try simp only [Act.put,au]
      refine aC ?_;have dc:=hid hld;clear hld;obtain ⟨w7,hw7⟩:=aA w6.drew
      rw [hw7] at dc;rw [hw7];clear hw7;have sC:=hid (dP (AX ed.out 1 fX) dc.out);have eK:=hid (HO.out.below dc.out);clear dc HO ed dl cz af k0 k7 hc6 DE k3;have HO:=eK;clear eK;go_wp2_with fail
      refine (wV l HX.out (some ⟨b0,o0,none⟩) ln lc R us g bu bp w7 (eM.out.below HO.out.b) hR p7 h1k HO.out.fg HO.out.fu HO.out.fp (by have:=HO.out.gu; omega) (by have:=HO.out.gp; omega) (vp.out g (by have:=HO.out.lo; have:=HO.out.og; omega)) (pj.out.below HO.out.b pj.out.pos)).mono ?_;intro e w8 sE;obtain ⟨X,th,us',rfl,ht,hf,mt,hq8⟩:=HO.out.next sE;have tE:=hid mt;have DD:=hid (hq8 B _ _ Hj.out sC.out);have hX:th=true->X.size<=900000/\us'<=l.length:=λe=>Kw HX.out hR (by rw [mA.out]; exact p7) (ht e)
      have ii:=lv.out.symm.trans (AB lO.out Hn.out r7.out vt);have np:Hid (th=true->jA l (t.length+1) X t us' (decide ((3:Int)=2))=KS):=hid (λe=>by
       rw [ht e,r8.out] at ii;exact (qc l HX.out _ _ _ _ _ _ (hX e).1 (by omega) (by omega)).trans ii.symm)
      have nt:Hid (th=false->KS=(none,us')):=hid (λe=>by
       rw [(hf e).1] at ii;rw [(hf e).2];exact ii)
      have pf:Hid (th=true->X.size<=900000):=hid (λe=>(hX e).1);have nv:us'<=ln:=by
       cases th with
       | true=>rw [<-mA.out]; exact (hX rfl).2
       | false=>rw [(hf rfl).2]; exact p7
      clear sE ht hf mt hq8 hX ii HO sC;go_wp2;go_roundw
      case rel=>exact ⟨X,t,us',th,3,eP (some ⟨bq,oq,none⟩) pc 1,pn-1,pc-1,R,rfl,rfl,rfl,rfl,rfl,DD,ra,rc,nv,pf,np,nt,tE⟩
      case measure=>cases th <;> simp [WJ,thV] <;> omega
     | false =>
      go_wp2_with (first
       | (refine aB (aY _ _ _ w5.heap.size rfl rfl) ?_)
       | (refine bI nl.out cB _ na nn nc az.out rfl _ _ rfl rfl rfl rfl ?_; intro w6 bj cm; have cz:=hid bj; have af:Hid (Below w5.heap.size w5 w6):=hid (cm.below hal aH); have HO:=hid (nj.out.below af.out); have ed:=hid (dP lA.out af.out); have dl:=hid (eW.out.below af.out); have k0:=aV (j:=0) cz.out dp.out; have k7:=aV (j:=0) HO.out.fg rfl; have hc6:=aX af.out vu.out; have DE:=hid hc6; have k3:=aV (j:=3+d) cz.out db.out; clear bj cm))
      refine aD (S:=λw'=>Below w6.heap.size w6 w') (aI.drew) λhld=>?_;refine aj 0 ?_;try simp only [Act.put,au]
      refine aj 1 ?_ (hy:=by intro wz hSw; (have q0:=vx; have q1:=fX; go_simp <;> with_reducible rfl));try simp only [Act.put,au]
      refine aj 2 ?_ (hy:=by intro wz hSw; (have q0:=aX hSw DE.out; go_simp <;> with_reducible rfl));try simp only [Act.put,au]
      refine aj 3 ?_;try simp only [Act.put,au]
      refine aj 4 ?_ (hy:=by intro wz hSw; (have q0:=hdi; have q1:=hd0; have q2:=hdn; go_simp <;> with_reducible rfl));try simp only [Act.put,au]
      refine aj 5 ?_ (hy:=by intro wz hSw; (have q0:=aV (j:=3+d) (cz.out.below hSw) db.out; have q1:=hdi; have q2:=hd0; have q3:=hdn; go_simp <;> with_reducible rfl));try simp only [Act.put,au]
      refine aj 6 ?_;try simp only [Act.put,au]
      refine aj 7 ?_ (hy:=by intro wz hSw; (refine jP (a:=some ⟨bq,oq,none⟩) (n:=pn) (c:=pc) (i:=1) fZ iL fX ?_; exact ⟨_,_,rfl,rfl,rfl⟩));try simp only [Act.put,au]
      refine aj 8 ?_;try simp only [Act.put,au]
      refine aj 9 ?_;try simp only [Act.put,au]
      refine aC ?_;have dc:=hid hld;clear hld;obtain ⟨w7,hw7⟩:=aA w6.drew
      rw [hw7] at dc;rw [hw7];clear hw7;have sC:=hid (dP (AX ed.out 1 fX) dc.out);have eK:=hid (HO.out.below dc.out);clear dc HO ed dl cz af k0 k7 hc6 DE k3;have HO:=eK;clear eK;go_wp2_with fail
      refine (wV l HX.out (some ⟨b0,o0,none⟩) ln lc R us g bu bp w7 (eM.out.below HO.out.b) hR p7 h1k HO.out.fg HO.out.fu HO.out.fp (by have:=HO.out.gu; omega) (by have:=HO.out.gp; omega) (vp.out g (by have:=HO.out.lo; have:=HO.out.og; omega)) (pj.out.below HO.out.b pj.out.pos)).mono ?_;intro e w8 sE;obtain ⟨X,th,us',rfl,ht,hf,mt,hq8⟩:=HO.out.next sE;have tE:=hid mt;have DD:=hid (hq8 B _ _ Hj.out sC.out);have hX:th=true->X.size<=900000/\us'<=l.length:=λe=>Kw HX.out hR (by rw [mA.out]; exact p7) (ht e)
      have ii:=lv.out.symm.trans (AB lO.out Hn.out r7.out vt);have np:Hid (th=true->jA l (t.length+1) X t us' (decide ((3:Int)=2))=KS):=hid (λe=>by
       rw [ht e,r8.out] at ii;exact (qc l HX.out _ _ _ _ _ _ (hX e).1 (by omega) (by omega)).trans ii.symm)
      have nt:Hid (th=false->KS=(none,us')):=hid (λe=>by
       rw [(hf e).1] at ii;rw [(hf e).2];exact ii)
      have pf:Hid (th=true->X.size<=900000):=hid (λe=>(hX e).1);have nv:us'<=ln:=by
       cases th with
       | true=>rw [<-mA.out]; exact (hX rfl).2
       | false=>rw [(hf rfl).2]; exact p7
      clear sE ht hf mt hq8 hX ii HO sC;go_wp2;go_roundw
      case rel=>exact ⟨X,t,us',th,3,eP (some ⟨bq,oq,none⟩) pc 1,pn-1,pc-1,R,rfl,rfl,rfl,rfl,rfl,DD,ra,rc,nv,pf,np,nt,tE⟩
      case measure=>cases th <;> simp [WJ,thV] <;> omega
    have hend:∃ q2,onward N q=(eB,q2)/\(N.kd=1->q2=q):=by
     unfold onward;rw [if_neg hext];by_cases hk3:N.kd=3
     .rw [if_pos hk3];cases q with
      | nil=>exact ⟨[],rfl,λh=>by omega⟩
      | cons c t =>
       refine ⟨t,?_,λh=>by omega⟩;have:(N.ks.getD c.toNat eB).size=0:=Decidable.byContradiction λh=>hbr ⟨hk3,c,t,rfl,h⟩;show (N.ks.getD c.toNat eB,t)=_;rw [dI this]
     .rw [if_neg hk3];exact ⟨q,rfl,λ_=>rfl⟩
    have HV:Hid (Says KS (zi N q us l.length)):=hid (by
     obtain ⟨q2,h1,h2⟩:=hend;rw [<-lv.out];exact SY lO.out Hn.out h1 h2)
    obtain ⟨ev,ei,eu,vy⟩:∃ v i r,zi N q us ln=vdC v i us r:=by
     unfold zi;split <;> exact ⟨_,_,_,rfl⟩
    rw [mA.out,vy] at HV;rcases hkd with hk1 | rd | hk3
    .have dp:Hid ((ndC N na nn nc)[0]? = some (.int .i64 1)):=hid (by rw [<-hk1]; rfl);obtain rfl:=fW (by rw [hk1]; decide);clear nm fW hk1 hext kl hbr hend;go_wp2_with (first
      | (refine aB (aY _ _ _ w5.heap.size rfl rfl) ?_)
      | (refine bI nl.out cB _ na nn nc az.out rfl _ _ rfl rfl rfl rfl ?_; intro w6 bj cm; have cz:=hid bj; have af:Hid (Below w5.heap.size w5 w6):=hid (cm.below hal aH); have HO:=hid (nj.out.below af.out); have ed:=hid (dP lA.out af.out); have dl:=hid (eW.out.below af.out); have k0:=aV (j:=0) cz.out dp.out; have k7:=aV (j:=0) HO.out.fg rfl; clear bj cm)
      | (refine aB (bU cz.out az.out ⟨_,rfl,rfl⟩) ?_))
     refine (pV N na nn nc az.out _ _ _ _ us ln w6 dl.out ed.out.1).mono ?_;rintro e w8 ⟨rfl,cE⟩;have cJ:=hid (HO.out.below cE);rw [vy];clear cE;go_wp2_with (first
      | (refine bS cJ.out.fo rfl _ _ _ _ rfl _ _ rfl rfl rfl rfl ?_; intro w9 aw b8; have cl:=hid aw; have cX:=hid (b8.below cJ.out.b (by have:=cJ.out.lo; omega)); clear aw b8))
     exact bodyPost_ret (jX (q:=6) rfl _ rfl cl.out) rfl ⟨_,rfl,HV.out,cX.out⟩
    .have dp:Hid ((ndC N na nn nc)[0]? = some (.int .i64 2)):=hid (by rw [<-rd]; rfl);obtain rfl:=fW (by rw [rd]; decide);have O0:Hid (∀ W,bf W na nn nc N.p->bf W pa pn pc q->Calls prog 44 #[.slice pa pn pc,.slice na nn nc] W λe w'=>e = .returned (.bool false)/\W=w'):=hid (λW h1 h2=>by
      have:=Ho na pa nn pn nc pc N.p q (by omega) W h1 h2;rw [decide_eq_false (λh=>hext ⟨rd,h⟩)] at this;exact this)
     clear nm fW rd hext kl hbr hend;go_wp2_with (first
      | (refine aB (aY _ _ _ w5.heap.size rfl rfl) ?_)
      | (refine bI nl.out cB _ na nn nc az.out rfl _ _ rfl rfl rfl rfl ?_; intro w6 bj cm; have cz:=hid bj; have af:Hid (Below w5.heap.size w5 w6):=hid (cm.below hal aH); have HO:=hid (nj.out.below af.out); have ed:=hid (dP lA.out af.out); have dl:=hid (eW.out.below af.out); have k0:=aV (j:=0) cz.out dp.out; have k7:=aV (j:=0) HO.out.fg rfl; have k1:=aV (j:=1) cz.out (rz N na nn nc); clear bj cm))
     refine (O0.out w6 dl.out ed.out.1).mono ?_;rintro e y ⟨rfl,rfl⟩;go_wp2_with (first
      | (refine aB (bU cz.out az.out ⟨_,rfl,rfl⟩) ?_))
     refine (pV N na nn nc az.out _ _ _ _ us ln w6 dl.out ed.out.1).mono ?_;rintro e w8 ⟨rfl,cE⟩;have cJ:=hid (HO.out.below cE);rw [vy];clear cE;go_wp2_with (first
      | (refine bS cJ.out.fo rfl _ _ _ _ rfl _ _ rfl rfl rfl rfl ?_; intro w9 aw b8; have cl:=hid aw; have cX:=hid (b8.below cJ.out.b (by have:=cJ.out.lo; omega)); clear aw b8))
     exact bodyPost_ret (jX (q:=6) rfl _ rfl cl.out) rfl ⟨_,rfl,HV.out,cX.out⟩
    .have dp:Hid ((ndC N na nn nc)[0]? = some (.int .i64 3)):=hid (by rw [<-hk3]; rfl);cases q with
     | nil =>
      obtain rfl:pn=0:=by have:=kl.len; simpa using this.symm
      clear nm fW hk3 hext kl hbr hend;cases ab with
      | true =>
       go_wp2_with (first
        | (refine aB (aY _ _ _ w5.heap.size rfl rfl) ?_)
        | (refine bI nl.out cB _ na nn nc az.out rfl _ _ rfl rfl rfl rfl ?_; intro w6 bj cm; have cz:=hid bj; have af:Hid (Below w5.heap.size w5 w6):=hid (cm.below hal aH); have HO:=hid (nj.out.below af.out); have ed:=hid (dP lA.out af.out); have dl:=hid (eW.out.below af.out); have k0:=aV (j:=0) cz.out dp.out; have k7:=aV (j:=0) HO.out.fg rfl; clear bj cm)
        | (refine aB (bU cz.out az.out ⟨_,rfl,rfl⟩) ?_))
       refine (pV N na nn nc az.out _ _ _ _ us ln w6 dl.out ed.out.1).mono ?_;rintro e w8 ⟨rfl,cE⟩;have cJ:=hid (HO.out.below cE);rw [vy];clear cE;go_wp2_with (first
        | (refine bS cJ.out.fo rfl _ _ _ _ rfl _ _ rfl rfl rfl rfl ?_; intro w9 aw b8; have cl:=hid aw; have cX:=hid (b8.below cJ.out.b (by have:=cJ.out.lo; omega)); clear aw b8))
       exact bodyPost_ret (jX (q:=6) rfl _ rfl cl.out) rfl ⟨_,rfl,HV.out,cX.out⟩
      | false =>
       go_wp2_with (first
        | (refine aB (aY _ _ _ w5.heap.size rfl rfl) ?_)
        | (refine bI nl.out cB _ na nn nc az.out rfl _ _ rfl rfl rfl rfl ?_; intro w6 bj cm; have cz:=hid bj; have af:Hid (Below w5.heap.size w5 w6):=hid (cm.below hal aH); have HO:=hid (nj.out.below af.out); have ed:=hid (dP lA.out af.out); have dl:=hid (eW.out.below af.out); have k0:=aV (j:=0) cz.out dp.out; have k7:=aV (j:=0) HO.out.fg rfl; clear bj cm)
        | (refine aB (bU cz.out az.out ⟨_,rfl,rfl⟩) ?_))
       refine (pV N na nn nc az.out _ _ _ _ us ln w6 dl.out ed.out.1).mono ?_;rintro e w8 ⟨rfl,cE⟩;have cJ:=hid (HO.out.below cE);rw [vy];clear cE;go_wp2_with (first
        | (refine bS cJ.out.fo rfl _ _ _ _ rfl _ _ rfl rfl rfl rfl ?_; intro w9 aw b8; have cl:=hid aw; have cX:=hid (b8.below cJ.out.b (by have:=cJ.out.lo; omega)); clear aw b8))
       exact bodyPost_ret (jX (q:=6) rfl _ rfl cl.out) rfl ⟨_,rfl,HV.out,cX.out⟩
     | cons c t =>
      have UI:(N.ks.getD c.toNat eB).size=0:=Decidable.byContradiction λh=>hbr ⟨hk3,c,t,rfl,h⟩;have hc16:c.toNat<16:=Hm.out c List.mem_cons_self;have db:Hid ((ndC N na nn nc)[3+c.toNat]? = some (.string (N.ks.getD c.toNat eB))):=hid (EN N na nn nc hc16 az.out);rw [dI UI] at db;obtain ⟨bq,oq,rfl,hbq,hcq⟩:=kl.at' 0 (by have:=kl.len; have:(c::t).length=pn:=this; simp at this; omega);have O4:t.length+1=pn:=by have:=kl.len; simpa using this
      have hcq:w5.cell? ⟨bq,oq,none⟩=some (.int .u8 c.toNat):=by simpa using hcq
      obtain ⟨d,hd⟩:=aA c.toNat
      rw [hd] at db hcq hc16;have vu:=hid hcq;have vx:(0:Int)<pn:=by omega
      have fX:0<pn:=by omega
      have O5:decide (0<pn)=true:=aK fX;have hdi:(d:Int)<16:=by omega
      have hd0:(0:Int)<=d:=by omega
      have hdn:d<16:=hc16;clear UI hd nm fW hk3 hext kl hbq hcq hbr hend;cases ab with
      | true =>
       go_wp2_with (first
        | (refine aB (aY _ _ _ w5.heap.size rfl rfl) ?_)
        | (refine bI nl.out cB _ na nn nc az.out rfl _ _ rfl rfl rfl rfl ?_; intro w6 bj cm; have cz:=hid bj; have af:Hid (Below w5.heap.size w5 w6):=hid (cm.below hal aH); have HO:=hid (nj.out.below af.out); have ed:=hid (dP lA.out af.out); have dl:=hid (eW.out.below af.out); have k0:=aV (j:=0) cz.out dp.out; have k7:=aV (j:=0) HO.out.fg rfl; have hc6:=aX af.out vu.out; have k3:=aV (j:=3+d) cz.out db.out; clear bj cm)
        | (refine aB (bU cz.out az.out ⟨_,rfl,rfl⟩) ?_))
       refine (pV N na nn nc az.out _ _ _ _ us ln w6 dl.out ed.out.1).mono ?_;rintro e w8 ⟨rfl,cE⟩;have cJ:=hid (HO.out.below cE);rw [vy];clear cE;go_wp2_with (first
        | (refine bS cJ.out.fo rfl _ _ _ _ rfl _ _ rfl rfl rfl rfl ?_; intro w9 aw b8; have cl:=hid aw; have cX:=hid (b8.below cJ.out.b (by have:=cJ.out.lo; omega)); clear aw b8))
       exact bodyPost_ret (jX (q:=6) rfl _ rfl cl.out) rfl ⟨_,rfl,HV.out,cX.out⟩
      | false =>
       go_wp2_with (first
        | (refine aB (aY _ _ _ w5.heap.size rfl rfl) ?_)
        | (refine bI nl.out cB _ na nn nc az.out rfl _ _ rfl rfl rfl rfl ?_; intro w6 bj cm; have cz:=hid bj; have af:Hid (Below w5.heap.size w5 w6):=hid (cm.below hal aH); have HO:=hid (nj.out.below af.out); have ed:=hid (dP lA.out af.out); have dl:=hid (eW.out.below af.out); have k0:=aV (j:=0) cz.out dp.out; have k7:=aV (j:=0) HO.out.fg rfl; have hc6:=aX af.out vu.out; have k3:=aV (j:=3+d) cz.out db.out; clear bj cm)
        | (refine aB (bU cz.out az.out ⟨_,rfl,rfl⟩) ?_))
       refine (pV N na nn nc az.out _ _ _ _ us ln w6 dl.out ed.out.1).mono ?_;rintro e w8 ⟨rfl,cE⟩;have cJ:=hid (HO.out.below cE);rw [vy];clear cE;go_wp2_with (first
        | (refine bS cJ.out.fo rfl _ _ _ _ rfl _ _ rfl rfl rfl rfl ?_; intro w9 aw b8; have cl:=hid aw; have cX:=hid (b8.below cJ.out.b (by have:=cJ.out.lo; omega)); clear aw b8))
       exact bodyPost_ret (jX (q:=6) rfl _ rfl cl.out) rfl ⟨_,rfl,HV.out,cX.out⟩
end Tm
end
end Go.Proofs.YtokaiemgjngcoaaGreatDoor
