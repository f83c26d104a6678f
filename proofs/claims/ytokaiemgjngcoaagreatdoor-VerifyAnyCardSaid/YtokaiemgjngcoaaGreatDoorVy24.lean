/-
 The contract of verify.follow, of any texts.
-/
import Derived.Test.YtokaiemgjngcoaaGreatDoorVy23
open Go.Lib (hid)
open Go.Proofs.Tryz
set_option linter.unusedSimpArgs false
set_option linter.unusedVariables false
set_option maxHeartbeats 40000000
set_option maxRecDepth 100000
namespace Go.Proofs.YtokaiemgjngcoaaGreatDoor
section
open Go.RowKit
namespace Tm
open Tr Ni Pk Ky No Rf Rl
open Sm (Tab)
theorem xK (l:List aM) (hx:∀ s∈l,s.size<=900000) (la:aL) (ln lc:Nat) (r k:aN) (hr:r.length=32) (hk:k.length=32) (w:World) (hl:lK w la ln lc l) (h1k:ln<=1000) (hT:Tab w) :
  Calls prog 23 #[.agg (Sm.kc r),.agg (kc k),.slice la ln lc] w (Xu w (eU l r (bO k))):=by
 have dg:=hid hr;have bj:=hid hk;have eo:=hid hl;have HX:=hid hx;have pD:=hid hT;have hln:=hl.len;have cD:=hid hln;obtain ⟨w1,hw1⟩:=ay (((w.alloc (.cells (Sm.kc r) 23)).alloc (.cells (kc k) 24)).alloc (.cells (vdC eB false 0 false) 62))
 have hb1:Below w.heap.size w w1:=by rw [hw1]; exact bst (al2 _ _ _) (al1 _ _)
 have hs1:w1.heap.size=w.heap.size+3:=by rw [hw1]; simp
 have hS1:Rg.Own w1 w.heap.size (Sm.kc r) 23:=by rw [hw1]; exact (Rg.Own.new _ _ _).below (al2 _ _ _)
 have hK1:Rg.Own w1 (w.heap.size+1) (kc k) 24:=by
  have:=(Rg.Own.new (w.alloc (.cells (Sm.kc r) 23)) (kc k) 24).below (al1 _ (.cells (vdC eB false 0 false) 62));rw [hw1];simpa using this
 have bc:Rg.Own w1 (w.heap.size+2) (vdC eB false 0 false) 62:=by
  have:=Rg.Own.new ((w.alloc (.cells (Sm.kc r) 23)).alloc (.cells (kc k) 24)) (vdC eB false 0 false) 62;rw [hw1];simpa using this
 have HB1:=hid hb1;have cJ:=hid hS1;have dp:=hid hK1;have dl:=hid bc;have HW:Hid (_=_):=hid hw1;obtain ⟨C,hC⟩:=aA (kc k)
 have HC:=hid hC;rw [hC];rw [hC] at HW dp;clear hb1 hS1 hK1 bc hw1 hr hl hx hC;by_cases h0:ln=0
 .have hq0:((ln:Int)==0)=true:=by simp [h0]
  have wt:Hid (∀ W,Below w.heap.size w W->Calls prog 33 #[.string eB] W λe w'=>e = .returned (.agg (Sm.kc (eT eB)))/\Below W.heap.size W w'):=hid (λW hb=>zx eB (Nat.zero_le _) W (pD.out.below hb pD.out.pos));have kq:=hid (iq eB);have HV:Hid (Says (eU l r (bO k)) (vdC eB false 0 (decide (r=eT eB)))):=hid (by
   unfold eU;rw [if_pos (by omega)];by_cases e:r=eT eB
   .rw [if_pos e,aK e]; rfl
   .rw [if_neg e,decide_eq_false e]; exact ⟨_,_,rfl⟩)
  obtain ⟨S,hS⟩:=aA (eU l r (bO k))
  rw [hS] at HV;rw [hS];obtain ⟨Z,hZ⟩:=aA (eT eB)
  rw [hZ] at wt kq HV;obtain ⟨X,hX⟩:=aA (decide (r=Z))
  have lk:=hid hX;rw [hX] at HV;clear hS hZ hX hT;go_enter func23,ntmps23;go_wp2_with (first
   | (refine aB (eY _ _ _ (w.heap.size+2) (by simp) rfl) ?_; rw [<-HW.out]))
  go_step3
  go_wp2_with fail
  refine aD (S:=λw'=>Rg.Own w' w.heap.size (Sm.kc r) 23/\(∃ c,Rg.Own w' (w.heap.size+2) c 62/\c.size=4)/\Below w.heap.size w w') (⟨cJ.out.drew,⟨_,dl.out.drew,rfl⟩,HB1.out.drew⟩) λhld=>?_;refine aj 0 ?_ (hy:=by intro wz hSw; (refine Sm.cu _ _ _ w.heap.size r dg.out ?_ hSw.1; exact ⟨_,rfl,rfl⟩));try simp only [Act.put,au]
  refine ak 1 λK hK=>?_;go_simp;go_at_call 33
  (with_reducible refine (wt.out _ hld.2.2).mono ?_)
  rintro e y1 ⟨rfl,hbx⟩;refine hK.out _ _ (⟨hld.1.below hbx,(by obtain ⟨c,h1,h2⟩:=hld.2.1; exact ⟨c,h1.below hbx,h2⟩),hld.2.2.trans (hbx.mono hld.2.2.size)⟩) λhld=>?_;clear hK K hbx;try simp only [Act.put,au]
  refine aj 2 ?_ (hy:=by intro wz hSw; (refine Eh dg.out kq.out lk.out ?_; exact ⟨_,_,_,rfl,rfl,rfl⟩));try simp only [Act.put,au]
  refine aj 3 ?_ (hy:=by intro wz hSw; (refine bC (Mj X) ?_; exact ⟨_,rfl,rfl⟩));try simp only [Act.put,au]
  refine ak 4 λK hK=>?_;obtain ⟨c6,h6,U4⟩:=hld.2.1;refine Rg.meetStore (by rfl) h6 62 (vdC eB false 0 X) ⟨_,_,rfl,rfl,rfl⟩ EH U4 (LQ _ _ _ _) ?_;intro w9 ae af;have pB:=hld.1.upd af (by omega);have bo:=hid (af.below hld.2.2 (by omega));have b8:=hid ae;clear h6 U4 af ae;refine hK.out _ _ (⟨pB,⟨_,b8.out,rfl⟩,bo.out⟩) λhld=>?_;clear hK K pB;try simp only [Act.put,au]
  refine aC ?_;clear hld;go_wp2;exact bodyPost_ret (jX (q:=6) rfl _ rfl b8.out) rfl ⟨_,rfl,HV.out,bo.out⟩
 have hq0:((ln:Int)==0)=false:=by simp [h0]
 have u0:(0:Int)<ln:=by omega
 have qv:0<ln:=by omega
 by_cases yi:70<ln
 .have m6:decide ((70:Int)<(ln:Int))=true:=aK (by omega);have o9:decide (70<ln)=true:=aK yi;have HV:Hid (Says (eU l r (bO k)) (vdC eB false 0 false)):=hid (by
   unfold eU;rw [if_neg (by omega),if_pos (by omega)];exact ⟨_,_,rfl⟩)
  obtain ⟨S,hS⟩:=aA (eU l r (bO k))
  rw [hS] at HV;rw [hS];clear hS hT;go_enter func23,ntmps23;go_wp2_with (first
   | (refine aB (eY _ _ _ (w.heap.size+2) (by simp) rfl) ?_; rw [<-HW.out]))
  go_step3
  go_wp2_with fail
  refine aD (S:=λw'=>Below w1.heap.size w1 w') (aI.drew) λhld=>?_;refine aj 0 ?_;try simp only [Act.put,au]
  refine aj 1 ?_;try simp only [Act.put,au]
  refine aj 2 ?_ (hy:=by intro wz hSw; (have q0:=m6; have q1:=o9; go_simp <;> with_reducible rfl));try simp only [Act.put,au]
  refine aj 3 ?_;try simp only [Act.put,au]
  refine Rg.takeL (i:=4) (v:=undef) rfl (by kernel_rfl) (by kernel_rfl) (by kernel_rfl) (λ_ _ _ h=>h) (Or.inr ⟨by rfl,rfl⟩) (by assumption) ?_;try simp only [Act.put,au]
  refine Rg.takeL (i:=5) (v:=undef) rfl (by kernel_rfl) (by kernel_rfl) (by kernel_rfl) (λ_ _ _ h=>h) (Or.inr ⟨by rfl,rfl⟩) (by assumption) ?_;try simp only [Act.put,au]
  refine Rg.takeL (i:=6) (v:=undef) rfl (by kernel_rfl) (by kernel_rfl) (by kernel_rfl) (λ_ _ _ h=>h) (Or.inr ⟨by rfl,rfl⟩) (by assumption) ?_;try simp only [Act.put,au]
  refine Rg.takeL (i:=7) (v:=undef) rfl (by kernel_rfl) (by kernel_rfl) (by kernel_rfl) (λ_ _ _ h=>h) (Or.inr ⟨by rfl,rfl⟩) (by assumption) ?_;try simp only [Act.put,au]
  refine Rg.takeL (i:=8) (v:=undef) rfl (by kernel_rfl) (by kernel_rfl) (by kernel_rfl) (λ_ _ _ h=>h) (Or.inr ⟨by rfl,rfl⟩) (by assumption) ?_;try simp only [Act.put,au]
  refine Rg.takeL (i:=9) (v:=undef) rfl (by kernel_rfl) (by kernel_rfl) (by kernel_rfl) (λ_ _ _ h=>h) (Or.inr ⟨by rfl,rfl⟩) (by assumption) ?_;try simp only [Act.put,au]
  refine aj 10 ?_;try simp only [Act.put,au]
  refine aC ?_;have am:=hid hld;clear hld;go_wp2_with (first
   | (refine aB (bC Cg ⟨_,rfl,rfl⟩) ?_)
   | (refine dh (dl.out.below am.out) rfl _ _ _ _ rfl _ _ rfl rfl rfl rfl ?_; intro w9 ae af; have b8:=hid ae; have bo:=hid (af.below (HB1.out.trans (am.out.mono HB1.out.size)) (by omega)); clear ae af))
  exact bodyPost_ret (jX (q:=6) rfl _ rfl b8.out) rfl ⟨_,rfl,HV.out,bo.out⟩
 have m6:decide ((70:Int)<(ln:Int))=false:=decide_eq_false (by omega);have o9:decide (70<ln)=false:=decide_eq_false yi;have hm0:l.getD 0 eB∈l:=Rf.gW (by omega);have hsz0:=HX.out _ hm0;obtain ⟨b0,o0,hla,hblt,hc0⟩:=eo.out.at' 0 (by omega);have wt:Hid (∀ W,Below w.heap.size w W->Calls prog 33 #[.string (l.getD 0 eB)] W λe w'=>e = .returned (.agg (Sm.kc (eT (l.getD 0 eB))))/\Below W.heap.size W w'):=hid (λW hb=>zx _ hsz0 W (pD.out.below hb pD.out.pos));have kq:=hid (iq (l.getD 0 eB))
 obtain ⟨X,hX⟩:=aA (!decide (eT (l.getD 0 eB)=r))
 have lk:=hid hX;have eS:Hid (eU l r (bO k)=if X=true then (none,0) else jc l ((bO k).length+1) (l.getD 0 eB) (bO k) 1 false):=hid (by
  unfold eU;rw [if_neg (by omega),if_neg (by omega)];by_cases e:eT (l.getD 0 eB)=r
  .have:X=false:=by rw [<-hX,aK e]; rfl
   rw [if_pos e,if_neg (by rw [this]; decide)];have hp:=fZ k hk;exact pE l HX.out _ _ _ _ _ _ hsz0 (by omega) (by omega)
  .have:X=true:=by rw [<-hX,decide_eq_false e]; rfl
   rw [if_neg e,if_pos this])
 have hc0:w.cell? ⟨b0,o0,none⟩=some (.string (l.getD 0 eB)):=by simpa using hc0
 have yq:=hid hc0;have hc1:w1.cell? ⟨b0,o0,none⟩=some (.string (l.getD 0 eB)):=aX HB1.out hc0;obtain ⟨E0,hE0⟩:=aA (l.getD 0 eB)
 rw [hE0] at lk eS wt kq hc1 hsz0 yq;obtain ⟨Z,hZ⟩:=aA (eT E0)
 rw [hZ] at wt kq lk;have B2:=hid hsz0;have Ek:=hid hc1;have fY:=hid (λW=>GU k hk W);have pS:=hid (fZ k hk);have Ok:=hid (zI k);have hlat:∀ g,w.heap.size<=g->∀ ad,la=some ad->ad.block≠g:=λg hg ad e=>by
  rw [hla] at e;rw [<-Option.some.inj e];show b0≠g;omega
 have ww:=hid hlat;obtain ⟨q0,wA⟩:=aA (bO k)
 rw [wA] at eS fY pS Ok;rw [wA];obtain ⟨KS,xb⟩:=aA (eU l r q0)
 rw [xb] at eS;rw [xb];clear xb;subst hla;rw [HC.out] at fY;clear hX hZ hm0 hc0 hE0 hsz0 hc1 wA hlat hT;go_enter func23,ntmps23;go_wp2_with (first
  | (refine aB (eY _ _ _ (w.heap.size+2) (by simp) rfl) ?_; rw [<-HW.out]))
 go_step3
 go_wp2_with fail
 refine aD (S:=λw'=>Below w1.heap.size w1 w') (aI.drew) λhld=>?_;refine aj 0 ?_;try simp only [Act.put,au]
 refine aj 1 ?_;try simp only [Act.put,au]
 refine aj 2 ?_ (hy:=by intro wz hSw; (have q0:=m6; have q1:=o9; go_simp <;> with_reducible rfl));try simp only [Act.put,au]
 refine aj 3 ?_;try simp only [Act.put,au]
 refine aj 4 ?_;try simp only [Act.put,au]
 refine aj 5 ?_ (hy:=by intro wz hSw; (have q0:=u0; have q1:=qv; go_simp <;> with_reducible rfl));try simp only [Act.put,au]
 refine aj 6 ?_ (hy:=by intro wz hSw; (have q0:=aX hSw Ek.out; go_simp <;> with_reducible rfl));try simp only [Act.put,au]
 refine aj 8 ?_ (hy:=by intro wz hSw; (refine Sm.cu _ _ _ w.heap.size r dg.out ?_ (cJ.out.below hSw); exact ⟨_,rfl,rfl⟩));try simp only [Act.put,au]
 refine ak 7 λK hK=>?_;go_simp;go_at_call 33
 (with_reducible refine (wt.out _ (HB1.out.trans (Below.mono hld HB1.out.size))).mono ?_)
 rintro e y1 ⟨rfl,hbx⟩;refine hK.out _ _ (Below.trans hld (hbx.mono hld.size)) λhld=>?_;clear hK K hbx;try simp only [Act.put,au]
 refine aj 9 ?_ (hy:=by intro wz hSw; (refine rC kq.out dg.out lk.out ?_; exact ⟨_,_,_,rfl,rfl,rfl⟩));try simp only [Act.put,au]
 refine aj 10 ?_;try simp only [Act.put,au]
 refine aC ?_;obtain ⟨wa,OF⟩:=aA y1
 rw [OF] at hld;rw [OF];have am:=hid hld;clear hld OF;cases X with
 | true =>
  have HV:Hid (Says KS (vdC eB false 0 false)):=hid (by rw [eS.out,if_pos rfl]; exact ⟨_,_,rfl⟩);clear eS;go_wp2_with (first
   | (refine aB (bC Cg ⟨_,rfl,rfl⟩) ?_)
   | (refine dh (dl.out.below am.out) rfl _ _ _ _ rfl _ _ rfl rfl rfl rfl ?_; intro w9 ae af; have b8:=hid ae; have bo:=hid (af.below (HB1.out.trans (am.out.mono HB1.out.size)) (by omega)); clear ae af))
  exact bodyPost_ret (jX (q:=6) rfl _ rfl b8.out) rfl ⟨_,rfl,HV.out,bo.out⟩
 | false =>
  have yd:Hid (jc l (q0.length+1) E0 q0 1 false=KS):=hid (by rw [eS.out,if_neg (by decide)]);clear eS;have EE:Hid (Below w.heap.size w wa):=hid (HB1.out.trans (am.out.mono HB1.out.size));have hsa:w.heap.size+3<=wa.heap.size:=by have:=am.out.size; omega
  have HI0:=hid (Rg.Own.new wa #[.int .i64 0] 3);obtain ⟨wb,hwb⟩:=aA ((wa.alloc (.cells #[.int .i64 0] 3)).setCell ⟨wa.heap.size,0,none⟩ (.int .i64 1))
  have hib:Rg.Own wb wa.heap.size #[.int .i64 ((1:Nat):Int)] 3:=by rw [<-hwb]; exact cO (o:=0) HI0.out _
  have hub:Below wa.heap.size wa wb:=by rw [<-hwb]; exact (bQ _ _ _ _).below (al1 _ _) aH
  have U5:=hid hib;have I0:=hid hub;have sX:=hid hwb;have E7:=hid (dl.out.below am.out);have EQ:=hid (dp.out.below am.out);have hsb:wa.heap.size<wb.heap.size:=hib.1;clear hib hub hwb am dl dp cJ HB1 lk wt kq Ek HW hs1;go_wp2_with (first
   | (refine aB (BM _ _ _ wa.heap.size rfl rfl) ?_)
   | (refine rX rfl _ (Cx (off:=0) HI0.out (by decide) 1 ⟨_,_,rfl,rfl,rfl⟩) ?_; rw [sX.out]))
  refine (GK (some ⟨b0,o0,none⟩) ln lc wa.heap.size wb).mono ?_;rintro e wc ⟨bp,bu,rfl,hbp,hbu,hou,hop,hbc⟩;have OK:Hid (Fol w (some ⟨b0,o0,none⟩) ln lc (w.heap.size+2) wa.heap.size bu bp 1 wc):=hid ⟨bst (bst EE.out I0.out) hbc,(E7.out.below I0.out).below hbc,U5.out.below hbc,hou,hop,by omega,by omega,by omega,by omega⟩;have U6:=hid ((EQ.out.below I0.out).below hbc);have hsc:wa.heap.size<wc.heap.size:=by have:=hbc.size; omega
  clear hou hop hbc hbp hbu E7 EQ I0 U5 HI0 sX EE;obtain ⟨g,hg⟩:=aA wa.heap.size
  rw [hg] at OK hsc hsa;rw [hg];clear hg hsb;go_wp2_with (first
   | (refine Rg.run rfl (.agg C) _ (by rw [<-HC.out]; exact bE bj.out (by rw [HC.out]; exact U6.out.2) ⟨_,rfl,rfl⟩) ?_))
  refine (fY.out wc).mono ?_;rintro e wd ⟨r0,rfl,hr0,hbd⟩;have ON:=hid (OK.out.below hbd);have OR:=hid hr0;have OS:r0.2.1=64:=by rw [<-hr0.1.len]; exact pS.out
  have hcd:=aX ON.out.b yq.out;have I1:Hid (g<wc.heap.size):=hid hsc;obtain ⟨B,hB⟩:=aA wc.heap.size
  rw [hB] at OR I1;obtain ⟨AS,AT,AW⟩:=r0;obtain rfl:AT=64:=OS;clear hr0 hbd OK U6 fY hsc hB;go_wp2;go_step3
  go_wp2
  go_loopw [9,10,11,12,13] (λv9 v10 v11 v12 v13 wr=>∃ (E:aM) (q:Pa) (us:Nat) (th:Bool) (ah:Int) (pa:aL) (pn pc:Nat) (R0:aM),v9 = .slice pa pn pc/\v10 = .string R0/\v11 = .int .i64 ah/\v12 = .string E/\v13 = .bool th/\Hid (BsP (λb=>B<=b) wr (pa,pn,pc) q)/\Hid (Nib q)/\pn<=64/\us<=ln/\Hid (th=true->E.size<=900000)/\Hid (th=true->jc l (q.length+1) E q us (decide (ah=2))=KS)/\Hid (th=false->KS=(none,us))/\Hid (Fol w (some ⟨b0,o0,none⟩) ln lc (w.heap.size+2) g bu bp us wr)) (λv9 _ _ _ v13 _=>Uh v9+thV v13)
  case atStart=>exact ⟨E0,q0,1,true,0,AS,64,AW,eB,rfl,rfl,rfl,rfl,rfl,OR,Ok,aH,qv,hid (λ_=>B2.out),hid (λ_=>yd.out),hid (λe=>by cases e),ON⟩
  case round =>
   obtain ⟨E,q,us,th,ah,pa,pn,pc,R0,rfl,rfl,rfl,rfl,rfl,HQ,qT,hpn,m7,YQ,e9,U7,HF⟩:=hrel;clear OR Ok B2 ON hcd yd;have k7:=aV (j:=0) HF.out.fg rfl;cases th with
   | false =>
    have HV:Hid (KS=(none,us)):=hid (U7.out rfl);have HO:=HF;go_wp2_with (first
     | (refine aB (bC (wC us) ⟨_,rfl,rfl⟩) ?_)
     | (refine dh HO.out.fo rfl _ _ _ _ rfl _ _ rfl rfl rfl rfl ?_; intro w9 ae af; have b8:=hid ae; have bo:=hid (af.below HO.out.b (by have:=HO.out.lo; omega)); clear ae af))
    exact bodyPost_ret (jX (q:=6) rfl _ rfl b8.out) rfl ⟨_,rfl,by rw [HV.out]; exact ⟨_,_,rfl⟩,bo.out⟩
   | true =>
    have di:=hid (e9.out rfl);have HE:=hid (YQ.out rfl);have HG:=hid (Iy E (Nat.le_trans HE.out (by decide)) wr);have HLen:Hid (E.data.toList.length<=4294967296):=hid (by rw [dZ]; exact Nat.le_trans HE.out (by decide));have hlq:q.length=pn:=HQ.out.1.len;clear e9 U7;go_wp2_with fail
    refine HG.out.mono ?_;rintro e w5 ⟨N,na,nn,nc,er,rfl,hok,hbp,j4,hb5⟩;have pd:=hid (HF.out.below hb5);have fm:=hid (eP HQ.out hb5);have fW:=hid hbp.1;have ag:=hid j4;have hal:=al1 w5 (.cells (ndC nd0 none 0 0) 67);have gx:=hid (Rg.Own.new w5 (ndC nd0 none 0 0) 67);have hs5:=hb5.size;clear hbp j4 hb5 HG HQ HF k7;rcases hok with ⟨rfl,hg⟩ | ⟨her,rfl,hg⟩
    rotate_left
    .have HV:Hid (KS=(none,us)):=hid (by
      rw [<-di.out];unfold jc;rw [hg])
     have hen:(er != 0)=true:=by simpa using her
     go_wp2_with (first
      | (refine aB (aY _ _ _ w5.heap.size rfl rfl) ?_)
      | (refine bS gx.out bK _ na nn nc ag.out rfl _ _ rfl rfl rfl rfl ?_; intro w6 az bh; have aq:=hid az; have aa:Hid (Below w5.heap.size w5 w6):=hid (bh.below hal aH); have HO:=hid (pd.out.below aa.out); have cM:=hid (eP fm.out aa.out); have cQ:=hid (fW.out.below aa.out); have k0:=aV (j:=0) aq.out (v:=.int .i64 nd0.kd) rfl; have k7:=aV (j:=0) HO.out.fg rfl; clear az bh)
      | (refine aB (bC (wC us) ⟨_,rfl,rfl⟩) ?_)
      | (refine dh HO.out.fo rfl _ _ _ _ rfl _ _ rfl rfl rfl rfl ?_; intro w9 ae af; have b8:=hid ae; have bo:=hid (af.below HO.out.b (by have:=HO.out.lo; omega)); clear ae af))
     exact bodyPost_ret (jX (q:=6) rfl _ rfl b8.out) rfl ⟨_,rfl,by rw [HV.out]; exact ⟨_,_,rfl⟩,bo.out⟩
    obtain ⟨hkd,_,L2,hk2,hks⟩:=SN HLen.out hg;have gO:=hid hg;have eS:=hid hks;have u1:=hid hk2;have hpl:=fW.out.len;have U8:nn<=64:=by omega
    by_cases fX:ah=2/\N.kd≠3
    .have HV:Hid (KS=(none,us)):=hid (by
      rw [<-di.out];unfold jc;rw [hg];dsimp only;rw [if_pos ⟨aK fX.1,fX.2⟩])
     obtain ⟨rfl,hk3⟩:=fX;have L3:(N.kd != 3)=true:=by simpa using hk3
     have L4:(N.kd==3)=false:=by simpa using hk3
     have fS:Hid ((ndC N na nn nc)[0]? = some (.int .i64 N.kd)):=hid rfl;go_wp2_with (first
      | (refine aB (aY _ _ _ w5.heap.size rfl rfl) ?_)
      | (refine bS gx.out bK _ na nn nc ag.out rfl _ _ rfl rfl rfl rfl ?_; intro w6 az bh; have aq:=hid az; have aa:Hid (Below w5.heap.size w5 w6):=hid (bh.below hal aH); have HO:=hid (pd.out.below aa.out); have cM:=hid (eP fm.out aa.out); have cQ:=hid (fW.out.below aa.out); have k0:=aV (j:=0) aq.out fS.out; have k7:=aV (j:=0) HO.out.fg rfl; clear az bh)
      | (refine aB (bC (wC us) ⟨_,rfl,rfl⟩) ?_)
      | (refine dh HO.out.fo rfl _ _ _ _ rfl _ _ rfl rfl rfl rfl ?_; intro w9 ae af; have b8:=hid ae; have bo:=hid (af.below HO.out.b (by have:=HO.out.lo; omega)); clear ae af))
     exact bodyPost_ret (jX (q:=6) rfl _ rfl b8.out) rfl ⟨_,rfl,by rw [HV.out]; exact ⟨_,_,rfl⟩,bo.out⟩
    have eM:Hid (¬ (decide (ah=2)=true/\N.kd≠3)):=hid (λh=>fX ⟨of_decide_eq_true h.1,h.2⟩);obtain ⟨ab,hab⟩:=aA (ah==2)
    have cV:N.kd≠3->ab=false:=λh=>by
     have:¬ ah=2:=λe=>fX ⟨e,h⟩;rw [<-hab];simpa using this
    have es:bf w5 pa pn pc q:=fm.out.1;by_cases hext:N.kd=2/\N.p<+:q
    .have hR:=eS.out _ (Rf.gW (xs:=N.ks) (j:=0) (by rw [ag.out]; decide));have m8:=u1.out hext.1;have eN:Hid (onward N q=(N.ks.getD 0 eB,q.drop N.p.length)):=hid (by unfold onward; rw [if_pos hext]);have da:Hid ((ndC N na nn nc)[0]? = some (.int .i64 2)):=hid (by rw [<-hext.1]; rfl);have j5:Hid (N.kd=2):=hid hext.1;have hle:=hext.2.length_le;have P0:=es.len;have hnp:nn<=pn:=by omega
     have hless:=xC HLen.out gO.out q (by rw [eN.out]; exact m8);rw [eN.out] at hless;dsimp only at hless;rw [hpl] at eN hless;have cC:Hid ((ndC N na nn nc)[3+0]? = some (.string (N.ks.getD 0 eB))):=hid (sI N na nn nc (by decide) ag.out);have ge:Hid (Nib (q.drop nn)):=hid (λc hc=>qT.out c (List.mem_of_mem_drop hc));have ry:pn-nn<=64:=by omega
     have hdl:(q.drop nn).length=pn-nn:=by rw [List.length_drop]; omega
     have P1:Hid (∀ W,bf W na nn nc N.p->bf W pa pn pc q->Calls prog 44 #[.slice pa pn pc,.slice na nn nc] W λe w'=>e = .returned (.bool true)/\W=w'):=hid (λW h1 h2=>by
      have:=Fj na pa nn pn nc pc N.p q (by omega) W h1 h2;rw [aK hext.2] at this;exact this)
     obtain rfl:=cV (by rw [hext.1]; decide);obtain ⟨R,hRe⟩:=aA (N.ks.getD 0 eB)
     rw [hRe] at hR m8 eN cC;clear hRe hext fX hle cV P0 es;go_wp2_with (first
      | (refine aB (aY _ _ _ w5.heap.size rfl rfl) ?_)
      | (refine bS gx.out bK _ na nn nc ag.out rfl _ _ rfl rfl rfl rfl ?_; intro w6 az bh; have aq:=hid az; have aa:Hid (Below w5.heap.size w5 w6):=hid (bh.below hal aH); have HO:=hid (pd.out.below aa.out); have cM:=hid (eP fm.out aa.out); have cQ:=hid (fW.out.below aa.out); have k0:=aV (j:=0) aq.out da.out; have k7:=aV (j:=0) HO.out.fg rfl; have k1:=aV (j:=1) aq.out (iO N na nn nc); clear az bh))
     refine (P1.out w6 cQ.out cM.out.1).mono ?_;rintro e y ⟨rfl,rfl⟩;go_wp2_with fail
     refine aD (S:=λw'=>Below w6.heap.size w6 w') (aI.drew) λhld=>?_;refine aj 0 ?_;try simp only [Act.put,au]
     refine aj 1 ?_;try simp only [Act.put,au]
     refine aj 2 ?_ (hy:=by intro wz hSw; (have q0:=aV (j:=3+0) (aq.out.below hSw) cC.out; go_simp <;> with_reducible rfl));try simp only [Act.put,au]
     refine aj 3 ?_;try simp only [Act.put,au]
     refine aj 4 ?_;try simp only [Act.put,au]
     refine aj 5 ?_ (hy:=by intro wz hSw; (have q0:=aV (j:=1) (aq.out.below hSw) (iO N na nn nc); go_simp <;> with_reducible rfl));try simp only [Act.put,au]
     refine aj 6 ?_;try simp only [Act.put,au]
     refine aj 7 ?_ (hy:=by intro wz hSw; (refine jk (a:=pa) (n:=pn) (c:=pc) (i:=nn) fV iD hnp ?_; exact ⟨_,_,rfl,rfl,rfl⟩));try simp only [Act.put,au]
     refine aj 8 ?_;try simp only [Act.put,au]
     refine aj 9 ?_;try simp only [Act.put,au]
     refine aC ?_;have ed:=hid hld;clear hld;obtain ⟨w7,hw7⟩:=aA w6.drew
     rw [hw7] at ed;rw [hw7];clear hw7;have sY:=hid (eP (Al cM.out nn hnp) ed.out);have cN:=hid (HO.out.below ed.out);clear ed HO cM cQ aq aa k0 k7 k1;have HO:=cN;clear cN;go_wp2_with fail
     refine (wL l HX.out (some ⟨b0,o0,none⟩) ln lc R us g bu bp w7 (eo.out.below HO.out.b) hR m7 h1k HO.out.fg HO.out.fu HO.out.fp (by have:=HO.out.gu; omega) (by have:=HO.out.gp; omega) (ww.out g (by have:=HO.out.lo; have:=HO.out.og; omega)) (pD.out.below HO.out.b pD.out.pos)).mono ?_;intro e w8 t9;obtain ⟨X,th,us',rfl,ht,hf,ot,hq8⟩:=HO.out.next t9;have EV:=hid ot;have ma:=hid (hq8 B _ _ I1.out sY.out);have hX:th=true->X.size<=900000/\us'<=l.length:=λe=>Ka HX.out hR (by rw [cD.out]; exact m7) (ht e)
     have jb:=di.out.symm.trans (zl gO.out eM.out eN.out m8);have pf:Hid (th=true->jc l ((q.drop nn).length+1) X (q.drop nn) us' (decide ((2:Int)=2))=KS):=hid (λe=>by
      rw [ht e,j5.out] at jb;exact (pE l HX.out _ _ _ _ _ _ (hX e).1 (by omega) (by omega)).trans jb.symm)
     have pg:Hid (th=false->KS=(none,us')):=hid (λe=>by
      rw [(hf e).1] at jb;rw [(hf e).2];exact jb)
     have li:Hid (th=true->X.size<=900000):=hid (λe=>(hX e).1);have ph:us'<=ln:=by
      cases th with
      | true=>rw [<-cD.out]; exact (hX rfl).2
      | false=>rw [(hf rfl).2]; exact m7
     clear t9 ht hf ot hq8 hX jb HO sY;go_wp2;go_roundw
     case rel=>exact ⟨X,(q.drop nn),us',th,2,eX pa pc nn,pn-nn,pc-nn,R,rfl,rfl,rfl,rfl,rfl,ma,ge,ry,ph,li,pf,pg,EV⟩
     case measure=>cases th <;> simp [Uh,thV] <;> omega
    by_cases hbr:N.kd=3/\∃ c t,q=c::t/\(N.ks.getD c.toNat eB).size≠0
    .obtain ⟨hk3,c,t,rfl,m8⟩:=hbr;have hc16:c.toNat<16:=qT.out c List.mem_cons_self;have hR:=eS.out _ (Rf.gW (xs:=N.ks) (j:=c.toNat) (by rw [ag.out]; exact hc16));have eN:Hid (onward N (c::t)=(N.ks.getD c.toNat eB,t)):=hid (by
      unfold onward;rw [if_neg (λh=>hext h),if_pos hk3])
     have da:Hid ((ndC N na nn nc)[0]? = some (.int .i64 3)):=hid (by rw [<-hk3]; rfl);have j5:Hid (N.kd=3):=hid hk3;obtain ⟨bq,oq,rfl,hbq,hcq⟩:=es.at' 0 (by have:=es.len; have:(c::t).length=pn:=this; simp at this; omega);have uc:t.length+1=pn:=by have:=es.len; simpa using this
     have hcq:w5.cell? ⟨bq,oq,none⟩=some (.int .u8 c.toNat):=by simpa using hcq
     obtain ⟨d,hd⟩:=aA c.toNat
     have hless:t.length<(c::t).length:=Nat.lt_succ_self _;have cC:Hid ((ndC N na nn nc)[3+c.toNat]? = some (.string (N.ks.getD c.toNat eB))):=hid (sI N na nn nc hc16 ag.out);have ge:Hid (Nib t):=hid (λx hx=>qT.out x (List.mem_cons_of_mem _ hx));obtain ⟨R,hRe⟩:=aA (N.ks.getD c.toNat eB)
     rw [hRe] at hR m8 eN cC;rw [hd] at cC hcq hc16;have lj:=hid hcq;have oe:(0:Int)<pn:=by omega
     have dj:0<pn:=by omega
     have ud:decide (0<pn)=true:=aK dj;have hdi:(d:Int)<16:=by omega
     have hd0:(0:Int)<=d:=by omega
     have hdn:d<16:=hc16;have ry:pn-1<=64:=by omega
     have hne:=Ni.bZ (s:=R) (by omega);clear hRe hd fX cV hk3 hext es hbq hcq;cases ab with
     | true =>
      go_wp2_with (first
       | (refine aB (aY _ _ _ w5.heap.size rfl rfl) ?_)
       | (refine bS gx.out bK _ na nn nc ag.out rfl _ _ rfl rfl rfl rfl ?_; intro w6 az bh; have aq:=hid az; have aa:Hid (Below w5.heap.size w5 w6):=hid (bh.below hal aH); have HO:=hid (pd.out.below aa.out); have cM:=hid (eP fm.out aa.out); have cQ:=hid (fW.out.below aa.out); have k0:=aV (j:=0) aq.out da.out; have k7:=aV (j:=0) HO.out.fg rfl; have hc6:=aX aa.out lj.out; have F0:=hid hc6; have k3:=aV (j:=3+d) aq.out cC.out; clear az bh))
      refine aD (S:=λw'=>Below w6.heap.size w6 w') (aI.drew) λhld=>?_;refine aj 0 ?_;try simp only [Act.put,au]
      refine aj 1 ?_ (hy:=by intro wz hSw; (have q0:=oe; have q1:=dj; go_simp <;> with_reducible rfl));try simp only [Act.put,au]
      refine aj 2 ?_ (hy:=by intro wz hSw; (have q0:=aX hSw F0.out; go_simp <;> with_reducible rfl));try simp only [Act.put,au]
      refine aj 3 ?_;try simp only [Act.put,au]
      refine aj 4 ?_ (hy:=by intro wz hSw; (have q0:=hdi; have q1:=hd0; have q2:=hdn; go_simp <;> with_reducible rfl));try simp only [Act.put,au]
      refine aj 5 ?_ (hy:=by intro wz hSw; (have q0:=aV (j:=3+d) (aq.out.below hSw) cC.out; have q1:=hdi; have q2:=hd0; have q3:=hdn; go_simp <;> with_reducible rfl));try simp only [Act.put,au]
      refine aj 6 ?_;try simp only [Act.put,au]
      refine aj 7 ?_ (hy:=by intro wz hSw; (refine jk (a:=some ⟨bq,oq,none⟩) (n:=pn) (c:=pc) (i:=1) fV iD dj ?_; exact ⟨_,_,rfl,rfl,rfl⟩));try simp only [Act.put,au]
      refine aj 8 ?_;try simp only [Act.put,au]
      refine aj 9 ?_;try simp only [Act.put,au]
      refine aC ?_;have ed:=hid hld;clear hld;obtain ⟨w7,hw7⟩:=aA w6.drew
      rw [hw7] at ed;rw [hw7];clear hw7;have sY:=hid (eP (Al cM.out 1 dj) ed.out);have cN:=hid (HO.out.below ed.out);clear ed HO cM cQ aq aa k0 k7 hc6 F0 k3;have HO:=cN;clear cN;go_wp2_with fail
      refine (wL l HX.out (some ⟨b0,o0,none⟩) ln lc R us g bu bp w7 (eo.out.below HO.out.b) hR m7 h1k HO.out.fg HO.out.fu HO.out.fp (by have:=HO.out.gu; omega) (by have:=HO.out.gp; omega) (ww.out g (by have:=HO.out.lo; have:=HO.out.og; omega)) (pD.out.below HO.out.b pD.out.pos)).mono ?_;intro e w8 t9;obtain ⟨X,th,us',rfl,ht,hf,ot,hq8⟩:=HO.out.next t9;have EV:=hid ot;have ma:=hid (hq8 B _ _ I1.out sY.out);have hX:th=true->X.size<=900000/\us'<=l.length:=λe=>Ka HX.out hR (by rw [cD.out]; exact m7) (ht e)
      have jb:=di.out.symm.trans (zl gO.out eM.out eN.out m8);have pf:Hid (th=true->jc l (t.length+1) X t us' (decide ((3:Int)=2))=KS):=hid (λe=>by
       rw [ht e,j5.out] at jb;exact (pE l HX.out _ _ _ _ _ _ (hX e).1 (by omega) (by omega)).trans jb.symm)
      have pg:Hid (th=false->KS=(none,us')):=hid (λe=>by
       rw [(hf e).1] at jb;rw [(hf e).2];exact jb)
      have li:Hid (th=true->X.size<=900000):=hid (λe=>(hX e).1);have ph:us'<=ln:=by
       cases th with
       | true=>rw [<-cD.out]; exact (hX rfl).2
       | false=>rw [(hf rfl).2]; exact m7
      clear t9 ht hf ot hq8 hX jb HO sY;go_wp2;go_roundw
      case rel=>exact ⟨X,t,us',th,3,eX (some ⟨bq,oq,none⟩) pc 1,pn-1,pc-1,R,rfl,rfl,rfl,rfl,rfl,ma,ge,ry,ph,li,pf,pg,EV⟩
      case measure=>cases th <;> simp [Uh,thV] <;> omega
     | false =>
      go_wp2_with (first
       | (refine aB (aY _ _ _ w5.heap.size rfl rfl) ?_)
       | (refine bS gx.out bK _ na nn nc ag.out rfl _ _ rfl rfl rfl rfl ?_; intro w6 az bh; have aq:=hid az; have aa:Hid (Below w5.heap.size w5 w6):=hid (bh.below hal aH); have HO:=hid (pd.out.below aa.out); have cM:=hid (eP fm.out aa.out); have cQ:=hid (fW.out.below aa.out); have k0:=aV (j:=0) aq.out da.out; have k7:=aV (j:=0) HO.out.fg rfl; have hc6:=aX aa.out lj.out; have F0:=hid hc6; have k3:=aV (j:=3+d) aq.out cC.out; clear az bh))
      refine aD (S:=λw'=>Below w6.heap.size w6 w') (aI.drew) λhld=>?_;refine aj 0 ?_;try simp only [Act.put,au]
      refine aj 1 ?_ (hy:=by intro wz hSw; (have q0:=oe; have q1:=dj; go_simp <;> with_reducible rfl));try simp only [Act.put,au]
      refine aj 2 ?_ (hy:=by intro wz hSw; (have q0:=aX hSw F0.out; go_simp <;> with_reducible rfl));try simp only [Act.put,au]
      refine aj 3 ?_;try simp only [Act.put,au]
      refine aj 4 ?_ (hy:=by intro wz hSw; (have q0:=hdi; have q1:=hd0; have q2:=hdn; go_simp <;> with_reducible rfl));try simp only [Act.put,au]
      refine aj 5 ?_ (hy:=by intro wz hSw; (have q0:=aV (j:=3+d) (aq.out.below hSw) cC.out; have q1:=hdi; have q2:=hd0; have q3:=hdn; go_simp <;> with_reducible rfl));try simp only [Act.put,au]
      refine aj 6 ?_;try simp only [Act.put,au]
      refine aj 7 ?_ (hy:=by intro wz hSw; (refine jk (a:=some ⟨bq,oq,none⟩) (n:=pn) (c:=pc) (i:=1) fV iD dj ?_; exact ⟨_,_,rfl,rfl,rfl⟩));try simp only [Act.put,au]
      refine aj 8 ?_;try simp only [Act.put,au]
      refine aj 9 ?_;try simp only [Act.put,au]
      refine aC ?_;have ed:=hid hld;clear hld;obtain ⟨w7,hw7⟩:=aA w6.drew
      rw [hw7] at ed;rw [hw7];clear hw7;have sY:=hid (eP (Al cM.out 1 dj) ed.out);have cN:=hid (HO.out.below ed.out);clear ed HO cM cQ aq aa k0 k7 hc6 F0 k3;have HO:=cN;clear cN;go_wp2_with fail
      refine (wL l HX.out (some ⟨b0,o0,none⟩) ln lc R us g bu bp w7 (eo.out.below HO.out.b) hR m7 h1k HO.out.fg HO.out.fu HO.out.fp (by have:=HO.out.gu; omega) (by have:=HO.out.gp; omega) (ww.out g (by have:=HO.out.lo; have:=HO.out.og; omega)) (pD.out.below HO.out.b pD.out.pos)).mono ?_;intro e w8 t9;obtain ⟨X,th,us',rfl,ht,hf,ot,hq8⟩:=HO.out.next t9;have EV:=hid ot;have ma:=hid (hq8 B _ _ I1.out sY.out);have hX:th=true->X.size<=900000/\us'<=l.length:=λe=>Ka HX.out hR (by rw [cD.out]; exact m7) (ht e)
      have jb:=di.out.symm.trans (zl gO.out eM.out eN.out m8);have pf:Hid (th=true->jc l (t.length+1) X t us' (decide ((3:Int)=2))=KS):=hid (λe=>by
       rw [ht e,j5.out] at jb;exact (pE l HX.out _ _ _ _ _ _ (hX e).1 (by omega) (by omega)).trans jb.symm)
      have pg:Hid (th=false->KS=(none,us')):=hid (λe=>by
       rw [(hf e).1] at jb;rw [(hf e).2];exact jb)
      have li:Hid (th=true->X.size<=900000):=hid (λe=>(hX e).1);have ph:us'<=ln:=by
       cases th with
       | true=>rw [<-cD.out]; exact (hX rfl).2
       | false=>rw [(hf rfl).2]; exact m7
      clear t9 ht hf ot hq8 hX jb HO sY;go_wp2;go_roundw
      case rel=>exact ⟨X,t,us',th,3,eX (some ⟨bq,oq,none⟩) pc 1,pn-1,pc-1,R,rfl,rfl,rfl,rfl,rfl,ma,ge,ry,ph,li,pf,pg,EV⟩
      case measure=>cases th <;> simp [Uh,thV] <;> omega
    have hend:∃ q2,onward N q=(eB,q2)/\(N.kd=1->q2=q):=by
     unfold onward;rw [if_neg hext];by_cases hk3:N.kd=3
     .rw [if_pos hk3];cases q with
      | nil=>exact ⟨[],rfl,λh=>by omega⟩
      | cons c t =>
       refine ⟨t,?_,λh=>by omega⟩;have:(N.ks.getD c.toNat eB).size=0:=Decidable.byContradiction λh=>hbr ⟨hk3,c,t,rfl,h⟩;show (N.ks.getD c.toNat eB,t)=_;rw [cZ this]
     .rw [if_neg hk3];exact ⟨q,rfl,λ_=>rfl⟩
    have HV:Hid (Says KS (yC N q us l.length)):=hid (by
     obtain ⟨q2,h1,h2⟩:=hend;rw [<-di.out];exact SY gO.out eM.out h1 h2)
    obtain ⟨ev,ei,eu,xd⟩:∃ v i r,yC N q us ln=vdC v i us r:=by
     unfold yC;split <;> exact ⟨_,_,_,rfl⟩
    rw [cD.out,xd] at HV;rcases hkd with hk1 | fs | hk3
    .have da:Hid ((ndC N na nn nc)[0]? = some (.int .i64 1)):=hid (by rw [<-hk1]; rfl);obtain rfl:=cV (by rw [hk1]; decide);clear fX cV hk1 hext es hbr hend;go_wp2_with (first
      | (refine aB (aY _ _ _ w5.heap.size rfl rfl) ?_)
      | (refine bS gx.out bK _ na nn nc ag.out rfl _ _ rfl rfl rfl rfl ?_; intro w6 az bh; have aq:=hid az; have aa:Hid (Below w5.heap.size w5 w6):=hid (bh.below hal aH); have HO:=hid (pd.out.below aa.out); have cM:=hid (eP fm.out aa.out); have cQ:=hid (fW.out.below aa.out); have k0:=aV (j:=0) aq.out da.out; have k7:=aV (j:=0) HO.out.fg rfl; clear az bh)
      | (refine aB (bH aq.out ag.out ⟨_,rfl,rfl⟩) ?_))
     refine (qd N na nn nc ag.out _ _ _ _ us ln w6 cQ.out cM.out.1).mono ?_;rintro e w8 ⟨rfl,ej⟩;have cU:=hid (HO.out.below ej);rw [xd];clear ej;go_wp2_with (first
      | (refine dh cU.out.fo rfl _ _ _ _ rfl _ _ rfl rfl rfl rfl ?_; intro w9 ae af; have b8:=hid ae; have bo:=hid (af.below cU.out.b (by have:=cU.out.lo; omega)); clear ae af))
     exact bodyPost_ret (jX (q:=6) rfl _ rfl b8.out) rfl ⟨_,rfl,HV.out,bo.out⟩
    .have da:Hid ((ndC N na nn nc)[0]? = some (.int .i64 2)):=hid (by rw [<-fs]; rfl);obtain rfl:=cV (by rw [fs]; decide);have P1:Hid (∀ W,bf W na nn nc N.p->bf W pa pn pc q->Calls prog 44 #[.slice pa pn pc,.slice na nn nc] W λe w'=>e = .returned (.bool false)/\W=w'):=hid (λW h1 h2=>by
      have:=Fj na pa nn pn nc pc N.p q (by omega) W h1 h2;rw [decide_eq_false (λh=>hext ⟨fs,h⟩)] at this;exact this)
     clear fX cV fs hext es hbr hend;go_wp2_with (first
      | (refine aB (aY _ _ _ w5.heap.size rfl rfl) ?_)
      | (refine bS gx.out bK _ na nn nc ag.out rfl _ _ rfl rfl rfl rfl ?_; intro w6 az bh; have aq:=hid az; have aa:Hid (Below w5.heap.size w5 w6):=hid (bh.below hal aH); have HO:=hid (pd.out.below aa.out); have cM:=hid (eP fm.out aa.out); have cQ:=hid (fW.out.below aa.out); have k0:=aV (j:=0) aq.out da.out; have k7:=aV (j:=0) HO.out.fg rfl; have k1:=aV (j:=1) aq.out (iO N na nn nc); clear az bh))
     refine (P1.out w6 cQ.out cM.out.1).mono ?_;rintro e y ⟨rfl,rfl⟩;go_wp2_with (first
      | (refine aB (bH aq.out ag.out ⟨_,rfl,rfl⟩) ?_))
     refine (qd N na nn nc ag.out _ _ _ _ us ln w6 cQ.out cM.out.1).mono ?_;rintro e w8 ⟨rfl,ej⟩;have cU:=hid (HO.out.below ej);rw [xd];clear ej;go_wp2_with (first
      | (refine dh cU.out.fo rfl _ _ _ _ rfl _ _ rfl rfl rfl rfl ?_; intro w9 ae af; have b8:=hid ae; have bo:=hid (af.below cU.out.b (by have:=cU.out.lo; omega)); clear ae af))
     exact bodyPost_ret (jX (q:=6) rfl _ rfl b8.out) rfl ⟨_,rfl,HV.out,bo.out⟩
    .have da:Hid ((ndC N na nn nc)[0]? = some (.int .i64 3)):=hid (by rw [<-hk3]; rfl);cases q with
     | nil =>
      obtain rfl:pn=0:=by have:=es.len; simpa using this.symm
      clear fX cV hk3 hext es hbr hend;cases ab with
      | true =>
       go_wp2_with (first
        | (refine aB (aY _ _ _ w5.heap.size rfl rfl) ?_)
        | (refine bS gx.out bK _ na nn nc ag.out rfl _ _ rfl rfl rfl rfl ?_; intro w6 az bh; have aq:=hid az; have aa:Hid (Below w5.heap.size w5 w6):=hid (bh.below hal aH); have HO:=hid (pd.out.below aa.out); have cM:=hid (eP fm.out aa.out); have cQ:=hid (fW.out.below aa.out); have k0:=aV (j:=0) aq.out da.out; have k7:=aV (j:=0) HO.out.fg rfl; clear az bh)
        | (refine aB (bH aq.out ag.out ⟨_,rfl,rfl⟩) ?_))
       refine (qd N na nn nc ag.out _ _ _ _ us ln w6 cQ.out cM.out.1).mono ?_;rintro e w8 ⟨rfl,ej⟩;have cU:=hid (HO.out.below ej);rw [xd];clear ej;go_wp2_with (first
        | (refine dh cU.out.fo rfl _ _ _ _ rfl _ _ rfl rfl rfl rfl ?_; intro w9 ae af; have b8:=hid ae; have bo:=hid (af.below cU.out.b (by have:=cU.out.lo; omega)); clear ae af))
       exact bodyPost_ret (jX (q:=6) rfl _ rfl b8.out) rfl ⟨_,rfl,HV.out,bo.out⟩
      | false =>
       go_wp2_with (first
        | (refine aB (aY _ _ _ w5.heap.size rfl rfl) ?_)
        | (refine bS gx.out bK _ na nn nc ag.out rfl _ _ rfl rfl rfl rfl ?_; intro w6 az bh; have aq:=hid az; have aa:Hid (Below w5.heap.size w5 w6):=hid (bh.below hal aH); have HO:=hid (pd.out.below aa.out); have cM:=hid (eP fm.out aa.out); have cQ:=hid (fW.out.below aa.out); have k0:=aV (j:=0) aq.out da.out; have k7:=aV (j:=0) HO.out.fg rfl; clear az bh)
        | (refine aB (bH aq.out ag.out ⟨_,rfl,rfl⟩) ?_))
       refine (qd N na nn nc ag.out _ _ _ _ us ln w6 cQ.out cM.out.1).mono ?_;rintro e w8 ⟨rfl,ej⟩;have cU:=hid (HO.out.below ej);rw [xd];clear ej;go_wp2_with (first
        | (refine dh cU.out.fo rfl _ _ _ _ rfl _ _ rfl rfl rfl rfl ?_; intro w9 ae af; have b8:=hid ae; have bo:=hid (af.below cU.out.b (by have:=cU.out.lo; omega)); clear ae af))
       exact bodyPost_ret (jX (q:=6) rfl _ rfl b8.out) rfl ⟨_,rfl,HV.out,bo.out⟩
     | cons c t =>
      have B5:(N.ks.getD c.toNat eB).size=0:=Decidable.byContradiction λh=>hbr ⟨hk3,c,t,rfl,h⟩;have hc16:c.toNat<16:=qT.out c List.mem_cons_self;have cC:Hid ((ndC N na nn nc)[3+c.toNat]? = some (.string (N.ks.getD c.toNat eB))):=hid (sI N na nn nc hc16 ag.out);rw [cZ B5] at cC;obtain ⟨bq,oq,rfl,hbq,hcq⟩:=es.at' 0 (by have:=es.len; have:(c::t).length=pn:=this; simp at this; omega);have uc:t.length+1=pn:=by have:=es.len; simpa using this
      have hcq:w5.cell? ⟨bq,oq,none⟩=some (.int .u8 c.toNat):=by simpa using hcq
      obtain ⟨d,hd⟩:=aA c.toNat
      rw [hd] at cC hcq hc16;have lj:=hid hcq;have oe:(0:Int)<pn:=by omega
      have dj:0<pn:=by omega
      have ud:decide (0<pn)=true:=aK dj;have hdi:(d:Int)<16:=by omega
      have hd0:(0:Int)<=d:=by omega
      have hdn:d<16:=hc16;clear B5 hd fX cV hk3 hext es hbq hcq hbr hend;cases ab with
      | true =>
       go_wp2_with (first
        | (refine aB (aY _ _ _ w5.heap.size rfl rfl) ?_)
        | (refine bS gx.out bK _ na nn nc ag.out rfl _ _ rfl rfl rfl rfl ?_; intro w6 az bh; have aq:=hid az; have aa:Hid (Below w5.heap.size w5 w6):=hid (bh.below hal aH); have HO:=hid (pd.out.below aa.out); have cM:=hid (eP fm.out aa.out); have cQ:=hid (fW.out.below aa.out); have k0:=aV (j:=0) aq.out da.out; have k7:=aV (j:=0) HO.out.fg rfl; have hc6:=aX aa.out lj.out; have k3:=aV (j:=3+d) aq.out cC.out; clear az bh)
        | (refine aB (bH aq.out ag.out ⟨_,rfl,rfl⟩) ?_))
       refine (qd N na nn nc ag.out _ _ _ _ us ln w6 cQ.out cM.out.1).mono ?_;rintro e w8 ⟨rfl,ej⟩;have cU:=hid (HO.out.below ej);rw [xd];clear ej;go_wp2_with (first
        | (refine dh cU.out.fo rfl _ _ _ _ rfl _ _ rfl rfl rfl rfl ?_; intro w9 ae af; have b8:=hid ae; have bo:=hid (af.below cU.out.b (by have:=cU.out.lo; omega)); clear ae af))
       exact bodyPost_ret (jX (q:=6) rfl _ rfl b8.out) rfl ⟨_,rfl,HV.out,bo.out⟩
      | false =>
       go_wp2_with (first
        | (refine aB (aY _ _ _ w5.heap.size rfl rfl) ?_)
        | (refine bS gx.out bK _ na nn nc ag.out rfl _ _ rfl rfl rfl rfl ?_; intro w6 az bh; have aq:=hid az; have aa:Hid (Below w5.heap.size w5 w6):=hid (bh.below hal aH); have HO:=hid (pd.out.below aa.out); have cM:=hid (eP fm.out aa.out); have cQ:=hid (fW.out.below aa.out); have k0:=aV (j:=0) aq.out da.out; have k7:=aV (j:=0) HO.out.fg rfl; have hc6:=aX aa.out lj.out; have k3:=aV (j:=3+d) aq.out cC.out; clear az bh)
        | (refine aB (bH aq.out ag.out ⟨_,rfl,rfl⟩) ?_))
       refine (qd N na nn nc ag.out _ _ _ _ us ln w6 cQ.out cM.out.1).mono ?_;rintro e w8 ⟨rfl,ej⟩;have cU:=hid (HO.out.below ej);rw [xd];clear ej;go_wp2_with (first
        | (refine dh cU.out.fo rfl _ _ _ _ rfl _ _ rfl rfl rfl rfl ?_; intro w9 ae af; have b8:=hid ae; have bo:=hid (af.below cU.out.b (by have:=cU.out.lo; omega)); clear ae af))
       exact bodyPost_ret (jX (q:=6) rfl _ rfl b8.out) rfl ⟨_,rfl,HV.out,bo.out⟩
end Tm
end
end Go.Proofs.YtokaiemgjngcoaaGreatDoor
