/-
 The plain answer's Get: two items, an extension.
-/
import Derived.Test.YtokaiemgjngcoaaGreatDoorVy16
open Go.Lib (hid)
open Go.Proofs.Tryz
set_option linter.unusedSimpArgs false
set_option linter.unusedVariables false
set_option maxHeartbeats 40000000
set_option maxRecDepth 100000
namespace Go.Proofs.YtokaiemgjngcoaaGreatDoor
section
open Go.RowKit
namespace No
open Rl Ni
theorem OM (p:aN) (a:aL) (n c:Nat) (k:aM):(ndC ⟨2,p,eB,zks⟩ a n c).setIfInBounds 3 (.string k)=ndC ⟨2,p,eB,dR k⟩ a n c:=by
 simp [ndC,zks,dR,List.replicate]
theorem Ll {s:aM} (hs:s.size<=1000000) {x y:It} (hw:dJ s.data.toList = .ok x) (hy:y∈x.xs):y.bytes.length<s.size/\y.s.size<=y.bytes.length:=by
 obtain ⟨g1,g2,_⟩:=jy (by rw [dZ]; omega) hw;have h1:=qx g2 (by rw [g1,dZ]; omega) hy;rw [g1,dZ] at h1;have h5:=kX y;have h6:y.s.size<=y.inner.length:=by
  unfold It.inner;rw [List.length_append,dZ];omega
 exact ⟨h1,by omega⟩
theorem DK {x:It} (h:x.s.size<=x.bytes.length):(jw x).1.size<=x.bytes.length:=by
 unfold jw;split
 .split
  .exact Nat.le_of_eq (dM _)
  .exact Nat.zero_le _
 .exact h
theorem RX {L:Nd} {s:aM}:(⟨(gU L).toArray⟩:aM)=s↔gU L=s.data.toList:=by
 constructor
 .rintro rfl;simp
 .intro h;rw [h,Em]
theorem Qy (s:aM) (hs:s.size<=1000000) (x:It) (k:Nat) (hr:bR s.data.toList 0 0 = .ok (x,s.size,k)) (hw:dJ s.data.toList = .ok x) (h2:x.xs.length=2) (hbad:¬ ((x.xs.getD 0 it0).s.size=0\/Bad (x.xs.getD 0 it0).s)) (hlf:iC (x.xs.getD 0 it0).s=false) (hs0:0<s.size) (hR:∀ k:aM,k.size<=1000000->(k.size<32->k.size<s.size)->ql k) (w:World):Calls prog 25 #[.string s] w (gF w (fE s.data.toList)):=by
 have hsl:s.data.toList.length<=1000000:=by rw [dZ]; omega
 have hm:=qp hsl hw h2 hbad hlf;have HG:Hid (fE s.data.toList=if dN bJ (IW (x.xs.getD 0 it0) (x.xs.getD 1 it0))=true/\gU (IW (x.xs.getD 0 it0) (x.xs.getD 1 it0))=s.data.toList then some (IW (x.xs.getD 0 it0) (x.xs.getD 1 it0)) else none):=hid (Tf hsl (Fw _ _) (λM h=>(hm M h).2));have HF:Hid ((jw (x.xs.getD 1 it0)).2=false->fE s.data.toList=none):=hid (λhf=>by
  cases hg:fE s.data.toList with
  | none=>rfl
  | some M=>exact absurd ((hm M hg).1.symm.trans hf) (by decide))
 clear hm;obtain ⟨G,mr⟩:=aA (fE s.data.toList)
 rw [mr] at HG HF ⊢;clear mr;obtain ⟨y,hy⟩:=aA (x.xs.getD 0 it0)
 obtain ⟨z,hz⟩:=aA (x.xs.getD 1 it0)
 have hy1:x.xs[0]? = some y:=by rw [<-hy]; exact getD_at (by omega)
 have hz1:x.xs[1]? = some z:=by rw [<-hz]; exact getD_at (by omega)
 have tS:=oN hsl hw y (List.mem_of_getElem? hy1);have ye:=oN hsl hw z (List.mem_of_getElem? hz1);rw [hy] at hbad hlf HG;rw [hz] at HG HF;have hlz:=Ll hs hw (List.mem_of_getElem? hz1);have AK:=DK hlz.2;have my:∀ (w':World) (A:aL) (N C:Nat),gZ w' z.xs A N C->Calls prog 50 #[.agg #[.bool z.l,.string z.s,.slice A N C]] w' λe w''=>e = .returned (.tuple #[.string (jw z).1,.bool (jw z).2])/\Below w'.heap.size w' w'':=λw' A N C h =>
  FL z w' A N C h ye (λ_ hlt=>hR _ (by rw [dM]; omega) (λ_=>by rw [dM]; omega)) (λ_=>hR _ ye.2.2.2 (λ_=>by omega))
 obtain ⟨w2,hw2⟩:=ay (w.alloc (.cells (ndC nd0 none 0 0) 67))
 have hs2:w2.heap.size=w.heap.size+1:=by rw [hw2]; simp
 have HO:Hid (dL w2 w.heap.size nd0 none 0 0):=hid (by rw [hw2]; exact Rg.Own.new _ _ _);have HB2:Hid (Below w.heap.size w w2):=hid (by rw [hw2]; exact al1 _ _);have HW:=hid (pQ hs hr w2);have Hy:=hid hy1;have Hz:=hid hz1;have j2:=hid (λw=>wu y.s tS.2.2.2 w);clear hr hw hy hz hy1 hz1;subst hw2;go_enter func25,ntmps25;go_wp2_with (refine aB (aY _ _ _ w.heap.size rfl rfl) ?_)
 with_reducible refine HW.out.mono ?_
 rintro e w3 ⟨a3,n3,c3,lI,rfl,cL,hb3⟩;rw [hs2] at cL;obtain ⟨du,qi,hO4,hB4,hall⟩:=nL w w3 (HO.out.below hb3) (bst HB2.out hb3) x a3 n3 c3;have eq:n3=x.xs.length:=cL.len.symm;obtain rfl:n3=2:=by omega
 have hm:=cL.max;have hnc:=cL.le;unfold maxLen at hm;obtain ⟨y',b,off,A0,N0,C0,hy,rfl,hBb,hblt,hL,_⟩:=tT cL 0 (by omega);obtain rfl:y'=y:=Option.some.inj (hy.symm.trans Hy.out);obtain ⟨z',b',off',A,N,C,hz,e,_,fh,hLz,mt⟩:=tT cL 1 (by omega);obtain ⟨rfl,rfl,_⟩:b=b'/\off=off'/\True:=by cases e; exact ⟨rfl,rfl,trivial⟩
 obtain rfl:z'=z:=Option.some.inj (hz.symm.trans Hz.out);rw [Nat.zero_mul,Nat.add_zero] at hL;rw [Nat.one_mul] at hLz;have fk:=hid du;have hW3:Below w3.heap.size w3 (((w3.alloc (.cells #[.bool x.l,.string x.s,.slice (some ⟨b,off,none⟩) 2 c3] 96)).alloc (.cells (ndC nd0 none 0 0) 67)).setRow (w3.heap.size+1) (ndC ⟨3,[],eB,zks⟩ none 0 0)):=(hall _ rfl).2.2.2.1;obtain ⟨e0,e1,e2⟩:=hL.stays hW3 hblt;have tU:=(hall _ rfl).2.1;have HA:=hid hall;have qk:=hid hL;have AG:=hid hLz;have AH:=hid mt;have HB3:=hid (bst HB2.out hb3)
 have HR3:Hid (w.heap.size<w3.heap.size):=hid (HO.out.below hb3).1;clear hb3 HW cL du hall hO4 hB4 eq hs2 hy hz e hL hLz mt hW3 HO HB2;go_wp2_with (first
  | (refine aB (aY _ _ _ (w3.heap.size+1) (by simp) rfl) ?_)
  | (refine aB (bC (vL 3) ?_) ?_; · exact ⟨_,rfl,rfl⟩)
  | (refine bA fk.out rfl ⟨3,[],eB,zks⟩ none 0 0 rfl rfl _ _ rfl rfl rfl rfl ?_))
 obtain ⟨w5,eh⟩:=ay (((w3.alloc (.cells #[.bool x.l,.string x.s,.slice (some ⟨b,off,none⟩) 2 c3] 96)).alloc (.cells (ndC nd0 none 0 0) 67)).setRow (w3.heap.size+1) (ndC ⟨3,[],eB,zks⟩ none 0 0))
 obtain ⟨c8,m5,im,hb5,hs5⟩:=HA.out w5 eh;rw [<-eh];rw [<-eh] at e0 e1 e2 tU;clear HA fk eh qi;refine (j2.out w5).mono ?_;rintro e w6 ⟨a6,n6,c6,l6,lf6,AI,rfl,hx6,hd6,hb6⟩;have cG:=hid (c8.below hb6);have aq:=hid (im.below hb6);have d9:=bst hb5 hb6;have bd:=hid (bst HB3.out d9);have nF:=qk.out.stays d9 hblt;obtain ⟨e0,e1,e2⟩:=nF;have o6:=AG.out.stays d9 fh;obtain ⟨f0,f1,f2⟩:=o6;have hc6:w6.cell? ⟨w3.heap.size,2,none⟩=some (.slice (some ⟨b,off,none⟩) 2 c3):=(Below.cell (p:=⟨w3.heap.size,2,none⟩) hb6 (by show w3.heap.size<_; omega)).trans m5
 have ms:Hid (BsF (w3.heap.size+2) w6 a6 n6 c6 l6):=hid (hx6.weak (by omega));have qq:=hid (AH.out.stays d9);have qr:=hb6.size;obtain ⟨rfl,rfl,rfl⟩:AI=true/\l6=bW y'.s/\lf6=false:=by
  rcases hd6 with ⟨h,_,_,h1,h3⟩ | ⟨_,h⟩
  .exact ⟨h,h1,h3.trans hlf⟩
  .exact absurd h hbad
 have hyl:y'.l=false:=congrArg It.l (vk tS.1 (λh=>hbad (.inl h)));rw [hyl] at e0;have Gk:(!true)=false:=rfl;have se:=ms.out.1.len;clear hx6 hb6 d9 c8 im hb5 hd6 m5 j2 hbad hlf;unfold IW at HG;obtain ⟨kk,hkk⟩:=aA ((jw z').1)
 obtain ⟨is,his⟩:=aA ((jw z').2)
 rw [hkk] at HG my AK;rw [his] at my;have fS:=hid (my w6 A N C qq.out);have cl:(⟨2,bW y'.s,eB,dR kk⟩:Nd).ks.length=16:=gB kk;have hRk:∀ k∈(⟨2,bW y'.s,eB,dR kk⟩:Nd).ks,ql k:=λk hk=>by
  rcases List.mem_cons.1 (show k∈kk::List.replicate 15 eB from hk) with e | e
  .rw [e]; exact hR kk (by omega) (λ_=>by omega)
  .rw [List.eq_of_mem_replicate e]; exact hR eB (by decide) (λ_=>hs0)
 have fl:=λw' (h:bf w' a6 n6 c6 (⟨2,bW y'.s,eB,dR kk⟩:Nd).p)=>Br (⟨2,bW y'.s,eB,dR kk⟩:Nd) a6 n6 c6 cl w' h (Nat.zero_le _) hRk;have kl:=λ(hm:dN bJ (⟨2,bW y'.s,eB,dR kk⟩:Nd)=true) w' (h:bf w' a6 n6 c6 (⟨2,bW y'.s,eB,dR kk⟩:Nd).p)=>LC (⟨2,bW y'.s,eB,dR kk⟩:Nd) a6 n6 c6 cl w' h hm;have hT:(⟨(gU (⟨2,bW y'.s,eB,dR kk⟩:Nd)).toArray⟩:aM)=s↔gU (⟨2,bW y'.s,eB,dR kk⟩:Nd)=s.data.toList:=RX;obtain ⟨T,lg⟩:=aA (⟨(gU (⟨2,bW y'.s,eB,dR kk⟩:Nd)).toArray⟩:aM)
 rw [lg] at hT kl;have HT:=hid hT;clear lg hT;have hlt3:=HR3.out;clear my Gk hR hRk hkk AK hlz;go_wp2_with fail
 refine fS.out.mono ?_;rintro e w7 ⟨rfl,cH⟩;have mN:=hid (aq.out.below cH);have cN:=hid (cG.out.below cH);have cI:=hid (bst bd.out cH);have mS:=hid (ms.out.below cH);have eM:Hid (dL (w7.setRow (w3.heap.size+1) (ndC ⟨2,bW y'.s,eB,zks⟩ a6 n6 c6)) (w3.heap.size+1) ⟨2,bW y'.s,eB,zks⟩ a6 n6 c6):=hid (dG mN.out);have c83:(w7.setRow (w3.heap.size+1) (ndC ⟨2,bW y'.s,eB,zks⟩ a6 n6 c6)).cell? ⟨w3.heap.size+1,3,none⟩=some (.string eB):=mG eM.out rfl 0 (by decide)
 have f83:(w7.setRow (w3.heap.size+1) (ndC ⟨2,bW y'.s,eB,zks⟩ a6 n6 c6)).frozen? ⟨w3.heap.size+1,3,none⟩=false:=fB eM.out;obtain ⟨w8,hw8⟩:=ay ((w7.setRow (w3.heap.size+1) (ndC ⟨2,bW y'.s,eB,zks⟩ a6 n6 c6)).setCell ⟨w3.heap.size+1,3,none⟩ (.string kk))
 have j3:Rg.Upd w7 (w3.heap.size+1) w8:=by rw [hw8]; exact nJ (Rg.Upd.set _ _ _) (vN _ _ _ _)
 have yf:Hid (dL w8 (w3.heap.size+1) ⟨2,bW y'.s,eB,dR kk⟩ a6 n6 c6):=hid (by
  rw [hw8];have h:=aV (o:=3) eM.out (.string kk);rw [OM] at h;exact h)
 have cU:=hid (cN.out.upd j3 (by omega));have pZ:=hid (j3.below cI.out (by omega));have li:=hid (mS.out.upd j3 (by omega));clear cH fS j3 eM qq f0 f1 f2 e0 e1 e2 hc6;go_wp2_with (first
  | (refine aB (bC (Jk 2 a6 n6 c6 (bW y'.s)) ?_) ?_; · exact ⟨_,rfl,rfl⟩)
  | (refine bA mN.out rfl ⟨2,bW y'.s,eB,zks⟩ a6 n6 c6 rfl rfl _ _ rfl rfl rfl rfl ?_))
 rw [<-hw8];clear hw8 c83 f83;cases is with
 | false =>
  refine aD (S:=λw'=>SG w.heap.size (w3.heap.size+1) (⟨2,bW y'.s,eB,dR kk⟩:Nd) a6 n6 c6 w w') (⟨Nat.lt_succ_of_lt HR3.out,yf.out.drew,⟨_,rfl,cU.out.drew⟩,li.out.below (below_drewN aI 1),pZ.out.drew⟩) λhld=>?_;refine aj 0 ?_ (hy:=by intro wz hSw; (refine bH hSw.nd cl ?_; exact ⟨_,rfl,rfl⟩));try simp only [Act.put,au]
  refine aj 1 ?_;try simp only [Act.put,au]
  refine aj 2 ?_;try simp only [Act.put,au]
  refine Rg.takeL (i:=3) (v:=undef) rfl (by kernel_rfl) (by kernel_rfl) (by kernel_rfl) (λ_ _ _ h=>h) (Or.inr ⟨by rfl,rfl⟩) (by assumption) ?_;try simp only [Act.put,au]
  refine Rg.takeL (i:=4) (v:=undef) rfl (by kernel_rfl) (by kernel_rfl) (by kernel_rfl) (λ_ _ _ h=>h) (Or.inr ⟨by rfl,rfl⟩) (by assumption) ?_;try simp only [Act.put,au]
  refine aj 5 ?_;try simp only [Act.put,au]
  refine aj 6 ?_;try simp only [Act.put,au]
  refine Rg.takeL (i:=7) (v:=undef) rfl (by kernel_rfl) (by kernel_rfl) (by kernel_rfl) (λ_ _ _ h=>h) (Or.inr ⟨by rfl,rfl⟩) (by assumption) ?_;try simp only [Act.put,au]
  refine Rg.takeL (i:=8) (v:=undef) rfl (by kernel_rfl) (by kernel_rfl) (by kernel_rfl) (λ_ _ _ h=>h) (Or.inr ⟨by rfl,rfl⟩) (by assumption) ?_;try simp only [Act.put,au]
  refine Rg.takeL (i:=9) (v:=undef) rfl (by kernel_rfl) (by kernel_rfl) (by kernel_rfl) (λ_ _ _ h=>h) (Or.inr ⟨by rfl,rfl⟩) (by assumption) ?_;try simp only [Act.put,au]
  refine Rg.takeL (i:=10) (v:=undef) rfl (by kernel_rfl) (by kernel_rfl) (by kernel_rfl) (λ_ _ _ h=>h) (Or.inr ⟨by rfl,rfl⟩) (by assumption) ?_;try simp only [Act.put,au]
  refine aj 11 ?_;try simp only [Act.put,au]
  refine ak 12 λK hK=>?_;obtain ⟨cs,hcs,hOr⟩:=hld.res;refine Rg.meetStore (by rfl) hOr 67 (ndC (⟨2,bW y'.s,eB,dR kk⟩:Nd) a6 n6 c6) ⟨_,_,rfl,rfl,rfl⟩ (gH _ _ _ _ cl) (by rw [hcs,dD _ _ _ _ cl]) (jf _ _ _ _) ?_;rintro wz hn hu;refine hK.out _ _ (hld.put (dD _ _ _ _ cl) hn hu aH) λhld=>?_;clear hK K;try simp only [Act.put]
  refine aj 13 ?_;try simp only [Act.put,au]
  refine aC ?_;go_wp2;exact bodyPost_ret (dU rfl _ rfl hn cl) rfl ⟨(⟨2,bW y'.s,eB,dR kk⟩:Nd),a6,n6,c6,false,rfl,.inr ⟨rfl,HF.out his⟩,hld.bs.weak (by omega),cl,hld.be⟩
 | true =>
  obtain ⟨M,hM⟩:=aA (dN bJ (⟨2,bW y'.s,eB,dR kk⟩:Nd))
  rw [hM] at fl;have kj:=hid fl;clear fl;cases M with
  | false =>
   refine aD (S:=λw'=>SG w.heap.size (w3.heap.size+1) (⟨2,bW y'.s,eB,dR kk⟩:Nd) a6 n6 c6 w w') (⟨Nat.lt_succ_of_lt HR3.out,yf.out.drew,⟨_,rfl,cU.out.drew⟩,li.out.below (below_drewN aI 1),pZ.out.drew⟩) λhld=>?_;refine aj 0 ?_ (hy:=by intro wz hSw; (refine bH hSw.nd cl ?_; exact ⟨_,rfl,rfl⟩));try simp only [Act.put,au]
   refine aj 1 ?_;try simp only [Act.put,au]
   refine aj 2 ?_;try simp only [Act.put,au]
   refine aj 3 ?_ (hy:=by intro wz hSw; (refine bH hSw.nd cl ?_; exact ⟨_,rfl,rfl⟩));try simp only [Act.put,au]
   refine ak 4 λK hK=>?_;have hbs:=hld.bs.1;go_simp;go_at_call 49
   (with_reducible refine (kj.out _ hbs).mono ?_)
   rintro e s9 ⟨rfl,hbx⟩;refine hK.out _ _ (hld.keep hbx) λhld=>?_;clear hK K hbx;try simp only [Act.put,au]
   refine aj 5 ?_;try simp only [Act.put,au]
   refine aj 6 ?_;try simp only [Act.put,au]
   refine Rg.takeL (i:=7) (v:=undef) rfl (by kernel_rfl) (by kernel_rfl) (by kernel_rfl) (λ_ _ _ h=>h) (Or.inr ⟨by rfl,rfl⟩) (by assumption) ?_;try simp only [Act.put,au]
   refine Rg.takeL (i:=8) (v:=undef) rfl (by kernel_rfl) (by kernel_rfl) (by kernel_rfl) (λ_ _ _ h=>h) (Or.inr ⟨by rfl,rfl⟩) (by assumption) ?_;try simp only [Act.put,au]
   refine Rg.takeL (i:=9) (v:=undef) rfl (by kernel_rfl) (by kernel_rfl) (by kernel_rfl) (λ_ _ _ h=>h) (Or.inr ⟨by rfl,rfl⟩) (by assumption) ?_;try simp only [Act.put,au]
   refine Rg.takeL (i:=10) (v:=undef) rfl (by kernel_rfl) (by kernel_rfl) (by kernel_rfl) (λ_ _ _ h=>h) (Or.inr ⟨by rfl,rfl⟩) (by assumption) ?_;try simp only [Act.put,au]
   refine aj 11 ?_;try simp only [Act.put,au]
   refine ak 12 λK hK=>?_;obtain ⟨cs,hcs,hOr⟩:=hld.res;refine Rg.meetStore (by rfl) hOr 67 (ndC (⟨2,bW y'.s,eB,dR kk⟩:Nd) a6 n6 c6) ⟨_,_,rfl,rfl,rfl⟩ (gH _ _ _ _ cl) (by rw [hcs,dD _ _ _ _ cl]) (jf _ _ _ _) ?_;rintro wz hn hu;refine hK.out _ _ (hld.put (dD _ _ _ _ cl) hn hu aH) λhld=>?_;clear hK K;try simp only [Act.put]
   refine aj 13 ?_;try simp only [Act.put,au]
   refine aC ?_;go_wp2;exact bodyPost_ret (dU rfl _ rfl hn cl) rfl ⟨(⟨2,bW y'.s,eB,dR kk⟩:Nd),a6,n6,c6,false,rfl,.inr ⟨rfl,HG.out.trans (if_neg (λh=>absurd (hM.symm.trans h.1) (by decide)))⟩,hld.bs.weak (by omega),cl,hld.be⟩
  | true =>
   have i9:=hid (kl hM);clear kl;refine aD (S:=λw'=>SG w.heap.size (w3.heap.size+1) (⟨2,bW y'.s,eB,dR kk⟩:Nd) a6 n6 c6 w w') (⟨Nat.lt_succ_of_lt HR3.out,yf.out.drew,⟨_,rfl,cU.out.drew⟩,li.out.below (below_drewN aI 1),pZ.out.drew⟩) λhld=>?_;refine aj 0 ?_ (hy:=by intro wz hSw; (refine bH hSw.nd cl ?_; exact ⟨_,rfl,rfl⟩));try simp only [Act.put,au]
   refine aj 1 ?_;try simp only [Act.put,au]
   refine aj 2 ?_;try simp only [Act.put,au]
   refine aj 3 ?_ (hy:=by intro wz hSw; (refine bH hSw.nd cl ?_; exact ⟨_,rfl,rfl⟩));try simp only [Act.put,au]
   refine ak 4 λK hK=>?_;have hbs:=hld.bs.1;go_simp;go_at_call 49
   (with_reducible refine (kj.out _ hbs).mono ?_)
   rintro e s9 ⟨rfl,hbx⟩;refine hK.out _ _ (hld.keep hbx) λhld=>?_;clear hK K hbx;try simp only [Act.put,au]
   refine aj 5 ?_;try simp only [Act.put,au]
   refine aj 6 ?_;try simp only [Act.put,au]
   refine aj 7 ?_ (hy:=by intro wz hSw; (refine bH hSw.nd cl ?_; exact ⟨_,rfl,rfl⟩));try simp only [Act.put,au]
   refine aj 9 ?_;try simp only [Act.put,au]
   refine ak 8 λK hK=>?_;have hbs:=hld.bs.1;go_simp;go_at_call 37
   (with_reducible refine (i9.out _ hbs).mono ?_)
   rintro e zv ⟨rfl,hbx⟩;refine hK.out _ _ (hld.keep hbx) λhld=>?_;clear hK K hbx;try simp only [Act.put,au]
   refine aj 10 ?_ (hy:=by intro wz hSw; (refine Fg T s ?_; exact ⟨_,_,rfl,rfl,rfl⟩));try simp only [Act.put,au]
   refine aj 11 ?_;try simp only [Act.put,au]
   refine ak 12 λK hK=>?_;obtain ⟨cs,hcs,hOr⟩:=hld.res;refine Rg.meetStore (by rfl) hOr 67 (ndC (⟨2,bW y'.s,eB,dR kk⟩:Nd) a6 n6 c6) ⟨_,_,rfl,rfl,rfl⟩ (gH _ _ _ _ cl) (by rw [hcs,dD _ _ _ _ cl]) (jf _ _ _ _) ?_;rintro wz hn hu;refine hK.out _ _ (hld.put (dD _ _ _ _ cl) hn hu aH) λhld=>?_;clear hK K;try simp only [Act.put]
   refine aj 13 ?_;try simp only [Act.put,au]
   refine aC ?_;go_wp2;refine bodyPost_ret (dU rfl _ rfl hn cl) rfl ⟨(⟨2,bW y'.s,eB,dR kk⟩:Nd),a6,n6,c6,decide (T=s),rfl,?_,hld.bs.weak (by omega),cl,hld.be⟩;by_cases he:T=s
   .exact .inl ⟨aK he,HG.out.trans (if_pos ⟨hM,HT.out.1 he⟩)⟩
   .exact .inr ⟨decide_eq_false he,HG.out.trans (if_neg (λh=>he (HT.out.2 h.2)))⟩
theorem QE (s:aM) (hs:s.size<=1000000) (c:Int) (hr:bR s.data.toList 0 0 = .error c) (w:World):Calls prog 25 #[.string s] w (gF w (fE s.data.toList)):=by
 have hg:fE s.data.toList=none:=Ma (by rw [dZ]; omega) (Nk hr);rw [hg];obtain ⟨w2,hw2⟩:=ay (w.alloc (.cells (ndC nd0 none 0 0) 67))
 have hs2:w2.heap.size=w.heap.size+1:=by rw [hw2]; simp
 have HO:Hid (dL w2 w.heap.size nd0 none 0 0):=hid (by rw [hw2]; exact Rg.Own.new _ _ _);have HB2:Hid (Below w.heap.size w w2):=hid (by rw [hw2]; exact al1 _ _);have HW:=hid (Md hs hr w2);clear hg hr hs2;subst hw2;go_enter func25,ntmps25;go_wp2_with (refine aB (aY _ _ _ w.heap.size rfl rfl) ?_)
 with_reducible refine HW.out.mono ?_
 rintro e w3 ⟨c,hc,rfl,hb3⟩;have hne:(c != 0)=true:=by simp; exact hc
 have ce:=hid ((HO.out.below hb3).below (al1 w3 (.cells #[.bool false,.string ⟨#[]⟩,.slice none 0 0] 96)));have HB3:=hid (bst (bst HB2.out hb3) (al1 w3 (.cells #[.bool false,.string ⟨#[]⟩,.slice none 0 0] 96)));clear hb3 HW hc;go_upto_if 43 with fail
 go_wp2_with (first
  | (refine aB (bC lY ?_) ?_; · exact ⟨_,rfl,rfl⟩)
  | (refine bA ce.out rfl nd0 none 0 0 rfl rfl _ _ rfl rfl rfl rfl ?_))
 exact bodyPost_ret (dU rfl _ rfl (dG ce.out) rfl) rfl ⟨nd0,none,0,0,false,rfl,.inr ⟨rfl,rfl⟩,BsF.nil _ _,rfl,bX HB3.out aH _⟩
theorem MU (s:aM) (hs:s.size<=1000000) (x:It) (n k:Nat) (hr:bR s.data.toList 0 0 = .ok (x,n,k)) (hn:n<s.size) (w:World):Calls prog 25 #[.string s] w (gF w (fE s.data.toList)):=by
 have hg:fE s.data.toList=none:=Ma (by rw [dZ]; omega) (Jl hr (by rw [dZ]; exact hn));rw [hg];obtain ⟨w2,hw2⟩:=ay (w.alloc (.cells (ndC nd0 none 0 0) 67))
 have hs2:w2.heap.size=w.heap.size+1:=by rw [hw2]; simp
 have HO:Hid (dL w2 w.heap.size nd0 none 0 0):=hid (by rw [hw2]; exact Rg.Own.new _ _ _);have HB2:Hid (Below w.heap.size w w2):=hid (by rw [hw2]; exact al1 _ _);have HW:=hid (pQ hs hr w2);have hnn:((n:Int) != (s.size:Int))=true:=by simp; omega
 clear hg hr;subst hw2;go_enter func25,ntmps25;go_wp2_with (refine aB (aY _ _ _ w.heap.size rfl rfl) ?_)
 with_reducible refine HW.out.mono ?_
 rintro e w3 ⟨a3,n3,c3,lI,rfl,cL,hb3⟩;rw [hs2] at cL;obtain ⟨du,qi,hO4,hB4,hall⟩:=nL w w3 (HO.out.below hb3) (bst HB2.out hb3) x a3 n3 c3;have eq:n3=x.xs.length:=cL.len.symm;have cS:=hid hO4;have co:=hid hB4;clear hb3 HW cL du hall hO4 hB4 eq hs2;go_upto_if 43 with fail
 go_wp2_with (first
  | (refine aB (bC lY ?_) ?_; · exact ⟨_,rfl,rfl⟩)
  | (refine bA cS.out rfl nd0 none 0 0 rfl rfl _ _ rfl rfl rfl rfl ?_))
 exact bodyPost_ret (dU rfl _ rfl (dG cS.out) rfl) rfl ⟨nd0,none,0,0,false,rfl,.inr ⟨rfl,rfl⟩,BsF.nil _ _,rfl,bX co.out aH _⟩
theorem QD (s:aM) (hs:s.size<=1000000) (x:It) (k:Nat) (hr:bR s.data.toList 0 0 = .ok (x,s.size,k)) (hw:dJ s.data.toList = .ok x) (h2:x.xs.length≠2) (cY:x.xs.length≠17) (w:World):Calls prog 25 #[.string s] w (gF w (fE s.data.toList)):=by
 have hg:fE s.data.toList=none:=Vh (by rw [dZ]; omega) hw h2 cY;rw [hg];obtain ⟨w2,hw2⟩:=ay (w.alloc (.cells (ndC nd0 none 0 0) 67))
 have hs2:w2.heap.size=w.heap.size+1:=by rw [hw2]; simp
 have HO:Hid (dL w2 w.heap.size nd0 none 0 0):=hid (by rw [hw2]; exact Rg.Own.new _ _ _);have HB2:Hid (Below w.heap.size w w2):=hid (by rw [hw2]; exact al1 _ _);have HW:=hid (pQ hs hr w2);clear hg hr hw;subst hw2;go_enter func25,ntmps25;go_wp2_with (refine aB (aY _ _ _ w.heap.size rfl rfl) ?_)
 with_reducible refine HW.out.mono ?_
 rintro e w3 ⟨a3,n3,c3,lI,rfl,cL,hb3⟩;rw [hs2] at cL;obtain ⟨du,qi,hO4,hB4,hall⟩:=nL w w3 (HO.out.below hb3) (bst HB2.out hb3) x a3 n3 c3;have eq:n3=x.xs.length:=cL.len.symm;have cS:=hid hO4;have co:=hid hB4;have hm:=cL.max;have hnc:=cL.le;unfold maxLen at hm;have d2:((n3:Int) != 2)=true:=by simp; omega
 have d17:((n3:Int) != 17)=true:=by simp; omega
 clear hb3 HW cL du hall hO4 hB4 eq hs2;go_wp2_with (first
  | (refine aB (bC lY ?_) ?_; · exact ⟨_,rfl,rfl⟩)
  | (refine bA cS.out rfl nd0 none 0 0 rfl rfl _ _ rfl rfl rfl rfl ?_))
 exact bodyPost_ret (dU rfl _ rfl (dG cS.out) rfl) rfl ⟨nd0,none,0,0,false,rfl,.inr ⟨rfl,rfl⟩,BsF.nil _ _,rfl,bX co.out aH _⟩
end No
end
end Go.Proofs.YtokaiemgjngcoaaGreatDoor
