/-
 The contract of with: a tree with a value at the end of a way.
-/
import Derived.Test.YtokaiemgjngcoaaGreatDoorVr18
import Derived.Lib.HexFns2
open Go.Lib (hid)
open Go.Proofs.Tryz
set_option linter.unusedSimpArgs false
set_option linter.unusedVariables false
set_option maxHeartbeats 40000000
set_option maxRecDepth 100000
namespace Go.Proofs.YtokaiemgjngcoaaGreatDoor
variable {v:Value} {w1:World} {T' e:TypeId} {base g i:Nat} {k:aN} {o:Oper} {ops:Array Oper} {act:Act} {Q:Exit->Act->World->Prop} {ev:Operand->Value} {n:Int} {P:Program}
section
open Go.RowKit
namespace Tm
open Tr Ni Pk
theorem SB (ks:Fin 16->T) (M:Mp) (b:Nat) (hm:M.at_ b=some (.br ks)) (w:World) (hi:Inv M w) (wa:aL) (wn wc:Nat) (c0:UInt8) (r:Pa) (v:aM) (hW:Bs M w wa wn wc (c0::r)) (hc0:c0.toNat<16) (hlen:(c0::r).length<=64)
  (ih:∀ M' w' p a n c,Inv M' w'->IsT M' p (ks (nb c0))->Bs M' w' a n c r->Calls prog 53 #[.agg #[.pointer p],.slice a n c,.string v] w' (cK M' w' (put (ks (nb c0)) r v))) :
  Calls prog 53 #[.agg #[.pointer (some ⟨b,0,none⟩)],.slice wa wn wc,.string v] w (cK M w (.br λj=>if j=nb c0 then put (ks (nb c0)) r v else ks j)):=by
  obtain ⟨w2,hw2,al,am,hb2,hs2⟩:=kY w (some ⟨b,0,none⟩);have hi2:=hi.below hb2;have hX2:Bx M w2 (w.heap.size+1) #[.pointer none] 46:=⟨am,hi.free (by omega),iB _⟩
  have hwl:(c0::r).length=wn:=hW.1.len;have un:r.length+1=wn:=by rw [<-hwl]; rfl
  have h0:=aV (j:=0) al rfl;have HK:=hid (dL M _ _ w2 hi2 (jh hi2 hm));obtain ⟨ka,kn,kc,c3,hKs⟩:=hi2.kids hm;have hkn:kn=16:=by rw [<-hKs.len]; exact eT ks
  subst hkn;have hnx:((nb c0).val:Nat)=c0.toNat:=Nat.mod_eq_of_lt hc0;obtain ⟨kb,ko,p0,rfl,dl,eS,hk0,hT0⟩:=hKs.at' c0.toNat hc0;have bm:IsT M p0 (ks (nb c0)):=by
   rw [<-hnx,jy] at hT0;exact hT0
  have hbl:=hi.lt hm;have jj:=hi.lt_ kb eS;have hkc:=hKs.1;have hkm:=hKs.2.1;unfold maxLen at hkm;have hx16:c0.toNat<16:=hc0;have hxi:((c0.toNat:Nat):Int)<16:=by omega
  have HT:Hid (∀ w3,Below w2.heap.size w2 w3->w3.cell? ⟨w.heap.size,0,none⟩=some (.pointer (some ⟨b,0,none⟩))/\Calls prog 84 #[.slice wa wn wc] w3 (λe w'=>e = .returned (.tuple #[.int .u8 c0.toNat,.slice (dX wa wc 1) (wn-1) (wc-1)])/\Below w3.heap.size w3 w')/\
    ∀ w4,Below w3.heap.size w3 w4->(w4.cell? ⟨w.heap.size,0,none⟩=some (.pointer (some ⟨b,0,none⟩))/\w4.cell? ⟨b,3,none⟩=some (.slice (some ⟨kb,ko,none⟩) 16 kc)/\w4.cell? ⟨kb,ko+c0.toNat,none⟩=some (.pointer p0))/\
    (∀ wx,Below w4.heap.size w4 wx->Calls prog 53 #[.agg #[.pointer p0],.slice (dX wa wc 1) (wn-1) (wc-1),.string v] wx (cK M wx (put (ks (nb c0)) r v)))/\∀ wx,Below w4.heap.size w4 wx->∀ e w5,cK M wx (put (ks (nb c0)) r v) e w5->∃ p5 M5,e = .returned (tv p5)/\Below w4.heap.size w4 w5/\Calls prog 85 #[.agg #[.pointer (some ⟨b,0,none⟩)],.int .u8 c0.toNat,.agg #[.pointer p5]] w5 (cK M5 w5 (.br λj=>if j=nb c0 then put (ks (nb c0)) r v else ks j))/\
     ∀ e w9,cK M5 w5 (.br λj=>if j=nb c0 then put (ks (nb c0)) r v else ks j) e w9->∃ p9,e = .returned (tv p9)/\Below w4.heap.size w4 w9/\Rg.Own w9 (w.heap.size+1) #[.pointer none] 46/\∀ af,Rg.Upd w9 (w.heap.size+1) af->cK M w (.br λj=>if j=nb c0 then put (ks (nb c0)) r v else ks j) (.returned (tv p9)) af):=hid (λw3 hb3 =>
   ⟨aX hb3 h0,zf wa wn wc (c0::r) (by omega) w3 (qE hi hW.1 (Fr.below M (bst hb2 hb3))),λw4 hb4=>⟨⟨aX hb4 (aX hb3 h0),aX hb4 (aX hb3 c3),aX hb4 (aX hb3 hk0)⟩,λwx hbx=>by
    have hB:=bst hb2 (bst (bst hb3 hb4) hbx);refine ih M wx p0 _ _ _ (hi.below hB) bm ?_;exact (hW.fr hi (Fr.below M hB)).from' 1 (by omega),λwx hbx e w5 hG=>by
    have hB:=bst (bst hb3 hb4) hbx;have qS:St M w M wx:=⟨Fr.below M (bst hb2 hB),hi.below (bst hb2 hB),bst hb2 hB,hi⟩
    obtain ⟨p5,M5,rfl,fw,hS5,cN,hb5⟩:=qS.got hG;have u1:=(hX2.below hB).got cN hb5;have hbe:=Ij M5 b ks (cN.mono b _ hm) (nb c0) p5 _ fw w5 hS5.i;rw [hnx] at hbe;refine ⟨p5,M5,rfl,bst hbx hb5,hbe,λe w9 ud=>?_⟩;obtain ⟨p9,M9,rfl,ue,lE,ui,kf⟩:=hS5.got ud;have oy:=u1.got ui kf;refine ⟨p9,rfl,bst (bst hbx hb5) kf,oy.o,λaf hu=>?_⟩;have cq:=lE.upd hu (by omega) oy.n;exact ⟨p9,M9,rfl,ue,cq.f,cq.i,cq.b⟩⟩⟩)
  have H0:=hid al;clear al am hb2 hi hi2 hm hW hX2 hwl hKs hT0 bm c3 hk0 ih h0;subst hw2;clear hs2;go_enter func53,ntmps53;go_wp2_with (first | (refine aB (aZ _ _ _ (w.heap.size+1) (by simp) rfl) ?_) | (refine aB (aW (aV (j:=0) H0.out rfl) ⟨_,rfl,rfl⟩) ?_))
  refine HK.out.mono ?_;rintro e w3 ⟨rfl,hb3⟩;obtain ⟨d0',ey,H4⟩:=HT.out w3 hb3;replace ey:=hid ey;replace H4:=hid H4;clear hb3 HT HK H0 d0';unfold dW;go_wp2_with fail
  refine ey.out.mono ?_;rintro e w4 ⟨rfl,hb4⟩;obtain ⟨⟨d0,d3,dk⟩,HC,HF⟩:=H4.out w4 hb4;replace HC:=hid HC;replace HF:=hid HF;clear hb4 H4 ey;go_wp2_with fail
  refine aD (S:=λw'=>Bo (w.heap.size+1) w4 w') (Bo.of (below_drewN aI 1)) λhld=>?_;refine aj 0 ?_ (hy:=by intro wz hSw; (refine aW (fD hSw (by omega) d0) ?_; exact ⟨_,rfl,rfl⟩));try simp only [Act.put,au]
  refine aj 1 ?_;try simp only [Act.put,au]
  refine aj 2 ?_;try simp only [Act.put,au]
  refine aF 3 (λwz hSw=>fD hSw (by omega) d0) ?_;try simp only [Act.put,au]
  refine aj 4 ?_;try simp only [Act.put,au]
  refine aj 5 ?_;try simp only [Act.put,au]
  refine aF 6 (λwz hSw=>fD hSw (by omega) d3) ?_;try simp only [Act.put,au]
  refine aj 7 ?_;try simp only [Act.put,au]
  refine aj 8 ?_ (hy:=by intro wz hSw; (have q0:=hxi; have q1:=hx16; go_simp <;> with_reducible rfl));try simp only [Act.put,au]
  refine aj 9 ?_ (hy:=by intro wz hSw; (refine aW (fD hSw (by omega) dk) ?_; exact ⟨_,rfl,rfl⟩));try simp only [Act.put,au]
  refine aj 10 ?_;try simp only [Act.put,au]
  refine aj 11 ?_;try simp only [Act.put,au]
  refine ak 12 λK hK=>?_;go_simp;go_at_call 53
  (with_reducible refine (HC.out w4.drew (below_drewN aI 1)).mono ?_)
  intro e w5 hG;obtain ⟨p5,M5,rfl,dj,H5⟩:=HF.out w4.drew (below_drewN aI 1) e w5 hG;replace H5:=hid H5;clear hG;refine hK.out _ _ (Bo.of dj) λhld=>?_;clear hK K;try simp only [Act.put,au]
  refine ak 13 λK hK=>?_;go_simp;go_at_call 85
  (with_reducible refine (H5.out.1).mono ?_)
  intro e w9 hG;obtain ⟨p9,rfl,sA,H9⟩:=H5.out.2 e w9 hG;replace H9:=hid H9;clear hG;refine hK.out _ _ (Bo.of sA) λhld=>?_;clear hK K;try simp only [Act.put,au]
  refine ak 14 λK hK=>?_;refine gQ (by rfl) H9.out.1 (off:=0) (by decide) p9 ⟨_,_,rfl,rfl,rfl⟩ ?_;intro af ag ai;have ce:=hid ag;have eV:=hid (H9.out.2 af ai);clear ag;refine hK.out _ _ ((Bo.of sA).upd ai) λhld=>?_;clear hK K;try simp only [Act.put,au]
  refine aC ?_;go_wp2;exact bodyPost_ret (fq rfl _ rfl ce.out) rfl eV.out
theorem Cm (ks:Fin 16->T) (M:Mp) (b:Nat) (hm:M.at_ b=some (.br ks)) (w:World) (hi:Inv M w) (wa:aL) (wn wc:Nat) (c0:UInt8) (r:Pa) (v:aM) (hW:Bs M w wa wn wc (c0::r)) (hc0:c0.toNat<16) (hlen:(c0::r).length<=64)
  (ih:∀ M' w' p a n c,Inv M' w'->IsT M' p (ks (nb c0))->Bs M' w' a n c r->Calls prog 53 #[.agg #[.pointer p],.slice a n c,.string v] w' (λe w''=>e = .panicked [eP 8]/\Below w'.heap.size w' w'')) :
  Calls prog 53 #[.agg #[.pointer (some ⟨b,0,none⟩)],.slice wa wn wc,.string v] w (λe w''=>e = .panicked [eP 8]/\Below w.heap.size w w''):=by
  obtain ⟨w2,hw2,al,am,hb2,hs2⟩:=kY w (some ⟨b,0,none⟩);have hi2:=hi.below hb2;have hX2:Bx M w2 (w.heap.size+1) #[.pointer none] 46:=⟨am,hi.free (by omega),iB _⟩
  have hwl:(c0::r).length=wn:=hW.1.len;have un:r.length+1=wn:=by rw [<-hwl]; rfl
  have h0:=aV (j:=0) al rfl;have HK:=hid (dL M _ _ w2 hi2 (jh hi2 hm));obtain ⟨ka,kn,kc,c3,hKs⟩:=hi2.kids hm;have hkn:kn=16:=by rw [<-hKs.len]; exact eT ks
  subst hkn;have hnx:((nb c0).val:Nat)=c0.toNat:=Nat.mod_eq_of_lt hc0;obtain ⟨kb,ko,p0,rfl,dl,eS,hk0,hT0⟩:=hKs.at' c0.toNat hc0;have bm:IsT M p0 (ks (nb c0)):=by
   rw [<-hnx,jy] at hT0;exact hT0
  have hbl:=hi.lt hm;have jj:=hi.lt_ kb eS;have hkc:=hKs.1;have hkm:=hKs.2.1;unfold maxLen at hkm;have hx16:c0.toNat<16:=hc0;have hxi:((c0.toNat:Nat):Int)<16:=by omega
  have HT:Hid (∀ w3,Below w2.heap.size w2 w3->w3.cell? ⟨w.heap.size,0,none⟩=some (.pointer (some ⟨b,0,none⟩))/\Calls prog 84 #[.slice wa wn wc] w3 (λe w'=>e = .returned (.tuple #[.int .u8 c0.toNat,.slice (dX wa wc 1) (wn-1) (wc-1)])/\Below w3.heap.size w3 w')/\
    ∀ w4,Below w3.heap.size w3 w4->(w4.cell? ⟨w.heap.size,0,none⟩=some (.pointer (some ⟨b,0,none⟩))/\w4.cell? ⟨b,3,none⟩=some (.slice (some ⟨kb,ko,none⟩) 16 kc)/\w4.cell? ⟨kb,ko+c0.toNat,none⟩=some (.pointer p0))/\
    (∀ wx,Below w4.heap.size w4 wx->Calls prog 53 #[.agg #[.pointer p0],.slice (dX wa wc 1) (wn-1) (wc-1),.string v] wx (λe w''=>e = .panicked [eP 8]/\Below wx.heap.size wx w''))/\∀ wx,Below w4.heap.size w4 wx->Below w.heap.size w wx):=hid (λw3 hb3 =>
   ⟨aX hb3 h0,zf wa wn wc (c0::r) (by omega) w3 (qE hi hW.1 (Fr.below M (bst hb2 hb3))),λw4 hb4=>⟨⟨aX hb4 (aX hb3 h0),aX hb4 (aX hb3 c3),aX hb4 (aX hb3 hk0)⟩,λwx hbx=>by
    have hB:=bst hb2 (bst (bst hb3 hb4) hbx);refine ih M wx p0 _ _ _ (hi.below hB) bm ?_;exact (hW.fr hi (Fr.below M hB)).from' 1 (by omega),λwx hbx=>bst hb2 (bst (bst hb3 hb4) hbx)⟩⟩)
  have H0:=hid al;clear al am hb2 hi hi2 hm hW hX2 hwl hKs hT0 bm c3 hk0 ih h0;subst hw2;clear hs2;go_enter func53,ntmps53;go_wp2_with (first | (refine aB (aZ _ _ _ (w.heap.size+1) (by simp) rfl) ?_) | (refine aB (aW (aV (j:=0) H0.out rfl) ⟨_,rfl,rfl⟩) ?_))
  refine HK.out.mono ?_;rintro e w3 ⟨rfl,hb3⟩;obtain ⟨d0',ey,H4⟩:=HT.out w3 hb3;replace ey:=hid ey;replace H4:=hid H4;clear hb3 HT HK H0 d0';unfold dW;go_wp2_with fail
  refine ey.out.mono ?_;rintro e w4 ⟨rfl,hb4⟩;obtain ⟨⟨d0,d3,dk⟩,HC,HF⟩:=H4.out w4 hb4;replace HC:=hid HC;replace HF:=hid HF;clear hb4 H4 ey;go_wp2_with fail
  refine wp_region_held_drew (S:=λw'=>Bo (w.heap.size+1) w4 w') (by kernel_rfl) (Bo.of (below_drewN aI 1)) (λhld=>?_);refine aj 0 ?_ (hy:=by intro wz hSw; (refine aW (fD hSw (by omega) d0) ?_; exact ⟨_,rfl,rfl⟩));try simp only [Act.put,au]
  refine aj 1 ?_;try simp only [Act.put,au]
  refine aj 2 ?_;try simp only [Act.put,au]
  refine aF 3 (λwz hSw=>fD hSw (by omega) d0) ?_;try simp only [Act.put,au]
  refine aj 4 ?_;try simp only [Act.put,au]
  refine aj 5 ?_;try simp only [Act.put,au]
  refine aF 6 (λwz hSw=>fD hSw (by omega) d3) ?_;try simp only [Act.put,au]
  refine aj 7 ?_;try simp only [Act.put,au]
  refine aj 8 ?_ (hy:=by intro wz hSw; (have q0:=hxi; have q1:=hx16; go_simp <;> with_reducible rfl));try simp only [Act.put,au]
  refine aj 9 ?_ (hy:=by intro wz hSw; (refine aW (fD hSw (by omega) dk) ?_; exact ⟨_,rfl,rfl⟩));try simp only [Act.put,au]
  refine aj 10 ?_;try simp only [Act.put,au]
  refine aj 11 ?_;try simp only [Act.put,au]
  refine ak 12 λK hK=>?_;go_simp;go_at_call 53
  (with_reducible refine (HC.out w4.drew (below_drewN aI 1)).mono ?_)
  rintro e w5 ⟨rfl,hb5⟩;simp +zetaDelta [bodyPost,Exit.then];exact bst (HF.out w4.drew (below_drewN aI 1)) hb5
theorem OO (M:Mp) (a:aL) (n c:Nat) (way:Pa) (v:aM) (w:World) (hi:Inv M w) (hW:Bs M w a n c way):Calls prog 53 #[.agg #[.pointer none],.slice a n c,.string v] w (cK M w (.leaf way v)):=by
 obtain ⟨w2,hw2,al,am,hb2,hs2⟩:=kY w none;have hi2:=hi.below hb2;have HK:=hid (dL M none .nil w2 hi2 rfl);have HT:Hid (∀ w3,Below w2.heap.size w2 w3->Calls prog 87 #[.slice a n c,.string v] w3 (cK M w3 (.leaf way v))/\∀ e w9,cK M w3 (.leaf way v) e w9->∃ p,e = .returned (tv p)/\Rg.Own w9 (w.heap.size+1) #[.pointer none] 46/\∀ af,Rg.Upd w9 (w.heap.size+1) af->cK M w (.leaf way v) (.returned (tv p)) af):=hid (λw3 hb3 =>
  ⟨mh M _ _ _ _ _ w3 (hi2.below hb3) (hW.fr hi (Fr.below M (bst hb2 hb3))),λe w9 hG=>finish hi (Fr.below M (bst hb2 hb3)) (bst hb2 hb3) hG (am.below hb3) (iB _) (by omega) (hi.free (by omega))⟩)
 have H0:=hid al;clear al am hb2 hs2 hi hi2 hW;subst hw2;go_enter func53,ntmps53;go_wp2_with (first | (refine aB (aZ _ _ _ (w.heap.size+1) (by simp) rfl) ?_) | (refine aB (aW (aV (j:=0) H0.out rfl) ⟨_,rfl,rfl⟩) ?_))
 refine HK.out.mono ?_;rintro e w3 ⟨rfl,hb3⟩;obtain ⟨HC,HF⟩:=HT.out w3 hb3;replace HC:=hid HC;replace HF:=hid HF;clear hb3 HT HK H0;unfold dW;go_wp2_with fail
 refine HC.out.mono ?_;intro e w9 hG;obtain ⟨p9,rfl,aw,hE⟩:=HF.out e w9 hG;have cc:=hid aw;have HE:=hid hE;clear hG aw hE;go_wp2_with (refine bD cc.out (by decide) p9 rfl _ _ rfl rfl rfl ?_; intro af ag ai; have ce:=hid ag; have dp:=hid ai; clear ag ai)
 exact bodyPost_ret (fq rfl _ rfl ce.out) rfl (HE.out af dp.out)
theorem KI (M:Mp) (b:Nat) (r:aM) (hm:M.at_ b=some (.stub r)) (a:aL) (n c:Nat) (v:aM) (w:World) (hi:Inv M w):Calls prog 53 #[.agg #[.pointer (some ⟨b,0,none⟩)],.slice a n c,.string v] w (λe w'=>e = .panicked [eP 8]/\Below w.heap.size w w'):=by
 obtain ⟨w2,hw2,al,am,hb2,hs2⟩:=kY w (some ⟨b,0,none⟩);have hi2:=hi.below hb2;have HK:=hid (dL M _ _ w2 hi2 (jh hi2 hm));have H0:=hid al;have HB:Hid (∀ w3,Below w2.heap.size w2 w3->Below w.heap.size w w3):=hid (λw3 hb3=>bst hb2 hb3);clear al am hb2 hs2 hi hi2 hm;subst hw2;go_enter func53,ntmps53;go_wp2_with (first | (refine aB (aZ _ _ _ (w.heap.size+1) (by simp) rfl) ?_) | (refine aB (aW (aV (j:=0) H0.out rfl) ⟨_,rfl,rfl⟩) ?_))
 refine HK.out.mono ?_;rintro e w3 ⟨rfl,hb3⟩;have HB3:=hid (HB.out w3 hb3);clear hb3 HB HK H0;unfold dW;go_wp2;simp +zetaDelta [bodyPost,Exit.then,eP];exact HB3.out
theorem rV (M:Mp) (b:Nat) (t:T) (hm:M.at_ b=some t) (hk:dW t=1\/dW t=2) (a:aL) (n c:Nat) (v:aM) (R:T) (w:World) (hi:Inv M w)
  (hal:∀ w3,Below w.heap.size w w3->Calls prog 86 #[.agg #[.pointer (some ⟨b,0,none⟩)],.slice a n c,.string v] w3 (cK M w3 R)) :
  Calls prog 53 #[.agg #[.pointer (some ⟨b,0,none⟩)],.slice a n c,.string v] w (cK M w R):=by
 obtain ⟨w2,hw2,al,am,hb2,hs2⟩:=kY w (some ⟨b,0,none⟩);have hi2:=hi.below hb2;have HK:=hid (dL M _ _ w2 hi2 (jh hi2 hm));have h0:=aV (j:=0) al rfl
 have HT:Hid (∀ w3,Below w2.heap.size w2 w3->w3.cell? ⟨w.heap.size,0,none⟩=some (.pointer (some ⟨b,0,none⟩))/\Calls prog 86 #[.agg #[.pointer (some ⟨b,0,none⟩)],.slice a n c,.string v] w3 (cK M w3 R)/\∀ e w9,cK M w3 R e w9->∃ p,e = .returned (tv p)/\Rg.Own w9 (w.heap.size+1) #[.pointer none] 46/\∀ af,Rg.Upd w9 (w.heap.size+1) af->cK M w R (.returned (tv p)) af):=hid (λw3 hb3 =>
  ⟨aX hb3 h0,hal w3 (bst hb2 hb3),λe w9 hG=>finish hi (Fr.below M (bst hb2 hb3)) (bst hb2 hb3) hG (am.below hb3) (iB _) (by omega) (hi.free (by omega))⟩)
 have H0:=hid al;obtain ⟨k,hkk⟩:=aA (dW t)
 rw [hkk] at HK hk;clear al am hb2 hs2 hi hi2 hal hm hkk h0;subst hw2;rcases hk with rfl | rfl;all_goals
  go_enter func53,ntmps53;go_wp2_with (first | (refine aB (aZ _ _ _ (w.heap.size+1) (by simp) rfl) ?_) | (refine aB (aW (aV (j:=0) H0.out rfl) ⟨_,rfl,rfl⟩) ?_))
  refine HK.out.mono ?_;rintro e w3 ⟨rfl,hb3⟩;obtain ⟨d0,HC,HF⟩:=HT.out w3 hb3;replace HC:=hid HC;replace HF:=hid HF;clear hb3 HT HK H0;go_wp2_with (refine aB (aW d0 ⟨_,rfl,rfl⟩) ?_)
  refine HC.out.mono ?_;intro e w9 hG;obtain ⟨p9,rfl,aw,hE⟩:=HF.out e w9 hG;have cc:=hid aw;have HE:=hid hE;clear hG aw hE;go_wp2_with (refine bD cc.out (by decide) p9 rfl _ _ rfl rfl rfl ?_; intro af ag ai; have ce:=hid ag; have dp:=hid ai; clear ag ai)
  exact bodyPost_ret (fq rfl _ rfl ce.out) rfl (HE.out af dp.out)
theorem wE (M:Mp) (b:Nat) (t:T) (hm:M.at_ b=some t) (hk:dW t=2) (a:aL) (n c:Nat) (v:aM) (w:World) (hi:Inv M w)
  (hal:∀ w3,Below w.heap.size w w3->Calls prog 86 #[.agg #[.pointer (some ⟨b,0,none⟩)],.slice a n c,.string v] w3 (λe w'=>e = .panicked [eP 8]/\Below w3.heap.size w3 w')) :
  Calls prog 53 #[.agg #[.pointer (some ⟨b,0,none⟩)],.slice a n c,.string v] w (λe w'=>e = .panicked [eP 8]/\Below w.heap.size w w'):=by
 obtain ⟨w2,hw2,al,am,hb2,hs2⟩:=kY w (some ⟨b,0,none⟩);have hi2:=hi.below hb2;have HK:=hid (dL M _ _ w2 hi2 (jh hi2 hm));rw [hk] at HK;have h0:=aV (j:=0) al rfl;have HT:Hid (∀ w3,Below w2.heap.size w2 w3->w3.cell? ⟨w.heap.size,0,none⟩=some (.pointer (some ⟨b,0,none⟩))/\Calls prog 86 #[.agg #[.pointer (some ⟨b,0,none⟩)],.slice a n c,.string v] w3 (λe w'=>e = .panicked [eP 8]/\Below w3.heap.size w3 w')/\Below w.heap.size w w3):=hid (λw3 hb3 =>
  ⟨aX hb3 h0,hal w3 (bst hb2 hb3),bst hb2 hb3⟩)
 have H0:=hid al;clear al am hb2 hs2 hi hi2 hal hm hk h0;subst hw2;go_enter func53,ntmps53;go_wp2_with (first | (refine aB (aZ _ _ _ (w.heap.size+1) (by simp) rfl) ?_) | (refine aB (aW (aV (j:=0) H0.out rfl) ⟨_,rfl,rfl⟩) ?_))
 refine HK.out.mono ?_;rintro e w3 ⟨rfl,hb3⟩;obtain ⟨d0,HC,HB⟩:=HT.out w3 hb3;replace HC:=hid HC;replace HB:=hid HB;clear hb3 HT HK H0;go_wp2_with (refine aB (aW d0 ⟨_,rfl,rfl⟩) ?_)
 refine HC.out.mono ?_;rintro e w9 ⟨rfl,kf⟩;have cP:=hid (bst HB.out kf);clear kf HB;go_wp2;simp +zetaDelta [bodyPost,Exit.then];exact cP.out
theorem JO (q way:Pa) (f:Pa->T) (v:aM):fork q f way v=wrap (way.take (cp q way)) (two (nb (q.getD (cp q way) 0)) (nb (way.getD (cp q way) 0)) (f (q.drop (cp q way+1))) (.leaf (way.drop (cp q way+1)) v)):=by
 unfold fork;rw [wL _ _ _ aH]
def UR (t:T):Prop:=∀ (M:Mp) (w:World) (p:aL) (a:aL) (n c:Nat) (way:Pa) (v:aM),Inv M w->IsT M p t->Bs M w a n c way->Tr.Good t way.length->Nib way->way.length<=64->
 (Tr.get t way=none->Calls prog 53 #[.agg #[.pointer p],.slice a n c,.string v] w λe w'=>e = .panicked [eP 8]/\Below w.heap.size w w')/\
 (Tr.get t way≠none->Calls prog 53 #[.agg #[.pointer p],.slice a n c,.string v] w (cK M w (put t way v)))
theorem Fb (t:T):UR t:=by
 induction t with
 | nil =>
  intro M w p a n c way v hi ht hW hg hn hl;refine ⟨λh=>(by cases h),λ_=>?_⟩;obtain rfl:p=none:=ht.uf.2 rfl;exact OO M a n c way v w hi hW
 | stub r =>
  intro M w p a n c way v hi ht hW hg hn hl;refine ⟨λ_=>?_,λh=>absurd rfl h⟩;obtain ⟨b,rfl,hm⟩:=ht.at_ (λe=>by cases e);exact KI M b r hm a n c v w hi
 | leaf q u =>
  intro M w p a n c way v hi ht hW hg hn hl;refine ⟨λh=>(by cases h),λ_=>?_⟩;obtain ⟨b,rfl,hm⟩:=ht.at_ (λe=>by cases e);refine rV M b _ hm (Or.inl rfl) a n c v _ w hi (λw3 hb3=>?_);have hi3:=hi.below hb3;have hW3:=hW.fr hi (Fr.below M hb3);by_cases e:q=way
  .have:put (.leaf q u) way v = .leaf q v:=by
    unfold put;rw [if_pos e,e]
   rw [this];exact GV M b u q hm w3 hi3 a n c way v hW3 hl (Nat.le_of_eq hg.1) e
  .have:put (.leaf q u) way v=fork q (λr=>.leaf r u) way v:=by
    unfold put;rw [if_neg e]
   rw [this,JO];have hpre:¬ q<+:way:=λh=>e (h.eq_of_length hg.1);exact vY M b _ hm w3 hi3 a n c way v hW3 hl (Nat.le_of_eq hg.1) hpre hg.2 hn _ (λwx M' hix hmx=>QM M' b q u hmx _ (Nat.succ_le_of_lt (zw hpre)) wx hix)
 | ext q s ih =>
  intro M w p a n c way v hi ht hW hg hn hl;obtain ⟨b,rfl,hm⟩:=ht.at_ (λe=>by cases e);obtain ⟨g1,g2,g3,g4,g5⟩:=hg;by_cases e:q<+:way
  .have hgs:Tr.Good s (way.drop q.length).length:=by rw [List.length_drop]; exact g5
   have hget:Tr.get (.ext q s) way=Tr.get s (way.drop q.length):=by
    show (if q<+:way then Tr.get s (way.drop q.length) else some none)=_;rw [if_pos e]
   rw [hget];have hld:(way.drop q.length).length<=64:=by rw [List.length_drop]; omega
   refine ⟨λh=>?_,λh=>?_⟩
   .refine wE M b _ hm rfl a n c v w hi (λw3 hb3=>?_);exact IQ M b q s hm w3 (hi.below hb3) a n c way v (hW.fr hi (Fr.below M hb3)) hl g3 e (λM' w' p' a' n' c' hi' ht' hW'=>(ih M' w' p' a' n' c' _ v hi' ht' hW' hgs (hn.drop _) hld).1 h)
   .have hput:put (.ext q s) way v = .ext q (put s (way.drop q.length) v):=by
     show (if q<+:way then _ else _)=_;rw [if_pos e]
    rw [hput];refine rV M b _ hm (Or.inr rfl) a n c v _ w hi (λw3 hb3=>?_);exact MW M b q s hm w3 (hi.below hb3) a n c way v (hW.fr hi (Fr.below M hb3)) hl g3 e g1 h (λM' w' p' a' n' c' hi' ht' hW'=>(ih M' w' p' a' n' c' _ v hi' ht' hW' hgs (hn.drop _) hld).2 h)
  .have hget:Tr.get (.ext q s) way=some none:=by
    show (if q<+:way then Tr.get s (way.drop q.length) else some none)=_;rw [if_neg e]
   rw [hget];refine ⟨λh=>(by cases h),λ_=>?_⟩;have hput:put (.ext q s) way v=fork q (λr=>wrap r s) way v:=by
    show (if q<+:way then _ else _)=_;rw [if_neg e]
   rw [hput,JO];refine rV M b _ hm (Or.inr rfl) a n c v _ w hi (λw3 hb3=>?_);exact vY M b _ hm w3 (hi.below hb3) a n c way v (hW.fr hi (Fr.below M hb3)) hl g3 e g2 hn _ (λwx M' hix hmx=>SS M' b q s hmx _ (Nat.succ_le_of_lt (zw e)) wx hix)
 | br ks ih =>
  intro M w p a n c way v hi ht hW hg hn hl;obtain ⟨b,rfl,hm⟩:=ht.at_ (λe=>by cases e);cases way with
  | nil=>exact absurd hg.1 (Nat.lt_irrefl 0)
  | cons c0 r =>
   have hl':r.length<=64:=by simp at hl; omega
   have hgi:Tr.Good (ks (nb c0)) r.length:=hg.2.2 (nb c0);refine ⟨λh=>?_,λh=>?_⟩
   .exact Cm ks M b hm w hi a n c c0 r v hW hn.head hl (λM' w' p' a' n' c' hi' ht' hW'=>(ih (nb c0) M' w' p' a' n' c' r v hi' ht' hW' hgi hn.tail hl').1 h)
   .have hput:put (.br ks) (c0::r) v = .br λj=>if j=nb c0 then put (ks (nb c0)) r v else ks j:=by
     show T.br _=T.br _;congr 1;funext j;by_cases e:j=nb c0
     .subst e; rfl
     .rw [if_neg e,if_neg e]
    rw [hput];exact SB ks M b hm w hi a n c c0 r v hW hn.head hl (λM' w' p' a' n' c' hi' ht' hW'=>(ih (nb c0) M' w' p' a' n' c' r v hi' ht' hW' hgi hn.tail hl').2 h)
def jL:Option (Option aM)->Ending
 | none=>.panicked [eP 8]
 | some none=>.panicked [eP 7]
 | some (some v)=>.returned (.string v)
def UZ (t:T):Prop:=∀ (M:Mp) (w:World) (p:aL) (a:aL) (n c:Nat) (way:Pa),Inv M w->IsT M p t->bf w a n c way->Tr.Good t way.length->Nib way->way.length<=64->
 Calls prog 55 #[.agg #[.pointer p],.slice a n c] w λe w'=>e=jL (Tr.get t way)/\Below w.heap.size w w'
theorem Pm (M:Mp) (a:aL) (n c:Nat) (w:World) (hi:Inv M w):Calls prog 55 #[.agg #[.pointer none],.slice a n c] w λe w'=>e = .panicked [eP 7]/\Below w.heap.size w w':=by
 have h0:=eG w none;have HK:=hid (dL M none .nil (w.alloc (.cells #[.pointer none] 46)) (hi.below (al1 _ _)) rfl);clear hi;go_enter func55,ntmps55;go_wp2_with (refine aB (aW h0 ⟨_,rfl,rfl⟩) ?_)
 refine HK.out.mono ?_;rintro e w3 ⟨rfl,hb3⟩;have HB:=hid (bst (al1 _ _) hb3);unfold dW;clear h0 hb3 HK;go_wp2;simp +zetaDelta [bodyPost,Exit.then,eP];exact HB.out
theorem MS (M:Mp) (b:Nat) (r:aM) (hm:M.at_ b=some (.stub r)) (a:aL) (n c:Nat) (w:World) (hi:Inv M w):Calls prog 55 #[.agg #[.pointer (some ⟨b,0,none⟩)],.slice a n c] w λe w'=>e = .panicked [eP 8]/\Below w.heap.size w w':=by
 have h0:=eG w (some ⟨b,0,none⟩);have HK:=hid (dL M _ _ (w.alloc (.cells #[.pointer (some ⟨b,0,none⟩)] 46)) (hi.below (al1 _ _)) (jh (w:=w) hi hm));clear hi hm;go_enter func55,ntmps55;go_wp2_with (refine aB (aW h0 ⟨_,rfl,rfl⟩) ?_)
 refine HK.out.mono ?_;rintro e w3 ⟨rfl,hb3⟩;have HB:=hid (bst (al1 _ _) hb3);unfold dW;clear h0 hb3 HK;go_wp2;simp +zetaDelta [bodyPost,Exit.then,eP];exact HB.out
theorem Ll (M:Mp) (b:Nat) (q:Pa) (u:aM) (hm:M.at_ b=some (.leaf q u)) (a:aL) (n c:Nat) (way:Pa) (w:World) (hi:Inv M w) (hB:bf w a n c way) (hl:q.length=way.length) (h64:way.length<=64) :
  Calls prog 55 #[.agg #[.pointer (some ⟨b,0,none⟩)],.slice a n c] w λe w'=>e=jL (Tr.get (.leaf q u) way)/\Below w.heap.size w w':=by
 have h0:=eG w (some ⟨b,0,none⟩);obtain ⟨w1,hw1⟩:=ay (w.alloc (.cells #[.pointer (some ⟨b,0,none⟩)] 46))
 have hb1:Below w.heap.size w w1:=by rw [hw1]; exact al1 _ _
 have hi1:=hi.below hb1;have hn:=hB.len;rw [<-hw1] at h0;have HK:=hid (dL M _ _ w1 hi1 (jh hi1 hm));have c2:w1.cell? ⟨b,2,none⟩=some (.string u):=hi1.val hm;have H3:Hid (∀ w3,Below w1.heap.size w1 w3->w3.cell? ⟨w.heap.size,0,none⟩=some (.pointer (some ⟨b,0,none⟩))/\Calls prog 89 #[.agg #[.pointer (some ⟨b,0,none⟩)],.slice a n c] w3 (λe w'=>e=(if q=way then .returned (.tuple #[]) else .panicked [eP 7])/\Below w3.heap.size w3 w')/\
   ∀ w4,Below w3.heap.size w3 w4->w4.cell? ⟨w.heap.size,0,none⟩=some (.pointer (some ⟨b,0,none⟩))/\w4.cell? ⟨b,2,none⟩=some (.string u)/\Below w.heap.size w w4):=hid (λw3 hb3 =>
  ⟨aX hb3 h0,Dy M b _ hm a n c way w3 (hi1.below hb3) (hB.below (bst hb1 hb3)) (by rw [<-hn]; exact hl) (by omega),λw4 hb4=>⟨aX hb4 (aX hb3 h0),aX hb4 (aX hb3 c2),bst (bst hb1 hb3) hb4⟩⟩)
 have hg:Tr.get (.leaf q u) way=some (if q=way then some u else none):=rfl;rw [hg];clear hg hi hi1 hb1 hn c2 hl hm hB;subst hw1;by_cases e:q=way
 .simp only [if_pos e] at H3 ⊢;clear e;go_enter func55,ntmps55;go_wp2_with (refine aB (aW h0 ⟨_,rfl,rfl⟩) ?_)
  refine HK.out.mono ?_;rintro e w3 ⟨rfl,hb3⟩;obtain ⟨d0,HC,H4⟩:=H3.out w3 hb3;replace HC:=hid HC;replace H4:=hid H4;unfold dW;clear h0 hb3 HK H3;go_wp2_with (refine aB (aW d0 ⟨_,rfl,rfl⟩) ?_)
  refine HC.out.mono ?_;rintro e w4 ⟨rfl,hb4⟩;obtain ⟨e0,e2,HB⟩:=H4.out w4 hb4;replace HB:=hid HB;clear hb4 H4 d0 HC;go_wp2;go_ret;exact ⟨rfl,HB.out⟩
 .simp only [if_neg e] at H3 ⊢;clear e;go_enter func55,ntmps55;go_wp2_with (refine aB (aW h0 ⟨_,rfl,rfl⟩) ?_)
  refine HK.out.mono ?_;rintro e w3 ⟨rfl,hb3⟩;obtain ⟨d0,HC,H4⟩:=H3.out w3 hb3;replace HC:=hid HC;replace H4:=hid H4;unfold dW;clear h0 hb3 HK H3;go_wp2_with (refine aB (aW d0 ⟨_,rfl,rfl⟩) ?_)
  refine HC.out.mono ?_;rintro e w4 ⟨rfl,hb4⟩;obtain ⟨e0,e2,HB⟩:=H4.out w4 hb4;replace HB:=hid HB;clear hb4 H4 d0 HC;go_wp2;simp +zetaDelta [bodyPost,Exit.then,eP,jL];exact HB.out
theorem Ry (ks:Fin 16->T) (M:Mp) (b:Nat) (hm:M.at_ b=some (.br ks)) (w:World) (hi:Inv M w) (wa:aL) (wn wc:Nat) (c0:UInt8) (r:Pa) (hW:bf w wa wn wc (c0::r)) (hc0:c0.toNat<16) (hlen:(c0::r).length<=64) (g:Option (Option aM))
  (ih:∀ w' p a n c,Inv M w'->IsT M p (ks (nb c0))->bf w' a n c r->Calls prog 55 #[.agg #[.pointer p],.slice a n c] w' (λe w''=>e=jL g/\Below w'.heap.size w' w'')) :
  Calls prog 55 #[.agg #[.pointer (some ⟨b,0,none⟩)],.slice wa wn wc] w (λe w'=>e=jL g/\Below w.heap.size w w'):=by
 have h0:=eG w (some ⟨b,0,none⟩);obtain ⟨w1,hw1⟩:=ay (w.alloc (.cells #[.pointer (some ⟨b,0,none⟩)] 46))
 have hb1:Below w.heap.size w w1:=by rw [hw1]; exact al1 _ _
 have hi1:=hi.below hb1;rw [<-hw1] at h0;have hwl:(c0::r).length=wn:=hW.len;have un:r.length+1=wn:=by rw [<-hwl]; rfl
 have HK:=hid (dL M _ _ w1 hi1 (jh hi1 hm));obtain ⟨ka,kn,kc,c3,hKs⟩:=hi1.kids hm;have hkn:kn=16:=by rw [<-hKs.len]; exact eT ks
 subst hkn;have hnx:((nb c0).val:Nat)=c0.toNat:=Nat.mod_eq_of_lt hc0;obtain ⟨kb,ko,p0,rfl,dl,eS,hk0,hT0⟩:=hKs.at' c0.toNat hc0;have bm:IsT M p0 (ks (nb c0)):=by
  rw [<-hnx,jy] at hT0;exact hT0
 have hkc:=hKs.1;have hkm:=hKs.2.1;unfold maxLen at hkm;have hx16:c0.toNat<16:=hc0;have hxi:((c0.toNat:Nat):Int)<16:=by omega
 have HT:Hid (∀ w3,Below w1.heap.size w1 w3->w3.cell? ⟨w.heap.size,0,none⟩=some (.pointer (some ⟨b,0,none⟩))/\Calls prog 84 #[.slice wa wn wc] w3 (λe w'=>e = .returned (.tuple #[.int .u8 c0.toNat,.slice (dX wa wc 1) (wn-1) (wc-1)])/\Below w3.heap.size w3 w')/\
   ∀ w4,Below w3.heap.size w3 w4->(w4.cell? ⟨w.heap.size,0,none⟩=some (.pointer (some ⟨b,0,none⟩))/\w4.cell? ⟨b,3,none⟩=some (.slice (some ⟨kb,ko,none⟩) 16 kc)/\w4.cell? ⟨kb,ko+c0.toNat,none⟩=some (.pointer p0))/\
   Calls prog 55 #[.agg #[.pointer p0],.slice (dX wa wc 1) (wn-1) (wc-1)] w4 (λe w''=>e=jL g/\Below w4.heap.size w4 w'')/\∀ w5,Below w4.heap.size w4 w5->Below w.heap.size w w5):=hid (λw3 hb3 =>
  ⟨aX hb3 h0,zf wa wn wc (c0::r) (by omega) w3 (hW.below (bst hb1 hb3)),λw4 hb4=>⟨⟨aX hb4 (aX hb3 h0),aX hb4 (aX hb3 c3),aX hb4 (aX hb3 hk0)⟩,(by
   have hB:=bst hb1 (bst hb3 hb4);refine ih w4 p0 _ _ _ (hi.below hB) bm ?_;exact wY (hW.below hB) 1 (by omega)),λw5 hb5=>bst (bst (bst hb1 hb3) hb4) hb5⟩⟩)
 clear hi hi1 hb1 hm hW hwl hKs hT0 bm c3 hk0 ih;subst hw1
 match g with
 | none | some none =>
  go_enter func55,ntmps55;go_wp2_with (refine aB (aW h0 ⟨_,rfl,rfl⟩) ?_)
  refine HK.out.mono ?_;rintro e w3 ⟨rfl,hb3⟩;obtain ⟨d0',ey,H4⟩:=HT.out w3 hb3;replace ey:=hid ey;replace H4:=hid H4;unfold dW;clear hb3 HT HK h0 d0';go_wp2_with fail
  refine ey.out.mono ?_;rintro e w4 ⟨rfl,hb4⟩;obtain ⟨⟨d0,d3,dk⟩,HC,HB⟩:=H4.out w4 hb4;replace HC:=hid HC;replace HB:=hid HB;clear hb4 H4 ey;go_wp2_with (refine aB (aW dk ⟨_,rfl,rfl⟩) ?_)
  refine HC.out.mono ?_;rintro e w5 ⟨rfl,hb5⟩;have aa:=hid (HB.out w5 hb5);clear hb5 HB HC;unfold jL;go_wp2;simp +zetaDelta [bodyPost,Exit.then];exact ⟨rfl,aa.out⟩
 | some (some v) =>
  go_enter func55,ntmps55;go_wp2_with (refine aB (aW h0 ⟨_,rfl,rfl⟩) ?_)
  refine HK.out.mono ?_;rintro e w3 ⟨rfl,hb3⟩;obtain ⟨d0',ey,H4⟩:=HT.out w3 hb3;replace ey:=hid ey;replace H4:=hid H4;unfold dW;clear hb3 HT HK h0 d0';go_wp2_with fail
  refine ey.out.mono ?_;rintro e w4 ⟨rfl,hb4⟩;obtain ⟨⟨d0,d3,dk⟩,HC,HB⟩:=H4.out w4 hb4;replace HC:=hid HC;replace HB:=hid HB;clear hb4 H4 ey;go_wp2_with (refine aB (aW dk ⟨_,rfl,rfl⟩) ?_)
  refine HC.out.mono ?_;rintro e w5 ⟨rfl,hb5⟩;have aa:=hid (HB.out w5 hb5);clear hb5 HB HC;unfold jL;go_wp2;go_ret;exact ⟨rfl,aa.out⟩
theorem NZ (q:Pa) (s:T) (M:Mp) (b:Nat) (hm:M.at_ b=some (.ext q s)) (w:World) (hi:Inv M w) (wa:aL) (wn wc:Nat) (way:Pa) (hW:bf w wa wn wc way) (hlen:way.length<=64) (hle:q.length<=way.length) (h:q<+:way) (g:Option (Option aM))
  (ih:∀ w' p a n c,Inv M w'->IsT M p s->bf w' a n c (way.drop q.length)->Calls prog 55 #[.agg #[.pointer p],.slice a n c] w' (λe w''=>e=jL g/\Below w'.heap.size w' w'')) :
  Calls prog 55 #[.agg #[.pointer (some ⟨b,0,none⟩)],.slice wa wn wc] w (λe w'=>e=jL g/\Below w.heap.size w w'):=by
  have h0:=eG w (some ⟨b,0,none⟩);obtain ⟨w1,hw1⟩:=ay (w.alloc (.cells #[.pointer (some ⟨b,0,none⟩)] 46))
  have hb1:Below w.heap.size w w1:=by rw [hw1]; exact al1 _ _
  have hi1:=hi.below hb1;rw [<-hw1] at h0;have hwl:way.length=wn:=hW.len;have HK:=hid (dL M _ _ w1 hi1 (jh hi1 hm));obtain ⟨ka,kn,kc,c3,hKs⟩:=hi1.kids hm;obtain ⟨kb,ko,p0,rfl,dl,eS,hk0,hT0⟩:=hKs.at' 0 (by rw [<-hKs.len]; exact Nat.one_pos);have hkn:kn=1:=hKs.len.symm;have hkc:=hKs.1;have hkm:=hKs.2.1;unfold maxLen at hkm;rw [Nat.add_zero] at hk0;have bm:IsT M p0 s:=hT0
  have HT:Hid (∀ w3,Below w1.heap.size w1 w3->(w3.cell? ⟨w.heap.size,0,none⟩=some (.pointer (some ⟨b,0,none⟩))/\w3.cell? ⟨b,3,none⟩=some (.slice (some ⟨kb,ko,none⟩) kn kc)/\w3.cell? ⟨kb,ko,none⟩=some (.pointer p0))/\
    (∀ wx,Below w3.heap.size w3 wx->Calls prog 88 #[.agg #[.pointer (some ⟨b,0,none⟩)],.slice wa wn wc] wx (λe w'=>e = .returned (.slice (dX wa wc q.length) (wn-q.length) (wc-q.length))/\Below wx.heap.size wx w'))/\(∀ wx,Below w3.heap.size w3 wx->Calls prog 55 #[.agg #[.pointer p0],.slice (dX wa wc q.length) (wn-q.length) (wc-q.length)] wx (λe w''=>e=jL g/\Below wx.heap.size wx w''))/\∀ wx,Below w3.heap.size w3 wx->Below w.heap.size w wx):=hid (λw3 hb3 =>
   ⟨⟨aX hb3 h0,aX hb3 c3,aX hb3 hk0⟩,λwx hbx=>(by
    have:=zm M b _ hm wa wn wc way wx (hi1.below (bst hb3 hbx)) (hW.below (bst (bst hb1 hb3) hbx)) (by rw [<-hwl]; exact hle) (by omega);rw [show (bO (.ext q s))=q from rfl,if_pos h] at this;exact this),λwx hbx=>(by
     have hB:=bst (bst hb1 hb3) hbx;exact ih wx p0 _ _ _ (hi.below hB) bm (wY (hW.below hB) _ (by rw [<-hwl]; exact hle))),λwx hbx=>bst (bst hb1 hb3) hbx⟩)
  clear hi hi1 hb1 hm hW hwl hKs hT0 bm c3 hk0 ih;subst hw1
  match g with
  | none | some none =>
  go_enter func55,ntmps55;go_wp2_with (refine aB (aW h0 ⟨_,rfl,rfl⟩) ?_)
  refine HK.out.mono ?_;rintro e w3 ⟨rfl,hb3⟩;obtain ⟨⟨d0,d3,dk⟩,HP,ik,fx⟩:=HT.out w3 hb3;replace HP:=hid HP;replace ik:=hid ik;replace fx:=hid fx;unfold dW;clear hb3 HT HK h0;go_wp2_with fail
  refine wp_region_held_drew (S:=λw'=>Below w3.heap.size w3 w') (by kernel_rfl) ((below_drewN aI 1)) (λhld=>?_);refine aj 0 ?_;try simp only [Act.put,au]
  refine aF 1 (λwz hSw=>aX hSw d0) ?_;try simp only [Act.put,au]
  refine aj 2 ?_;try simp only [Act.put,au]
  refine aj 3 ?_;try simp only [Act.put,au]
  refine aF 4 (λwz hSw=>aX hSw d3) ?_;try simp only [Act.put,au]
  refine aj 5 ?_;try simp only [Act.put,au]
  refine aj 6 ?_ (hy:=by intro wz hSw; (refine aW (aX hSw dk) ?_; exact ⟨_,rfl,rfl⟩));try simp only [Act.put,au]
  refine aj 7 ?_ (hy:=by intro wz hSw; (refine aW (aX hSw d0) ?_; exact ⟨_,rfl,rfl⟩));try simp only [Act.put,au]
  refine aj 8 ?_;try simp only [Act.put,au]
  refine ak 9 λK hK=>?_;go_simp;go_at_call 88
  (with_reducible refine (HP.out w3.drew (below_drewN aI 1)).mono ?_)
  rintro e w5 ⟨rfl,hb5⟩;have aa:Hid (Below w3.heap.size w3 w5):=hid (bst (below_drewN aI 1) hb5);clear hb5;refine hK.out _ _ (aa.out) λhld=>?_;clear hK K;try simp only [Act.put,au]
  refine ak 10 λK hK=>?_;go_simp;go_at_call 55
  (with_reducible refine (ik.out w5 aa.out).mono ?_)
  rintro e w6 ⟨rfl,hb6⟩;have bj:Hid (Below w3.heap.size w3 w6):=hid (bst aa.out hb6);clear hb6;simp +zetaDelta [bodyPost,Exit.then,jL];exact fx.out w6 bj.out
  | some (some v) =>
  go_enter func55,ntmps55;go_wp2_with (refine aB (aW h0 ⟨_,rfl,rfl⟩) ?_)
  refine HK.out.mono ?_;rintro e w3 ⟨rfl,hb3⟩;obtain ⟨⟨d0,d3,dk⟩,HP,ik,fx⟩:=HT.out w3 hb3;replace HP:=hid HP;replace ik:=hid ik;replace fx:=hid fx;unfold dW;clear hb3 HT HK h0;go_wp2_with fail
  refine aD (S:=λw'=>Below w3.heap.size w3 w') ((below_drewN aI 1)) λhld=>?_;refine aj 0 ?_;try simp only [Act.put,au]
  refine aF 1 (λwz hSw=>aX hSw d0) ?_;try simp only [Act.put,au]
  refine aj 2 ?_;try simp only [Act.put,au]
  refine aj 3 ?_;try simp only [Act.put,au]
  refine aF 4 (λwz hSw=>aX hSw d3) ?_;try simp only [Act.put,au]
  refine aj 5 ?_;try simp only [Act.put,au]
  refine aj 6 ?_ (hy:=by intro wz hSw; (refine aW (aX hSw dk) ?_; exact ⟨_,rfl,rfl⟩));try simp only [Act.put,au]
  refine aj 7 ?_ (hy:=by intro wz hSw; (refine aW (aX hSw d0) ?_; exact ⟨_,rfl,rfl⟩));try simp only [Act.put,au]
  refine aj 8 ?_;try simp only [Act.put,au]
  refine ak 9 λK hK=>?_;go_simp;go_at_call 88
  (with_reducible refine (HP.out w3.drew (below_drewN aI 1)).mono ?_)
  rintro e w5 ⟨rfl,hb5⟩;have aa:Hid (Below w3.heap.size w3 w5):=hid (bst (below_drewN aI 1) hb5);clear hb5;refine hK.out _ _ (aa.out) λhld=>?_;clear hK K;try simp only [Act.put,au]
  refine ak 10 λK hK=>?_;go_simp;go_at_call 55
  (with_reducible refine (ik.out w5 aa.out).mono ?_)
  rintro e w6 ⟨rfl,hb6⟩;have bj:Hid (Below w3.heap.size w3 w6):=hid (bst aa.out hb6);clear hb6;refine hK.out _ _ (bj.out) λhld=>?_;clear hK K;try simp only [Act.put,au]
  refine aj 11 ?_;try simp only [Act.put,au]
  refine aC ?_;go_wp2;go_ret;exact ⟨rfl,fx.out w6 bj.out⟩
theorem DL (q:Pa) (s:T) (M:Mp) (b:Nat) (hm:M.at_ b=some (.ext q s)) (w:World) (hi:Inv M w) (wa:aL) (wn wc:Nat) (way:Pa) (hW:bf w wa wn wc way) (hlen:way.length<=64) (hle:q.length<=way.length) (h:¬ q<+:way) :
  Calls prog 55 #[.agg #[.pointer (some ⟨b,0,none⟩)],.slice wa wn wc] w (λe w'=>e = .panicked [eP 7]/\Below w.heap.size w w'):=by
  have h0:=eG w (some ⟨b,0,none⟩);obtain ⟨w1,hw1⟩:=ay (w.alloc (.cells #[.pointer (some ⟨b,0,none⟩)] 46))
  have hb1:Below w.heap.size w w1:=by rw [hw1]; exact al1 _ _
  have hi1:=hi.below hb1;rw [<-hw1] at h0;have hwl:way.length=wn:=hW.len;have HK:=hid (dL M _ _ w1 hi1 (jh hi1 hm));obtain ⟨ka,kn,kc,c3,hKs⟩:=hi1.kids hm;obtain ⟨kb,ko,p0,rfl,dl,eS,hk0,hT0⟩:=hKs.at' 0 (by rw [<-hKs.len]; exact Nat.one_pos);have hkn:kn=1:=hKs.len.symm;have hkc:=hKs.1;have hkm:=hKs.2.1;unfold maxLen at hkm;rw [Nat.add_zero] at hk0;have bm:IsT M p0 s:=hT0
  have HT:Hid (∀ w3,Below w1.heap.size w1 w3->(w3.cell? ⟨w.heap.size,0,none⟩=some (.pointer (some ⟨b,0,none⟩))/\w3.cell? ⟨b,3,none⟩=some (.slice (some ⟨kb,ko,none⟩) kn kc)/\w3.cell? ⟨kb,ko,none⟩=some (.pointer p0))/\
    (∀ wx,Below w3.heap.size w3 wx->Calls prog 88 #[.agg #[.pointer (some ⟨b,0,none⟩)],.slice wa wn wc] wx (λe w'=>e = .panicked [eP 7]/\Below wx.heap.size wx w'))/\(∀ wx,Below w3.heap.size w3 wx->True)/\∀ wx,Below w3.heap.size w3 wx->Below w.heap.size w wx):=hid (λw3 hb3 =>
   ⟨⟨aX hb3 h0,aX hb3 c3,aX hb3 hk0⟩,λwx hbx=>(by
    have:=zm M b _ hm wa wn wc way wx (hi1.below (bst hb3 hbx)) (hW.below (bst (bst hb1 hb3) hbx)) (by rw [<-hwl]; exact hle) (by omega);rw [show (bO (.ext q s))=q from rfl,if_neg h] at this;exact this),λwx hbx=>trivial,λwx hbx=>bst (bst hb1 hb3) hbx⟩)
  clear hi hi1 hb1 hm hW hwl hKs hT0 bm c3 hk0 ;subst hw1;go_enter func55,ntmps55;go_wp2_with (refine aB (aW h0 ⟨_,rfl,rfl⟩) ?_)
  refine HK.out.mono ?_;rintro e w3 ⟨rfl,hb3⟩;obtain ⟨⟨d0,d3,dk⟩,HP,ik,fx⟩:=HT.out w3 hb3;replace HP:=hid HP;replace ik:=hid ik;replace fx:=hid fx;unfold dW;clear hb3 HT HK h0;go_wp2_with fail
  refine wp_region_held_drew (S:=λw'=>Below w3.heap.size w3 w') (by kernel_rfl) ((below_drewN aI 1)) (λhld=>?_);refine aj 0 ?_;try simp only [Act.put,au]
  refine aF 1 (λwz hSw=>aX hSw d0) ?_;try simp only [Act.put,au]
  refine aj 2 ?_;try simp only [Act.put,au]
  refine aj 3 ?_;try simp only [Act.put,au]
  refine aF 4 (λwz hSw=>aX hSw d3) ?_;try simp only [Act.put,au]
  refine aj 5 ?_;try simp only [Act.put,au]
  refine aj 6 ?_ (hy:=by intro wz hSw; (refine aW (aX hSw dk) ?_; exact ⟨_,rfl,rfl⟩));try simp only [Act.put,au]
  refine aj 7 ?_ (hy:=by intro wz hSw; (refine aW (aX hSw d0) ?_; exact ⟨_,rfl,rfl⟩));try simp only [Act.put,au]
  refine aj 8 ?_;try simp only [Act.put,au]
  refine ak 9 λK hK=>?_;go_simp;go_at_call 88
  (with_reducible refine (HP.out w3.drew (below_drewN aI 1)).mono ?_)
  rintro e w5 ⟨rfl,hb5⟩;have aa:Hid (Below w3.heap.size w3 w5):=hid (bst (below_drewN aI 1) hb5);clear hb5;simp +zetaDelta [bodyPost,Exit.then];exact fx.out w5 aa.out
theorem QU (t:T):UZ t:=by
 induction t with
 | nil =>
  intro M w p a n c way hi ht hW hg hn hl;obtain rfl:p=none:=ht.uf.2 rfl;exact Pm M a n c w hi
 | stub r =>
  intro M w p a n c way hi ht hW hg hn hl;obtain ⟨b,rfl,hm⟩:=ht.at_ (λe=>by cases e);exact MS M b r hm a n c w hi
 | leaf q u =>
  intro M w p a n c way hi ht hW hg hn hl;obtain ⟨b,rfl,hm⟩:=ht.at_ (λe=>by cases e);exact Ll M b q u hm a n c way w hi hW hg.1 hl
 | ext q s ih =>
  intro M w p a n c way hi ht hW hg hn hl;obtain ⟨b,rfl,hm⟩:=ht.at_ (λe=>by cases e);obtain ⟨g1,g2,g3,g4,g5⟩:=hg;by_cases e:q<+:way
  .have hgs:Tr.Good s (way.drop q.length).length:=by rw [List.length_drop]; exact g5
   have hget:Tr.get (.ext q s) way=Tr.get s (way.drop q.length):=by
    show (if q<+:way then Tr.get s (way.drop q.length) else some none)=_;rw [if_pos e]
   rw [hget];exact NZ q s M b hm w hi a n c way hW hl g3 e _ (λw' p' a' n' c' hi' ht' hW'=>ih M w' p' a' n' c' _ hi' ht' hW' hgs (hn.drop _) (by rw [List.length_drop]; omega))
  .have hget:Tr.get (.ext q s) way=some none:=by
    show (if q<+:way then Tr.get s (way.drop q.length) else some none)=_;rw [if_neg e]
   rw [hget];exact DL q s M b hm w hi a n c way hW hl g3 e
 | br ks ih =>
  intro M w p a n c way hi ht hW hg hn hl;obtain ⟨b,rfl,hm⟩:=ht.at_ (λe=>by cases e);cases way with
  | nil=>exact absurd hg.1 (Nat.lt_irrefl 0)
  | cons c0 r =>
   exact Ry ks M b hm w hi a n c c0 r hW hn.head hl _ (λw' p' a' n' c' hi' ht' hW'=>ih (nb c0) M w' p' a' n' c' r hi' ht' hW' (hg.2.2 (nb c0)) hn.tail (by simp at hl; omega))
end Tm
end
section
open Go.RowKit
namespace Tk
open Pk
theorem lq (p:Addr) (x c:Int) (older:List PanicEntry) (w:World) (hc:w.cell? p=some (.int .i64 x)) (hz:w.frozen? p=false) :
  CallsD prog 82 #[.pointer (some p)] (.panicking (eP c::older)) w λe u' w' =>
   e = .returned (.tuple #[])/\u' = .panicking ({ eP c with recovered:=true }::older)/\w'=w.setCell p (.int .i64 c):=by
 refine callsD_of_wpS func82 rfl λc₀ cs hu=>?_;apply wpS_seq;apply wpS_region;simp [wpOpsS,go_sem,recoverD,hu,eP,ntmps82,Exit.thenS];apply wpS_seq;apply wpS_region;simp [wpOpsS,go_sem,Exit.thenS];refine wpS_cond (t:=true) (by simp [Act.eval,Array.replicate]) ?_;simp only [if_true];apply wpS_region;have B3:(Instr.typeAssert (.iface 29 (.int .i64 c)) 20 29 false).run prog w = .ok (.int .i64 c) w:=by kernel_rfl
 simp [wpOpsS,go_sem,B3,hc,hz,bodyPostS,results,Tryz.results82]
theorem rR (p:Addr) (w:World) :
  CallsD prog 82 #[.pointer (some p)] .returning w λe u' w'=>e = .returned (.tuple #[])/\u' = .returning/\w'=w:=by
 refine callsD_of_wpS func82 rfl λc₀ cs hu=>?_;apply wpS_seq;apply wpS_region;simp [wpOpsS,go_sem,recoverD,hu,ntmps82,Exit.thenS];apply wpS_seq;apply wpS_region;simp [wpOpsS,go_sem,Exit.thenS];refine wpS_cond (t:=false) (by simp [Act.eval,Array.replicate]) ?_;simp only [Bool.false_eq_true,if_false];refine wpS_of_wp (wp_skip ?_);cases c₀
 simp_all [bodyPostS,results,Tryz.results82]
theorem nJ (D:FuncId) (caps:aO) (hD:∀ w,(callFunc D caps).run prog w = .ok (.enter D caps) w) (w:World) (R:World->Prop)
  (h:Calls prog D caps (w.alloc (.cells #[.int .i64 0] 29)) λe w'=>e = .returned (.tuple #[])/\(w'.cell? ⟨w.heap.size,0,none⟩=some (.int .i64 0)/\w'.frozen? ⟨w.heap.size,0,none⟩=false)/\R w') :
  Calls prog 51 #[.func (.func D) #[] caps] w λe w'=>e = .returned (.int .i64 0)/\∃ w1,R w1/\w'=w1.setCell ⟨w.heap.size,0,none⟩ (.int .i64 0):=by
 have da:∀ (fn:Fn) (first cap:aO) (w:World),(Instr.makeFunc fn first cap).run prog w = .ok (.func fn first cap) w:=λ_ _ _ _=>rfl;have H:=hid h;clear h;go_enter_defers func51,ntmps51
 go_wp2_with fail
 refine H.out.mono ?_;rintro e w1 ⟨rfl,⟨hc,hz⟩,hR⟩;have HR:=hid hR;clear hR H;go_wp2;refine leaves_cons (f:=82) (args:=#[.pointer (some ⟨w.heap.size,0,none⟩)]) (by simp) (by simp [go_sem]) ?_;refine (rR ⟨w.heap.size,0,none⟩ _).mono ?_;rintro e u' w'' ⟨rfl,rfl,rfl⟩;simp [Leaves,settle,results,Tryz.results51,go_sem,hc];exact ⟨w1,HR.out,rfl⟩
theorem nZ (D:FuncId) (caps:aO) (hD:∀ w,(callFunc D caps).run prog w = .ok (.enter D caps) w) (w:World) (c:Int) (R:World->Prop)
  (h:Calls prog D caps (w.alloc (.cells #[.int .i64 0] 29)) λe w'=>e = .panicked [eP c]/\(w'.cell? ⟨w.heap.size,0,none⟩=some (.int .i64 0)/\w'.frozen? ⟨w.heap.size,0,none⟩=false)/\R w') :
  Calls prog 51 #[.func (.func D) #[] caps] w λe w'=>e = .returned (.int .i64 c)/\∃ w1,R w1/\w'=w1.setCell ⟨w.heap.size,0,none⟩ (.int .i64 c):=by
 have da:∀ (fn:Fn) (first cap:aO) (w:World),(Instr.makeFunc fn first cap).run prog w = .ok (.func fn first cap) w:=λ_ _ _ _=>rfl;have H:=hid h;clear h;go_enter_defers func51,ntmps51
 go_wp2_with fail
 refine H.out.mono ?_;rintro e w1 ⟨rfl,⟨hc,hz⟩,hR⟩;have HR:=hid hR;clear hR H;go_wp2;refine leaves_cons (f:=82) (args:=#[.pointer (some ⟨w.heap.size,0,none⟩)]) (by simp) (by simp [go_sem]) ?_;refine (lq ⟨w.heap.size,0,none⟩ 0 c [] _ hc hz).mono ?_;rintro e u' w'' ⟨rfl,rfl,rfl⟩;simp [Leaves,settle,results,Tryz.results51,go_sem,hc];exact ⟨w1,HR.out,rfl⟩
end Tk
end
section
open Go.RowKit
namespace Tm
open Tr Ni Pk
theorem SA (p:aL) (k:aN) (hk:k.length=32) (bt bk br:Nat) (v:aM) (w:World) (kh:Rg.Own w bt #[.pointer p] 46) (kj:Rg.Own w bk (Ky.kc k) 24) (h1:bt≠br) (h2:bk≠br)
  (hOr:Rg.Own w br #[.string eB] 9) (hC:∀ w5,Below w.heap.size w w5->∀ a5 n5 c5,bf w5 a5 n5 c5 (Ky.bE k)->Calls prog 55 #[.agg #[.pointer p],.slice a5 n5 c5] w5 (λe w'=>e = .returned (.string v)/\Below w5.heap.size w5 w')) :
  Calls prog 54 #[.pointer (some ⟨bt,0,none⟩),.pointer (some ⟨bk,0,none⟩),.pointer (some ⟨br,0,none⟩)] w (λe w'=>e = .returned (.tuple #[])/\Rg.Own w' br #[.string v] 9/\Bo br w w'):=by
 have fy:=hid (λwx=>Ky.tJ k hk wx);have qT:=hid kh;have g8:=hid kj;have HOr:=hid hOr;have HC:=hid hC;clear hOr hC;clear kh kj;go_enter func54,ntmps54;go_wp2_with fail
 refine aD (S:=λw'=>Bo br w w') (Bo.of (below_drewN aI 1)) λhld=>?_;refine aj 0 ?_ (hy:=by intro wz hSw; (refine aW (aV (j:=0) (mR hSw qT.out (by omega)) rfl) ?_; exact ⟨_,rfl,rfl⟩));try simp only [Act.put,au]
 refine aj 1 ?_ (hy:=by intro wz hSw; (refine bC hk (mR hSw g8.out (by omega)).2 ?_; exact ⟨_,rfl,rfl⟩));try simp only [Act.put,au]
 refine ak 2 λK hK=>?_;go_simp;go_at_call 42
 (with_reducible refine (fy.out w.drew).mono ?_)
 rintro e w5 ⟨a5,n5,c5,rfl,hx5,hb5⟩;have aa:Hid (Below w.heap.size w w5):=hid (bst (below_drewN aI 1) hb5);have oA:=hid hx5;clear hb5 hx5;refine hK.out _ _ (Bo.of aa.out) λhld=>?_;clear hK K;try simp only [Act.put,au]
 refine ak 3 λK hK=>?_;go_simp;go_at_call 55
 (with_reducible refine (HC.out w5 aa.out a5 n5 c5 oA.out).mono ?_)
 rintro e w6 ⟨rfl,hb6⟩;have cm:Below w.heap.size w w6:=bst aa.out hb6;have cl:=hid (HOr.out.below cm);refine hK.out _ _ (Bo.of cm) λhld=>?_;clear hK K;try simp only [Act.put,au]
 refine ak 4 λK hK=>?_;refine yu (by rfl) cl.out v ⟨_,_,rfl,rfl,rfl⟩ ?_;intro af ag ai;refine hK.out _ _ ((Bo.of cm).upd ai) λhld=>?_;clear hK K;try simp only [Act.put,au]
 refine aC ?_;go_wp2;go_end0;exact ⟨rfl,ag,(Bo.of cm).upd ai⟩
theorem Oz (p:aL) (k:aN) (hk:k.length=32) (bt bk br:Nat) (c:Int) (w:World) (kh:Rg.Own w bt #[.pointer p] 46) (kj:Rg.Own w bk (Ky.kc k) 24) (h1:bt≠br) (h2:bk≠br)
  (hC:∀ w5,Below w.heap.size w w5->∀ a5 n5 c5,bf w5 a5 n5 c5 (Ky.bE k)->Calls prog 55 #[.agg #[.pointer p],.slice a5 n5 c5] w5 (λe w'=>e = .panicked [eP c]/\Below w5.heap.size w5 w')) :
  Calls prog 54 #[.pointer (some ⟨bt,0,none⟩),.pointer (some ⟨bk,0,none⟩),.pointer (some ⟨br,0,none⟩)] w (λe w'=>e = .panicked [eP c]/\Below w.heap.size w w'):=by
 have fy:=hid (λwx=>Ky.tJ k hk wx);have qT:=hid kh;have g8:=hid kj;have HC:=hid hC;clear hC;clear kh kj;go_enter func54,ntmps54;go_wp2_with fail
 refine wp_region_held_drew (S:=λw'=>Bo br w w') (by kernel_rfl) (Bo.of (below_drewN aI 1)) (λhld=>?_);refine aj 0 ?_ (hy:=by intro wz hSw; (refine aW (aV (j:=0) (mR hSw qT.out (by omega)) rfl) ?_; exact ⟨_,rfl,rfl⟩));try simp only [Act.put,au]
 refine aj 1 ?_ (hy:=by intro wz hSw; (refine bC hk (mR hSw g8.out (by omega)).2 ?_; exact ⟨_,rfl,rfl⟩));try simp only [Act.put,au]
 refine ak 2 λK hK=>?_;go_simp;go_at_call 42
 (with_reducible refine (fy.out w.drew).mono ?_)
 rintro e w5 ⟨a5,n5,c5,rfl,hx5,hb5⟩;have aa:Hid (Below w.heap.size w w5):=hid (bst (below_drewN aI 1) hb5);have oA:=hid hx5;clear hb5 hx5;refine hK.out _ _ (Bo.of aa.out) λhld=>?_;clear hK K;try simp only [Act.put,au]
 refine ak 3 λK hK=>?_;go_simp;go_at_call 55
 (with_reducible refine (HC.out w5 aa.out a5 n5 c5 oA.out).mono ?_)
 rintro e w6 ⟨rfl,hb6⟩;simp +zetaDelta [bodyPost,Exit.then];exact bst aa.out hb6
theorem Sk (p:aL) (k:aN) (hk:k.length=32) (bt bk br:Nat) (bs:Nat) (v:aM) (w:World) (kh:Rg.Own w bt #[.pointer p] 46) (kj:Rg.Own w bk (Ky.kc k) 24) (h1:bt≠br) (h2:bk≠br)
  (hOr:Rg.Own w br #[.pointer none] 46) (M:Mp) (hi:Inv M w) (R:T) (hC:∀ w5,Below w.heap.size w w5->∀ a5 n5 c5,bf w5 a5 n5 c5 (Ky.bE k)->Calls prog 53 #[.agg #[.pointer p],.slice a5 n5 c5,.string v] w5 (cK (plus M (inS a5 n5)) w5 R)) (ur:Rg.Own w bs #[.string v] 9) (h3:bs≠br) :
  Calls prog 52 #[.pointer (some ⟨bt,0,none⟩),.pointer (some ⟨bk,0,none⟩),.pointer (some ⟨bs,0,none⟩),.pointer (some ⟨br,0,none⟩)] w (λe w'=>e = .returned (.tuple #[])/\∃ p' M' w6,IsT M' p' R/\St M w M' w6/\Rg.Upd w6 br w'/\Rg.Own w' br #[.pointer p'] 46):=by
 have fy:=hid (λwx=>Ky.tJ k hk wx);have qT:=hid kh;have g8:=hid kj;have HF:Hid (∀ w5,Below w.heap.size w w5->∀ a5 n5 c5,bf w5 a5 n5 c5 (Ky.bE k)->∀ e w6,cK (plus M (inS a5 n5)) w5 R e w6->∃ p6,e = .returned (tv p6)/\Below w.heap.size w w6/\Rg.Own w6 br #[.pointer none] 46/\∀ af,Rg.Own af br #[.pointer p6] 46->Rg.Upd w6 br af->∃ p' M' w6,IsT M' p' R/\St M w M' w6/\Rg.Upd w6 br af/\Rg.Own af br #[.pointer p'] 46):=hid (λw5 hb5 a5 n5 c5 hx e w6 hG=>by
  have hs:St M w (plus M (inS a5 n5)) w5:=((St.refl hi).below hb5).bytes hx;obtain ⟨p6,M6,he,hT,hS,_,hb6⟩:=hs.got hG;exact ⟨p6,he,hS.b,hOr.below hS.b,λaf hO hu=>⟨p6,M6,w6,hT,hS,hu,hO⟩⟩)
 have HC:=hid hC;have CC:=hid ur;clear ur;clear hOr hC hi;clear kh kj;go_enter func52,ntmps52;go_wp2_with fail
 refine aD (S:=λw'=>Bo br w w') (Bo.of (below_drewN aI 1)) λhld=>?_;refine aj 0 ?_ (hy:=by intro wz hSw; (refine aW (aV (j:=0) (mR hSw qT.out (by omega)) rfl) ?_; exact ⟨_,rfl,rfl⟩));try simp only [Act.put,au]
 refine aj 1 ?_ (hy:=by intro wz hSw; (refine bC hk (mR hSw g8.out (by omega)).2 ?_; exact ⟨_,rfl,rfl⟩));try simp only [Act.put,au]
 refine aj 3 ?_ (hy:=by intro wz hSw; (refine dR (aV (j:=0) (mR hSw CC.out (by omega)) rfl) ?_; exact ⟨_,rfl,rfl⟩));try simp only [Act.put,au]
 refine ak 2 λK hK=>?_;go_simp;go_at_call 42
 (with_reducible refine (fy.out w.drew).mono ?_)
 rintro e w5 ⟨a5,n5,c5,rfl,hx5,hb5⟩;have aa:Hid (Below w.heap.size w w5):=hid (bst (below_drewN aI 1) hb5);have oA:=hid hx5;clear hb5 hx5;refine hK.out _ _ (Bo.of aa.out) λhld=>?_;clear hK K;try simp only [Act.put,au]
 refine ak 4 λK hK=>?_;go_simp;go_at_call 53
 (with_reducible refine (HC.out w5 aa.out a5 n5 c5 oA.out).mono ?_)
 intro e w6 hG;obtain ⟨p6,rfl,cm,H6⟩:=HF.out w5 aa.out a5 n5 c5 oA.out e w6 hG;replace H6:=hid H6;clear hG;refine hK.out _ _ (Bo.of cm) λhld=>?_;clear hK K;try simp only [Act.put,au]
 refine ak 5 λK hK=>?_;refine gQ (by rfl) H6.out.1 (off:=0) (by decide) p6 ⟨_,_,rfl,rfl,rfl⟩ ?_;intro af ag ai;have eV:=hid (H6.out.2 af ag ai);clear ag;refine hK.out _ _ ((Bo.of cm).upd ai) λhld=>?_;clear hK K;try simp only [Act.put,au]
 refine aC ?_;go_wp2;go_end0;exact ⟨rfl,eV.out⟩
theorem PG (p:aL) (k:aN) (hk:k.length=32) (bt bk br:Nat) (bs:Nat) (v:aM) (c:Int) (w:World) (kh:Rg.Own w bt #[.pointer p] 46) (kj:Rg.Own w bk (Ky.kc k) 24) (h1:bt≠br) (h2:bk≠br)
  (ur:Rg.Own w bs #[.string v] 9) (h3:bs≠br) (hC:∀ w5,Below w.heap.size w w5->∀ a5 n5 c5,bf w5 a5 n5 c5 (Ky.bE k)->Calls prog 53 #[.agg #[.pointer p],.slice a5 n5 c5,.string v] w5 (λe w'=>e = .panicked [eP c]/\Below w5.heap.size w5 w')) :
  Calls prog 52 #[.pointer (some ⟨bt,0,none⟩),.pointer (some ⟨bk,0,none⟩),.pointer (some ⟨bs,0,none⟩),.pointer (some ⟨br,0,none⟩)] w (λe w'=>e = .panicked [eP c]/\Below w.heap.size w w'):=by
 have fy:=hid (λwx=>Ky.tJ k hk wx);have qT:=hid kh;have g8:=hid kj;have HC:=hid hC;have CC:=hid ur;clear hC ur;clear kh kj;go_enter func52,ntmps52;go_wp2_with fail
 refine wp_region_held_drew (S:=λw'=>Bo br w w') (by kernel_rfl) (Bo.of (below_drewN aI 1)) (λhld=>?_);refine aj 0 ?_ (hy:=by intro wz hSw; (refine aW (aV (j:=0) (mR hSw qT.out (by omega)) rfl) ?_; exact ⟨_,rfl,rfl⟩));try simp only [Act.put,au]
 refine aj 1 ?_ (hy:=by intro wz hSw; (refine bC hk (mR hSw g8.out (by omega)).2 ?_; exact ⟨_,rfl,rfl⟩));try simp only [Act.put,au]
 refine aj 3 ?_ (hy:=by intro wz hSw; (refine dR (aV (j:=0) (mR hSw CC.out (by omega)) rfl) ?_; exact ⟨_,rfl,rfl⟩));try simp only [Act.put,au]
 refine ak 2 λK hK=>?_;go_simp;go_at_call 42
 (with_reducible refine (fy.out w.drew).mono ?_)
 rintro e w5 ⟨a5,n5,c5,rfl,hx5,hb5⟩;have aa:Hid (Below w.heap.size w w5):=hid (bst (below_drewN aI 1) hb5);have oA:=hid hx5;clear hb5 hx5;refine hK.out _ _ (Bo.of aa.out) λhld=>?_;clear hK K;try simp only [Act.put,au]
 refine ak 4 λK hK=>?_;go_simp;go_at_call 53
 (with_reducible refine (HC.out w5 aa.out a5 n5 c5 oA.out).mono ?_)
 rintro e w6 ⟨rfl,hb6⟩;simp +zetaDelta [bodyPost,Exit.then];exact bst aa.out hb6
open Ky
theorem OE (w:World) (p:aL) (C:aO) (cs:aO) (T:TypeId):∃ w4,w4=((w.alloc (.cells #[.pointer p] 46)).alloc (.cells C 24)).alloc (.cells cs T)/\Rg.Own w4 w.heap.size #[.pointer p] 46/\Rg.Own w4 (w.heap.size+1) C 24/\Rg.Own w4 (w.heap.size+2) cs T/\Below w.heap.size w w4/\w4.heap.size=w.heap.size+3:=by
 have h2:=Rg.Own.new (w.alloc (.cells #[.pointer p] 46)) C 24;have h3:=Rg.Own.new ((w.alloc (.cells #[.pointer p] 46)).alloc (.cells C 24)) cs T;rw [show (w.alloc (.cells #[.pointer p] 46)).heap.size=w.heap.size+1 by simp] at h2;rw [show ((w.alloc (.cells #[.pointer p] 46)).alloc (.cells C 24)).heap.size=w.heap.size+2 by simp] at h3;exact ⟨_,rfl,((Rg.Own.new _ _ _).below (al1 _ _)).below (al1 _ _),h2.below (al1 _ _),h3,(al2 _ _ _).alloc (by simp; omega) _,by simp⟩
theorem Te (x:Int):∀ (j:Nat) (y:Int),(#[Value.int .i64 x]:aO)[j]? ≠ some (Value.int .u8 y):=λj y h=>by
 match j,h with
 | 0,h=>simp at h
 | j+1,h=>simp at h
theorem sO {w:World} {b:Nat} {t:TypeId} (h:Rg.Own w b #[v] t):w.cell? ⟨b,0,none⟩=some v/\w.frozen? ⟨b,0,none⟩=false:=⟨aV (j:=0) h rfl,eH h⟩
def PY:Option (Option aM)->Value
 | none=>.tuple #[.string eB,.int .i64 8]
 | some none=>.tuple #[.string eB,.int .i64 7]
 | some (some v)=>.tuple #[.string v,.int .i64 0]
theorem pV (p:aL) (k:aN) (x:aM) (c:Int) (w w4:World) (hw4:w4=((w.alloc (.cells #[.pointer p] 46)).alloc (.cells (kc k) 24)).alloc (.cells #[.string eB] 9))
  (h:Calls prog 51 #[.func (.func 54) #[] #[.pointer (some ⟨w.heap.size,0,none⟩),.pointer (some ⟨w.heap.size+1,0,none⟩),.pointer (some ⟨w.heap.size+2,0,none⟩)]] w4 λe w'=>e = .returned (.int .i64 c)/\Rg.Own w' (w.heap.size+2) #[.string x] 9/\Below w.heap.size w w') :
  Calls prog 29 #[.agg #[.pointer p],.agg (kc k)] w λe w'=>e = .returned (.tuple #[.string x,.int .i64 c])/\Below w.heap.size w w':=by
 have da:∀ (fn:Fn) (first cap:aO) (w:World),(Instr.makeFunc fn first cap).run prog w = .ok (.func fn first cap) w:=λ_ _ _ _=>rfl;obtain ⟨C,hC⟩:=aA (kc k)
 have HH:=hid h;have HW:=hid hw4;rw [hC] at HW ⊢;clear h hw4 hC;go_enter func29,ntmps29;go_wp2_with fail
 rw [<-HW.out];refine HH.out.mono ?_;rintro e w5 ⟨rfl,bh,dj⟩;have bi:=hid bh;have aa:=hid dj;clear bh dj HH HW da;go_wp2_with (first
  | (refine aB (dR (aV (j:=0) bi.out rfl) ⟨_,rfl,rfl⟩) ?_)
  | (refine Ae bi.out x rfl _ _ rfl rfl rfl ?_; intro w6 b8 bo; have cl:=hid b8; have bj:Hid (Below w.heap.size w w6):=hid (bo.below aa.out (by omega)); clear b8 bo))
 exact bodyPost_ret (Pq rfl _ rfl cl.out) rfl ⟨rfl,bj.out⟩
theorem CO (M:Mp) (p:aL) (t:T) (k:aN) (hk:k.length=32) (w:World) (hi:Inv M w) (ht:IsT M p t) (hg:Tr.Good t 64) :
  Calls prog 29 #[.agg #[.pointer p],.agg (kc k)] w λe w'=>e = .returned (PY (Tr.get t (path k)))/\Below w.heap.size w w':=by
 obtain ⟨w4,hw4,al,am,hO2,hb4,hs4⟩:=OE w p (kc k) #[.string eB] 9;have hE:Rg.Own (w4.alloc (.cells #[.int .i64 0] 29)) w4.heap.size #[.int .i64 0] 29:=Rg.Own.new _ _ _;have hA:=al1 w4 (.cells #[.int .i64 0] 29);obtain ⟨wc,hwc⟩:=aA (w4.alloc (.cells #[.int .i64 0] 29))
 rw [hwc] at hE hA;have hbc:=bst hb4 hA;have hic:=hi.below hbc;have hpl:(path k).length=64:=by rw [Tr.gK,hk]
 have hfind:∀ w5,Below wc.heap.size wc w5->∀ a5 n5 c5,bf w5 a5 n5 c5 (bE k)->Calls prog 55 #[.agg #[.pointer p],.slice a5 n5 c5] w5 (λe w'=>e=jL (Tr.get t (path k))/\Below w5.heap.size w5 w'):=λw5 hb5 a5 n5 c5 hx =>
  QU t M w5 p a5 n5 c5 (path k) (hic.below hb5) ht hx (by rw [hpl]; exact hg) (kR k) (by omega)
 have hD:∀ wx,(callFunc 54 #[.pointer (some ⟨w.heap.size,0,none⟩),.pointer (some ⟨w.heap.size+1,0,none⟩),.pointer (some ⟨w.heap.size+2,0,none⟩)]).run prog wx = .ok (.enter 54 #[.pointer (some ⟨w.heap.size,0,none⟩),.pointer (some ⟨w.heap.size+1,0,none⟩),.pointer (some ⟨w.heap.size+2,0,none⟩)]) wx:=by intro wx; kernel_rfl
 have kl:∀ c:Int,jL (Tr.get t (path k)) = .panicked [eP c]->PY (Tr.get t (path k)) = .tuple #[.string eB,.int .i64 c]->Calls prog 29 #[.agg #[.pointer p],.agg (kc k)] w λe w'=>e = .returned (PY (Tr.get t (path k)))/\Below w.heap.size w w':=λc hc hv=>by
  rw [hv];refine pV p k eB c w w4 hw4 ((Tk.nZ 54 _ hD w4 c (λw'=>Below wc.heap.size wc w') (by
   rw [hwc];refine (Oz p k hk _ _ _ c wc (al.below hA) (am.below hA) (by omega) (by omega) (λw5 hb5 a5 n5 c5 hx=>by rw [<-hc]; exact hfind w5 hb5 a5 n5 c5 hx)).mono ?_;rintro e w' ⟨rfl,hb⟩;exact ⟨rfl,sO (hE.below hb),hb⟩)).mono ?_)
  rintro e w' ⟨rfl,w1,hb,rfl⟩;exact ⟨rfl,((hO2.below hA).below hb).upd (bG _ _ _ _) (by omega),(bG w1 w4.heap.size 0 (.int .i64 c)).below (bst hbc hb) (by omega)⟩
 match hget:Tr.get t (path k),hfind,kl with
 | none,_,kl=>exact kl 8 rfl rfl
 | some none,_,kl=>exact kl 7 rfl rfl
 | some (some v),hfind,_ =>
  refine pV p k v 0 w w4 hw4 ((Tk.nJ 54 _ hD w4 (λw'=>Rg.Own w' (w.heap.size+2) #[.string v] 9/\Bo (w.heap.size+2) wc w'/\Below w.heap.size w w') (by
   rw [hwc];refine ((SA p k hk w.heap.size (w.heap.size+1) (w.heap.size+2) v wc (al.below hA) (am.below hA) (by omega) (by omega) (hO2.below hA) (λw5 hb5 a5 n5 c5 hx=>hfind w5 hb5 a5 n5 c5 hx))).mono ?_;rintro e w' ⟨rfl,hO,hb⟩;have hbw:Below w.heap.size w w':=hb.below hbc (by have:=hbc.size; omega) (by omega);exact ⟨rfl,sO (mR hb hE (by omega)),hO,hb,hbw⟩)).mono ?_)
  rintro e w' ⟨rfl,w1,⟨hO,hb,hB⟩,rfl⟩;exact ⟨rfl,hO.upd (bG _ _ _ _) (by omega),(bG w1 w4.heap.size 0 (.int .i64 0)).below hB (by omega)⟩
def FJ (M:Mp) (w:World) (t:T) (c:Int) (e:Ending) (w':World):Prop:=∃ p M',e = .returned (.tuple #[tv p,.int .i64 c])/\IsT M' p t/\Fr M M' w w'/\Inv M' w'/\Below w.heap.size w w'
def Ke (M:Mp) (w:World) (br:Nat) (t:T) (w':World):Prop:=∃ p M',Rg.Own w' br #[.pointer p] 46/\IsT M' p t/\Fr M M' w w'/\Inv M' w'/\Below w.heap.size w w'/\¬ M'.ft br
theorem Ke.end_ {M:Mp} {w w5 w6:World} {br:Nat} {t:T} {c:Int} (h:Ke M w br t w5) (hg:w.heap.size<=br):∃ p,Rg.Own w5 br #[.pointer p] 46/\∀ w6,Rg.Upd w5 br w6->FJ M w t c (.returned (.tuple #[tv p,.int .i64 c])) w6:=by
 obtain ⟨p,M',hO,hT,f,i,b,hn⟩:=h;exact ⟨p,hO,λw6 hu=>⟨p,M',rfl,hT,f.upd hu hg,i.upd hu hn,hu.below b hg⟩⟩
theorem TV {M M':Mp} {w wc w6:World} {br be:Nat} {p:aL} {t:T} {cs:aO} {te:TypeId} (hi:Inv M w) (hbc:Below w.heap.size w wc) (hT:IsT M' p t) (hS:St M wc M' w6) (hu:Rg.Upd w6 br w1) (hO:Rg.Own w1 br #[.pointer p] T')
  (hOr:Rg.Own wc br #[.pointer none] 46) (IM:Rg.Own wc be cs te) (hne:∀ (j:Nat) (x:Int),cs[j]? ≠ some (Value.int .u8 x)) (hgr:w.heap.size<=br) (hge:w.heap.size<=be) (hre:br≠be) (oe:T'=46) (x:Value):Ke M w br t (w1.setCell ⟨be,0,none⟩ x):=by
 subst oe;have hu2:=bG w1 be 0 x;have nr:¬ M'.ft br:=hS.f.box (hi.free hgr) hOr.1 (eU hOr (iB _));have ne:¬ M'.ft be:=hS.f.box (hi.free hge) IM.1 (eU IM hne);have hf:=(((Fr.below M hbc).trans hi hS.f).upd hu hgr).upd hu2 hge;exact ⟨p,M',hO.upd hu2 hre,hT,hf,(hS.i.upd hu nr).upd hu2 ne,hu2.below (hu.below (bst hbc hS.b) hgr) hge,nr⟩
theorem EO (M:Mp) (p:aL) (k:aN) (v:aM) (hv0:v.size≠0) (hv1:v.size<=65552) (R:T) (c:Int) (w w4:World) (hw4:w4=(((w.alloc (.cells #[.pointer p] 46)).alloc (.cells (kc k) 24)).alloc (.cells #[.string v] 9)).alloc (.cells #[.pointer none] 46))
  (h:Calls prog 51 #[.func (.func 52) #[] #[.pointer (some ⟨w.heap.size,0,none⟩),.pointer (some ⟨w.heap.size+1,0,none⟩),.pointer (some ⟨w.heap.size+2,0,none⟩),.pointer (some ⟨w.heap.size+3,0,none⟩)]] w4 λe w'=>e = .returned (.int .i64 c)/\Ke M w (w.heap.size+3) R w') :
  Calls prog 28 #[.agg #[.pointer p],.agg (kc k),.string v] w (FJ M w R c):=by
 have da:∀ (fn:Fn) (first cap:aO) (w:World),(Instr.makeFunc fn first cap).run prog w = .ok (.func fn first cap) w:=λ_ _ _ _=>rfl;have hne:=Ni.dP (s:=v) (by omega);have hd:decide ((65552:Int)<(v.size:Int))=false:=by simp; omega
 obtain ⟨C,hC⟩:=aA (kc k)
 have HH:=hid h;have HW:=hid hw4;rw [hC] at HW ⊢;clear h hw4 hC;go_enter func28,ntmps28;go_wp2_with (first
  | (refine aB (aZ _ _ _ (w.heap.size+3) (by simp) rfl) ?_)
  | (refine aB (dR (s:=v) (by simp) ⟨_,rfl,rfl⟩) ?_)
  | (refine Rg.runW (by rfl) _ _ (dR (s:=v) (by simp) ⟨_,rfl,rfl⟩) ?_))
 rw [<-HW.out];refine HH.out.mono ?_;rintro e w5 ⟨rfl,hB⟩;obtain ⟨p5,bh,IN⟩:=hB.end_ (w6:=w5) (c:=c) (by omega);have bi:=hid bh;have Q5:=hid IN;clear hB bh IN HH HW da;go_wp2_with (first
  | (refine aB (aW (aV (j:=0) bi.out rfl) ⟨_,rfl,rfl⟩) ?_)
  | (refine bD bi.out (by simp) p5 rfl _ _ rfl rfl rfl ?_; intro w6 b8 bo; have cl:=hid b8; have Q6:=hid bo; clear b8 bo))
 exact bodyPost_ret (MC (q:=6) (u:=7) rfl _ rfl cl.out) rfl (Q5.out w6 Q6.out)
theorem wI (M:Mp) (p:aL) (t:T) (k:aN) (hk:k.length=32) (v:aM) (hv0:v.size≠0) (hv1:v.size<=65552) (w:World) (hi:Inv M w) (ht:IsT M p t) (hg:Tr.Good t 64) :
  (Tr.get t (path k)=none->Calls prog 28 #[.agg #[.pointer p],.agg (kc k),.string v] w (FJ M w .nil 8))/\
  (Tr.get t (path k)≠none->Calls prog 28 #[.agg #[.pointer p],.agg (kc k),.string v] w (FJ M w (put t (path k) v) 0)):=by
 obtain ⟨w3,hw3,al,am,hO2,hb3,hs3⟩:=OE w p (kc k) #[.string v] 9;obtain ⟨w4,hw4⟩:=ay (w3.alloc (.cells #[.pointer none] 46))
 have mw:Below w3.heap.size w3 w4:=by rw [hw4]; exact al1 _ _
 have hOr:Rg.Own w4 (w.heap.size+3) #[.pointer none] 46:=by rw [hw4,<-hs3]; exact Rg.Own.new _ _ _
 have hs4:w4.heap.size=w.heap.size+4:=by rw [hw4]; simp [hs3]
 have hb4:=bst hb3 mw;replace al:=al.below mw;replace am:=am.below mw;replace hO2:=hO2.below mw;have r3:=hw4;rw [hw3] at r3;have hE:Rg.Own (w4.alloc (.cells #[.int .i64 0] 29)) w4.heap.size #[.int .i64 0] 29:=Rg.Own.new _ _ _;have hA:=al1 w4 (.cells #[.int .i64 0] 29);obtain ⟨wc,hwc⟩:=aA (w4.alloc (.cells #[.int .i64 0] 29))
 rw [hwc] at hE hA;have hbc:=bst hb4 hA;have hic:=hi.below hbc;have hpl:(path k).length=64:=by rw [Tr.gK,hk]
 have hD:∀ wx,(callFunc 52 #[.pointer (some ⟨w.heap.size,0,none⟩),.pointer (some ⟨w.heap.size+1,0,none⟩),.pointer (some ⟨w.heap.size+2,0,none⟩),.pointer (some ⟨w.heap.size+3,0,none⟩)]).run prog wx = .ok (.enter 52 #[.pointer (some ⟨w.heap.size,0,none⟩),.pointer (some ⟨w.heap.size+1,0,none⟩),.pointer (some ⟨w.heap.size+2,0,none⟩),.pointer (some ⟨w.heap.size+3,0,none⟩)]) wx:=by intro wx; kernel_rfl
 refine ⟨λhget=>?_,λhget=>?_⟩
 .refine EO M p k v hv0 hv1 .nil 8 w w4 r3 ((Tk.nZ 52 _ hD w4 8 (λw'=>Below wc.heap.size wc w') (by
   rw [hwc];refine (PG p k hk _ _ (w.heap.size+3) _ v 8 wc (al.below hA) (am.below hA) (by omega) (by omega) (hO2.below hA) (by omega) (λw5 hb5 a5 n5 c5 hx=>?_)).mono ?_
   .exact (Fb t (plus M (inS a5 n5)) w5 p a5 n5 c5 (path k) v ((hic.below hb5).plus (λk hk=>(sF hx hk).2)) (zM ht) (Bs.in_ hx) (by rw [hpl]; exact hg) (kR k) (by omega)).1 hget
   rintro e w' ⟨rfl,hb⟩;exact ⟨rfl,sO (hE.below hb),hb⟩)).mono ?_)
  rintro e w' ⟨rfl,w1,hb,rfl⟩;have hu2:=bG w1 w4.heap.size 0 (.int .i64 8);have hbw:=hu2.below (bst hbc hb) (by omega);exact ⟨rfl,none,M,((hOr.below hA).below hb).upd hu2 (by omega),rfl,Fr.below M hbw,hi.below hbw,hbw,hi.free (by omega)⟩
 .refine EO M p k v hv0 hv1 (put t (path k) v) 0 w w4 r3 ((Tk.nJ 52 _ hD w4 (λw'=>∃ p' M' w6,IsT M' p' (put t (path k) v)/\St M wc M' w6/\Rg.Upd w6 (w.heap.size+3) w'/\Rg.Own w' (w.heap.size+3) #[.pointer p'] 46) (by
   rw [hwc];refine (Sk p k hk _ _ (w.heap.size+3) _ v wc (al.below hA) (am.below hA) (by omega) (by omega) (hOr.below hA) M hic (put t (path k) v) (λw5 hb5 a5 n5 c5 hx=>?_) (hO2.below hA) (by omega)).mono ?_
   .exact (Fb t (plus M (inS a5 n5)) w5 p a5 n5 c5 (path k) v ((hic.below hb5).plus (λk hk=>(sF hx hk).2)) (zM ht) (Bs.in_ hx) (by rw [hpl]; exact hg) (kR k) (by omega)).2 hget
   rintro e w' ⟨rfl,p',M',w6,h1,h2,h3,h4⟩;exact ⟨rfl,sO ((hE.below h2.b).upd h3 (by omega)),p',M',w6,h1,h2,h3,h4⟩)).mono ?_)
  rintro e w' ⟨rfl,w1,⟨p',M',w6,h1,h2,h3,h4⟩,rfl⟩;exact ⟨rfl,TV hi hbc h1 h2 h3 h4 (hOr.below hA) hE (Te _) (by omega) (by omega) (by omega) rfl _⟩
theorem Bx.fr {M M':Mp} {w w':World} {cs:aO} {t:TypeId} (h:Bx M w g cs t) (f:Fr M M' w w') (b:Below w.heap.size w w'):Bx M' w' g cs t:=h.got f b
theorem St.te {M M1:Mp} {w w2:World} {t:T} {c:Int} {e:Ending} (s:St M w M1 w1) (h:FJ M1 w1 t c e w2):∃ p M2,e = .returned (.tuple #[tv p,.int .i64 c])/\IsT M2 p t/\St M w M2 w2/\Fr M1 M2 w1 w2/\Below w1.heap.size w1 w2:=by
 obtain ⟨p,M2,he,ht,f,i,b⟩:=h;exact ⟨p,M2,he,ht,⟨s.f.trans s.i0 f,i,bst s.b b,s.i0⟩,f,b⟩
def EC (l:List Tr.Pair):Prop:=(∀ x∈l,x.1.length=32)/\∀ x∈l,x.2.size≠0/\x.2.size<=65552
theorem EC.has {l:List Tr.Pair} (h:EC l):Has (bQ .nil l) (dS l):=IY l.length l rfl h.1 h.2
theorem EC.take {l:List Tr.Pair} (h:EC l) (j:Nat):EC (l.take j):=⟨λx hx=>h.1 x (List.mem_of_mem_take hx),λx hx=>h.2 x (List.mem_of_mem_take hx)⟩
theorem RL {t:T} {m:Tr.Key->Option aM} (h:Has t m) {k:Tr.Key} (hk:k.length=32):Tr.get t (path k)≠none:=by
 rw [h.get k hk];intro e;cases e
theorem Cw (M:Mp) (a:aL) (n c:Nat) (l:List Tr.Pair) (hok:EC l) (w:World) (hi:Inv M w) (h:fA w a n c l) (hn:n<=1000000) :
  Calls prog 15 #[.slice a n c] w (cK M w (bQ .nil l)):=by
 obtain ⟨w2,hw2,al,am,hb2,hs2⟩:=kY w none;have hS2:St M w M w2:=(St.refl hi).below hb2;have hX0:Bx M w2 w.heap.size #[.pointer none] 46:=⟨al,hi.free (by omega),iB _⟩
 have hX1:Bx M w2 (w.heap.size+1) #[.pointer none] 46:=⟨am,hi.free (by omega),iB _⟩
 have hl:=h.len;have hcap:=h.1;have hmx:=h.2.1;unfold maxLen at hmx;have H:=hid h;have g8:=hid hok;have HL:=hid hl;have HS2:=hid hS2;have HX0:=hid hX0;have lL:=hid hX1;have HW2:Hid (_=_):=hid hw2;clear al am hb2 hs2 hw2 hS2 hX0 hX1 h hok hl hi;go_enter func15,ntmps15;go_wp2_with (first | (refine aB (aZ _ _ _ w.heap.size rfl rfl) ?_) | (refine aB (aZ _ _ _ (w.heap.size+1) (by simp) rfl) ?_))
 rw [<-HW2.out];clear HW2;go_loopw [10] (λi wr=>∃ (j:Nat) (p:aL) (Mr:Mp),j<=n/\i = .int .i64 j/\Hid (St M w Mr wr)/\Hid (Bx Mr wr w.heap.size #[.pointer none] 46)/\Hid (Bx Mr wr (w.heap.size+1) #[.pointer p] 46)/\Hid (IsT Mr p (bQ .nil (l.take j)))) (λi _=>n-(intOf i).toNat)
 case atStart=>exact ⟨0,none,M,Nat.zero_le _,rfl,HS2,HX0,lL,hid rfl⟩
 case round =>
  obtain ⟨j,p,Mr,hj,rfl,HS,HA,HB,HT⟩:=hrel;clear HS2 HX0 lL;by_cases hlt:j<n
  .obtain ⟨b,off,rfl,hblt,hpa,hk⟩:=H.out.at' j hlt;have HE:Hid (l.getD j ([],eB)∈l/\l.take (j+1)=l.take j++[l.getD j ([],eB)]):=hid (by
    have hjl:j<l.length:=by rw [HL.out]; exact hlt
    have e:l.getD j ([],eB)=l[j]:=by simp [List.getD,hjl]
    rw [e];exact ⟨List.getElem_mem _,List.take_succ_eq_append_getElem hjl⟩)
   obtain ⟨x,hx⟩:=aA (l.getD j ([],eB))
   rw [hx] at hpa hk HE;have hpr:=hpa.below HS.out.b;have hx2:=g8.out.2 x HE.out.1;have hh:=(g8.out.take j).has;have Q7:=HS.out.b.size;have gC:=hid (λw5 (h5:Inv Mr w5)=>(wI Mr p _ x.1 hk x.2 hx2.1 hx2.2 w5 h5 HT.out hh.good).2 (RL hh hk));rw [<-vU,<-HE.out.2] at gC;have jb:=hid hpr;have ut:=hid hk;have hNew:=Rg.Own.new wr (dD (List.replicate 32 0,eB)) 60;have HN:=hid hNew;have Q8:=hid hx2;obtain ⟨k,v⟩:=x;clear hx hpa hk hpr hx2 hh hNew HE HT;dsimp only at gC ut;go_wp2_with (first
    | (refine aB (dO ut.out jb.out ⟨_,rfl,rfl⟩) ?_)
    | (refine aB (jG _ _ _ wr.heap.size rfl rfl) ?_)
    | (refine iC HN.out (by simp) (k,v) ut.out rfl _ _ rfl rfl rfl rfl ?_; intro w5 bh ax; have bi:=hid bh; have aa:Hid (Below wr.heap.size wr w5):=hid (ax.below (al1 _ _) aH); clear bh ax)
    | (refine aB (aW (aV (j:=0) (HB.out.o.below aa.out) rfl) ⟨_,rfl,rfl⟩) ?_)
    | (refine aB (bJ ut.out (cB.own bi.out).key ⟨_,rfl,rfl⟩) ?_)
    | (refine aB (dR (s:=v) ((cB.own bi.out).val ut.out) ⟨_,rfl,rfl⟩) ?_))
   have hS5:=HS.out.below aa.out;have hA5:=HA.out.below aa.out;have dj:=HB.out.below aa.out;refine (gC.out w5 hS5.i).mono ?_;intro e w6 hG;obtain ⟨p6,M6,rfl,qr,fX,dc,hb6⟩:=hS5.te hG;have hA6:=hA5.fr dc hb6;have cm:=dj.fr dc hb6;have Q9:=hid qr;have mx:=hid fX;have QP:=hid hA6;have bj:=hid cm;have hs6:=fX.b.size;have hlb:=cm.o.1;have hNew:=Rg.Own.new w6 #[.pointer none] 46;have c8:=hid hNew;clear hG qr fX dc hb6 hA6 cm hS5 hA5 dj gC bi aa HN jb Q8 hNew HS HA HB;go_wp2_with (first
    | (refine aB (aZ _ _ _ w6.heap.size rfl rfl) ?_)
    | (refine bD c8.out (by decide) p6 rfl _ _ rfl rfl rfl ?_; intro w7 iS dd; have el:=hid iS; have db:Hid (Below w6.heap.size w6 w7):=hid (dd.below (al1 _ _) aH); clear iS dd)
    | (refine aB (aW (aV (j:=0) el.out rfl) ⟨_,rfl,rfl⟩) ?_)
    | (refine bD (bj.out.o.below db.out) (by simp) p6 rfl _ _ rfl rfl rfl ?_; intro w8 gw ov; have cw:=hid gw; have zb:=hid ov; clear gw ov))
   have tU:=mx.out.below db.out;have hA7:=QP.out.below db.out;have zc:=bj.out.below db.out;go_roundw
   case rel=>exact ⟨j+1,p6,M6,by omega,by go_num,hid (tU.upd zb.out (by omega) zc.n),hid (hA7.upd zb.out (by omega)),hid ⟨cw.out,zc.n,iB _⟩,Q9⟩
   case measure=>simp [intOf]; omega
  .obtain rfl:j=n:=by omega
   have tE:Hid (IsT Mr p (bQ .nil l)):=hid (by
    have:=HT.out;rwa [List.take_of_length_le (by rw [HL.out]; exact aH)] at this)
   clear HT;go_wp2_with (first
    | (refine aB (aW (aV (j:=0) HB.out.o rfl) ⟨_,rfl,rfl⟩) ?_)
    | (refine bD HA.out.o (by decide) p rfl _ _ rfl rfl rfl ?_; intro w8 gw ov; have cw:=hid gw; have zb:=hid ov; clear gw ov))
   have mt:=HS.out.upd zb.out aH HA.out.n;exact bodyPost_ret (fq rfl _ rfl cw.out) rfl ⟨p,Mr,rfl,tE.out,mt.f,mt.i,mt.b⟩
open No
open Rf
open Rl
open Sm (Tab)
structure Lw (w0:World) (M:Mp) (w:World):Prop where
 f:Fr M0 M w0 w
 i:Inv M w
 t:Tab w
 z:0<w0.heap.size
theorem Lw.start {w:World} (hT:Tab w):Lw w M0 w:=⟨Fr.refl _ _,Inv.zero w,hT,hT.pos⟩
theorem Lw.b {w0 w:World} {M:Mp} (h:Lw w0 M w):Below w0.heap.size w0 w:=h.f.all
theorem Lw.below {w0 w w':World} {M:Mp} (h:Lw w0 M w) (hb:Below w.heap.size w w'):Lw w0 M w':=⟨h.f.trans (Inv.zero _) (Fr.below M hb),h.i.below hb,h.t.below hb h.t.pos,h.z⟩
theorem Lw.fr {w0 w w':World} {M M':Mp} (h:Lw w0 M w) (f:Fr M M' w w') (i:Inv M' w') (t:Tab w'):Lw w0 M' w':=⟨h.f.trans (Inv.zero _) f,i,t,h.z⟩
theorem Lw.got {w0 w w':World} {M:Mp} {t:T} {e:Ending} (h:Lw w0 M w) (g:cK M w t e w'):∃ p M',e = .returned (tv p)/\IsT M' p t/\Lw w0 M' w'/\Fr M M' w w'/\Below w.heap.size w w':=by
 obtain ⟨p,M',he,ht,f,i,b⟩:=g;exact ⟨p,M',he,ht,h.fr f i (h.t.below b h.t.pos),f,b⟩
theorem Lw.upd {w0 w w':World} {M:Mp} {g:Nat} (h:Lw w0 M w) (hu:Rg.Upd w g w') (hg:w0.heap.size<=g) (hf:¬ M.ft g):Lw w0 M w' :=
 ⟨h.f.upd hu hg,h.i.upd hu hf,λi hi=>by rw [World.cell?_of_block (hu.block 0 (by have:=h.z; omega))]; exact h.t i hi,h.z⟩
theorem uW {M M':Mp} {w w':World} {cs:aO} {t:TypeId} (h:Rg.Own w g cs t) (f:Fr M M' w w') (hm:M.at_ g=none):Rg.Own w' g cs t:=⟨aJ h.1 f.size,(f.block g h.1 hm).trans h.2⟩
theorem Oe {M:Mp} {w:World} (hi:Inv M w) {g:Nat} (h:¬ M.ft g):M.at_ g=none:=by
 cases hm:M.at_ g with
 | none=>rfl
 | some t=>exact absurd (hi.part_ g t hm).2.1 h
theorem Bx.frm {M M':Mp} {w w':World} {cs:aO} {t:TypeId} (h:Bx M w g cs t) (hi:Inv M w) (f:Fr M M' w w'):Bx M' w' g cs t:=⟨uW h.o f (Oe hi h.n),f.box h.n h.o.1 (eU h.o h.h),h.h⟩
theorem vR {M M':Mp} {w w':World} {j:Nat} {x:Int} {cs:aO} {t:TypeId} (h:Rg.Own w g cs t) (hx:cs[j]? = some (.int .u8 x)) (hi:Inv M w) (f:Fr M M' w w'):Rg.Own w' g cs t:=uW h f (hi.eU (aV h hx))
theorem Jq (hk:k.length=32):(kc k)[0]? = some (.int .u8 (k.getD 0 0).toNat):=by
 simp [kc,List.getD,hk]
theorem cB.frm {M M':Mp} {w w':World} {b o:Nat} {x:Tr.Pair} (h:cB w b o x) (hk:x.1.length=32) (hi:Inv M w) (f:Fr M M' w w'):cB w' b o x:=λj v hv=>by
 have h0:w.cell? ⟨b,o+0,none⟩=some (.int .u8 (x.1.getD 0 0).toNat):=h 0 _ (by
  unfold gB;rw [List.getElem?_append_left (by simp [hk])];simp [List.getD,hk])
 rw [f.cell (World.block_lt_of_cell? w _ h0) (hi.eU h0)];exact h j v hv
theorem fA.frm {M M':Mp} {w w':World} {a:aL} {n c:Nat} {l:List Tr.Pair} (h:fA w a n c l) (hi:Inv M w) (f:Fr M M' w w'):fA w' a n c l :=
 ⟨h.1,h.2.1,h.2.2.1,h.2.2.2.1,h.2.2.2.2.1,λj hj=>by
  obtain ⟨b,off,e,hlt,hp,hk⟩:=h.at' j hj;exact ⟨b,off,e,aJ hlt f.size,hp.frm hk hi f⟩⟩
theorem QI {w:World} {b:Nat} {t:TypeId} {l:List Tr.Pair} (h:Rg.Own w b (rowP l).toArray t) (hk:∀ x∈l,x.1.length=32) (hn:l.length<=1000000):fA w (some ⟨b,0,none⟩) l.length l.length l:=by
 refine ⟨aH,by unfold maxLen; omega,rfl,λe=>(by cases e),hk,λj hj=>⟨b,0,rfl,h.1,λi v hv=>?_⟩⟩;have hkj:(l.getD j ([],eB)).1.length=32:=hk _ (kP hj);have hi:i<33:=by
  have:=(List.getElem?_eq_some_iff.1 hv).1;rwa [eF hkj] at this
 refine aV h ?_;rw [Nat.zero_add];simpa [wU l hk j i hj hi] using hv
theorem su {rest:List Oper} {w:World} {b off:Nat} {cs:aO} {t:TypeId} (h:Rg.Own w b cs t) (hof:off<cs.size) (x:Int)
  (hgd:o.guard=none) (p q:Operand) (ho:o.op = .store 5 p q) (hx:act.eval p = .pointer (some ⟨b,off,none⟩)) (hy:act.eval q = .int .u8 x)
  (hQ:∀ w',Rg.Own w' b (cs.setIfInBounds off (.int .u8 x)) t->Rg.Upd w b w'->wpList prog ops Q rest (act.put o.dst undef) w'):wpList prog ops Q (o::rest) act w :=
 wpList_plain hgd λK hK=>by
  have hc:w.cell? ⟨b,off,none⟩=some cs[off]:=aV h (Array.getElem?_eq_getElem hof);have hz:w.frozen? ⟨b,off,none⟩=false:=eH h;have hst:(Instr.storeAt 5 (.pointer (some ⟨b,off,none⟩)) (.int .u8 x)).run prog w = .ok () (w.setCell ⟨b,off,none⟩ (.int .u8 x)):=by
   simp [go_sem,hc,hz]
  unfold Oper.wp execOp;simp only [ho,hx,hy,Sem.run_bind,Sem.run_pure,Result.andThen_ok,hst];exact hK _ _ (hQ _ (bR h _) (bG _ _ _ _))
theorem QV (k:aN) (i:Nat) (x:UInt8):(kc k).setIfInBounds i (.int .u8 x.toNat)=kc (k.set i x):=by
 unfold kc;rw [List.map_set];simp
theorem Dm {w:World} {x z:Tr.Pair} (hk:x.1.length=32) (hz:z.1.length=32) (b:Nat) (hb:b=w.heap.size) (ho:∃ p q,o.op = .buildSlice 42 2 #[(0,p),(1,q)]/\ev p = .agg (dD x)/\ev q = .agg (dD z)) :
  (execOp ev o).run prog w = .ok (.value (.slice (some ⟨b,0,none⟩) 2 2)) (w.alloc (.cells (rowP [x,z]).toArray 60)):=by
 obtain ⟨p,q,ho,hx,hy⟩:=ho;obtain ⟨k,v⟩:=x;obtain ⟨k',v'⟩:=z;subst hb;unfold execOp;simp only [ho,List.map_toArray,List.map_cons,List.map_nil,hx,hy];obtain ⟨a0,a1,a2,a3,a4,a5,a6,a7,b0,b1,b2,b3,b4,b5,b6,b7,c0,c1,c2,c3,c4,c5,c6,c7,d0,d1,d2,d3,d4,d5,d6,d7,rfl⟩:=qH k hk;obtain ⟨e0,e1,e2,e3,e4,e5,e6,e7,f0,f1,f2,f3,f4,f5,f6,f7,g0,g1,g2,g3,g4,g5,g6,g7,h0,h1,h2,h3,h4,h5,h6,h7,rfl⟩:=qH k' hz;kernel_rfl
def ka:aN:=zk
def kb:aN:=zk.set 0 16
def sx:aM:=⟨#[120]⟩
def sy:aM:=⟨#[121]⟩
def lAB:List Tr.Pair:=[(ka,sx),(kb,sy)]
def lB:List Tr.Pair:=[(kb,sy)]
theorem Gy:ka.length=32:=rfl
theorem nG:kb.length=32:=rfl
theorem Uj:EC lAB:=⟨λx hx=>by rcases List.mem_cons.1 hx with rfl | hx; exact Gy; rw [List.mem_singleton.1 hx]; exact nG,λx hx=>by rcases List.mem_cons.1 hx with rfl | hx; exact ⟨by decide,by decide⟩; rw [List.mem_singleton.1 hx]; exact ⟨by decide,by decide⟩⟩
theorem lastB (k:aN):dS lB k=if kb=k then some sy else none:=rfl
theorem PE (k:aN):dS lAB k=if kb=k then some sy else if ka=k then some sx else none:=by
 show (match dS lB k with | some v=>some v | none=>if ka=k then some sx else none)=_;rw [lastB];by_cases h:kb=k
 .rw [if_pos h,if_pos h]
 .rw [if_neg h,if_neg h]
theorem iH:Has (bQ .nil lAB) (dS lAB):=Uj.has
theorem RA:Tr.get (bQ .nil lAB) (path kb)=some (some sy):=by rw [iH.get kb nG,PE,if_pos rfl]
end Tm
end
section
open Go.RowKit
namespace Rf
open Rl Ni No
theorem FU {B n:Nat} {w w':World} {xs:List Value} (h:w.ownsRow B e 1 v n xs) (hb:Below w.heap.size w w'):w'.ownsRow B e 1 v n xs:=h.kept (Bu.iA hb) (by cases v.ownBlock <;> simp)
end Rf
end
section
open Go.RowKit
namespace Tm
open Tr Ni Pk Ky No Rf Rl
open Sm (Tab)
section
variable {ks:List aM} {ps:List (aL)} {j:Nat}
end
namespace Aw
variable {w0:World} {M M':Mp} {w w':World} {gu gb gn:Nat} {pu:aL} {C:aO} {KB:aN}
end Aw
end Tm
end
section
open Go.RowKit Go.ChangeShapes Go.WideShapes
theorem TF (h:(Lit.int .u8 n).wf=true):0<=n/\n<256:=by
 have:=bounds_u8 h;omega
end
section
open Go.RowKit Go.ChangeShapes Go.WideShapes
namespace Ky
def byteOf:Value->UInt8
 | .int _ n=>UInt8.ofNat n.toNat
 | _=>0
theorem Ol {H:Type} {enc:TypeId × Value->H} {w:World} {t:TypeId} {d:DataW H} {p:List MemPlace}
  (ht:P.underlying t=some (.array 32 e)) (he:P.underlying e=some (.int .u8)) (hc:P.cellsOf e=1) (hct:P.cellsOf t=32)
  (hv:Value.okWide P w .any base t v) (h:DataW.Trod enc P w 0 (λ_=>true) true t v d p):∃ k:aN,v = .agg (kc k)/\k.length=32:=by
 unfold Value.okWide at hv;rw [ht] at hv;obtain ⟨cs,rfl,hsz,_⟩:=hv;rw [hct] at hsz;obtain ⟨fuel,hf⟩:=h;obtain ⟨xs,m,rfl,_,hcs,hxl,hel⟩:=DataW.trod_array ht hf;have each:∀ i,i<32->∃ n:Int,cs.toList[i]? = some (.int .u8 n)/\0<=n/\n<256:=λi hi=>by
  have hi':=hel i hi;rw [hc,Nat.mul_one] at hi';have hx:i<xs.length:=by omega
  rw [List.getElem?_eq_getElem hx] at hi';obtain ⟨n,hn,_,hw⟩:=DataW.trod_int he hi';have hlen:i<cs.toList.length:=by simpa [hsz] using hi
  have e1:(cs.toList.drop i).take 1=[cs.toList[i]]:=by
   rw [List.drop_eq_getElem_cons hlen]; rfl
  have e2:(Value.agg cs).cells.toList=cs.toList:=rfl;rw [e2,e1] at hn;injection hn with hn;refine ⟨n,?_,TF hw⟩;rw [List.getElem?_eq_getElem hlen,hn]
 refine ⟨cs.toList.map byteOf,?_,by simp [hsz]⟩;congr 1;apply Array.ext';unfold kc;rw [List.map_map];apply List.ext_getElem?;intro i;by_cases hi:i<32
 .obtain ⟨n,hn,h0,h1⟩:=each i hi;rw [hn];simp only [List.getElem?_map,hn,Option.map_some,Function.comp,byteOf];have:((UInt8.ofNat n.toNat).toNat:Int)=n:=by simp only [UInt8.toNat_ofNat']; omega
  rw [this]
 .rw [List.getElem?_eq_none (by simp [hsz]; omega),List.getElem?_eq_none (by simp [hsz]; omega)]
end Ky
end
section
open Go.RowKit Go.ChangeShapes Go.WideShapes Go.Deep
namespace Tm
open Tr Ni Pk Ky
section
variable {H:Type} {enc:TypeId × Value->H} {w:World} {fuel:Nat} {cs:List Value} {x:DataW H × List MemPlace}
theorem Bv:prog.cellsOf 24=32:=by kernel_rfl
theorem Le:prog.cellsOf 5=1:=by kernel_rfl
theorem LD:prog.cellsOf 9=1:=by kernel_rfl
theorem zN:prog.cellsOf 60=33:=by kernel_rfl
theorem Uh (h:DataW.trod enc prog w 0 (λ_=>true) true fuel 24 cs=some x):∃ k:aN,k.length=32/\cs=k.map λb=>Value.int .u8 b.toNat:=by
 obtain ⟨xs,m,rfl,_,hcs,hxl,hel⟩:=DataW.trod_array underlying24 h;rw [Bv] at hcs;have each:∀ i,i<32->∃ n:Int,cs[i]? = some (.int .u8 n)/\0<=n/\n<256:=λi hi=>by
  have hi':=hel i hi;rw [Le,Nat.mul_one] at hi';have hx:i<xs.length:=by omega
  rw [List.getElem?_eq_getElem hx] at hi';obtain ⟨n,hn,_,hw⟩:=DataW.trod_int underlying5 hi';have hlen:i<cs.length:=by omega
  have e1:(cs.drop i).take 1=[cs[i]]:=by
   rw [List.drop_eq_getElem_cons hlen]; rfl
  rw [e1] at hn;injection hn with hn;exact ⟨n,by rw [List.getElem?_eq_getElem hlen,hn],TF hw⟩
 refine ⟨cs.map Ky.byteOf,by simp [hcs],?_⟩;rw [List.map_map];apply List.ext_getElem?;intro i;by_cases hi:i<32
 .obtain ⟨n,hn,h0,h1⟩:=each i hi;rw [List.getElem?_map,hn];simp only [Option.map_some,Function.comp,Ky.byteOf];have:((UInt8.ofNat n.toNat).toNat:Int)=n:=by simp only [UInt8.toNat_ofNat']; omega
  rw [this]
 .rw [List.getElem?_eq_none (by omega),List.getElem?_eq_none (by simp [hcs]; omega)]
theorem Ad {cs:List Value} (h:(cs.drop i).take 1=[v]) (hl:cs.length=i+1):cs=cs.take i++[v]:=by
 have e:(cs.drop i).take 1=cs.drop i:=List.take_of_length_le (by rw [List.length_drop]; omega);rw [<-h,e,List.take_append_drop]
theorem RF (h:DataW.trod enc prog w 0 (λ_=>true) true fuel 60 cs=some x):∃ y:Tr.Pair,y.1.length=32/\cs=gB y:=by
 obtain ⟨xs,m,rfl,_,hcs,hxl,hf⟩:=DataW.trod_struct underlying60 h;rw [zN] at hcs;have QQ:xs.length=2:=hxl;have g0:=hf 0 _ rfl;have g1:=hf 1 _ rfl;rw [List.getElem?_eq_getElem (by omega)] at g0 g1;obtain ⟨k,hk,e0⟩:=Uh g0;obtain ⟨s,e1,_,_⟩:=DataW.trod_string underlying9 g1;have IO:(cs.drop 0).take (prog.cellsOf 24)=k.map λb=>Value.int .u8 b.toNat:=e0;have IP:(cs.drop 32).take (prog.cellsOf 9)=[Value.string s]:=e1;rw [Bv,List.drop_zero] at IO;rw [LD] at IP;refine ⟨(k,s),hk,?_⟩;unfold gB
 have:=Ad IP (by omega);rw [this,IO]
theorem RN (h:DataW.trod enc prog w 0 (λ_=>true) true fuel 42 cs=some x):∃ a n cap l,cs=[.slice a n cap]/\fA w a n cap l:=by
 rcases open_slice underlying42 h with ⟨rfl,_⟩ | ⟨ad,len,cap,m,n,D,Pl,rfl,_,hl,hm,hmm,_,hel⟩
 .exact ⟨none,0,0,[],rfl,fA.nil w⟩
 .have hmm':m=cap:=by simpa using hmm
  subst hmm';have cell:∀ i,i<m->∃ y:Tr.Pair,y.1.length=32/\∀ j,j<33->w.cell? ((ad.add (i*33)).add j)=(gB y)[j]? := λi hi=>by
   obtain ⟨cs',h1,h2⟩:=hel i hi;obtain ⟨y,hy,rfl⟩:=RF h2;obtain ⟨_,hcl,hat⟩:=World.cells?_some h1;rw [zN] at hat;exact ⟨y,hy,hat⟩
  obtain ⟨F,hF⟩:=choose_lt (α:=Tr.Pair) cell;refine ⟨some ad,len,m,(List.range len).map F,rfl,hl,hm,by simp,λe=>(by cases e),λx hx=>?_,λj hj=>?_⟩
  .obtain ⟨i,hi,rfl⟩:=List.mem_map.1 hx;exact (hF i (by have:=List.mem_range.1 hi; omega)).1
  .have CE:=hF j (by omega);have IR:=hF 0 (by omega);obtain ⟨b,off,spot⟩:=ad;have hc0:=IR.2 0 (by omega);have hp0:(gB (F 0))[0]? = some ((gB (F 0))[0]'(by rw [eF IR.1]; omega)):=List.getElem?_eq_getElem _;rw [hp0] at hc0;have hspot:spot=none:=by simpa [Addr.add] using World.cell?_spot hc0
   subst hspot;have hget:((List.range len).map F).getD j ([],eB)=F j:=by simp [List.getD,hj]
   rw [hget];have hat:cB w b (off+j*33) (F j):=λi v hv=>by
    have hi:i<33:=by
     have:=(List.getElem?_eq_some_iff.1 hv).1;rwa [eF CE.1] at this
    have:=CE.2 i hi;rw [Addr.add_mid,Addr.add_mid] at this;rw [this,hv]
   refine ⟨b,off,rfl,?_,hat⟩;have hz:=hat 0 ((gB (F j))[0]'(by rw [eF CE.1]; omega)) (List.getElem?_eq_getElem _);exact World.block_lt_of_cell? w _ hz
end
end Tm
end
section
open Go.RowKit
namespace Tm
open Tr Ni Pk Ky No Rf Rl
open Sm (Tab)
namespace Do
variable {w0:World} {M M':Mp} {w w':World} {p p':aL} {t t':T} {W W':List Tr.Pair} {a a':aL} {c c' j:Nat}
end Do
theorem JF:∀ (l:List Tr.Pair),(qL l).length<=l.length
 | []=>aH
 | x::r=>by
  have ih:=JF r;unfold qL;split
  .rw [List.length_cons]; omega
  .rw [List.length_cons,List.length_cons]; omega
end Tm
end
section
namespace Tr
open Rf Rl Ni No
def sv:aM:=⟨#[118]⟩
def Cy (x:Pair):Pair:=(x.1,if x.2.size=0 then sv else if 100<x.2.size then x.2.extract 0 100 else x.2)
def dY (l:List Pair):List Pair:=(l.take 24).map Cy
theorem Oq (x:Pair):(Cy x).2.size≠0/\(Cy x).2.size<=65552:=by
 unfold Cy;dsimp only;split
 .exact ⟨by decide,by decide⟩
 .split
  .rw [ByteArray.size_extract]; omega
  .omega
theorem Bj (l:List Pair):(dY l).length<=24:=by
 unfold dY;rw [List.length_map,List.length_take];omega
theorem Es {l:List Pair} (h:∀ x∈l,x.1.length=32):(∀ x∈dY l,x.1.length=32)/\∀ x∈dY l,x.2.size≠0/\x.2.size<=65552:=by
 constructor
 .intro x hx;obtain ⟨y,hy,rfl⟩:=List.mem_map.1 hx;exact h y (List.mem_of_mem_take hy)
 .intro x hx;obtain ⟨y,_,rfl⟩:=List.mem_map.1 hx;exact Oq y
end Tr
end
end Go.Proofs.YtokaiemgjngcoaaGreatDoor
