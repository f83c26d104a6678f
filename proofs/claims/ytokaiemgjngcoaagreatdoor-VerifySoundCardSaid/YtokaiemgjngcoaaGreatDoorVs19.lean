/-
 The contract of with: a tree with a value at the end of a way.
-/
import Derived.Test.YtokaiemgjngcoaaGreatDoorVs18
import Derived.Lib.HexFns2
open Go.Lib (hid)
open Go.Proofs.Tryz
set_option linter.unusedSimpArgs false
set_option linter.unusedVariables false
set_option maxHeartbeats 40000000
set_option maxRecDepth 100000
namespace Go.Proofs.YtokaiemgjngcoaaGreatDoor
variable {v:Value} {w1:World} {T' e:TypeId} {base g i:Nat} {k:aN} {o:Oper} {ops:Array Oper} {act:Act} {Q:Exit->Act->World->Prop} {ev:Operand->Value} {n:Int} {P:Program}
section
open Go.RowKit
namespace Tm
open Tr Ni Pk
theorem Wv (ks:Fin 16->T) (M:Mp) (b:Nat) (hm:M.at_ b=some (.br ks)) (w:World) (hi:Inv M w) (wa:aL) (wn wc:Nat) (c0:UInt8) (r:Pa) (v:aM) (hW:Bs M w wa wn wc (c0::r)) (hc0:c0.toNat<16) (hlen:(c0::r).length<=64)
  (ih:∀ M' w' p a n c,Inv M' w'->IsT M' p (ks (nb c0))->Bs M' w' a n c r->Calls prog 53 #[.agg #[.pointer p],.slice a n c,.string v] w' (dz M' w' (put (ks (nb c0)) r v))) :
  Calls prog 53 #[.agg #[.pointer (some ⟨b,0,none⟩)],.slice wa wn wc,.string v] w (dz M w (.br λj=>if j=nb c0 then put (ks (nb c0)) r v else ks j)):=by
  obtain ⟨w2,hw2,ap,am,hb2,hs2⟩:=mV w (some ⟨b,0,none⟩);have hi2:=hi.below hb2;have hX2:Bx M w2 (w.heap.size+1) #[.pointer none] 46:=⟨am,hi.free (by omega),jv _⟩
  have hwl:(c0::r).length=wn:=hW.1.len;have BV:r.length+1=wn:=by rw [<-hwl]; rfl
  have h0:=aV (j:=0) ap rfl;have HK:=hid (dV M _ _ w2 hi2 (jZ hi2 hm));obtain ⟨ka,kn,kc,c3,hKs⟩:=hi2.kids hm;have hkn:kn=16:=by rw [<-hKs.len]; exact fQ ks
  subst hkn;have hnx:((nb c0).val:Nat)=c0.toNat:=Nat.mod_eq_of_lt hc0;obtain ⟨kb,ko,p0,rfl,cL,gw,hk0,hT0⟩:=hKs.at' c0.toNat hc0;have cg:IsT M p0 (ks (nb c0)):=by
   rw [<-hnx,kP] at hT0;exact hT0
  have hbl:=hi.lt hm;have mb:=hi.lt_ kb gw;have hkc:=hKs.1;have hkm:=hKs.2.1;unfold maxLen at hkm;have hx16:c0.toNat<16:=hc0;have hxi:((c0.toNat:Nat):Int)<16:=by omega
  have HT:Hid (∀ w3,Below w2.heap.size w2 w3->w3.cell? ⟨w.heap.size,0,none⟩=some (.pointer (some ⟨b,0,none⟩))/\Calls prog 84 #[.slice wa wn wc] w3 (λe w'=>e = .returned (.tuple #[.int .u8 c0.toNat,.slice (eP wa wc 1) (wn-1) (wc-1)])/\Below w3.heap.size w3 w')/\
    ∀ w4,Below w3.heap.size w3 w4->(w4.cell? ⟨w.heap.size,0,none⟩=some (.pointer (some ⟨b,0,none⟩))/\w4.cell? ⟨b,3,none⟩=some (.slice (some ⟨kb,ko,none⟩) 16 kc)/\w4.cell? ⟨kb,ko+c0.toNat,none⟩=some (.pointer p0))/\
    (∀ wx,Below w4.heap.size w4 wx->Calls prog 53 #[.agg #[.pointer p0],.slice (eP wa wc 1) (wn-1) (wc-1),.string v] wx (dz M wx (put (ks (nb c0)) r v)))/\∀ wx,Below w4.heap.size w4 wx->∀ e w5,dz M wx (put (ks (nb c0)) r v) e w5->∃ p5 M5,e = .returned (tv p5)/\Below w4.heap.size w4 w5/\Calls prog 85 #[.agg #[.pointer (some ⟨b,0,none⟩)],.int .u8 c0.toNat,.agg #[.pointer p5]] w5 (dz M5 w5 (.br λj=>if j=nb c0 then put (ks (nb c0)) r v else ks j))/\
     ∀ e w9,dz M5 w5 (.br λj=>if j=nb c0 then put (ks (nb c0)) r v else ks j) e w9->∃ p9,e = .returned (tv p9)/\Below w4.heap.size w4 w9/\Rg.Own w9 (w.heap.size+1) #[.pointer none] 46/\∀ ag,Rg.Upd w9 (w.heap.size+1) ag->dz M w (.br λj=>if j=nb c0 then put (ks (nb c0)) r v else ks j) (.returned (tv p9)) ag):=hid (λw3 hb3 =>
   ⟨aX hb3 h0,lu wa wn wc (c0::r) (by omega) w3 (sS hi hW.1 (Fr.below M (bst hb2 hb3))),λw4 hb4=>⟨⟨aX hb4 (aX hb3 h0),aX hb4 (aX hb3 c3),aX hb4 (aX hb3 hk0)⟩,λwx hbx=>by
    have hB:=bst hb2 (bst (bst hb3 hb4) hbx);refine ih M wx p0 _ _ _ (hi.below hB) cg ?_;exact (hW.fr hi (Fr.below M hB)).from' 1 (by omega),λwx hbx e w5 hG=>by
    have hB:=bst (bst hb3 hb4) hbx;have u2:St M w M wx:=⟨Fr.below M (bst hb2 hB),hi.below (bst hb2 hB),bst hb2 hB,hi⟩
    obtain ⟨p5,M5,rfl,ip,hS5,dg,hb5⟩:=u2.got hG;have B7:=(hX2.below hB).got dg hb5;have hbe:=Lv M5 b ks (dg.mono b _ hm) (nb c0) p5 _ ip w5 hS5.i;rw [hnx] at hbe;refine ⟨p5,M5,rfl,bst hbx hb5,hbe,λe w9 By=>?_⟩;obtain ⟨p9,M9,rfl,BB,oY,BC,es⟩:=hS5.got By;have s7:=B7.got BC es;refine ⟨p9,rfl,bst (bst hbx hb5) es,s7.o,λag hu=>?_⟩;have cM:=oY.upd hu (by omega) s7.n;exact ⟨p9,M9,rfl,BB,cM.f,cM.i,cM.b⟩⟩⟩)
  have H0:=hid ap;clear ap am hb2 hi hi2 hm hW hX2 hwl hKs hT0 cg c3 hk0 ih h0;subst hw2;clear hs2;go_enter func53,ntmps53;go_wp2_with (first | (refine aB (bA _ _ _ (w.heap.size+1) (by simp) rfl) ?_) | (refine aB (aW (aV (j:=0) H0.out rfl) ⟨_,rfl,rfl⟩) ?_))
  refine HK.out.mono ?_;rintro e w3 ⟨rfl,hb3⟩;obtain ⟨d0',fS,H4⟩:=HT.out w3 hb3;replace fS:=hid fS;replace H4:=hid H4;clear hb3 HT HK H0 d0';unfold fB;go_wp2_with fail
  refine fS.out.mono ?_;rintro e w4 ⟨rfl,hb4⟩;obtain ⟨⟨d0,d3,dk⟩,HC,HF⟩:=H4.out w4 hb4;replace HC:=hid HC;replace HF:=hid HF;clear hb4 H4 fS;go_wp2_with fail
  refine aD (S:=λw'=>Bo (w.heap.size+1) w4 w') (Bo.of (below_drewN aI 1)) λhld=>?_;refine aj 0 ?_ (hy:=by intro wz hSw; (refine aW (gF hSw (by omega) d0) ?_; exact ⟨_,rfl,rfl⟩));try simp only [Act.put,au]
  refine aj 1 ?_;try simp only [Act.put,au]
  refine aj 2 ?_;try simp only [Act.put,au]
  refine aF 3 (λwz hSw=>gF hSw (by omega) d0) ?_;try simp only [Act.put,au]
  refine aj 4 ?_;try simp only [Act.put,au]
  refine aj 5 ?_;try simp only [Act.put,au]
  refine aF 6 (λwz hSw=>gF hSw (by omega) d3) ?_;try simp only [Act.put,au]
  refine aj 7 ?_;try simp only [Act.put,au]
  refine aj 8 ?_ (hy:=by intro wz hSw; (have q0:=hxi; have q1:=hx16; go_simp <;> with_reducible rfl));try simp only [Act.put,au]
  refine aj 9 ?_ (hy:=by intro wz hSw; (refine aW (gF hSw (by omega) dk) ?_; exact ⟨_,rfl,rfl⟩));try simp only [Act.put,au]
  refine aj 10 ?_;try simp only [Act.put,au]
  refine aj 11 ?_;try simp only [Act.put,au]
  refine ak 12 λK hK=>?_;go_simp;go_at_call 53
  (with_reducible refine (HC.out w4.drew (below_drewN aI 1)).mono ?_)
  intro e w5 hG;obtain ⟨p5,M5,rfl,eh,H5⟩:=HF.out w4.drew (below_drewN aI 1) e w5 hG;replace H5:=hid H5;clear hG;refine hK.out _ _ (Bo.of eh) λhld=>?_;clear hK K;try simp only [Act.put,au]
  refine ak 13 λK hK=>?_;go_simp;go_at_call 85
  (with_reducible refine (H5.out.1).mono ?_)
  intro e w9 hG;obtain ⟨p9,rfl,ye,H9⟩:=H5.out.2 e w9 hG;replace H9:=hid H9;clear hG;refine hK.out _ _ (Bo.of ye) λhld=>?_;clear hK K;try simp only [Act.put,au]
  refine ak 14 λK hK=>?_;refine iO (by rfl) H9.out.1 (off:=0) (by decide) p9 ⟨_,_,rfl,rfl,rfl⟩ ?_;intro ag ai al;have cq:=hid ai;have gE:=hid (H9.out.2 ag al);clear ai;refine hK.out _ _ ((Bo.of ye).upd al) λhld=>?_;clear hK K;try simp only [Act.put,au]
  refine aC ?_;go_wp2;exact bodyPost_ret (gB rfl _ rfl cq.out) rfl gE.out
theorem Fj (ks:Fin 16->T) (M:Mp) (b:Nat) (hm:M.at_ b=some (.br ks)) (w:World) (hi:Inv M w) (wa:aL) (wn wc:Nat) (c0:UInt8) (r:Pa) (v:aM) (hW:Bs M w wa wn wc (c0::r)) (hc0:c0.toNat<16) (hlen:(c0::r).length<=64)
  (ih:∀ M' w' p a n c,Inv M' w'->IsT M' p (ks (nb c0))->Bs M' w' a n c r->Calls prog 53 #[.agg #[.pointer p],.slice a n c,.string v] w' (λe w''=>e = .panicked [fI 8]/\Below w'.heap.size w' w'')) :
  Calls prog 53 #[.agg #[.pointer (some ⟨b,0,none⟩)],.slice wa wn wc,.string v] w (λe w''=>e = .panicked [fI 8]/\Below w.heap.size w w''):=by
  obtain ⟨w2,hw2,ap,am,hb2,hs2⟩:=mV w (some ⟨b,0,none⟩);have hi2:=hi.below hb2;have hX2:Bx M w2 (w.heap.size+1) #[.pointer none] 46:=⟨am,hi.free (by omega),jv _⟩
  have hwl:(c0::r).length=wn:=hW.1.len;have BV:r.length+1=wn:=by rw [<-hwl]; rfl
  have h0:=aV (j:=0) ap rfl;have HK:=hid (dV M _ _ w2 hi2 (jZ hi2 hm));obtain ⟨ka,kn,kc,c3,hKs⟩:=hi2.kids hm;have hkn:kn=16:=by rw [<-hKs.len]; exact fQ ks
  subst hkn;have hnx:((nb c0).val:Nat)=c0.toNat:=Nat.mod_eq_of_lt hc0;obtain ⟨kb,ko,p0,rfl,cL,gw,hk0,hT0⟩:=hKs.at' c0.toNat hc0;have cg:IsT M p0 (ks (nb c0)):=by
   rw [<-hnx,kP] at hT0;exact hT0
  have hbl:=hi.lt hm;have mb:=hi.lt_ kb gw;have hkc:=hKs.1;have hkm:=hKs.2.1;unfold maxLen at hkm;have hx16:c0.toNat<16:=hc0;have hxi:((c0.toNat:Nat):Int)<16:=by omega
  have HT:Hid (∀ w3,Below w2.heap.size w2 w3->w3.cell? ⟨w.heap.size,0,none⟩=some (.pointer (some ⟨b,0,none⟩))/\Calls prog 84 #[.slice wa wn wc] w3 (λe w'=>e = .returned (.tuple #[.int .u8 c0.toNat,.slice (eP wa wc 1) (wn-1) (wc-1)])/\Below w3.heap.size w3 w')/\
    ∀ w4,Below w3.heap.size w3 w4->(w4.cell? ⟨w.heap.size,0,none⟩=some (.pointer (some ⟨b,0,none⟩))/\w4.cell? ⟨b,3,none⟩=some (.slice (some ⟨kb,ko,none⟩) 16 kc)/\w4.cell? ⟨kb,ko+c0.toNat,none⟩=some (.pointer p0))/\
    (∀ wx,Below w4.heap.size w4 wx->Calls prog 53 #[.agg #[.pointer p0],.slice (eP wa wc 1) (wn-1) (wc-1),.string v] wx (λe w''=>e = .panicked [fI 8]/\Below wx.heap.size wx w''))/\∀ wx,Below w4.heap.size w4 wx->Below w.heap.size w wx):=hid (λw3 hb3 =>
   ⟨aX hb3 h0,lu wa wn wc (c0::r) (by omega) w3 (sS hi hW.1 (Fr.below M (bst hb2 hb3))),λw4 hb4=>⟨⟨aX hb4 (aX hb3 h0),aX hb4 (aX hb3 c3),aX hb4 (aX hb3 hk0)⟩,λwx hbx=>by
    have hB:=bst hb2 (bst (bst hb3 hb4) hbx);refine ih M wx p0 _ _ _ (hi.below hB) cg ?_;exact (hW.fr hi (Fr.below M hB)).from' 1 (by omega),λwx hbx=>bst hb2 (bst (bst hb3 hb4) hbx)⟩⟩)
  have H0:=hid ap;clear ap am hb2 hi hi2 hm hW hX2 hwl hKs hT0 cg c3 hk0 ih h0;subst hw2;clear hs2;go_enter func53,ntmps53;go_wp2_with (first | (refine aB (bA _ _ _ (w.heap.size+1) (by simp) rfl) ?_) | (refine aB (aW (aV (j:=0) H0.out rfl) ⟨_,rfl,rfl⟩) ?_))
  refine HK.out.mono ?_;rintro e w3 ⟨rfl,hb3⟩;obtain ⟨d0',fS,H4⟩:=HT.out w3 hb3;replace fS:=hid fS;replace H4:=hid H4;clear hb3 HT HK H0 d0';unfold fB;go_wp2_with fail
  refine fS.out.mono ?_;rintro e w4 ⟨rfl,hb4⟩;obtain ⟨⟨d0,d3,dk⟩,HC,HF⟩:=H4.out w4 hb4;replace HC:=hid HC;replace HF:=hid HF;clear hb4 H4 fS;go_wp2_with fail
  refine wp_region_held_drew (S:=λw'=>Bo (w.heap.size+1) w4 w') (by kernel_rfl) (Bo.of (below_drewN aI 1)) (λhld=>?_);refine aj 0 ?_ (hy:=by intro wz hSw; (refine aW (gF hSw (by omega) d0) ?_; exact ⟨_,rfl,rfl⟩));try simp only [Act.put,au]
  refine aj 1 ?_;try simp only [Act.put,au]
  refine aj 2 ?_;try simp only [Act.put,au]
  refine aF 3 (λwz hSw=>gF hSw (by omega) d0) ?_;try simp only [Act.put,au]
  refine aj 4 ?_;try simp only [Act.put,au]
  refine aj 5 ?_;try simp only [Act.put,au]
  refine aF 6 (λwz hSw=>gF hSw (by omega) d3) ?_;try simp only [Act.put,au]
  refine aj 7 ?_;try simp only [Act.put,au]
  refine aj 8 ?_ (hy:=by intro wz hSw; (have q0:=hxi; have q1:=hx16; go_simp <;> with_reducible rfl));try simp only [Act.put,au]
  refine aj 9 ?_ (hy:=by intro wz hSw; (refine aW (gF hSw (by omega) dk) ?_; exact ⟨_,rfl,rfl⟩));try simp only [Act.put,au]
  refine aj 10 ?_;try simp only [Act.put,au]
  refine aj 11 ?_;try simp only [Act.put,au]
  refine ak 12 λK hK=>?_;go_simp;go_at_call 53
  (with_reducible refine (HC.out w4.drew (below_drewN aI 1)).mono ?_)
  rintro e w5 ⟨rfl,hb5⟩;simp +zetaDelta [bodyPost,Exit.then];exact bst (HF.out w4.drew (below_drewN aI 1)) hb5
theorem Ug (M:Mp) (a:aL) (n c:Nat) (way:Pa) (v:aM) (w:World) (hi:Inv M w) (hW:Bs M w a n c way):Calls prog 53 #[.agg #[.pointer none],.slice a n c,.string v] w (dz M w (.leaf way v)):=by
 obtain ⟨w2,hw2,ap,am,hb2,hs2⟩:=mV w none;have hi2:=hi.below hb2;have HK:=hid (dV M none .nil w2 hi2 rfl);have HT:Hid (∀ w3,Below w2.heap.size w2 w3->Calls prog 87 #[.slice a n c,.string v] w3 (dz M w3 (.leaf way v))/\∀ e w9,dz M w3 (.leaf way v) e w9->∃ p,e = .returned (tv p)/\Rg.Own w9 (w.heap.size+1) #[.pointer none] 46/\∀ ag,Rg.Upd w9 (w.heap.size+1) ag->dz M w (.leaf way v) (.returned (tv p)) ag):=hid (λw3 hb3 =>
  ⟨nQ M _ _ _ _ _ w3 (hi2.below hb3) (hW.fr hi (Fr.below M (bst hb2 hb3))),λe w9 hG=>finish hi (Fr.below M (bst hb2 hb3)) (bst hb2 hb3) hG (am.below hb3) (jv _) (by omega) (hi.free (by omega))⟩)
 have H0:=hid ap;clear ap am hb2 hs2 hi hi2 hW;subst hw2;go_enter func53,ntmps53;go_wp2_with (first | (refine aB (bA _ _ _ (w.heap.size+1) (by simp) rfl) ?_) | (refine aB (aW (aV (j:=0) H0.out rfl) ⟨_,rfl,rfl⟩) ?_))
 refine HK.out.mono ?_;rintro e w3 ⟨rfl,hb3⟩;obtain ⟨HC,HF⟩:=HT.out w3 hb3;replace HC:=hid HC;replace HF:=hid HF;clear hb3 HT HK H0;unfold fB;go_wp2_with fail
 refine HC.out.mono ?_;intro e w9 hG;obtain ⟨p9,rfl,aw,hE⟩:=HF.out e w9 hG;have cl:=hid aw;have HE:=hid hE;clear hG aw hE;go_wp2_with (refine bL cl.out (by decide) p9 rfl _ _ rfl rfl rfl ?_; intro ag ai al; have cq:=hid ai; have ej:=hid al; clear ai al)
 exact bodyPost_ret (gB rfl _ rfl cq.out) rfl (HE.out ag ej.out)
theorem Qt (M:Mp) (b:Nat) (r:aM) (hm:M.at_ b=some (.stub r)) (a:aL) (n c:Nat) (v:aM) (w:World) (hi:Inv M w):Calls prog 53 #[.agg #[.pointer (some ⟨b,0,none⟩)],.slice a n c,.string v] w (λe w'=>e = .panicked [fI 8]/\Below w.heap.size w w'):=by
 obtain ⟨w2,hw2,ap,am,hb2,hs2⟩:=mV w (some ⟨b,0,none⟩);have hi2:=hi.below hb2;have HK:=hid (dV M _ _ w2 hi2 (jZ hi2 hm));have H0:=hid ap;have HB:Hid (∀ w3,Below w2.heap.size w2 w3->Below w.heap.size w w3):=hid (λw3 hb3=>bst hb2 hb3);clear ap am hb2 hs2 hi hi2 hm;subst hw2;go_enter func53,ntmps53;go_wp2_with (first | (refine aB (bA _ _ _ (w.heap.size+1) (by simp) rfl) ?_) | (refine aB (aW (aV (j:=0) H0.out rfl) ⟨_,rfl,rfl⟩) ?_))
 refine HK.out.mono ?_;rintro e w3 ⟨rfl,hb3⟩;have HB3:=hid (HB.out w3 hb3);clear hb3 HB HK H0;unfold fB;go_wp2;simp +zetaDelta [bodyPost,Exit.then,fI];exact HB3.out
theorem uw (M:Mp) (b:Nat) (t:T) (hm:M.at_ b=some t) (hk:fB t=1\/fB t=2) (a:aL) (n c:Nat) (v:aM) (R:T) (w:World) (hi:Inv M w)
  (hal:∀ w3,Below w.heap.size w w3->Calls prog 86 #[.agg #[.pointer (some ⟨b,0,none⟩)],.slice a n c,.string v] w3 (dz M w3 R)) :
  Calls prog 53 #[.agg #[.pointer (some ⟨b,0,none⟩)],.slice a n c,.string v] w (dz M w R):=by
 obtain ⟨w2,hw2,ap,am,hb2,hs2⟩:=mV w (some ⟨b,0,none⟩);have hi2:=hi.below hb2;have HK:=hid (dV M _ _ w2 hi2 (jZ hi2 hm));have h0:=aV (j:=0) ap rfl
 have HT:Hid (∀ w3,Below w2.heap.size w2 w3->w3.cell? ⟨w.heap.size,0,none⟩=some (.pointer (some ⟨b,0,none⟩))/\Calls prog 86 #[.agg #[.pointer (some ⟨b,0,none⟩)],.slice a n c,.string v] w3 (dz M w3 R)/\∀ e w9,dz M w3 R e w9->∃ p,e = .returned (tv p)/\Rg.Own w9 (w.heap.size+1) #[.pointer none] 46/\∀ ag,Rg.Upd w9 (w.heap.size+1) ag->dz M w R (.returned (tv p)) ag):=hid (λw3 hb3 =>
  ⟨aX hb3 h0,hal w3 (bst hb2 hb3),λe w9 hG=>finish hi (Fr.below M (bst hb2 hb3)) (bst hb2 hb3) hG (am.below hb3) (jv _) (by omega) (hi.free (by omega))⟩)
 have H0:=hid ap;obtain ⟨k,hkk⟩:=aA (fB t)
 rw [hkk] at HK hk;clear ap am hb2 hs2 hi hi2 hal hm hkk h0;subst hw2;rcases hk with rfl | rfl;all_goals
  go_enter func53,ntmps53;go_wp2_with (first | (refine aB (bA _ _ _ (w.heap.size+1) (by simp) rfl) ?_) | (refine aB (aW (aV (j:=0) H0.out rfl) ⟨_,rfl,rfl⟩) ?_))
  refine HK.out.mono ?_;rintro e w3 ⟨rfl,hb3⟩;obtain ⟨d0,HC,HF⟩:=HT.out w3 hb3;replace HC:=hid HC;replace HF:=hid HF;clear hb3 HT HK H0;go_wp2_with (refine aB (aW d0 ⟨_,rfl,rfl⟩) ?_)
  refine HC.out.mono ?_;intro e w9 hG;obtain ⟨p9,rfl,aw,hE⟩:=HF.out e w9 hG;have cl:=hid aw;have HE:=hid hE;clear hG aw hE;go_wp2_with (refine bL cl.out (by decide) p9 rfl _ _ rfl rfl rfl ?_; intro ag ai al; have cq:=hid ai; have ej:=hid al; clear ai al)
  exact bodyPost_ret (gB rfl _ rfl cq.out) rfl (HE.out ag ej.out)
theorem yY (M:Mp) (b:Nat) (t:T) (hm:M.at_ b=some t) (hk:fB t=2) (a:aL) (n c:Nat) (v:aM) (w:World) (hi:Inv M w)
  (hal:∀ w3,Below w.heap.size w w3->Calls prog 86 #[.agg #[.pointer (some ⟨b,0,none⟩)],.slice a n c,.string v] w3 (λe w'=>e = .panicked [fI 8]/\Below w3.heap.size w3 w')) :
  Calls prog 53 #[.agg #[.pointer (some ⟨b,0,none⟩)],.slice a n c,.string v] w (λe w'=>e = .panicked [fI 8]/\Below w.heap.size w w'):=by
 obtain ⟨w2,hw2,ap,am,hb2,hs2⟩:=mV w (some ⟨b,0,none⟩);have hi2:=hi.below hb2;have HK:=hid (dV M _ _ w2 hi2 (jZ hi2 hm));rw [hk] at HK;have h0:=aV (j:=0) ap rfl;have HT:Hid (∀ w3,Below w2.heap.size w2 w3->w3.cell? ⟨w.heap.size,0,none⟩=some (.pointer (some ⟨b,0,none⟩))/\Calls prog 86 #[.agg #[.pointer (some ⟨b,0,none⟩)],.slice a n c,.string v] w3 (λe w'=>e = .panicked [fI 8]/\Below w3.heap.size w3 w')/\Below w.heap.size w w3):=hid (λw3 hb3 =>
  ⟨aX hb3 h0,hal w3 (bst hb2 hb3),bst hb2 hb3⟩)
 have H0:=hid ap;clear ap am hb2 hs2 hi hi2 hal hm hk h0;subst hw2;go_enter func53,ntmps53;go_wp2_with (first | (refine aB (bA _ _ _ (w.heap.size+1) (by simp) rfl) ?_) | (refine aB (aW (aV (j:=0) H0.out rfl) ⟨_,rfl,rfl⟩) ?_))
 refine HK.out.mono ?_;rintro e w3 ⟨rfl,hb3⟩;obtain ⟨d0,HC,HB⟩:=HT.out w3 hb3;replace HC:=hid HC;replace HB:=hid HB;clear hb3 HT HK H0;go_wp2_with (refine aB (aW d0 ⟨_,rfl,rfl⟩) ?_)
 refine HC.out.mono ?_;rintro e w9 ⟨rfl,es⟩;have cD:=hid (bst HB.out es);clear es HB;go_wp2;simp +zetaDelta [bodyPost,Exit.then];exact cD.out
theorem MR (q way:Pa) (f:Pa->T) (v:aM):fork q f way v=wrap (way.take (cp q way)) (two (nb (q.getD (cp q way) 0)) (nb (way.getD (cp q way) 0)) (f (q.drop (cp q way+1))) (.leaf (way.drop (cp q way+1)) v)):=by
 unfold fork;rw [zy _ _ _ aH]
def Yx (t:T):Prop:=∀ (M:Mp) (w:World) (p:aL) (a:aL) (n c:Nat) (way:Pa) (v:aM),Inv M w->IsT M p t->Bs M w a n c way->Tr.Good t way.length->Nib way->way.length<=64->
 (Tr.get t way=none->Calls prog 53 #[.agg #[.pointer p],.slice a n c,.string v] w λe w'=>e = .panicked [fI 8]/\Below w.heap.size w w')/\
 (Tr.get t way≠none->Calls prog 53 #[.agg #[.pointer p],.slice a n c,.string v] w (dz M w (put t way v)))
theorem Gc (t:T):Yx t:=by
 induction t with
 | nil =>
  intro M w p a n c way v hi ht hW hg hn hl;refine ⟨λh=>(by cases h),λ_=>?_⟩;obtain rfl:p=none:=ht.vS.2 rfl;exact Ug M a n c way v w hi hW
 | stub r =>
  intro M w p a n c way v hi ht hW hg hn hl;refine ⟨λ_=>?_,λh=>absurd rfl h⟩;obtain ⟨b,rfl,hm⟩:=ht.at_ (λe=>by cases e);exact Qt M b r hm a n c v w hi
 | leaf q u =>
  intro M w p a n c way v hi ht hW hg hn hl;refine ⟨λh=>(by cases h),λ_=>?_⟩;obtain ⟨b,rfl,hm⟩:=ht.at_ (λe=>by cases e);refine uw M b _ hm (Or.inl rfl) a n c v _ w hi (λw3 hb3=>?_);have hi3:=hi.below hb3;have hW3:=hW.fr hi (Fr.below M hb3);by_cases e:q=way
  .have:put (.leaf q u) way v = .leaf q v:=by
    unfold put;rw [if_pos e,e]
   rw [this];exact KQ M b u q hm w3 hi3 a n c way v hW3 hl (Nat.le_of_eq hg.1) e
  .have:put (.leaf q u) way v=fork q (λr=>.leaf r u) way v:=by
    unfold put;rw [if_neg e]
   rw [this,MR];have hpre:¬ q<+:way:=λh=>e (h.eq_of_length hg.1);exact yE M b _ hm w3 hi3 a n c way v hW3 hl (Nat.le_of_eq hg.1) hpre hg.2 hn _ (λwx M' hix hmx=>Um M' b q u hmx _ (Nat.succ_le_of_lt (zO hpre)) wx hix)
 | ext q s ih =>
  intro M w p a n c way v hi ht hW hg hn hl;obtain ⟨b,rfl,hm⟩:=ht.at_ (λe=>by cases e);obtain ⟨g1,g2,g3,g4,g5⟩:=hg;by_cases e:q<+:way
  .have hgs:Tr.Good s (way.drop q.length).length:=by rw [List.length_drop]; exact g5
   have hget:Tr.get (.ext q s) way=Tr.get s (way.drop q.length):=by
    show (if q<+:way then Tr.get s (way.drop q.length) else some none)=_;rw [if_pos e]
   rw [hget];have hld:(way.drop q.length).length<=64:=by rw [List.length_drop]; omega
   refine ⟨λh=>?_,λh=>?_⟩
   .refine yY M b _ hm rfl a n c v w hi (λw3 hb3=>?_);exact Ke M b q s hm w3 (hi.below hb3) a n c way v (hW.fr hi (Fr.below M hb3)) hl g3 e (λM' w' p' a' n' c' hi' ht' hW'=>(ih M' w' p' a' n' c' _ v hi' ht' hW' hgs (hn.drop _) hld).1 h)
   .have hput:put (.ext q s) way v = .ext q (put s (way.drop q.length) v):=by
     show (if q<+:way then _ else _)=_;rw [if_pos e]
    rw [hput];refine uw M b _ hm (Or.inr rfl) a n c v _ w hi (λw3 hb3=>?_);exact PZ M b q s hm w3 (hi.below hb3) a n c way v (hW.fr hi (Fr.below M hb3)) hl g3 e g1 h (λM' w' p' a' n' c' hi' ht' hW'=>(ih M' w' p' a' n' c' _ v hi' ht' hW' hgs (hn.drop _) hld).2 h)
  .have hget:Tr.get (.ext q s) way=some none:=by
    show (if q<+:way then Tr.get s (way.drop q.length) else some none)=_;rw [if_neg e]
   rw [hget];refine ⟨λh=>(by cases h),λ_=>?_⟩;have hput:put (.ext q s) way v=fork q (λr=>wrap r s) way v:=by
    show (if q<+:way then _ else _)=_;rw [if_neg e]
   rw [hput,MR];refine uw M b _ hm (Or.inr rfl) a n c v _ w hi (λw3 hb3=>?_);exact yE M b _ hm w3 (hi.below hb3) a n c way v (hW.fr hi (Fr.below M hb3)) hl g3 e g2 hn _ (λwx M' hix hmx=>VQ M' b q s hmx _ (Nat.succ_le_of_lt (zO e)) wx hix)
 | br ks ih =>
  intro M w p a n c way v hi ht hW hg hn hl;obtain ⟨b,rfl,hm⟩:=ht.at_ (λe=>by cases e);cases way with
  | nil=>exact absurd hg.1 (Nat.lt_irrefl 0)
  | cons c0 r =>
   have hl':r.length<=64:=by simp at hl; omega
   have hgi:Tr.Good (ks (nb c0)) r.length:=hg.2.2 (nb c0);refine ⟨λh=>?_,λh=>?_⟩
   .exact Fj ks M b hm w hi a n c c0 r v hW hn.head hl (λM' w' p' a' n' c' hi' ht' hW'=>(ih (nb c0) M' w' p' a' n' c' r v hi' ht' hW' hgi hn.tail hl').1 h)
   .have hput:put (.br ks) (c0::r) v = .br λj=>if j=nb c0 then put (ks (nb c0)) r v else ks j:=by
     show T.br _=T.br _;congr 1;funext j;by_cases e:j=nb c0
     .subst e; rfl
     .rw [if_neg e,if_neg e]
    rw [hput];exact Wv ks M b hm w hi a n c c0 r v hW hn.head hl (λM' w' p' a' n' c' hi' ht' hW'=>(ih (nb c0) M' w' p' a' n' c' r v hi' ht' hW' hgi hn.tail hl').2 h)
def lD:Option (Option aM)->Ending
 | none=>.panicked [fI 8]
 | some none=>.panicked [fI 7]
 | some (some v)=>.returned (.string v)
def Yw (t:T):Prop:=∀ (M:Mp) (w:World) (p:aL) (a:aL) (n c:Nat) (way:Pa),Inv M w->IsT M p t->bf w a n c way->Tr.Good t way.length->Nib way->way.length<=64->
 Calls prog 55 #[.agg #[.pointer p],.slice a n c] w λe w'=>e=lD (Tr.get t way)/\Below w.heap.size w w'
theorem Va (M:Mp) (a:aL) (n c:Nat) (w:World) (hi:Inv M w):Calls prog 55 #[.agg #[.pointer none],.slice a n c] w λe w'=>e = .panicked [fI 7]/\Below w.heap.size w w':=by
 have h0:=fK w none;have HK:=hid (dV M none .nil (w.alloc (.cells #[.pointer none] 46)) (hi.below (al1 _ _)) rfl);clear hi;go_enter func55,ntmps55;go_wp2_with (refine aB (aW h0 ⟨_,rfl,rfl⟩) ?_)
 refine HK.out.mono ?_;rintro e w3 ⟨rfl,hb3⟩;have HB:=hid (bst (al1 _ _) hb3);unfold fB;clear h0 hb3 HK;go_wp2;simp +zetaDelta [bodyPost,Exit.then,fI];exact HB.out
theorem Pb (M:Mp) (b:Nat) (r:aM) (hm:M.at_ b=some (.stub r)) (a:aL) (n c:Nat) (w:World) (hi:Inv M w):Calls prog 55 #[.agg #[.pointer (some ⟨b,0,none⟩)],.slice a n c] w λe w'=>e = .panicked [fI 8]/\Below w.heap.size w w':=by
 have h0:=fK w (some ⟨b,0,none⟩);have HK:=hid (dV M _ _ (w.alloc (.cells #[.pointer (some ⟨b,0,none⟩)] 46)) (hi.below (al1 _ _)) (jZ (w:=w) hi hm));clear hi hm;go_enter func55,ntmps55;go_wp2_with (refine aB (aW h0 ⟨_,rfl,rfl⟩) ?_)
 refine HK.out.mono ?_;rintro e w3 ⟨rfl,hb3⟩;have HB:=hid (bst (al1 _ _) hb3);unfold fB;clear h0 hb3 HK;go_wp2;simp +zetaDelta [bodyPost,Exit.then,fI];exact HB.out
theorem QH (M:Mp) (b:Nat) (q:Pa) (u:aM) (hm:M.at_ b=some (.leaf q u)) (a:aL) (n c:Nat) (way:Pa) (w:World) (hi:Inv M w) (hB:bf w a n c way) (hl:q.length=way.length) (h64:way.length<=64) :
  Calls prog 55 #[.agg #[.pointer (some ⟨b,0,none⟩)],.slice a n c] w λe w'=>e=lD (Tr.get (.leaf q u) way)/\Below w.heap.size w w':=by
 have h0:=fK w (some ⟨b,0,none⟩);obtain ⟨w1,hw1⟩:=ay (w.alloc (.cells #[.pointer (some ⟨b,0,none⟩)] 46))
 have hb1:Below w.heap.size w w1:=by rw [hw1]; exact al1 _ _
 have hi1:=hi.below hb1;have hn:=hB.len;rw [<-hw1] at h0;have HK:=hid (dV M _ _ w1 hi1 (jZ hi1 hm));have c2:w1.cell? ⟨b,2,none⟩=some (.string u):=hi1.val hm;have H3:Hid (∀ w3,Below w1.heap.size w1 w3->w3.cell? ⟨w.heap.size,0,none⟩=some (.pointer (some ⟨b,0,none⟩))/\Calls prog 89 #[.agg #[.pointer (some ⟨b,0,none⟩)],.slice a n c] w3 (λe w'=>e=(if q=way then .returned (.tuple #[]) else .panicked [fI 7])/\Below w3.heap.size w3 w')/\
   ∀ w4,Below w3.heap.size w3 w4->w4.cell? ⟨w.heap.size,0,none⟩=some (.pointer (some ⟨b,0,none⟩))/\w4.cell? ⟨b,2,none⟩=some (.string u)/\Below w.heap.size w w4):=hid (λw3 hb3 =>
  ⟨aX hb3 h0,FV M b _ hm a n c way w3 (hi1.below hb3) (hB.below (bst hb1 hb3)) (by rw [<-hn]; exact hl) (by omega),λw4 hb4=>⟨aX hb4 (aX hb3 h0),aX hb4 (aX hb3 c2),bst (bst hb1 hb3) hb4⟩⟩)
 have hg:Tr.get (.leaf q u) way=some (if q=way then some u else none):=rfl;rw [hg];clear hg hi hi1 hb1 hn c2 hl hm hB;subst hw1;by_cases e:q=way
 .simp only [if_pos e] at H3 ⊢;clear e;go_enter func55,ntmps55;go_wp2_with (refine aB (aW h0 ⟨_,rfl,rfl⟩) ?_)
  refine HK.out.mono ?_;rintro e w3 ⟨rfl,hb3⟩;obtain ⟨d0,HC,H4⟩:=H3.out w3 hb3;replace HC:=hid HC;replace H4:=hid H4;unfold fB;clear h0 hb3 HK H3;go_wp2_with (refine aB (aW d0 ⟨_,rfl,rfl⟩) ?_)
  refine HC.out.mono ?_;rintro e w4 ⟨rfl,hb4⟩;obtain ⟨e0,e2,HB⟩:=H4.out w4 hb4;replace HB:=hid HB;clear hb4 H4 d0 HC;go_wp2;go_ret;exact ⟨rfl,HB.out⟩
 .simp only [if_neg e] at H3 ⊢;clear e;go_enter func55,ntmps55;go_wp2_with (refine aB (aW h0 ⟨_,rfl,rfl⟩) ?_)
  refine HK.out.mono ?_;rintro e w3 ⟨rfl,hb3⟩;obtain ⟨d0,HC,H4⟩:=H3.out w3 hb3;replace HC:=hid HC;replace H4:=hid H4;unfold fB;clear h0 hb3 HK H3;go_wp2_with (refine aB (aW d0 ⟨_,rfl,rfl⟩) ?_)
  refine HC.out.mono ?_;rintro e w4 ⟨rfl,hb4⟩;obtain ⟨e0,e2,HB⟩:=H4.out w4 hb4;replace HB:=hid HB;clear hb4 H4 d0 HC;go_wp2;simp +zetaDelta [bodyPost,Exit.then,fI,lD];exact HB.out
theorem WO (ks:Fin 16->T) (M:Mp) (b:Nat) (hm:M.at_ b=some (.br ks)) (w:World) (hi:Inv M w) (wa:aL) (wn wc:Nat) (c0:UInt8) (r:Pa) (hW:bf w wa wn wc (c0::r)) (hc0:c0.toNat<16) (hlen:(c0::r).length<=64) (g:Option (Option aM))
  (ih:∀ w' p a n c,Inv M w'->IsT M p (ks (nb c0))->bf w' a n c r->Calls prog 55 #[.agg #[.pointer p],.slice a n c] w' (λe w''=>e=lD g/\Below w'.heap.size w' w'')) :
  Calls prog 55 #[.agg #[.pointer (some ⟨b,0,none⟩)],.slice wa wn wc] w (λe w'=>e=lD g/\Below w.heap.size w w'):=by
 have h0:=fK w (some ⟨b,0,none⟩);obtain ⟨w1,hw1⟩:=ay (w.alloc (.cells #[.pointer (some ⟨b,0,none⟩)] 46))
 have hb1:Below w.heap.size w w1:=by rw [hw1]; exact al1 _ _
 have hi1:=hi.below hb1;rw [<-hw1] at h0;have hwl:(c0::r).length=wn:=hW.len;have BV:r.length+1=wn:=by rw [<-hwl]; rfl
 have HK:=hid (dV M _ _ w1 hi1 (jZ hi1 hm));obtain ⟨ka,kn,kc,c3,hKs⟩:=hi1.kids hm;have hkn:kn=16:=by rw [<-hKs.len]; exact fQ ks
 subst hkn;have hnx:((nb c0).val:Nat)=c0.toNat:=Nat.mod_eq_of_lt hc0;obtain ⟨kb,ko,p0,rfl,cL,gw,hk0,hT0⟩:=hKs.at' c0.toNat hc0;have cg:IsT M p0 (ks (nb c0)):=by
  rw [<-hnx,kP] at hT0;exact hT0
 have hkc:=hKs.1;have hkm:=hKs.2.1;unfold maxLen at hkm;have hx16:c0.toNat<16:=hc0;have hxi:((c0.toNat:Nat):Int)<16:=by omega
 have HT:Hid (∀ w3,Below w1.heap.size w1 w3->w3.cell? ⟨w.heap.size,0,none⟩=some (.pointer (some ⟨b,0,none⟩))/\Calls prog 84 #[.slice wa wn wc] w3 (λe w'=>e = .returned (.tuple #[.int .u8 c0.toNat,.slice (eP wa wc 1) (wn-1) (wc-1)])/\Below w3.heap.size w3 w')/\
   ∀ w4,Below w3.heap.size w3 w4->(w4.cell? ⟨w.heap.size,0,none⟩=some (.pointer (some ⟨b,0,none⟩))/\w4.cell? ⟨b,3,none⟩=some (.slice (some ⟨kb,ko,none⟩) 16 kc)/\w4.cell? ⟨kb,ko+c0.toNat,none⟩=some (.pointer p0))/\
   Calls prog 55 #[.agg #[.pointer p0],.slice (eP wa wc 1) (wn-1) (wc-1)] w4 (λe w''=>e=lD g/\Below w4.heap.size w4 w'')/\∀ w5,Below w4.heap.size w4 w5->Below w.heap.size w w5):=hid (λw3 hb3 =>
  ⟨aX hb3 h0,lu wa wn wc (c0::r) (by omega) w3 (hW.below (bst hb1 hb3)),λw4 hb4=>⟨⟨aX hb4 (aX hb3 h0),aX hb4 (aX hb3 c3),aX hb4 (aX hb3 hk0)⟩,(by
   have hB:=bst hb1 (bst hb3 hb4);refine ih w4 p0 _ _ _ (hi.below hB) cg ?_;exact wm (hW.below hB) 1 (by omega)),λw5 hb5=>bst (bst (bst hb1 hb3) hb4) hb5⟩⟩)
 clear hi hi1 hb1 hm hW hwl hKs hT0 cg c3 hk0 ih;subst hw1
 match g with
 | none | some none =>
  go_enter func55,ntmps55;go_wp2_with (refine aB (aW h0 ⟨_,rfl,rfl⟩) ?_)
  refine HK.out.mono ?_;rintro e w3 ⟨rfl,hb3⟩;obtain ⟨d0',fS,H4⟩:=HT.out w3 hb3;replace fS:=hid fS;replace H4:=hid H4;unfold fB;clear hb3 HT HK h0 d0';go_wp2_with fail
  refine fS.out.mono ?_;rintro e w4 ⟨rfl,hb4⟩;obtain ⟨⟨d0,d3,dk⟩,HC,HB⟩:=H4.out w4 hb4;replace HC:=hid HC;replace HB:=hid HB;clear hb4 H4 fS;go_wp2_with (refine aB (aW dk ⟨_,rfl,rfl⟩) ?_)
  refine HC.out.mono ?_;rintro e w5 ⟨rfl,hb5⟩;have ae:=hid (HB.out w5 hb5);clear hb5 HB HC;unfold lD;go_wp2;simp +zetaDelta [bodyPost,Exit.then];exact ⟨rfl,ae.out⟩
 | some (some v) =>
  go_enter func55,ntmps55;go_wp2_with (refine aB (aW h0 ⟨_,rfl,rfl⟩) ?_)
  refine HK.out.mono ?_;rintro e w3 ⟨rfl,hb3⟩;obtain ⟨d0',fS,H4⟩:=HT.out w3 hb3;replace fS:=hid fS;replace H4:=hid H4;unfold fB;clear hb3 HT HK h0 d0';go_wp2_with fail
  refine fS.out.mono ?_;rintro e w4 ⟨rfl,hb4⟩;obtain ⟨⟨d0,d3,dk⟩,HC,HB⟩:=H4.out w4 hb4;replace HC:=hid HC;replace HB:=hid HB;clear hb4 H4 fS;go_wp2_with (refine aB (aW dk ⟨_,rfl,rfl⟩) ?_)
  refine HC.out.mono ?_;rintro e w5 ⟨rfl,hb5⟩;have ae:=hid (HB.out w5 hb5);clear hb5 HB HC;unfold lD;go_wp2;go_ret;exact ⟨rfl,ae.out⟩
theorem QU (q:Pa) (s:T) (M:Mp) (b:Nat) (hm:M.at_ b=some (.ext q s)) (w:World) (hi:Inv M w) (wa:aL) (wn wc:Nat) (way:Pa) (hW:bf w wa wn wc way) (hlen:way.length<=64) (hle:q.length<=way.length) (h:q<+:way) (g:Option (Option aM))
  (ih:∀ w' p a n c,Inv M w'->IsT M p s->bf w' a n c (way.drop q.length)->Calls prog 55 #[.agg #[.pointer p],.slice a n c] w' (λe w''=>e=lD g/\Below w'.heap.size w' w'')) :
  Calls prog 55 #[.agg #[.pointer (some ⟨b,0,none⟩)],.slice wa wn wc] w (λe w'=>e=lD g/\Below w.heap.size w w'):=by
  have h0:=fK w (some ⟨b,0,none⟩);obtain ⟨w1,hw1⟩:=ay (w.alloc (.cells #[.pointer (some ⟨b,0,none⟩)] 46))
  have hb1:Below w.heap.size w w1:=by rw [hw1]; exact al1 _ _
  have hi1:=hi.below hb1;rw [<-hw1] at h0;have hwl:way.length=wn:=hW.len;have HK:=hid (dV M _ _ w1 hi1 (jZ hi1 hm));obtain ⟨ka,kn,kc,c3,hKs⟩:=hi1.kids hm;obtain ⟨kb,ko,p0,rfl,cL,gw,hk0,hT0⟩:=hKs.at' 0 (by rw [<-hKs.len]; exact Nat.one_pos);have hkn:kn=1:=hKs.len.symm;have hkc:=hKs.1;have hkm:=hKs.2.1;unfold maxLen at hkm;rw [Nat.add_zero] at hk0;have cg:IsT M p0 s:=hT0
  have HT:Hid (∀ w3,Below w1.heap.size w1 w3->(w3.cell? ⟨w.heap.size,0,none⟩=some (.pointer (some ⟨b,0,none⟩))/\w3.cell? ⟨b,3,none⟩=some (.slice (some ⟨kb,ko,none⟩) kn kc)/\w3.cell? ⟨kb,ko,none⟩=some (.pointer p0))/\
    (∀ wx,Below w3.heap.size w3 wx->Calls prog 88 #[.agg #[.pointer (some ⟨b,0,none⟩)],.slice wa wn wc] wx (λe w'=>e = .returned (.slice (eP wa wc q.length) (wn-q.length) (wc-q.length))/\Below wx.heap.size wx w'))/\(∀ wx,Below w3.heap.size w3 wx->Calls prog 55 #[.agg #[.pointer p0],.slice (eP wa wc q.length) (wn-q.length) (wc-q.length)] wx (λe w''=>e=lD g/\Below wx.heap.size wx w''))/\∀ wx,Below w3.heap.size w3 wx->Below w.heap.size w wx):=hid (λw3 hb3 =>
   ⟨⟨aX hb3 h0,aX hb3 c3,aX hb3 hk0⟩,λwx hbx=>(by
    have:=AZ M b _ hm wa wn wc way wx (hi1.below (bst hb3 hbx)) (hW.below (bst (bst hb1 hb3) hbx)) (by rw [<-hwl]; exact hle) (by omega);rw [show (bY (.ext q s))=q from rfl,if_pos h] at this;exact this),λwx hbx=>(by
     have hB:=bst (bst hb1 hb3) hbx;exact ih wx p0 _ _ _ (hi.below hB) cg (wm (hW.below hB) _ (by rw [<-hwl]; exact hle))),λwx hbx=>bst (bst hb1 hb3) hbx⟩)
  clear hi hi1 hb1 hm hW hwl hKs hT0 cg c3 hk0 ih;subst hw1
  match g with
  | none | some none =>
  go_enter func55,ntmps55;go_wp2_with (refine aB (aW h0 ⟨_,rfl,rfl⟩) ?_)
  refine HK.out.mono ?_;rintro e w3 ⟨rfl,hb3⟩;obtain ⟨⟨d0,d3,dk⟩,HP,gm,cI⟩:=HT.out w3 hb3;replace HP:=hid HP;replace gm:=hid gm;replace cI:=hid cI;unfold fB;clear hb3 HT HK h0;go_wp2_with fail
  refine wp_region_held_drew (S:=λw'=>Below w3.heap.size w3 w') (by kernel_rfl) ((below_drewN aI 1)) (λhld=>?_);refine aj 0 ?_;try simp only [Act.put,au]
  refine aF 1 (λwz hSw=>aX hSw d0) ?_;try simp only [Act.put,au]
  refine aj 2 ?_;try simp only [Act.put,au]
  refine aj 3 ?_;try simp only [Act.put,au]
  refine aF 4 (λwz hSw=>aX hSw d3) ?_;try simp only [Act.put,au]
  refine aj 5 ?_;try simp only [Act.put,au]
  refine aj 6 ?_ (hy:=by intro wz hSw; (refine aW (aX hSw dk) ?_; exact ⟨_,rfl,rfl⟩));try simp only [Act.put,au]
  refine aj 7 ?_ (hy:=by intro wz hSw; (refine aW (aX hSw d0) ?_; exact ⟨_,rfl,rfl⟩));try simp only [Act.put,au]
  refine aj 8 ?_;try simp only [Act.put,au]
  refine ak 9 λK hK=>?_;go_simp;go_at_call 88
  (with_reducible refine (HP.out w3.drew (below_drewN aI 1)).mono ?_)
  rintro e w5 ⟨rfl,hb5⟩;have ae:Hid (Below w3.heap.size w3 w5):=hid (bst (below_drewN aI 1) hb5);clear hb5;refine hK.out _ _ (ae.out) λhld=>?_;clear hK K;try simp only [Act.put,au]
  refine ak 10 λK hK=>?_;go_simp;go_at_call 55
  (with_reducible refine (gm.out w5 ae.out).mono ?_)
  rintro e w6 ⟨rfl,hb6⟩;have ax:Hid (Below w3.heap.size w3 w6):=hid (bst ae.out hb6);clear hb6;simp +zetaDelta [bodyPost,Exit.then,lD];exact cI.out w6 ax.out
  | some (some v) =>
  go_enter func55,ntmps55;go_wp2_with (refine aB (aW h0 ⟨_,rfl,rfl⟩) ?_)
  refine HK.out.mono ?_;rintro e w3 ⟨rfl,hb3⟩;obtain ⟨⟨d0,d3,dk⟩,HP,gm,cI⟩:=HT.out w3 hb3;replace HP:=hid HP;replace gm:=hid gm;replace cI:=hid cI;unfold fB;clear hb3 HT HK h0;go_wp2_with fail
  refine aD (S:=λw'=>Below w3.heap.size w3 w') ((below_drewN aI 1)) λhld=>?_;refine aj 0 ?_;try simp only [Act.put,au]
  refine aF 1 (λwz hSw=>aX hSw d0) ?_;try simp only [Act.put,au]
  refine aj 2 ?_;try simp only [Act.put,au]
  refine aj 3 ?_;try simp only [Act.put,au]
  refine aF 4 (λwz hSw=>aX hSw d3) ?_;try simp only [Act.put,au]
  refine aj 5 ?_;try simp only [Act.put,au]
  refine aj 6 ?_ (hy:=by intro wz hSw; (refine aW (aX hSw dk) ?_; exact ⟨_,rfl,rfl⟩));try simp only [Act.put,au]
  refine aj 7 ?_ (hy:=by intro wz hSw; (refine aW (aX hSw d0) ?_; exact ⟨_,rfl,rfl⟩));try simp only [Act.put,au]
  refine aj 8 ?_;try simp only [Act.put,au]
  refine ak 9 λK hK=>?_;go_simp;go_at_call 88
  (with_reducible refine (HP.out w3.drew (below_drewN aI 1)).mono ?_)
  rintro e w5 ⟨rfl,hb5⟩;have ae:Hid (Below w3.heap.size w3 w5):=hid (bst (below_drewN aI 1) hb5);clear hb5;refine hK.out _ _ (ae.out) λhld=>?_;clear hK K;try simp only [Act.put,au]
  refine ak 10 λK hK=>?_;go_simp;go_at_call 55
  (with_reducible refine (gm.out w5 ae.out).mono ?_)
  rintro e w6 ⟨rfl,hb6⟩;have ax:Hid (Below w3.heap.size w3 w6):=hid (bst ae.out hb6);clear hb6;refine hK.out _ _ (ax.out) λhld=>?_;clear hK K;try simp only [Act.put,au]
  refine aj 11 ?_;try simp only [Act.put,au]
  refine aC ?_;go_wp2;go_ret;exact ⟨rfl,cI.out w6 ax.out⟩
theorem Hu (q:Pa) (s:T) (M:Mp) (b:Nat) (hm:M.at_ b=some (.ext q s)) (w:World) (hi:Inv M w) (wa:aL) (wn wc:Nat) (way:Pa) (hW:bf w wa wn wc way) (hlen:way.length<=64) (hle:q.length<=way.length) (h:¬ q<+:way) :
  Calls prog 55 #[.agg #[.pointer (some ⟨b,0,none⟩)],.slice wa wn wc] w (λe w'=>e = .panicked [fI 7]/\Below w.heap.size w w'):=by
  have h0:=fK w (some ⟨b,0,none⟩);obtain ⟨w1,hw1⟩:=ay (w.alloc (.cells #[.pointer (some ⟨b,0,none⟩)] 46))
  have hb1:Below w.heap.size w w1:=by rw [hw1]; exact al1 _ _
  have hi1:=hi.below hb1;rw [<-hw1] at h0;have hwl:way.length=wn:=hW.len;have HK:=hid (dV M _ _ w1 hi1 (jZ hi1 hm));obtain ⟨ka,kn,kc,c3,hKs⟩:=hi1.kids hm;obtain ⟨kb,ko,p0,rfl,cL,gw,hk0,hT0⟩:=hKs.at' 0 (by rw [<-hKs.len]; exact Nat.one_pos);have hkn:kn=1:=hKs.len.symm;have hkc:=hKs.1;have hkm:=hKs.2.1;unfold maxLen at hkm;rw [Nat.add_zero] at hk0;have cg:IsT M p0 s:=hT0
  have HT:Hid (∀ w3,Below w1.heap.size w1 w3->(w3.cell? ⟨w.heap.size,0,none⟩=some (.pointer (some ⟨b,0,none⟩))/\w3.cell? ⟨b,3,none⟩=some (.slice (some ⟨kb,ko,none⟩) kn kc)/\w3.cell? ⟨kb,ko,none⟩=some (.pointer p0))/\
    (∀ wx,Below w3.heap.size w3 wx->Calls prog 88 #[.agg #[.pointer (some ⟨b,0,none⟩)],.slice wa wn wc] wx (λe w'=>e = .panicked [fI 7]/\Below wx.heap.size wx w'))/\(∀ wx,Below w3.heap.size w3 wx->True)/\∀ wx,Below w3.heap.size w3 wx->Below w.heap.size w wx):=hid (λw3 hb3 =>
   ⟨⟨aX hb3 h0,aX hb3 c3,aX hb3 hk0⟩,λwx hbx=>(by
    have:=AZ M b _ hm wa wn wc way wx (hi1.below (bst hb3 hbx)) (hW.below (bst (bst hb1 hb3) hbx)) (by rw [<-hwl]; exact hle) (by omega);rw [show (bY (.ext q s))=q from rfl,if_neg h] at this;exact this),λwx hbx=>trivial,λwx hbx=>bst (bst hb1 hb3) hbx⟩)
  clear hi hi1 hb1 hm hW hwl hKs hT0 cg c3 hk0 ;subst hw1;go_enter func55,ntmps55;go_wp2_with (refine aB (aW h0 ⟨_,rfl,rfl⟩) ?_)
  refine HK.out.mono ?_;rintro e w3 ⟨rfl,hb3⟩;obtain ⟨⟨d0,d3,dk⟩,HP,gm,cI⟩:=HT.out w3 hb3;replace HP:=hid HP;replace gm:=hid gm;replace cI:=hid cI;unfold fB;clear hb3 HT HK h0;go_wp2_with fail
  refine wp_region_held_drew (S:=λw'=>Below w3.heap.size w3 w') (by kernel_rfl) ((below_drewN aI 1)) (λhld=>?_);refine aj 0 ?_;try simp only [Act.put,au]
  refine aF 1 (λwz hSw=>aX hSw d0) ?_;try simp only [Act.put,au]
  refine aj 2 ?_;try simp only [Act.put,au]
  refine aj 3 ?_;try simp only [Act.put,au]
  refine aF 4 (λwz hSw=>aX hSw d3) ?_;try simp only [Act.put,au]
  refine aj 5 ?_;try simp only [Act.put,au]
  refine aj 6 ?_ (hy:=by intro wz hSw; (refine aW (aX hSw dk) ?_; exact ⟨_,rfl,rfl⟩));try simp only [Act.put,au]
  refine aj 7 ?_ (hy:=by intro wz hSw; (refine aW (aX hSw d0) ?_; exact ⟨_,rfl,rfl⟩));try simp only [Act.put,au]
  refine aj 8 ?_;try simp only [Act.put,au]
  refine ak 9 λK hK=>?_;go_simp;go_at_call 88
  (with_reducible refine (HP.out w3.drew (below_drewN aI 1)).mono ?_)
  rintro e w5 ⟨rfl,hb5⟩;have ae:Hid (Below w3.heap.size w3 w5):=hid (bst (below_drewN aI 1) hb5);clear hb5;simp +zetaDelta [bodyPost,Exit.then];exact cI.out w5 ae.out
theorem Rt (t:T):Yw t:=by
 induction t with
 | nil =>
  intro M w p a n c way hi ht hW hg hn hl;obtain rfl:p=none:=ht.vS.2 rfl;exact Va M a n c w hi
 | stub r =>
  intro M w p a n c way hi ht hW hg hn hl;obtain ⟨b,rfl,hm⟩:=ht.at_ (λe=>by cases e);exact Pb M b r hm a n c w hi
 | leaf q u =>
  intro M w p a n c way hi ht hW hg hn hl;obtain ⟨b,rfl,hm⟩:=ht.at_ (λe=>by cases e);exact QH M b q u hm a n c way w hi hW hg.1 hl
 | ext q s ih =>
  intro M w p a n c way hi ht hW hg hn hl;obtain ⟨b,rfl,hm⟩:=ht.at_ (λe=>by cases e);obtain ⟨g1,g2,g3,g4,g5⟩:=hg;by_cases e:q<+:way
  .have hgs:Tr.Good s (way.drop q.length).length:=by rw [List.length_drop]; exact g5
   have hget:Tr.get (.ext q s) way=Tr.get s (way.drop q.length):=by
    show (if q<+:way then Tr.get s (way.drop q.length) else some none)=_;rw [if_pos e]
   rw [hget];exact QU q s M b hm w hi a n c way hW hl g3 e _ (λw' p' a' n' c' hi' ht' hW'=>ih M w' p' a' n' c' _ hi' ht' hW' hgs (hn.drop _) (by rw [List.length_drop]; omega))
  .have hget:Tr.get (.ext q s) way=some none:=by
    show (if q<+:way then Tr.get s (way.drop q.length) else some none)=_;rw [if_neg e]
   rw [hget];exact Hu q s M b hm w hi a n c way hW hl g3 e
 | br ks ih =>
  intro M w p a n c way hi ht hW hg hn hl;obtain ⟨b,rfl,hm⟩:=ht.at_ (λe=>by cases e);cases way with
  | nil=>exact absurd hg.1 (Nat.lt_irrefl 0)
  | cons c0 r =>
   exact WO ks M b hm w hi a n c c0 r hW hn.head hl _ (λw' p' a' n' c' hi' ht' hW'=>ih (nb c0) M w' p' a' n' c' r hi' ht' hW' (hg.2.2 (nb c0)) hn.tail (by simp at hl; omega))
end Tm
end
section
open Go.RowKit
namespace Tk
open Pk
theorem mW (p:Addr) (x c:Int) (older:List PanicEntry) (w:World) (hc:w.cell? p=some (.int .i64 x)) (hz:w.frozen? p=false) :
  CallsD prog 82 #[.pointer (some p)] (.panicking (fI c::older)) w λe u' w' =>
   e = .returned (.tuple #[])/\u' = .panicking ({ fI c with recovered:=true }::older)/\w'=w.setCell p (.int .i64 c):=by
 refine callsD_of_wpS func82 rfl λc₀ cs hu=>?_;apply wpS_seq;apply wpS_region;simp [wpOpsS,go_sem,recoverD,hu,fI,ntmps82,Exit.thenS];apply wpS_seq;apply wpS_region;simp [wpOpsS,go_sem,Exit.thenS];refine wpS_cond (t:=true) (by simp [Act.eval,Array.replicate]) ?_;simp only [if_true];apply wpS_region;have If:(Instr.typeAssert (.iface 29 (.int .i64 c)) 20 29 false).run prog w = .ok (.int .i64 c) w:=by kernel_rfl
 simp [wpOpsS,go_sem,If,hc,hz,bodyPostS,results,Tryz.results82]
theorem uL (p:Addr) (w:World) :
  CallsD prog 82 #[.pointer (some p)] .returning w λe u' w'=>e = .returned (.tuple #[])/\u' = .returning/\w'=w:=by
 refine callsD_of_wpS func82 rfl λc₀ cs hu=>?_;apply wpS_seq;apply wpS_region;simp [wpOpsS,go_sem,recoverD,hu,ntmps82,Exit.thenS];apply wpS_seq;apply wpS_region;simp [wpOpsS,go_sem,Exit.thenS];refine wpS_cond (t:=false) (by simp [Act.eval,Array.replicate]) ?_;simp only [Bool.false_eq_true,if_false];refine wpS_of_wp (wp_skip ?_);cases c₀
 simp_all [bodyPostS,results,Tryz.results82]
theorem qg (D:FuncId) (caps:aO) (hD:∀ w,(callFunc D caps).run prog w = .ok (.enter D caps) w) (w:World) (R:World->Prop)
  (h:Calls prog D caps (w.alloc (.cells #[.int .i64 0] 29)) λe w'=>e = .returned (.tuple #[])/\(w'.cell? ⟨w.heap.size,0,none⟩=some (.int .i64 0)/\w'.frozen? ⟨w.heap.size,0,none⟩=false)/\R w') :
  Calls prog 51 #[.func (.func D) #[] caps] w λe w'=>e = .returned (.int .i64 0)/\∃ w1,R w1/\w'=w1.setCell ⟨w.heap.size,0,none⟩ (.int .i64 0):=by
 have dT:∀ (fn:Fn) (first cap:aO) (w:World),(Instr.makeFunc fn first cap).run prog w = .ok (.func fn first cap) w:=λ_ _ _ _=>rfl;have H:=hid h;clear h;go_enter_defers func51,ntmps51
 go_wp2_with fail
 refine H.out.mono ?_;rintro e w1 ⟨rfl,⟨hc,hz⟩,hR⟩;have HR:=hid hR;clear hR H;go_wp2;refine leaves_cons (f:=82) (args:=#[.pointer (some ⟨w.heap.size,0,none⟩)]) (by simp) (by simp [go_sem]) ?_;refine (uL ⟨w.heap.size,0,none⟩ _).mono ?_;rintro e u' w'' ⟨rfl,rfl,rfl⟩;simp [Leaves,settle,results,Tryz.results51,go_sem,hc];exact ⟨w1,HR.out,rfl⟩
theorem qA (D:FuncId) (caps:aO) (hD:∀ w,(callFunc D caps).run prog w = .ok (.enter D caps) w) (w:World) (c:Int) (R:World->Prop)
  (h:Calls prog D caps (w.alloc (.cells #[.int .i64 0] 29)) λe w'=>e = .panicked [fI c]/\(w'.cell? ⟨w.heap.size,0,none⟩=some (.int .i64 0)/\w'.frozen? ⟨w.heap.size,0,none⟩=false)/\R w') :
  Calls prog 51 #[.func (.func D) #[] caps] w λe w'=>e = .returned (.int .i64 c)/\∃ w1,R w1/\w'=w1.setCell ⟨w.heap.size,0,none⟩ (.int .i64 c):=by
 have dT:∀ (fn:Fn) (first cap:aO) (w:World),(Instr.makeFunc fn first cap).run prog w = .ok (.func fn first cap) w:=λ_ _ _ _=>rfl;have H:=hid h;clear h;go_enter_defers func51,ntmps51
 go_wp2_with fail
 refine H.out.mono ?_;rintro e w1 ⟨rfl,⟨hc,hz⟩,hR⟩;have HR:=hid hR;clear hR H;go_wp2;refine leaves_cons (f:=82) (args:=#[.pointer (some ⟨w.heap.size,0,none⟩)]) (by simp) (by simp [go_sem]) ?_;refine (mW ⟨w.heap.size,0,none⟩ 0 c [] _ hc hz).mono ?_;rintro e u' w'' ⟨rfl,rfl,rfl⟩;simp [Leaves,settle,results,Tryz.results51,go_sem,hc];exact ⟨w1,HR.out,rfl⟩
end Tk
end
section
open Go.RowKit
namespace Tm
open Tr Ni Pk
theorem WT (p:aL) (k:aN) (hk:k.length=32) (bt bk br:Nat) (v:aM) (w:World) (mu:Rg.Own w bt #[.pointer p] 46) (mw:Rg.Own w bk (Ky.kc k) 24) (h1:bt≠br) (h2:bk≠br)
  (hOr:Rg.Own w br #[.string eB] 9) (hC:∀ w5,Below w.heap.size w w5->∀ a5 n5 c5,bf w5 a5 n5 c5 (Ky.bG k)->Calls prog 55 #[.agg #[.pointer p],.slice a5 n5 c5] w5 (λe w'=>e = .returned (.string v)/\Below w5.heap.size w5 w')) :
  Calls prog 54 #[.pointer (some ⟨bt,0,none⟩),.pointer (some ⟨bk,0,none⟩),.pointer (some ⟨br,0,none⟩)] w (λe w'=>e = .returned (.tuple #[])/\Rg.Own w' br #[.string v] 9/\Bo br w w'):=by
 have ir:=hid (λwx=>Ky.vM k hk wx);have u4:=hid mu;have j1:=hid mw;have HOr:=hid hOr;have HC:=hid hC;clear hOr hC;clear mu mw;go_enter func54,ntmps54;go_wp2_with fail
 refine aD (S:=λw'=>Bo br w w') (Bo.of (below_drewN aI 1)) λhld=>?_;refine aj 0 ?_ (hy:=by intro wz hSw; (refine aW (aV (j:=0) (nX hSw u4.out (by omega)) rfl) ?_; exact ⟨_,rfl,rfl⟩));try simp only [Act.put,au]
 refine aj 1 ?_ (hy:=by intro wz hSw; (refine bJ hk (nX hSw j1.out (by omega)).2 ?_; exact ⟨_,rfl,rfl⟩));try simp only [Act.put,au]
 refine ak 2 λK hK=>?_;go_simp;go_at_call 42
 (with_reducible refine (ir.out w.drew).mono ?_)
 rintro e w5 ⟨a5,n5,c5,rfl,hx5,hb5⟩;have ae:Hid (Below w.heap.size w w5):=hid (bst (below_drewN aI 1) hb5);have s8:=hid hx5;clear hb5 hx5;refine hK.out _ _ (Bo.of ae.out) λhld=>?_;clear hK K;try simp only [Act.put,au]
 refine ak 3 λK hK=>?_;go_simp;go_at_call 55
 (with_reducible refine (HC.out w5 ae.out a5 n5 c5 s8.out).mono ?_)
 rintro e w6 ⟨rfl,hb6⟩;have cG:Below w.heap.size w w6:=bst ae.out hb6;have cF:=hid (HOr.out.below cG);refine hK.out _ _ (Bo.of cG) λhld=>?_;clear hK K;try simp only [Act.put,au]
 refine ak 4 λK hK=>?_;refine zP (by rfl) cF.out v ⟨_,_,rfl,rfl,rfl⟩ ?_;intro ag ai al;refine hK.out _ _ ((Bo.of cG).upd al) λhld=>?_;clear hK K;try simp only [Act.put,au]
 refine aC ?_;go_wp2;go_end0;exact ⟨rfl,ai,(Bo.of cG).upd al⟩
theorem Tp (p:aL) (k:aN) (hk:k.length=32) (bt bk br:Nat) (c:Int) (w:World) (mu:Rg.Own w bt #[.pointer p] 46) (mw:Rg.Own w bk (Ky.kc k) 24) (h1:bt≠br) (h2:bk≠br)
  (hC:∀ w5,Below w.heap.size w w5->∀ a5 n5 c5,bf w5 a5 n5 c5 (Ky.bG k)->Calls prog 55 #[.agg #[.pointer p],.slice a5 n5 c5] w5 (λe w'=>e = .panicked [fI c]/\Below w5.heap.size w5 w')) :
  Calls prog 54 #[.pointer (some ⟨bt,0,none⟩),.pointer (some ⟨bk,0,none⟩),.pointer (some ⟨br,0,none⟩)] w (λe w'=>e = .panicked [fI c]/\Below w.heap.size w w'):=by
 have ir:=hid (λwx=>Ky.vM k hk wx);have u4:=hid mu;have j1:=hid mw;have HC:=hid hC;clear hC;clear mu mw;go_enter func54,ntmps54;go_wp2_with fail
 refine wp_region_held_drew (S:=λw'=>Bo br w w') (by kernel_rfl) (Bo.of (below_drewN aI 1)) (λhld=>?_);refine aj 0 ?_ (hy:=by intro wz hSw; (refine aW (aV (j:=0) (nX hSw u4.out (by omega)) rfl) ?_; exact ⟨_,rfl,rfl⟩));try simp only [Act.put,au]
 refine aj 1 ?_ (hy:=by intro wz hSw; (refine bJ hk (nX hSw j1.out (by omega)).2 ?_; exact ⟨_,rfl,rfl⟩));try simp only [Act.put,au]
 refine ak 2 λK hK=>?_;go_simp;go_at_call 42
 (with_reducible refine (ir.out w.drew).mono ?_)
 rintro e w5 ⟨a5,n5,c5,rfl,hx5,hb5⟩;have ae:Hid (Below w.heap.size w w5):=hid (bst (below_drewN aI 1) hb5);have s8:=hid hx5;clear hb5 hx5;refine hK.out _ _ (Bo.of ae.out) λhld=>?_;clear hK K;try simp only [Act.put,au]
 refine ak 3 λK hK=>?_;go_simp;go_at_call 55
 (with_reducible refine (HC.out w5 ae.out a5 n5 c5 s8.out).mono ?_)
 rintro e w6 ⟨rfl,hb6⟩;simp +zetaDelta [bodyPost,Exit.then];exact bst ae.out hb6
theorem Wp (p:aL) (k:aN) (hk:k.length=32) (bt bk br:Nat) (bs:Nat) (v:aM) (w:World) (mu:Rg.Own w bt #[.pointer p] 46) (mw:Rg.Own w bk (Ky.kc k) 24) (h1:bt≠br) (h2:bk≠br)
  (hOr:Rg.Own w br #[.pointer none] 46) (M:Mp) (hi:Inv M w) (R:T) (hC:∀ w5,Below w.heap.size w w5->∀ a5 n5 c5,bf w5 a5 n5 c5 (Ky.bG k)->Calls prog 53 #[.agg #[.pointer p],.slice a5 n5 c5,.string v] w5 (dz (plus M (inS a5 n5)) w5 R)) (BW:Rg.Own w bs #[.string v] 9) (h3:bs≠br) :
  Calls prog 52 #[.pointer (some ⟨bt,0,none⟩),.pointer (some ⟨bk,0,none⟩),.pointer (some ⟨bs,0,none⟩),.pointer (some ⟨br,0,none⟩)] w (λe w'=>e = .returned (.tuple #[])/\∃ p' M' w6,IsT M' p' R/\St M w M' w6/\Rg.Upd w6 br w'/\Rg.Own w' br #[.pointer p'] 46):=by
 have ir:=hid (λwx=>Ky.vM k hk wx);have u4:=hid mu;have j1:=hid mw;have HF:Hid (∀ w5,Below w.heap.size w w5->∀ a5 n5 c5,bf w5 a5 n5 c5 (Ky.bG k)->∀ e w6,dz (plus M (inS a5 n5)) w5 R e w6->∃ p6,e = .returned (tv p6)/\Below w.heap.size w w6/\Rg.Own w6 br #[.pointer none] 46/\∀ ag,Rg.Own ag br #[.pointer p6] 46->Rg.Upd w6 br ag->∃ p' M' w6,IsT M' p' R/\St M w M' w6/\Rg.Upd w6 br ag/\Rg.Own ag br #[.pointer p'] 46):=hid (λw5 hb5 a5 n5 c5 hx e w6 hG=>by
  have hs:St M w (plus M (inS a5 n5)) w5:=((St.refl hi).below hb5).bytes hx;obtain ⟨p6,M6,he,hT,hS,_,hb6⟩:=hs.got hG;exact ⟨p6,he,hS.b,hOr.below hS.b,λag hO hu=>⟨p6,M6,w6,hT,hS,hu,hO⟩⟩)
 have HC:=hid hC;have L4:=hid BW;clear BW;clear hOr hC hi;clear mu mw;go_enter func52,ntmps52;go_wp2_with fail
 refine aD (S:=λw'=>Bo br w w') (Bo.of (below_drewN aI 1)) λhld=>?_;refine aj 0 ?_ (hy:=by intro wz hSw; (refine aW (aV (j:=0) (nX hSw u4.out (by omega)) rfl) ?_; exact ⟨_,rfl,rfl⟩));try simp only [Act.put,au]
 refine aj 1 ?_ (hy:=by intro wz hSw; (refine bJ hk (nX hSw j1.out (by omega)).2 ?_; exact ⟨_,rfl,rfl⟩));try simp only [Act.put,au]
 refine aj 3 ?_ (hy:=by intro wz hSw; (refine eH (aV (j:=0) (nX hSw L4.out (by omega)) rfl) ?_; exact ⟨_,rfl,rfl⟩));try simp only [Act.put,au]
 refine ak 2 λK hK=>?_;go_simp;go_at_call 42
 (with_reducible refine (ir.out w.drew).mono ?_)
 rintro e w5 ⟨a5,n5,c5,rfl,hx5,hb5⟩;have ae:Hid (Below w.heap.size w w5):=hid (bst (below_drewN aI 1) hb5);have s8:=hid hx5;clear hb5 hx5;refine hK.out _ _ (Bo.of ae.out) λhld=>?_;clear hK K;try simp only [Act.put,au]
 refine ak 4 λK hK=>?_;go_simp;go_at_call 53
 (with_reducible refine (HC.out w5 ae.out a5 n5 c5 s8.out).mono ?_)
 intro e w6 hG;obtain ⟨p6,rfl,cG,H6⟩:=HF.out w5 ae.out a5 n5 c5 s8.out e w6 hG;replace H6:=hid H6;clear hG;refine hK.out _ _ (Bo.of cG) λhld=>?_;clear hK K;try simp only [Act.put,au]
 refine ak 5 λK hK=>?_;refine iO (by rfl) H6.out.1 (off:=0) (by decide) p6 ⟨_,_,rfl,rfl,rfl⟩ ?_;intro ag ai al;have gE:=hid (H6.out.2 ag ai al);clear ai;refine hK.out _ _ ((Bo.of cG).upd al) λhld=>?_;clear hK K;try simp only [Act.put,au]
 refine aC ?_;go_wp2;go_end0;exact ⟨rfl,gE.out⟩
theorem Uc (p:aL) (k:aN) (hk:k.length=32) (bt bk br:Nat) (bs:Nat) (v:aM) (c:Int) (w:World) (mu:Rg.Own w bt #[.pointer p] 46) (mw:Rg.Own w bk (Ky.kc k) 24) (h1:bt≠br) (h2:bk≠br)
  (BW:Rg.Own w bs #[.string v] 9) (h3:bs≠br) (hC:∀ w5,Below w.heap.size w w5->∀ a5 n5 c5,bf w5 a5 n5 c5 (Ky.bG k)->Calls prog 53 #[.agg #[.pointer p],.slice a5 n5 c5,.string v] w5 (λe w'=>e = .panicked [fI c]/\Below w5.heap.size w5 w')) :
  Calls prog 52 #[.pointer (some ⟨bt,0,none⟩),.pointer (some ⟨bk,0,none⟩),.pointer (some ⟨bs,0,none⟩),.pointer (some ⟨br,0,none⟩)] w (λe w'=>e = .panicked [fI c]/\Below w.heap.size w w'):=by
 have ir:=hid (λwx=>Ky.vM k hk wx);have u4:=hid mu;have j1:=hid mw;have HC:=hid hC;have L4:=hid BW;clear hC BW;clear mu mw;go_enter func52,ntmps52;go_wp2_with fail
 refine wp_region_held_drew (S:=λw'=>Bo br w w') (by kernel_rfl) (Bo.of (below_drewN aI 1)) (λhld=>?_);refine aj 0 ?_ (hy:=by intro wz hSw; (refine aW (aV (j:=0) (nX hSw u4.out (by omega)) rfl) ?_; exact ⟨_,rfl,rfl⟩));try simp only [Act.put,au]
 refine aj 1 ?_ (hy:=by intro wz hSw; (refine bJ hk (nX hSw j1.out (by omega)).2 ?_; exact ⟨_,rfl,rfl⟩));try simp only [Act.put,au]
 refine aj 3 ?_ (hy:=by intro wz hSw; (refine eH (aV (j:=0) (nX hSw L4.out (by omega)) rfl) ?_; exact ⟨_,rfl,rfl⟩));try simp only [Act.put,au]
 refine ak 2 λK hK=>?_;go_simp;go_at_call 42
 (with_reducible refine (ir.out w.drew).mono ?_)
 rintro e w5 ⟨a5,n5,c5,rfl,hx5,hb5⟩;have ae:Hid (Below w.heap.size w w5):=hid (bst (below_drewN aI 1) hb5);have s8:=hid hx5;clear hb5 hx5;refine hK.out _ _ (Bo.of ae.out) λhld=>?_;clear hK K;try simp only [Act.put,au]
 refine ak 4 λK hK=>?_;go_simp;go_at_call 53
 (with_reducible refine (HC.out w5 ae.out a5 n5 c5 s8.out).mono ?_)
 rintro e w6 ⟨rfl,hb6⟩;simp +zetaDelta [bodyPost,Exit.then];exact bst ae.out hb6
open Ky
theorem SQ (w:World) (p:aL) (C:aO) (cs:aO) (T:TypeId):∃ w4,w4=((w.alloc (.cells #[.pointer p] 46)).alloc (.cells C 24)).alloc (.cells cs T)/\Rg.Own w4 w.heap.size #[.pointer p] 46/\Rg.Own w4 (w.heap.size+1) C 24/\Rg.Own w4 (w.heap.size+2) cs T/\Below w.heap.size w w4/\w4.heap.size=w.heap.size+3:=by
 have h2:=Rg.Own.new (w.alloc (.cells #[.pointer p] 46)) C 24;have h3:=Rg.Own.new ((w.alloc (.cells #[.pointer p] 46)).alloc (.cells C 24)) cs T;rw [show (w.alloc (.cells #[.pointer p] 46)).heap.size=w.heap.size+1 by simp] at h2;rw [show ((w.alloc (.cells #[.pointer p] 46)).alloc (.cells C 24)).heap.size=w.heap.size+2 by simp] at h3;exact ⟨_,rfl,((Rg.Own.new _ _ _).below (al1 _ _)).below (al1 _ _),h2.below (al1 _ _),h3,(al2 _ _ _).alloc (by simp; omega) _,by simp⟩
theorem VY (x:Int):∀ (j:Nat) (y:Int),(#[Value.int .i64 x]:aO)[j]? ≠ some (Value.int .u8 y):=λj y h=>by
 match j,h with
 | 0,h=>simp at h
 | j+1,h=>simp at h
theorem wG {w:World} {b:Nat} {t:TypeId} (h:Rg.Own w b #[v] t):w.cell? ⟨b,0,none⟩=some v/\w.frozen? ⟨b,0,none⟩=false:=⟨aV (j:=0) h rfl,fJ h⟩
def Uy:Option (Option aM)->Value
 | none=>.tuple #[.string eB,.int .i64 8]
 | some none=>.tuple #[.string eB,.int .i64 7]
 | some (some v)=>.tuple #[.string v,.int .i64 0]
theorem qY (p:aL) (k:aN) (x:aM) (c:Int) (w w4:World) (hw4:w4=((w.alloc (.cells #[.pointer p] 46)).alloc (.cells (kc k) 24)).alloc (.cells #[.string eB] 9))
  (h:Calls prog 51 #[.func (.func 54) #[] #[.pointer (some ⟨w.heap.size,0,none⟩),.pointer (some ⟨w.heap.size+1,0,none⟩),.pointer (some ⟨w.heap.size+2,0,none⟩)]] w4 λe w'=>e = .returned (.int .i64 c)/\Rg.Own w' (w.heap.size+2) #[.string x] 9/\Below w.heap.size w w') :
  Calls prog 29 #[.agg #[.pointer p],.agg (kc k)] w λe w'=>e = .returned (.tuple #[.string x,.int .i64 c])/\Below w.heap.size w w':=by
 have dT:∀ (fn:Fn) (first cap:aO) (w:World),(Instr.makeFunc fn first cap).run prog w = .ok (.func fn first cap) w:=λ_ _ _ _=>rfl;obtain ⟨C,hC⟩:=aA (kc k)
 have HH:=hid h;have HW:=hid hw4;rw [hC] at HW ⊢;clear h hw4 hC;go_enter func29,ntmps29;go_wp2_with fail
 rw [<-HW.out];refine HH.out.mono ?_;rintro e w5 ⟨rfl,bo,eh⟩;have cf:=hid bo;have ae:=hid eh;clear bo eh HH HW dT;go_wp2_with (first
  | (refine aB (eH (aV (j:=0) cf.out rfl) ⟨_,rfl,rfl⟩) ?_)
  | (refine CZ cf.out x rfl _ _ rfl rfl rfl ?_; intro w6 bj cm; have cF:=hid bj; have ax:Hid (Below w.heap.size w w6):=hid (cm.below ae.out (by omega)); clear bj cm))
 exact bodyPost_ret (Te rfl _ rfl cF.out) rfl ⟨rfl,ax.out⟩
theorem FU (M:Mp) (p:aL) (t:T) (k:aN) (hk:k.length=32) (w:World) (hi:Inv M w) (ht:IsT M p t) (hg:Tr.Good t 64) :
  Calls prog 29 #[.agg #[.pointer p],.agg (kc k)] w λe w'=>e = .returned (Uy (Tr.get t (path k)))/\Below w.heap.size w w':=by
 obtain ⟨w4,hw4,ap,am,hO2,hb4,hs4⟩:=SQ w p (kc k) #[.string eB] 9;have hE:Rg.Own (w4.alloc (.cells #[.int .i64 0] 29)) w4.heap.size #[.int .i64 0] 29:=Rg.Own.new _ _ _;have hA:=al1 w4 (.cells #[.int .i64 0] 29);obtain ⟨wc,hwc⟩:=aA (w4.alloc (.cells #[.int .i64 0] 29))
 rw [hwc] at hE hA;have hbc:=bst hb4 hA;have hic:=hi.below hbc;have hpl:(path k).length=64:=by rw [Tr.iH,hk]
 have hfind:∀ w5,Below wc.heap.size wc w5->∀ a5 n5 c5,bf w5 a5 n5 c5 (bG k)->Calls prog 55 #[.agg #[.pointer p],.slice a5 n5 c5] w5 (λe w'=>e=lD (Tr.get t (path k))/\Below w5.heap.size w5 w'):=λw5 hb5 a5 n5 c5 hx =>
  Rt t M w5 p a5 n5 c5 (path k) (hic.below hb5) ht hx (by rw [hpl]; exact hg) (mU k) (by omega)
 have hD:∀ wx,(callFunc 54 #[.pointer (some ⟨w.heap.size,0,none⟩),.pointer (some ⟨w.heap.size+1,0,none⟩),.pointer (some ⟨w.heap.size+2,0,none⟩)]).run prog wx = .ok (.enter 54 #[.pointer (some ⟨w.heap.size,0,none⟩),.pointer (some ⟨w.heap.size+1,0,none⟩),.pointer (some ⟨w.heap.size+2,0,none⟩)]) wx:=by intro wx; kernel_rfl
 have mx:∀ c:Int,lD (Tr.get t (path k)) = .panicked [fI c]->Uy (Tr.get t (path k)) = .tuple #[.string eB,.int .i64 c]->Calls prog 29 #[.agg #[.pointer p],.agg (kc k)] w λe w'=>e = .returned (Uy (Tr.get t (path k)))/\Below w.heap.size w w':=λc hc hv=>by
  rw [hv];refine qY p k eB c w w4 hw4 ((Tk.qA 54 _ hD w4 c (λw'=>Below wc.heap.size wc w') (by
   rw [hwc];refine (Tp p k hk _ _ _ c wc (ap.below hA) (am.below hA) (by omega) (by omega) (λw5 hb5 a5 n5 c5 hx=>by rw [<-hc]; exact hfind w5 hb5 a5 n5 c5 hx)).mono ?_;rintro e w' ⟨rfl,hb⟩;exact ⟨rfl,wG (hE.below hb),hb⟩)).mono ?_)
  rintro e w' ⟨rfl,w1,hb,rfl⟩;exact ⟨rfl,((hO2.below hA).below hb).upd (bM _ _ _ _) (by omega),(bM w1 w4.heap.size 0 (.int .i64 c)).below (bst hbc hb) (by omega)⟩
 match hget:Tr.get t (path k),hfind,mx with
 | none,_,mx=>exact mx 8 rfl rfl
 | some none,_,mx=>exact mx 7 rfl rfl
 | some (some v),hfind,_ =>
  refine qY p k v 0 w w4 hw4 ((Tk.qg 54 _ hD w4 (λw'=>Rg.Own w' (w.heap.size+2) #[.string v] 9/\Bo (w.heap.size+2) wc w'/\Below w.heap.size w w') (by
   rw [hwc];refine ((WT p k hk w.heap.size (w.heap.size+1) (w.heap.size+2) v wc (ap.below hA) (am.below hA) (by omega) (by omega) (hO2.below hA) (λw5 hb5 a5 n5 c5 hx=>hfind w5 hb5 a5 n5 c5 hx))).mono ?_;rintro e w' ⟨rfl,hO,hb⟩;have hbw:Below w.heap.size w w':=hb.below hbc (by have:=hbc.size; omega) (by omega);exact ⟨rfl,wG (nX hb hE (by omega)),hO,hb,hbw⟩)).mono ?_)
  rintro e w' ⟨rfl,w1,⟨hO,hb,hB⟩,rfl⟩;exact ⟨rfl,hO.upd (bM _ _ _ _) (by omega),(bM w1 w4.heap.size 0 (.int .i64 0)).below hB (by omega)⟩
def GN (M:Mp) (w:World) (t:T) (c:Int) (e:Ending) (w':World):Prop:=∃ p M',e = .returned (.tuple #[tv p,.int .i64 c])/\IsT M' p t/\Fr M M' w w'/\Inv M' w'/\Below w.heap.size w w'
def LG (M:Mp) (w:World) (br:Nat) (t:T) (w':World):Prop:=∃ p M',Rg.Own w' br #[.pointer p] 46/\IsT M' p t/\Fr M M' w w'/\Inv M' w'/\Below w.heap.size w w'/\¬ M'.ft br
theorem LG.end_ {M:Mp} {w w5 w6:World} {br:Nat} {t:T} {c:Int} (h:LG M w br t w5) (hg:w.heap.size<=br):∃ p,Rg.Own w5 br #[.pointer p] 46/\∀ w6,Rg.Upd w5 br w6->GN M w t c (.returned (.tuple #[tv p,.int .i64 c])) w6:=by
 obtain ⟨p,M',hO,hT,f,i,b,hn⟩:=h;exact ⟨p,hO,λw6 hu=>⟨p,M',rfl,hT,f.upd hu hg,i.upd hu hn,hu.below b hg⟩⟩
theorem XU {M M':Mp} {w wc w6:World} {br be:Nat} {p:aL} {t:T} {cs:aO} {te:TypeId} (hi:Inv M w) (hbc:Below w.heap.size w wc) (hT:IsT M' p t) (hS:St M wc M' w6) (hu:Rg.Upd w6 br w1) (hO:Rg.Own w1 br #[.pointer p] T')
  (hOr:Rg.Own wc br #[.pointer none] 46) (SJ:Rg.Own wc be cs te) (hne:∀ (j:Nat) (x:Int),cs[j]? ≠ some (Value.int .u8 x)) (hgr:w.heap.size<=br) (hge:w.heap.size<=be) (hre:br≠be) (rq:T'=46) (x:Value):LG M w br t (w1.setCell ⟨be,0,none⟩ x):=by
 subst rq;have hu2:=bM w1 be 0 x;have nr:¬ M'.ft br:=hS.f.box (hi.free hgr) hOr.1 (fO hOr (jv _));have ne:¬ M'.ft be:=hS.f.box (hi.free hge) SJ.1 (fO SJ hne);have hf:=(((Fr.below M hbc).trans hi hS.f).upd hu hgr).upd hu2 hge;exact ⟨p,M',hO.upd hu2 hre,hT,hf,(hS.i.upd hu nr).upd hu2 ne,hu2.below (hu.below (bst hbc hS.b) hgr) hge,nr⟩
theorem Iq (M:Mp) (p:aL) (k:aN) (v:aM) (hv0:v.size≠0) (hv1:v.size<=65552) (R:T) (c:Int) (w w4:World) (hw4:w4=(((w.alloc (.cells #[.pointer p] 46)).alloc (.cells (kc k) 24)).alloc (.cells #[.string v] 9)).alloc (.cells #[.pointer none] 46))
  (h:Calls prog 51 #[.func (.func 52) #[] #[.pointer (some ⟨w.heap.size,0,none⟩),.pointer (some ⟨w.heap.size+1,0,none⟩),.pointer (some ⟨w.heap.size+2,0,none⟩),.pointer (some ⟨w.heap.size+3,0,none⟩)]] w4 λe w'=>e = .returned (.int .i64 c)/\LG M w (w.heap.size+3) R w') :
  Calls prog 28 #[.agg #[.pointer p],.agg (kc k),.string v] w (GN M w R c):=by
 have dT:∀ (fn:Fn) (first cap:aO) (w:World),(Instr.makeFunc fn first cap).run prog w = .ok (.func fn first cap) w:=λ_ _ _ _=>rfl;have hne:=Ni.dJ (s:=v) (by omega);have hd:decide ((65552:Int)<(v.size:Int))=false:=by simp; omega
 obtain ⟨C,hC⟩:=aA (kc k)
 have HH:=hid h;have HW:=hid hw4;rw [hC] at HW ⊢;clear h hw4 hC;go_enter func28,ntmps28;go_wp2_with (first
  | (refine aB (bA _ _ _ (w.heap.size+3) (by simp) rfl) ?_)
  | (refine aB (eH (s:=v) (by simp) ⟨_,rfl,rfl⟩) ?_)
  | (refine Rg.runW (by rfl) _ _ (eH (s:=v) (by simp) ⟨_,rfl,rfl⟩) ?_))
 rw [<-HW.out];refine HH.out.mono ?_;rintro e w5 ⟨rfl,hB⟩;obtain ⟨p5,bo,SM⟩:=hB.end_ (w6:=w5) (c:=c) (by omega);have cf:=hid bo;have Zt:=hid SM;clear hB bo SM HH HW dT;go_wp2_with (first
  | (refine aB (aW (aV (j:=0) cf.out rfl) ⟨_,rfl,rfl⟩) ?_)
  | (refine bL cf.out (by simp) p5 rfl _ _ rfl rfl rfl ?_; intro w6 bj cm; have cF:=hid bj; have Zu:=hid cm; clear bj cm))
 exact bodyPost_ret (Oe (q:=6) (u:=7) rfl _ rfl cF.out) rfl (Zt.out w6 Zu.out)
theorem zK (M:Mp) (p:aL) (t:T) (k:aN) (hk:k.length=32) (v:aM) (hv0:v.size≠0) (hv1:v.size<=65552) (w:World) (hi:Inv M w) (ht:IsT M p t) (hg:Tr.Good t 64) :
  (Tr.get t (path k)=none->Calls prog 28 #[.agg #[.pointer p],.agg (kc k),.string v] w (GN M w .nil 8))/\
  (Tr.get t (path k)≠none->Calls prog 28 #[.agg #[.pointer p],.agg (kc k),.string v] w (GN M w (put t (path k) v) 0)):=by
 obtain ⟨w3,hw3,ap,am,hO2,hb3,hs3⟩:=SQ w p (kc k) #[.string v] 9;obtain ⟨w4,hw4⟩:=ay (w3.alloc (.cells #[.pointer none] 46))
 have pZ:Below w3.heap.size w3 w4:=by rw [hw4]; exact al1 _ _
 have hOr:Rg.Own w4 (w.heap.size+3) #[.pointer none] 46:=by rw [hw4,<-hs3]; exact Rg.Own.new _ _ _
 have hs4:w4.heap.size=w.heap.size+4:=by rw [hw4]; simp [hs3]
 have hb4:=bst hb3 pZ;replace ap:=ap.below pZ;replace am:=am.below pZ;replace hO2:=hO2.below pZ;have ua:=hw4;rw [hw3] at ua;have hE:Rg.Own (w4.alloc (.cells #[.int .i64 0] 29)) w4.heap.size #[.int .i64 0] 29:=Rg.Own.new _ _ _;have hA:=al1 w4 (.cells #[.int .i64 0] 29);obtain ⟨wc,hwc⟩:=aA (w4.alloc (.cells #[.int .i64 0] 29))
 rw [hwc] at hE hA;have hbc:=bst hb4 hA;have hic:=hi.below hbc;have hpl:(path k).length=64:=by rw [Tr.iH,hk]
 have hD:∀ wx,(callFunc 52 #[.pointer (some ⟨w.heap.size,0,none⟩),.pointer (some ⟨w.heap.size+1,0,none⟩),.pointer (some ⟨w.heap.size+2,0,none⟩),.pointer (some ⟨w.heap.size+3,0,none⟩)]).run prog wx = .ok (.enter 52 #[.pointer (some ⟨w.heap.size,0,none⟩),.pointer (some ⟨w.heap.size+1,0,none⟩),.pointer (some ⟨w.heap.size+2,0,none⟩),.pointer (some ⟨w.heap.size+3,0,none⟩)]) wx:=by intro wx; kernel_rfl
 refine ⟨λhget=>?_,λhget=>?_⟩
 .refine Iq M p k v hv0 hv1 .nil 8 w w4 ua ((Tk.qA 52 _ hD w4 8 (λw'=>Below wc.heap.size wc w') (by
   rw [hwc];refine (Uc p k hk _ _ (w.heap.size+3) _ v 8 wc (ap.below hA) (am.below hA) (by omega) (by omega) (hO2.below hA) (by omega) (λw5 hb5 a5 n5 c5 hx=>?_)).mono ?_
   .exact (Gc t (plus M (inS a5 n5)) w5 p a5 n5 c5 (path k) v ((hic.below hb5).plus (λk hk=>(wE hx hk).2)) (Ba ht) (Bs.in_ hx) (by rw [hpl]; exact hg) (mU k) (by omega)).1 hget
   rintro e w' ⟨rfl,hb⟩;exact ⟨rfl,wG (hE.below hb),hb⟩)).mono ?_)
  rintro e w' ⟨rfl,w1,hb,rfl⟩;have hu2:=bM w1 w4.heap.size 0 (.int .i64 8);have hbw:=hu2.below (bst hbc hb) (by omega);exact ⟨rfl,none,M,((hOr.below hA).below hb).upd hu2 (by omega),rfl,Fr.below M hbw,hi.below hbw,hbw,hi.free (by omega)⟩
 .refine Iq M p k v hv0 hv1 (put t (path k) v) 0 w w4 ua ((Tk.qg 52 _ hD w4 (λw'=>∃ p' M' w6,IsT M' p' (put t (path k) v)/\St M wc M' w6/\Rg.Upd w6 (w.heap.size+3) w'/\Rg.Own w' (w.heap.size+3) #[.pointer p'] 46) (by
   rw [hwc];refine (Wp p k hk _ _ (w.heap.size+3) _ v wc (ap.below hA) (am.below hA) (by omega) (by omega) (hOr.below hA) M hic (put t (path k) v) (λw5 hb5 a5 n5 c5 hx=>?_) (hO2.below hA) (by omega)).mono ?_
   .exact (Gc t (plus M (inS a5 n5)) w5 p a5 n5 c5 (path k) v ((hic.below hb5).plus (λk hk=>(wE hx hk).2)) (Ba ht) (Bs.in_ hx) (by rw [hpl]; exact hg) (mU k) (by omega)).2 hget
   rintro e w' ⟨rfl,p',M',w6,h1,h2,h3,h4⟩;exact ⟨rfl,wG ((hE.below h2.b).upd h3 (by omega)),p',M',w6,h1,h2,h3,h4⟩)).mono ?_)
  rintro e w' ⟨rfl,w1,⟨p',M',w6,h1,h2,h3,h4⟩,rfl⟩;exact ⟨rfl,XU hi hbc h1 h2 h3 h4 (hOr.below hA) hE (VY _) (by omega) (by omega) (by omega) rfl _⟩
theorem Bx.fr {M M':Mp} {w w':World} {cs:aO} {t:TypeId} (h:Bx M w g cs t) (f:Fr M M' w w') (b:Below w.heap.size w w'):Bx M' w' g cs t:=h.got f b
theorem St.te {M M1:Mp} {w w2:World} {t:T} {c:Int} {e:Ending} (s:St M w M1 w1) (h:GN M1 w1 t c e w2):∃ p M2,e = .returned (.tuple #[tv p,.int .i64 c])/\IsT M2 p t/\St M w M2 w2/\Fr M1 M2 w1 w2/\Below w1.heap.size w1 w2:=by
 obtain ⟨p,M2,he,ht,f,i,b⟩:=h;exact ⟨p,M2,he,ht,⟨s.f.trans s.i0 f,i,bst s.b b,s.i0⟩,f,b⟩
def EY (l:List Tr.Pair):Prop:=(∀ x∈l,x.1.length=32)/\∀ x∈l,x.2.size≠0/\x.2.size<=65552
theorem EY.has {l:List Tr.Pair} (h:EY l):Has (bW .nil l) (dQ l):=MH l.length l rfl h.1 h.2
theorem EY.take {l:List Tr.Pair} (h:EY l) (j:Nat):EY (l.take j):=⟨λx hx=>h.1 x (List.mem_of_mem_take hx),λx hx=>h.2 x (List.mem_of_mem_take hx)⟩
theorem VD {t:T} {m:Tr.Key->Option aM} (h:Has t m) {k:Tr.Key} (hk:k.length=32):Tr.get t (path k)≠none:=by
 rw [h.get k hk];intro e;cases e
theorem FK (M:Mp) (a:aL) (n c:Nat) (l:List Tr.Pair) (hok:EY l) (w:World) (hi:Inv M w) (h:fT w a n c l) (hn:n<=1000000) :
  Calls prog 15 #[.slice a n c] w (dz M w (bW .nil l)):=by
 obtain ⟨w2,hw2,ap,am,hb2,hs2⟩:=mV w none;have hS2:St M w M w2:=(St.refl hi).below hb2;have hX0:Bx M w2 w.heap.size #[.pointer none] 46:=⟨ap,hi.free (by omega),jv _⟩
 have hX1:Bx M w2 (w.heap.size+1) #[.pointer none] 46:=⟨am,hi.free (by omega),jv _⟩
 have hl:=h.len;have hcap:=h.1;have hmx:=h.2.1;unfold maxLen at hmx;have H:=hid h;have j1:=hid hok;have HL:=hid hl;have HS2:=hid hS2;have HX0:=hid hX0;have j2:=hid hX1;have HW2:Hid (_=_):=hid hw2;clear ap am hb2 hs2 hw2 hS2 hX0 hX1 h hok hl hi;go_enter func15,ntmps15;go_wp2_with (first | (refine aB (bA _ _ _ w.heap.size rfl rfl) ?_) | (refine aB (bA _ _ _ (w.heap.size+1) (by simp) rfl) ?_))
 rw [<-HW2.out];clear HW2;go_loopw [10] (λi wr=>∃ (j:Nat) (p:aL) (Mr:Mp),j<=n/\i = .int .i64 j/\Hid (St M w Mr wr)/\Hid (Bx Mr wr w.heap.size #[.pointer none] 46)/\Hid (Bx Mr wr (w.heap.size+1) #[.pointer p] 46)/\Hid (IsT Mr p (bW .nil (l.take j)))) (λi _=>n-(intOf i).toNat)
 case atStart=>exact ⟨0,none,M,Nat.zero_le _,rfl,HS2,HX0,j2,hid rfl⟩
 case round =>
  obtain ⟨j,p,Mr,hj,rfl,HS,HA,HB,HT⟩:=hrel;clear HS2 HX0 j2;by_cases hlt:j<n
  .obtain ⟨b,off,rfl,hblt,hpa,hk⟩:=H.out.at' j hlt;have HE:Hid (l.getD j ([],eB)∈l/\l.take (j+1)=l.take j++[l.getD j ([],eB)]):=hid (by
    have hjl:j<l.length:=by rw [HL.out]; exact hlt
    have e:l.getD j ([],eB)=l[j]:=by simp [List.getD,hjl]
    rw [e];exact ⟨List.getElem_mem _,List.take_succ_eq_append_getElem hjl⟩)
   obtain ⟨x,hx⟩:=aA (l.getD j ([],eB))
   rw [hx] at hpa hk HE;have hpr:=hpa.below HS.out.b;have hx2:=j1.out.2 x HE.out.1;have hh:=(j1.out.take j).has;have pA:=HS.out.b.size;have kf:=hid (λw5 (h5:Inv Mr w5)=>(zK Mr p _ x.1 hk x.2 hx2.1 hx2.2 w5 h5 HT.out hh.good).2 (VD hh hk));rw [<-yX,<-HE.out.2] at kf;have m7:=hid hpr;have rx:=hid hk;have hNew:=Rg.Own.new wr (dN (List.replicate 32 0,eB)) 60;have HN:=hid hNew;have Zv:=hid hx2;obtain ⟨k,v⟩:=x;clear hx hpa hk hpr hx2 hh hNew HE HT;dsimp only at kf rx;go_wp2_with (first
    | (refine aB (dU rx.out m7.out ⟨_,rfl,rfl⟩) ?_)
    | (refine aB (lI _ _ _ wr.heap.size rfl rfl) ?_)
    | (refine jq HN.out (by simp) (k,v) rx.out rfl _ _ rfl rfl rfl rfl ?_; intro w5 bo bd; have cf:=hid bo; have ae:Hid (Below wr.heap.size wr w5):=hid (bd.below (al1 _ _) aH); clear bo bd)
    | (refine aB (aW (aV (j:=0) (HB.out.o.below ae.out) rfl) ⟨_,rfl,rfl⟩) ?_)
    | (refine aB (bH rx.out (cK.own cf.out).key ⟨_,rfl,rfl⟩) ?_)
    | (refine aB (eH (s:=v) ((cK.own cf.out).val rx.out) ⟨_,rfl,rfl⟩) ?_))
   have hS5:=HS.out.below ae.out;have hA5:=HA.out.below ae.out;have eh:=HB.out.below ae.out;refine (kf.out w5 hS5.i).mono ?_;intro e w6 hG;obtain ⟨p6,M6,rfl,tU,iS,e8,hb6⟩:=hS5.te hG;have hA6:=hA5.fr e8 hb6;have cG:=eh.fr e8 hb6;have Gk:=hid tU;have q8:=hid iS;have Zw:=hid hA6;have ax:=hid cG;have hs6:=iS.b.size;have hlb:=cG.o.1;have hNew:=Rg.Own.new w6 #[.pointer none] 46;have cz:=hid hNew;clear hG tU iS e8 hb6 hA6 cG hS5 hA5 eh kf cf ae HN m7 Zv hNew HS HA HB;go_wp2_with (first
    | (refine aB (bA _ _ _ w6.heap.size rfl rfl) ?_)
    | (refine bL cz.out (by decide) p6 rfl _ _ rfl rfl rfl ?_; intro w7 lx e9; have eK:=hid lx; have cA:Hid (Below w6.heap.size w6 w7):=hid (e9.below (al1 _ _) aH); clear lx e9)
    | (refine aB (aW (aV (j:=0) eK.out rfl) ⟨_,rfl,rfl⟩) ?_)
    | (refine bL (ax.out.o.below cA.out) (by simp) p6 rfl _ _ rfl rfl rfl ?_; intro w8 gR mm; have cJ:=hid gR; have tD:=hid mm; clear gR mm))
   have B4:=q8.out.below cA.out;have hA7:=Zw.out.below cA.out;have GB:=ax.out.below cA.out;go_roundw
   case rel=>exact ⟨j+1,p6,M6,by omega,by go_num,hid (B4.upd tD.out (by omega) GB.n),hid (hA7.upd tD.out (by omega)),hid ⟨cJ.out,GB.n,jv _⟩,Gk⟩
   case measure=>simp [intOf]; omega
  .obtain rfl:j=n:=by omega
   have AK:Hid (IsT Mr p (bW .nil l)):=hid (by
    have:=HT.out;rwa [List.take_of_length_le (by rw [HL.out]; exact aH)] at this)
   clear HT;go_wp2_with (first
    | (refine aB (aW (aV (j:=0) HB.out.o rfl) ⟨_,rfl,rfl⟩) ?_)
    | (refine bL HA.out.o (by decide) p rfl _ _ rfl rfl rfl ?_; intro w8 gR mm; have cJ:=hid gR; have tD:=hid mm; clear gR mm))
   have pS:=HS.out.upd tD.out aH HA.out.n;exact bodyPost_ret (gB rfl _ rfl cJ.out) rfl ⟨p,Mr,rfl,AK.out,pS.f,pS.i,pS.b⟩
open No
open Rf
open Rl
open Sm (Tab)
structure Lw (w0:World) (M:Mp) (w:World):Prop where
 f:Fr M0 M w0 w
 i:Inv M w
 t:Tab w
 z:0<w0.heap.size
theorem Lw.start {w:World} (hT:Tab w):Lw w M0 w:=⟨Fr.refl _ _,Inv.zero w,hT,hT.pos⟩
theorem Lw.b {w0 w:World} {M:Mp} (h:Lw w0 M w):Below w0.heap.size w0 w:=h.f.all
theorem Lw.below {w0 w w':World} {M:Mp} (h:Lw w0 M w) (hb:Below w.heap.size w w'):Lw w0 M w':=⟨h.f.trans (Inv.zero _) (Fr.below M hb),h.i.below hb,h.t.below hb h.t.pos,h.z⟩
theorem Lw.fr {w0 w w':World} {M M':Mp} (h:Lw w0 M w) (f:Fr M M' w w') (i:Inv M' w') (t:Tab w'):Lw w0 M' w':=⟨h.f.trans (Inv.zero _) f,i,t,h.z⟩
theorem Lw.got {w0 w w':World} {M:Mp} {t:T} {e:Ending} (h:Lw w0 M w) (g:dz M w t e w'):∃ p M',e = .returned (tv p)/\IsT M' p t/\Lw w0 M' w'/\Fr M M' w w'/\Below w.heap.size w w':=by
 obtain ⟨p,M',he,ht,f,i,b⟩:=g;exact ⟨p,M',he,ht,h.fr f i (h.t.below b h.t.pos),f,b⟩
theorem Lw.upd {w0 w w':World} {M:Mp} {g:Nat} (h:Lw w0 M w) (hu:Rg.Upd w g w') (hg:w0.heap.size<=g) (hf:¬ M.ft g):Lw w0 M w' :=
 ⟨h.f.upd hu hg,h.i.upd hu hf,λi hi=>by rw [World.cell?_of_block (hu.block 0 (by have:=h.z; omega))]; exact h.t i hi,h.z⟩
theorem xk {M M':Mp} {w w':World} {cs:aO} {t:TypeId} (h:Rg.Own w g cs t) (f:Fr M M' w w') (hm:M.at_ g=none):Rg.Own w' g cs t:=⟨aJ h.1 f.size,(f.block g h.1 hm).trans h.2⟩
theorem Sv {M:Mp} {w:World} (hi:Inv M w) {g:Nat} (h:¬ M.ft g):M.at_ g=none:=by
 cases hm:M.at_ g with
 | none=>rfl
 | some t=>exact absurd (hi.part_ g t hm).2.1 h
theorem Bx.frm {M M':Mp} {w w':World} {cs:aO} {t:TypeId} (h:Bx M w g cs t) (hi:Inv M w) (f:Fr M M' w w'):Bx M' w' g cs t:=⟨xk h.o f (Sv hi h.n),f.box h.n h.o.1 (fO h.o h.h),h.h⟩
theorem yt {M M':Mp} {w w':World} {j:Nat} {x:Int} {cs:aO} {t:TypeId} (h:Rg.Own w g cs t) (hx:cs[j]? = some (.int .u8 x)) (hi:Inv M w) (f:Fr M M' w w'):Rg.Own w' g cs t:=xk h f (hi.fO (aV h hx))
theorem Mf (hk:k.length=32):(kc k)[0]? = some (.int .u8 (k.getD 0 0).toNat):=by
 simp [kc,List.getD,hk]
theorem cK.frm {M M':Mp} {w w':World} {b o:Nat} {x:Tr.Pair} (h:cK w b o x) (hk:x.1.length=32) (hi:Inv M w) (f:Fr M M' w w'):cK w' b o x:=λj v hv=>by
 have h0:w.cell? ⟨b,o+0,none⟩=some (.int .u8 (x.1.getD 0 0).toNat):=h 0 _ (by
  unfold iF;rw [List.getElem?_append_left (by simp [hk])];simp [List.getD,hk])
 rw [f.cell (World.block_lt_of_cell? w _ h0) (hi.fO h0)];exact h j v hv
theorem fT.frm {M M':Mp} {w w':World} {a:aL} {n c:Nat} {l:List Tr.Pair} (h:fT w a n c l) (hi:Inv M w) (f:Fr M M' w w'):fT w' a n c l :=
 ⟨h.1,h.2.1,h.2.2.1,h.2.2.2.1,h.2.2.2.2.1,λj hj=>by
  obtain ⟨b,off,e,hlt,hp,hk⟩:=h.at' j hj;exact ⟨b,off,e,aJ hlt f.size,hp.frm hk hi f⟩⟩
theorem TH {w:World} {b:Nat} {t:TypeId} {l:List Tr.Pair} (h:Rg.Own w b (rowP l).toArray t) (hk:∀ x∈l,x.1.length=32) (hn:l.length<=1000000):fT w (some ⟨b,0,none⟩) l.length l.length l:=by
 refine ⟨aH,by unfold maxLen; omega,rfl,λe=>(by cases e),hk,λj hj=>⟨b,0,rfl,h.1,λi v hv=>?_⟩⟩;have hkj:(l.getD j ([],eB)).1.length=32:=hk _ (jL hj);have hi:i<33:=by
  have:=(List.getElem?_eq_some_iff.1 hv).1;rwa [fD hkj] at this
 refine aV h ?_;rw [Nat.zero_add];simpa [zn l hk j i hj hi] using hv
theorem vF {rest:List Oper} {w:World} {b off:Nat} {cs:aO} {t:TypeId} (h:Rg.Own w b cs t) (hof:off<cs.size) (x:Int)
  (hgd:o.guard=none) (p q:Operand) (ho:o.op = .store 5 p q) (hx:act.eval p = .pointer (some ⟨b,off,none⟩)) (hy:act.eval q = .int .u8 x)
  (hQ:∀ w',Rg.Own w' b (cs.setIfInBounds off (.int .u8 x)) t->Rg.Upd w b w'->wpList prog ops Q rest (act.put o.dst undef) w'):wpList prog ops Q (o::rest) act w :=
 wpList_plain hgd λK hK=>by
  have hc:w.cell? ⟨b,off,none⟩=some cs[off]:=aV h (Array.getElem?_eq_getElem hof);have hz:w.frozen? ⟨b,off,none⟩=false:=fJ h;have hst:(Instr.storeAt 5 (.pointer (some ⟨b,off,none⟩)) (.int .u8 x)).run prog w = .ok () (w.setCell ⟨b,off,none⟩ (.int .u8 x)):=by
   simp [go_sem,hc,hz]
  unfold Oper.wp execOp;simp only [ho,hx,hy,Sem.run_bind,Sem.run_pure,Result.andThen_ok,hst];exact hK _ _ (hQ _ (bZ h _) (bM _ _ _ _))
theorem SV (k:aN) (i:Nat) (x:UInt8):(kc k).setIfInBounds i (.int .u8 x.toNat)=kc (k.set i x):=by
 unfold kc;rw [List.map_set];simp
theorem Fq {w:World} {x z:Tr.Pair} (hk:x.1.length=32) (hz:z.1.length=32) (b:Nat) (hb:b=w.heap.size) (ho:∃ p q,o.op = .buildSlice 42 2 #[(0,p),(1,q)]/\ev p = .agg (dN x)/\ev q = .agg (dN z)) :
  (execOp ev o).run prog w = .ok (.value (.slice (some ⟨b,0,none⟩) 2 2)) (w.alloc (.cells (rowP [x,z]).toArray 60)):=by
 obtain ⟨p,q,ho,hx,hy⟩:=ho;obtain ⟨k,v⟩:=x;obtain ⟨k',v'⟩:=z;subst hb;unfold execOp;simp only [ho,List.map_toArray,List.map_cons,List.map_nil,hx,hy];obtain ⟨a0,a1,a2,a3,a4,a5,a6,a7,b0,b1,b2,b3,b4,b5,b6,b7,c0,c1,c2,c3,c4,c5,c6,c7,d0,d1,d2,d3,d4,d5,d6,d7,rfl⟩:=sO k hk;obtain ⟨e0,e1,e2,e3,e4,e5,e6,e7,f0,f1,f2,f3,f4,f5,f6,f7,g0,g1,g2,g3,g4,g5,g6,g7,h0,h1,h2,h3,h4,h5,h6,h7,rfl⟩:=sO k' hz;kernel_rfl
def ka:aN:=zk
def kb:aN:=zk.set 0 16
def sx:aM:=⟨#[120]⟩
def sy:aM:=⟨#[121]⟩
def lAB:List Tr.Pair:=[(ka,sx),(kb,sy)]
def lB:List Tr.Pair:=[(kb,sy)]
theorem JU:ka.length=32:=rfl
theorem pE:kb.length=32:=rfl
theorem XT:EY lAB:=⟨λx hx=>by rcases List.mem_cons.1 hx with rfl | hx; exact JU; rw [List.mem_singleton.1 hx]; exact pE,λx hx=>by rcases List.mem_cons.1 hx with rfl | hx; exact ⟨by decide,by decide⟩; rw [List.mem_singleton.1 hx]; exact ⟨by decide,by decide⟩⟩
theorem lastB (k:aN):dQ lB k=if kb=k then some sy else none:=rfl
theorem TF (k:aN):dQ lAB k=if kb=k then some sy else if ka=k then some sx else none:=by
 show (match dQ lB k with | some v=>some v | none=>if ka=k then some sx else none)=_;rw [lastB];by_cases h:kb=k
 .rw [if_pos h,if_pos h]
 .rw [if_neg h,if_neg h]
theorem jr:Has (bW .nil lAB) (dQ lAB):=XT.has
theorem WW:Tr.get (bW .nil lAB) (path kb)=some (some sy):=by rw [jr.get kb pE,TF,if_pos rfl]
end Tm
end
section
open Go.RowKit
namespace Rf
open Rl Ni No
theorem vX {B n:Nat} {w w':World} {xs:List Value} (h:w.ownsRow B e 1 v n xs) (hb:Below w.heap.size w w'):w'.ownsRow B e 1 v n xs:=h.kept (Bu.gN hb) (by cases v.ownBlock <;> simp)
end Rf
end
section
open Go.RowKit
namespace Tm
open Tr Ni Pk Ky No Rf Rl
open Sm (Tab)
section
variable {ks:List aM} {ps:List (aL)} {j:Nat}
end
namespace Aw
variable {w0:World} {M M':Mp} {w w':World} {gu gb gn:Nat} {pu:aL} {C:aO} {KB:aN}
end Aw
end Tm
end
section
open Go.RowKit Go.ChangeShapes Go.WideShapes
theorem Xn (h:(Lit.int .u8 n).wf=true):0<=n/\n<256:=by
 have:=bounds_u8 h;omega
end
section
open Go.RowKit Go.ChangeShapes Go.WideShapes
namespace Ky
def byteOf:Value->UInt8
 | .int _ n=>UInt8.ofNat n.toNat
 | _=>0
theorem TJ {H:Type} {enc:TypeId × Value->H} {w:World} {t:TypeId} {d:DataW H} {p:List MemPlace}
  (ht:P.underlying t=some (.array 32 e)) (he:P.underlying e=some (.int .u8)) (hc:P.cellsOf e=1) (hct:P.cellsOf t=32)
  (hv:Value.okWide P w .any base t v) (h:DataW.Trod enc P w 0 (λ_=>true) true t v d p):∃ k:aN,v = .agg (kc k)/\k.length=32:=by
 unfold Value.okWide at hv;rw [ht] at hv;obtain ⟨cs,rfl,hsz,_⟩:=hv;rw [hct] at hsz;obtain ⟨fuel,hf⟩:=h;obtain ⟨xs,m,rfl,_,hcs,hxl,hel⟩:=DataW.trod_array ht hf;have each:∀ i,i<32->∃ n:Int,cs.toList[i]? = some (.int .u8 n)/\0<=n/\n<256:=λi hi=>by
  have hi':=hel i hi;rw [hc,Nat.mul_one] at hi';have hx:i<xs.length:=by omega
  rw [List.getElem?_eq_getElem hx] at hi';obtain ⟨n,hn,_,hw⟩:=DataW.trod_int he hi';have hlen:i<cs.toList.length:=by simpa [hsz] using hi
  have e1:(cs.toList.drop i).take 1=[cs.toList[i]]:=by
   rw [List.drop_eq_getElem_cons hlen]; rfl
  have e2:(Value.agg cs).cells.toList=cs.toList:=rfl;rw [e2,e1] at hn;injection hn with hn;refine ⟨n,?_,Xn hw⟩;rw [List.getElem?_eq_getElem hlen,hn]
 refine ⟨cs.toList.map byteOf,?_,by simp [hsz]⟩;congr 1;apply Array.ext';unfold kc;rw [List.map_map];apply List.ext_getElem?;intro i;by_cases hi:i<32
 .obtain ⟨n,hn,h0,h1⟩:=each i hi;rw [hn];simp only [List.getElem?_map,hn,Option.map_some,Function.comp,byteOf];have:((UInt8.ofNat n.toNat).toNat:Int)=n:=by simp only [UInt8.toNat_ofNat']; omega
  rw [this]
 .rw [List.getElem?_eq_none (by simp [hsz]; omega),List.getElem?_eq_none (by simp [hsz]; omega)]
end Ky
end
section
open Go.RowKit Go.ChangeShapes Go.WideShapes Go.Deep
namespace Tm
open Tr Ni Pk Ky
section
variable {H:Type} {enc:TypeId × Value->H} {w:World} {fuel:Nat} {cs:List Value} {x:DataW H × List MemPlace}
theorem Eh:prog.cellsOf 24=32:=by kernel_rfl
theorem Ov:prog.cellsOf 5=1:=by kernel_rfl
theorem Nl:prog.cellsOf 9=1:=by kernel_rfl
theorem Av:prog.cellsOf 60=33:=by kernel_rfl
theorem XI (h:DataW.trod enc prog w 0 (λ_=>true) true fuel 24 cs=some x):∃ k:aN,k.length=32/\cs=k.map λb=>Value.int .u8 b.toNat:=by
 obtain ⟨xs,m,rfl,_,hcs,hxl,hel⟩:=DataW.trod_array underlying24 h;rw [Eh] at hcs;have each:∀ i,i<32->∃ n:Int,cs[i]? = some (.int .u8 n)/\0<=n/\n<256:=λi hi=>by
  have hi':=hel i hi;rw [Ov,Nat.mul_one] at hi';have hx:i<xs.length:=by omega
  rw [List.getElem?_eq_getElem hx] at hi';obtain ⟨n,hn,_,hw⟩:=DataW.trod_int underlying5 hi';have hlen:i<cs.length:=by omega
  have e1:(cs.drop i).take 1=[cs[i]]:=by
   rw [List.drop_eq_getElem_cons hlen]; rfl
  rw [e1] at hn;injection hn with hn;exact ⟨n,by rw [List.getElem?_eq_getElem hlen,hn],Xn hw⟩
 refine ⟨cs.map Ky.byteOf,by simp [hcs],?_⟩;rw [List.map_map];apply List.ext_getElem?;intro i;by_cases hi:i<32
 .obtain ⟨n,hn,h0,h1⟩:=each i hi;rw [List.getElem?_map,hn];simp only [Option.map_some,Function.comp,Ky.byteOf];have:((UInt8.ofNat n.toNat).toNat:Int)=n:=by simp only [UInt8.toNat_ofNat']; omega
  rw [this]
 .rw [List.getElem?_eq_none (by omega),List.getElem?_eq_none (by simp [hcs]; omega)]
theorem Di {cs:List Value} (h:(cs.drop i).take 1=[v]) (hl:cs.length=i+1):cs=cs.take i++[v]:=by
 have e:(cs.drop i).take 1=cs.drop i:=List.take_of_length_le (by rw [List.length_drop]; omega);rw [<-h,e,List.take_append_drop]
theorem VL (h:DataW.trod enc prog w 0 (λ_=>true) true fuel 60 cs=some x):∃ y:Tr.Pair,y.1.length=32/\cs=iF y:=by
 obtain ⟨xs,m,rfl,_,hcs,hxl,hf⟩:=DataW.trod_struct underlying60 h;rw [Av] at hcs;have Zx:xs.length=2:=hxl;have g0:=hf 0 _ rfl;have g1:=hf 1 _ rfl;rw [List.getElem?_eq_getElem (by omega)] at g0 g1;obtain ⟨k,hk,e0⟩:=XI g0;obtain ⟨s,e1,_,_⟩:=DataW.trod_string underlying9 g1;have SO:(cs.drop 0).take (prog.cellsOf 24)=k.map λb=>Value.int .u8 b.toNat:=e0;have SR:(cs.drop 32).take (prog.cellsOf 9)=[Value.string s]:=e1;rw [Eh,List.drop_zero] at SO;rw [Nl] at SR;refine ⟨(k,s),hk,?_⟩;unfold iF
 have:=Di SR (by omega);rw [this,SO]
theorem WA (h:DataW.trod enc prog w 0 (λ_=>true) true fuel 42 cs=some x):∃ a n cap l,cs=[.slice a n cap]/\fT w a n cap l:=by
 rcases open_slice underlying42 h with ⟨rfl,_⟩ | ⟨ad,len,cap,m,n,D,Pl,rfl,_,hl,hm,hmm,_,hel⟩
 .exact ⟨none,0,0,[],rfl,fT.nil w⟩
 .have hmm':m=cap:=by simpa using hmm
  subst hmm';have cell:∀ i,i<m->∃ y:Tr.Pair,y.1.length=32/\∀ j,j<33->w.cell? ((ad.add (i*33)).add j)=(iF y)[j]? := λi hi=>by
   obtain ⟨cs',h1,h2⟩:=hel i hi;obtain ⟨y,hy,rfl⟩:=VL h2;obtain ⟨_,hcl,hat⟩:=World.cells?_some h1;rw [Av] at hat;exact ⟨y,hy,hat⟩
  obtain ⟨F,hF⟩:=choose_lt (α:=Tr.Pair) cell;refine ⟨some ad,len,m,(List.range len).map F,rfl,hl,hm,by simp,λe=>(by cases e),λx hx=>?_,λj hj=>?_⟩
  .obtain ⟨i,hi,rfl⟩:=List.mem_map.1 hx;exact (hF i (by have:=List.mem_range.1 hi; omega)).1
  .have L6:=hF j (by omega);have ST:=hF 0 (by omega);obtain ⟨b,off,spot⟩:=ad;have hc0:=ST.2 0 (by omega);have hp0:(iF (F 0))[0]? = some ((iF (F 0))[0]'(by rw [fD ST.1]; omega)):=List.getElem?_eq_getElem _;rw [hp0] at hc0;have hspot:spot=none:=by simpa [Addr.add] using World.cell?_spot hc0
   subst hspot;have hget:((List.range len).map F).getD j ([],eB)=F j:=by simp [List.getD,hj]
   rw [hget];have hat:cK w b (off+j*33) (F j):=λi v hv=>by
    have hi:i<33:=by
     have:=(List.getElem?_eq_some_iff.1 hv).1;rwa [fD L6.1] at this
    have:=L6.2 i hi;rw [Addr.add_mid,Addr.add_mid] at this;rw [this,hv]
   refine ⟨b,off,rfl,?_,hat⟩;have hz:=hat 0 ((iF (F j))[0]'(by rw [fD L6.1]; omega)) (List.getElem?_eq_getElem _);exact World.block_lt_of_cell? w _ hz
end
end Tm
end
section
open Go.RowKit
namespace Tm
open Tr Ni Pk Ky No Rf Rl
open Sm (Tab)
namespace Do
variable {w0:World} {M M':Mp} {w w':World} {p p':aL} {t t':T} {W W':List Tr.Pair} {a a':aL} {c c' j:Nat}
end Do
theorem zG:∀ (l:List Tr.Pair),(kV l).length<=l.length
 | []=>aH
 | x::r=>by
  have ih:=zG r;unfold kV;split
  .rw [List.length_cons]; omega
  .rw [List.length_cons,List.length_cons]; omega
end Tm
end
section
namespace Tr
open Rf Rl Ni No
def sv:aM:=⟨#[118]⟩
def ER (x:Pair):Pair:=(x.1,if x.2.size=0 then sv else if 100<x.2.size then x.2.extract 0 100 else x.2)
def fA (l:List Pair):List Pair:=(l.take 24).map ER
theorem RB (x:Pair):(ER x).2.size≠0/\(ER x).2.size<=65552:=by
 unfold ER;dsimp only;split
 .exact ⟨by decide,by decide⟩
 .split
  .rw [ByteArray.size_extract]; omega
  .omega
theorem Ey (l:List Pair):(fA l).length<=24:=by
 unfold fA;rw [List.length_map,List.length_take];omega
theorem Jg {l:List Pair} (h:∀ x∈l,x.1.length=32):(∀ x∈fA l,x.1.length=32)/\∀ x∈fA l,x.2.size≠0/\x.2.size<=65552:=by
 constructor
 .intro x hx;obtain ⟨y,hy,rfl⟩:=List.mem_map.1 hx;exact h y (List.mem_of_mem_take hy)
 .intro x hx;obtain ⟨y,_,rfl⟩:=List.mem_map.1 hx;exact RB y
end Tr
end
end Go.Proofs.YtokaiemgjngcoaaGreatDoor
