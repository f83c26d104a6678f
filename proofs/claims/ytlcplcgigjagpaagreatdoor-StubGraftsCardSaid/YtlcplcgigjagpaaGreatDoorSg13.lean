/-
 The contract of find: a value at the end of a way.
-/
import Derived.Test.YtlcplcgigjagpaaGreatDoorSg12
import Derived.Lib.HexFns2
open Go.Lib (hid)
open Go.Proofs.Tryz
set_option linter.unusedSimpArgs false
set_option linter.unusedVariables false
set_option maxHeartbeats 40000000
set_option maxRecDepth 100000
namespace Go.Proofs.YtlcplcgigjagpaaGreatDoor
variable {v:Value} {w1 w6:World} {T' e:TypeId} {L base g i:Nat} {o:Oper} {ops:Array Oper} {act:Act} {Q:Exit->Act->World->Prop} {ev:Operand->Value} {r:aK} {P:Program}
section
open Go.RowKit
namespace Tm
open Tr Ni Pk
def kY:Option (Option aK)->Ending
 | none=>.panicked [fF 8]
 | some none=>.panicked [fF 7]
 | some (some v)=>.returned (.string v)
def Zg (t:T):Prop:=∀ (M:Mp) (w:World) (p:aJ) (a:aJ) (n c:Nat) (way:Pa),Inv M w->IsT M p t->bq w a n c way->Tr.Good t way.length->Nib way->way.length<=64->
 Calls prog 44 #[.agg #[.pointer p],.slice a n c] w λe w'=>e=kY (Tr.get t way)/\Below w.heap.size w w'
theorem Rn (M:Mp) (a:aJ) (n c:Nat) (w:World) (hi:Inv M w):Calls prog 44 #[.agg #[.pointer none],.slice a n c] w λe w'=>e = .panicked [fF 7]/\Below w.heap.size w w':=by
 have h0:=fU w none;have HK:=hid (dF M none .nil (w.alloc (.cells #[.pointer none] 31)) (hi.below (al1 _ _)) rfl);clear hi;go_enter func44,ntmps44;go_wp2_with (refine ay (aT h0 ⟨_,rfl,rfl⟩) ?_)
 refine HK.out.mono ?_;rintro e w3 ⟨rfl,hb3⟩;have HB:=hid (bst (al1 _ _) hb3);unfold dD;clear h0 hb3 HK;go_wp2;simp +zetaDelta [bodyPost,Exit.then,fF];exact HB.out
theorem OY (M:Mp) (b:Nat) (r:aK) (hm:M.at_ b=some (.stub r)) (a:aJ) (n c:Nat) (w:World) (hi:Inv M w):Calls prog 44 #[.agg #[.pointer (some ⟨b,0,none⟩)],.slice a n c] w λe w'=>e = .panicked [fF 8]/\Below w.heap.size w w':=by
 have h0:=fU w (some ⟨b,0,none⟩);have HK:=hid (dF M _ _ (w.alloc (.cells #[.pointer (some ⟨b,0,none⟩)] 31)) (hi.below (al1 _ _)) (kD (w:=w) hi hm));clear hi hm;go_enter func44,ntmps44;go_wp2_with (refine ay (aT h0 ⟨_,rfl,rfl⟩) ?_)
 refine HK.out.mono ?_;rintro e w3 ⟨rfl,hb3⟩;have HB:=hid (bst (al1 _ _) hb3);unfold dD;clear h0 hb3 HK;go_wp2;simp +zetaDelta [bodyPost,Exit.then,fF];exact HB.out
theorem OU (M:Mp) (b:Nat) (q:Pa) (u:aK) (hm:M.at_ b=some (.leaf q u)) (a:aJ) (n c:Nat) (way:Pa) (w:World) (hi:Inv M w) (hB:bq w a n c way) (hl:q.length=way.length) (h64:way.length<=64) :
  Calls prog 44 #[.agg #[.pointer (some ⟨b,0,none⟩)],.slice a n c] w λe w'=>e=kY (Tr.get (.leaf q u) way)/\Below w.heap.size w w':=by
 have h0:=fU w (some ⟨b,0,none⟩);obtain ⟨w1,hw1⟩:=au (w.alloc (.cells #[.pointer (some ⟨b,0,none⟩)] 31))
 have hb1:Below w.heap.size w w1:=by rw [hw1]; exact al1 _ _
 have hi1:=hi.below hb1;have hn:=hB.len;rw [<-hw1] at h0;have HK:=hid (dF M _ _ w1 hi1 (kD hi1 hm));have c2:w1.cell? ⟨b,2,none⟩=some (.string u):=hi1.val hm;have H3:Hid (∀ w3,Below w1.heap.size w1 w3->w3.cell? ⟨w.heap.size,0,none⟩=some (.pointer (some ⟨b,0,none⟩))/\Calls prog 79 #[.agg #[.pointer (some ⟨b,0,none⟩)],.slice a n c] w3 (λe w'=>e=(if q=way then .returned (.tuple #[]) else .panicked [fF 7])/\Below w3.heap.size w3 w')/\
   ∀ w4,Below w3.heap.size w3 w4->w4.cell? ⟨w.heap.size,0,none⟩=some (.pointer (some ⟨b,0,none⟩))/\w4.cell? ⟨b,2,none⟩=some (.string u)/\Below w.heap.size w w4):=hid (λw3 hb3 =>
  ⟨aV hb3 h0,Fq M b _ hm a n c way w3 (hi1.below hb3) (hB.below (bst hb1 hb3)) (by rw [<-hn]; exact hl) (by omega),λw4 hb4=>⟨aV hb4 (aV hb3 h0),aV hb4 (aV hb3 c2),bst (bst hb1 hb3) hb4⟩⟩)
 have hg:Tr.get (.leaf q u) way=some (if q=way then some u else none):=rfl;rw [hg];clear hg hi hi1 hb1 hn c2 hl hm hB;subst hw1;by_cases e:q=way
 .simp only [if_pos e] at H3 ⊢;clear e;go_enter func44,ntmps44;go_wp2_with (refine ay (aT h0 ⟨_,rfl,rfl⟩) ?_)
  refine HK.out.mono ?_;rintro e w3 ⟨rfl,hb3⟩;obtain ⟨d0,HC,H4⟩:=H3.out w3 hb3;replace HC:=hid HC;replace H4:=hid H4;unfold dD;clear h0 hb3 HK H3;go_wp2_with (refine ay (aT d0 ⟨_,rfl,rfl⟩) ?_)
  refine HC.out.mono ?_;rintro e w4 ⟨rfl,hb4⟩;obtain ⟨e0,e2,HB⟩:=H4.out w4 hb4;replace HB:=hid HB;clear hb4 H4 d0 HC;go_wp2;go_ret;exact ⟨rfl,HB.out⟩
 .simp only [if_neg e] at H3 ⊢;clear e;go_enter func44,ntmps44;go_wp2_with (refine ay (aT h0 ⟨_,rfl,rfl⟩) ?_)
  refine HK.out.mono ?_;rintro e w3 ⟨rfl,hb3⟩;obtain ⟨d0,HC,H4⟩:=H3.out w3 hb3;replace HC:=hid HC;replace H4:=hid H4;unfold dD;clear h0 hb3 HK H3;go_wp2_with (refine ay (aT d0 ⟨_,rfl,rfl⟩) ?_)
  refine HC.out.mono ?_;rintro e w4 ⟨rfl,hb4⟩;obtain ⟨e0,e2,HB⟩:=H4.out w4 hb4;replace HB:=hid HB;clear hb4 H4 d0 HC;go_wp2;simp +zetaDelta [bodyPost,Exit.then,fF,kY];exact HB.out
theorem Wt (ks:Fin 16->T) (M:Mp) (b:Nat) (hm:M.at_ b=some (.br ks)) (w:World) (hi:Inv M w) (wa:aJ) (wn wc:Nat) (c0:UInt8) (r:Pa) (hW:bq w wa wn wc (c0::r)) (hc0:c0.toNat<16) (hlen:(c0::r).length<=64) (g:Option (Option aK))
  (ih:∀ w' p a n c,Inv M w'->IsT M p (ks (nb c0))->bq w' a n c r->Calls prog 44 #[.agg #[.pointer p],.slice a n c] w' (λe w''=>e=kY g/\Below w'.heap.size w' w'')) :
  Calls prog 44 #[.agg #[.pointer (some ⟨b,0,none⟩)],.slice wa wn wc] w (λe w'=>e=kY g/\Below w.heap.size w w'):=by
 have h0:=fU w (some ⟨b,0,none⟩);obtain ⟨w1,hw1⟩:=au (w.alloc (.cells #[.pointer (some ⟨b,0,none⟩)] 31))
 have hb1:Below w.heap.size w w1:=by rw [hw1]; exact al1 _ _
 have hi1:=hi.below hb1;rw [<-hw1] at h0;have hwl:(c0::r).length=wn:=hW.len;have y0:r.length+1=wn:=by rw [<-hwl]; rfl
 have HK:=hid (dF M _ _ w1 hi1 (kD hi1 hm));obtain ⟨ka,kn,kc,c3,hKs⟩:=hi1.kids hm;have hkn:kn=16:=by rw [<-hKs.len]; exact fK ks
 subst hkn;have hnx:((nb c0).val:Nat)=c0.toNat:=Nat.mod_eq_of_lt hc0;obtain ⟨kb,ko,p0,rfl,cA,el,hk0,hT0⟩:=hKs.at' c0.toNat hc0;have cn:IsT M p0 (ks (nb c0)):=by
  rw [<-hnx,kJ] at hT0;exact hT0
 have hkc:=hKs.1;have hkm:=hKs.2.1;unfold maxLen at hkm;have hx16:c0.toNat<16:=hc0;have hxi:((c0.toNat:Nat):Int)<16:=by omega
 have HT:Hid (∀ w3,Below w1.heap.size w1 w3->w3.cell? ⟨w.heap.size,0,none⟩=some (.pointer (some ⟨b,0,none⟩))/\Calls prog 77 #[.slice wa wn wc] w3 (λe w'=>e = .returned (.tuple #[.int .u8 c0.toNat,.slice (dM wa wc 1) (wn-1) (wc-1)])/\Below w3.heap.size w3 w')/\
   ∀ w4,Below w3.heap.size w3 w4->(w4.cell? ⟨w.heap.size,0,none⟩=some (.pointer (some ⟨b,0,none⟩))/\w4.cell? ⟨b,3,none⟩=some (.slice (some ⟨kb,ko,none⟩) 16 kc)/\w4.cell? ⟨kb,ko+c0.toNat,none⟩=some (.pointer p0))/\
   Calls prog 44 #[.agg #[.pointer p0],.slice (dM wa wc 1) (wn-1) (wc-1)] w4 (λe w''=>e=kY g/\Below w4.heap.size w4 w'')/\∀ w5,Below w4.heap.size w4 w5->Below w.heap.size w w5):=hid (λw3 hb3 =>
  ⟨aV hb3 h0,kT wa wn wc (c0::r) (by omega) w3 (hW.below (bst hb1 hb3)),λw4 hb4=>⟨⟨aV hb4 (aV hb3 h0),aV hb4 (aV hb3 c3),aV hb4 (aV hb3 hk0)⟩,(by
   have hB:=bst hb1 (bst hb3 hb4);refine ih w4 p0 _ _ _ (hi.below hB) cn ?_;exact vV (hW.below hB) 1 (by omega)),λw5 hb5=>bst (bst (bst hb1 hb3) hb4) hb5⟩⟩)
 clear hi hi1 hb1 hm hW hwl hKs hT0 cn c3 hk0 ih;subst hw1
 match g with
 | none | some none =>
  go_enter func44,ntmps44;go_wp2_with (refine ay (aT h0 ⟨_,rfl,rfl⟩) ?_)
  refine HK.out.mono ?_;rintro e w3 ⟨rfl,hb3⟩;obtain ⟨d0',dd,H4⟩:=HT.out w3 hb3;replace dd:=hid dd;replace H4:=hid H4;unfold dD;clear hb3 HT HK h0 d0';go_wp2_with fail
  refine dd.out.mono ?_;rintro e w4 ⟨rfl,hb4⟩;obtain ⟨⟨d0,d3,dk⟩,HC,HB⟩:=H4.out w4 hb4;replace HC:=hid HC;replace HB:=hid HB;clear hb4 H4 dd;go_wp2_with (refine ay (aT dk ⟨_,rfl,rfl⟩) ?_)
  refine HC.out.mono ?_;rintro e w5 ⟨rfl,hb5⟩;have ag:=hid (HB.out w5 hb5);clear hb5 HB HC;unfold kY;go_wp2;simp +zetaDelta [bodyPost,Exit.then];exact ⟨rfl,ag.out⟩
 | some (some v) =>
  go_enter func44,ntmps44;go_wp2_with (refine ay (aT h0 ⟨_,rfl,rfl⟩) ?_)
  refine HK.out.mono ?_;rintro e w3 ⟨rfl,hb3⟩;obtain ⟨d0',dd,H4⟩:=HT.out w3 hb3;replace dd:=hid dd;replace H4:=hid H4;unfold dD;clear hb3 HT HK h0 d0';go_wp2_with fail
  refine dd.out.mono ?_;rintro e w4 ⟨rfl,hb4⟩;obtain ⟨⟨d0,d3,dk⟩,HC,HB⟩:=H4.out w4 hb4;replace HC:=hid HC;replace HB:=hid HB;clear hb4 H4 dd;go_wp2_with (refine ay (aT dk ⟨_,rfl,rfl⟩) ?_)
  refine HC.out.mono ?_;rintro e w5 ⟨rfl,hb5⟩;have ag:=hid (HB.out w5 hb5);clear hb5 HB HC;unfold kY;go_wp2;go_ret;exact ⟨rfl,ag.out⟩
theorem Uy (q:Pa) (s:T) (M:Mp) (b:Nat) (hm:M.at_ b=some (.ext q s)) (w:World) (hi:Inv M w) (wa:aJ) (wn wc:Nat) (way:Pa) (hW:bq w wa wn wc way) (hlen:way.length<=64) (hle:q.length<=way.length) (h:q<+:way) (g:Option (Option aK))
  (ih:∀ w' p a n c,Inv M w'->IsT M p s->bq w' a n c (way.drop q.length)->Calls prog 44 #[.agg #[.pointer p],.slice a n c] w' (λe w''=>e=kY g/\Below w'.heap.size w' w'')) :
  Calls prog 44 #[.agg #[.pointer (some ⟨b,0,none⟩)],.slice wa wn wc] w (λe w'=>e=kY g/\Below w.heap.size w w'):=by
  have h0:=fU w (some ⟨b,0,none⟩);obtain ⟨w1,hw1⟩:=au (w.alloc (.cells #[.pointer (some ⟨b,0,none⟩)] 31))
  have hb1:Below w.heap.size w w1:=by rw [hw1]; exact al1 _ _
  have hi1:=hi.below hb1;rw [<-hw1] at h0;have hwl:way.length=wn:=hW.len;have HK:=hid (dF M _ _ w1 hi1 (kD hi1 hm));obtain ⟨ka,kn,kc,c3,hKs⟩:=hi1.kids hm;obtain ⟨kb,ko,p0,rfl,cA,el,hk0,hT0⟩:=hKs.at' 0 (by rw [<-hKs.len]; exact Nat.one_pos);have hkn:kn=1:=hKs.len.symm;have hkc:=hKs.1;have hkm:=hKs.2.1;unfold maxLen at hkm;rw [Nat.add_zero] at hk0;have cn:IsT M p0 s:=hT0
  have HT:Hid (∀ w3,Below w1.heap.size w1 w3->(w3.cell? ⟨w.heap.size,0,none⟩=some (.pointer (some ⟨b,0,none⟩))/\w3.cell? ⟨b,3,none⟩=some (.slice (some ⟨kb,ko,none⟩) kn kc)/\w3.cell? ⟨kb,ko,none⟩=some (.pointer p0))/\
    (∀ wx,Below w3.heap.size w3 wx->Calls prog 78 #[.agg #[.pointer (some ⟨b,0,none⟩)],.slice wa wn wc] wx (λe w'=>e = .returned (.slice (dM wa wc q.length) (wn-q.length) (wc-q.length))/\Below wx.heap.size wx w'))/\(∀ wx,Below w3.heap.size w3 wx->Calls prog 44 #[.agg #[.pointer p0],.slice (dM wa wc q.length) (wn-q.length) (wc-q.length)] wx (λe w''=>e=kY g/\Below wx.heap.size wx w''))/\∀ wx,Below w3.heap.size w3 wx->Below w.heap.size w wx):=hid (λw3 hb3 =>
   ⟨⟨aV hb3 h0,aV hb3 c3,aV hb3 hk0⟩,λwx hbx=>(by
    have:=Bd M b _ hm wa wn wc way wx (hi1.below (bst hb3 hbx)) (hW.below (bst (bst hb1 hb3) hbx)) (by rw [<-hwl]; exact hle) (by omega);rw [show (bT (.ext q s))=q from rfl,if_pos h] at this;exact this),λwx hbx=>(by
     have hB:=bst (bst hb1 hb3) hbx;exact ih wx p0 _ _ _ (hi.below hB) cn (vV (hW.below hB) _ (by rw [<-hwl]; exact hle))),λwx hbx=>bst (bst hb1 hb3) hbx⟩)
  clear hi hi1 hb1 hm hW hwl hKs hT0 cn c3 hk0 ih;subst hw1
  match g with
  | none | some none =>
  go_enter func44,ntmps44;go_wp2_with (refine ay (aT h0 ⟨_,rfl,rfl⟩) ?_)
  refine HK.out.mono ?_;rintro e w3 ⟨rfl,hb3⟩;obtain ⟨⟨d0,d3,dk⟩,HP,iu,aw⟩:=HT.out w3 hb3;replace HP:=hid HP;replace iu:=hid iu;replace aw:=hid aw;unfold dD;clear hb3 HT HK h0;go_wp2_with fail
  refine wp_region_held_drew (S:=λw'=>Below w3.heap.size w3 w') (by kernel_rfl) ((below_drewN aG 1)) (λhld=>?_);refine ah 0 ?_;try simp only [Act.put,ak]
  refine aC 1 (λwz hSw=>aV hSw d0) ?_;try simp only [Act.put,ak]
  refine ah 2 ?_;try simp only [Act.put,ak]
  refine ah 3 ?_;try simp only [Act.put,ak]
  refine aC 4 (λwz hSw=>aV hSw d3) ?_;try simp only [Act.put,ak]
  refine ah 5 ?_;try simp only [Act.put,ak]
  refine ah 6 ?_ (hy:=by intro wz hSw; (refine aT (aV hSw dk) ?_; exact ⟨_,rfl,rfl⟩));try simp only [Act.put,ak]
  refine ah 7 ?_ (hy:=by intro wz hSw; (refine aT (aV hSw d0) ?_; exact ⟨_,rfl,rfl⟩));try simp only [Act.put,ak]
  refine ah 8 ?_;try simp only [Act.put,ak]
  refine aj 9 λK hK=>?_;go_simp;go_at_call 78
  (with_reducible refine (HP.out w3.drew (below_drewN aG 1)).mono ?_)
  rintro e w5 ⟨rfl,hb5⟩;have ag:Hid (Below w3.heap.size w3 w5):=hid (bst (below_drewN aG 1) hb5);clear hb5;refine hK.out _ _ (ag.out) λhld=>?_;clear hK K;try simp only [Act.put,ak]
  refine aj 10 λK hK=>?_;go_simp;go_at_call 44
  (with_reducible refine (iu.out w5 ag.out).mono ?_)
  rintro e w6 ⟨rfl,hb6⟩;have cg:Hid (Below w3.heap.size w3 w6):=hid (bst ag.out hb6);clear hb6;simp +zetaDelta [bodyPost,Exit.then,kY];exact aw.out w6 cg.out
  | some (some v) =>
  go_enter func44,ntmps44;go_wp2_with (refine ay (aT h0 ⟨_,rfl,rfl⟩) ?_)
  refine HK.out.mono ?_;rintro e w3 ⟨rfl,hb3⟩;obtain ⟨⟨d0,d3,dk⟩,HP,iu,aw⟩:=HT.out w3 hb3;replace HP:=hid HP;replace iu:=hid iu;replace aw:=hid aw;unfold dD;clear hb3 HT HK h0;go_wp2_with fail
  refine aB (S:=λw'=>Below w3.heap.size w3 w') ((below_drewN aG 1)) λhld=>?_;refine ah 0 ?_;try simp only [Act.put,ak]
  refine aC 1 (λwz hSw=>aV hSw d0) ?_;try simp only [Act.put,ak]
  refine ah 2 ?_;try simp only [Act.put,ak]
  refine ah 3 ?_;try simp only [Act.put,ak]
  refine aC 4 (λwz hSw=>aV hSw d3) ?_;try simp only [Act.put,ak]
  refine ah 5 ?_;try simp only [Act.put,ak]
  refine ah 6 ?_ (hy:=by intro wz hSw; (refine aT (aV hSw dk) ?_; exact ⟨_,rfl,rfl⟩));try simp only [Act.put,ak]
  refine ah 7 ?_ (hy:=by intro wz hSw; (refine aT (aV hSw d0) ?_; exact ⟨_,rfl,rfl⟩));try simp only [Act.put,ak]
  refine ah 8 ?_;try simp only [Act.put,ak]
  refine aj 9 λK hK=>?_;go_simp;go_at_call 78
  (with_reducible refine (HP.out w3.drew (below_drewN aG 1)).mono ?_)
  rintro e w5 ⟨rfl,hb5⟩;have ag:Hid (Below w3.heap.size w3 w5):=hid (bst (below_drewN aG 1) hb5);clear hb5;refine hK.out _ _ (ag.out) λhld=>?_;clear hK K;try simp only [Act.put,ak]
  refine aj 10 λK hK=>?_;go_simp;go_at_call 44
  (with_reducible refine (iu.out w5 ag.out).mono ?_)
  rintro e w6 ⟨rfl,hb6⟩;have cg:Hid (Below w3.heap.size w3 w6):=hid (bst ag.out hb6);clear hb6;refine hK.out _ _ (cg.out) λhld=>?_;clear hK K;try simp only [Act.put,ak]
  refine ah 11 ?_;try simp only [Act.put,ak]
  refine aA ?_;go_wp2;go_ret;exact ⟨rfl,aw.out w6 cg.out⟩
theorem Gd (q:Pa) (s:T) (M:Mp) (b:Nat) (hm:M.at_ b=some (.ext q s)) (w:World) (hi:Inv M w) (wa:aJ) (wn wc:Nat) (way:Pa) (hW:bq w wa wn wc way) (hlen:way.length<=64) (hle:q.length<=way.length) (h:¬ q<+:way) :
  Calls prog 44 #[.agg #[.pointer (some ⟨b,0,none⟩)],.slice wa wn wc] w (λe w'=>e = .panicked [fF 7]/\Below w.heap.size w w'):=by
  have h0:=fU w (some ⟨b,0,none⟩);obtain ⟨w1,hw1⟩:=au (w.alloc (.cells #[.pointer (some ⟨b,0,none⟩)] 31))
  have hb1:Below w.heap.size w w1:=by rw [hw1]; exact al1 _ _
  have hi1:=hi.below hb1;rw [<-hw1] at h0;have hwl:way.length=wn:=hW.len;have HK:=hid (dF M _ _ w1 hi1 (kD hi1 hm));obtain ⟨ka,kn,kc,c3,hKs⟩:=hi1.kids hm;obtain ⟨kb,ko,p0,rfl,cA,el,hk0,hT0⟩:=hKs.at' 0 (by rw [<-hKs.len]; exact Nat.one_pos);have hkn:kn=1:=hKs.len.symm;have hkc:=hKs.1;have hkm:=hKs.2.1;unfold maxLen at hkm;rw [Nat.add_zero] at hk0;have cn:IsT M p0 s:=hT0
  have HT:Hid (∀ w3,Below w1.heap.size w1 w3->(w3.cell? ⟨w.heap.size,0,none⟩=some (.pointer (some ⟨b,0,none⟩))/\w3.cell? ⟨b,3,none⟩=some (.slice (some ⟨kb,ko,none⟩) kn kc)/\w3.cell? ⟨kb,ko,none⟩=some (.pointer p0))/\
    (∀ wx,Below w3.heap.size w3 wx->Calls prog 78 #[.agg #[.pointer (some ⟨b,0,none⟩)],.slice wa wn wc] wx (λe w'=>e = .panicked [fF 7]/\Below wx.heap.size wx w'))/\(∀ wx,Below w3.heap.size w3 wx->True)/\∀ wx,Below w3.heap.size w3 wx->Below w.heap.size w wx):=hid (λw3 hb3 =>
   ⟨⟨aV hb3 h0,aV hb3 c3,aV hb3 hk0⟩,λwx hbx=>(by
    have:=Bd M b _ hm wa wn wc way wx (hi1.below (bst hb3 hbx)) (hW.below (bst (bst hb1 hb3) hbx)) (by rw [<-hwl]; exact hle) (by omega);rw [show (bT (.ext q s))=q from rfl,if_neg h] at this;exact this),λwx hbx=>trivial,λwx hbx=>bst (bst hb1 hb3) hbx⟩)
  clear hi hi1 hb1 hm hW hwl hKs hT0 cn c3 hk0 ;subst hw1;go_enter func44,ntmps44;go_wp2_with (refine ay (aT h0 ⟨_,rfl,rfl⟩) ?_)
  refine HK.out.mono ?_;rintro e w3 ⟨rfl,hb3⟩;obtain ⟨⟨d0,d3,dk⟩,HP,iu,aw⟩:=HT.out w3 hb3;replace HP:=hid HP;replace iu:=hid iu;replace aw:=hid aw;unfold dD;clear hb3 HT HK h0;go_wp2_with fail
  refine wp_region_held_drew (S:=λw'=>Below w3.heap.size w3 w') (by kernel_rfl) ((below_drewN aG 1)) (λhld=>?_);refine ah 0 ?_;try simp only [Act.put,ak]
  refine aC 1 (λwz hSw=>aV hSw d0) ?_;try simp only [Act.put,ak]
  refine ah 2 ?_;try simp only [Act.put,ak]
  refine ah 3 ?_;try simp only [Act.put,ak]
  refine aC 4 (λwz hSw=>aV hSw d3) ?_;try simp only [Act.put,ak]
  refine ah 5 ?_;try simp only [Act.put,ak]
  refine ah 6 ?_ (hy:=by intro wz hSw; (refine aT (aV hSw dk) ?_; exact ⟨_,rfl,rfl⟩));try simp only [Act.put,ak]
  refine ah 7 ?_ (hy:=by intro wz hSw; (refine aT (aV hSw d0) ?_; exact ⟨_,rfl,rfl⟩));try simp only [Act.put,ak]
  refine ah 8 ?_;try simp only [Act.put,ak]
  refine aj 9 λK hK=>?_;go_simp;go_at_call 78
  (with_reducible refine (HP.out w3.drew (below_drewN aG 1)).mono ?_)
  rintro e w5 ⟨rfl,hb5⟩;have ag:Hid (Below w3.heap.size w3 w5):=hid (bst (below_drewN aG 1) hb5);clear hb5;simp +zetaDelta [bodyPost,Exit.then];exact aw.out w5 ag.out
theorem TJ (t:T):Zg t:=by
 induction t with
 | nil =>
  intro M w p a n c way hi ht hW hg hn hl;obtain rfl:p=none:=ht.tV.2 rfl;exact Rn M a n c w hi
 | stub r =>
  intro M w p a n c way hi ht hW hg hn hl;obtain ⟨b,rfl,hm⟩:=ht.at_ (λe=>by cases e);exact OY M b r hm a n c w hi
 | leaf q u =>
  intro M w p a n c way hi ht hW hg hn hl;obtain ⟨b,rfl,hm⟩:=ht.at_ (λe=>by cases e);exact OU M b q u hm a n c way w hi hW hg.1 hl
 | ext q s ih =>
  intro M w p a n c way hi ht hW hg hn hl;obtain ⟨b,rfl,hm⟩:=ht.at_ (λe=>by cases e);obtain ⟨g1,g2,g3,g4,g5⟩:=hg;by_cases e:q<+:way
  .have hgs:Tr.Good s (way.drop q.length).length:=by rw [List.length_drop]; exact g5
   have hget:Tr.get (.ext q s) way=Tr.get s (way.drop q.length):=by
    show (if q<+:way then Tr.get s (way.drop q.length) else some none)=_;rw [if_pos e]
   rw [hget];exact Uy q s M b hm w hi a n c way hW hl g3 e _ (λw' p' a' n' c' hi' ht' hW'=>ih M w' p' a' n' c' _ hi' ht' hW' hgs (hn.drop _) (by rw [List.length_drop]; omega))
  .have hget:Tr.get (.ext q s) way=some none:=by
    show (if q<+:way then Tr.get s (way.drop q.length) else some none)=_;rw [if_neg e]
   rw [hget];exact Gd q s M b hm w hi a n c way hW hl g3 e
 | br ks ih =>
  intro M w p a n c way hi ht hW hg hn hl;obtain ⟨b,rfl,hm⟩:=ht.at_ (λe=>by cases e);cases way with
  | nil=>exact absurd hg.1 (Nat.lt_irrefl 0)
  | cons c0 r =>
   exact Wt ks M b hm w hi a n c c0 r hW hn.head hl _ (λw' p' a' n' c' hi' ht' hW'=>ih (nb c0) M w' p' a' n' c' r hi' ht' hW' (hg.2.2 (nb c0)) hn.tail (by simp at hl; omega))
theorem Pn:prog.built 31 []=some #[.pointer none]:=by kernel_rfl
end Tm
end
section
open Go.RowKit
namespace Tk
open Pk
theorem mY (p:Addr) (x c:Int) (older:List PanicEntry) (w:World) (hc:w.cell? p=some (.int .i64 x)) (hz:w.frozen? p=false) :
  CallsD prog 76 #[.pointer (some p)] (.panicking (fF c::older)) w λe u' w' =>
   e = .returned (.tuple #[])/\u' = .panicking ({ fF c with recovered:=true }::older)/\w'=w.setCell p (.int .i64 c):=by
 refine callsD_of_wpS func76 rfl λc₀ cs hu=>?_;apply wpS_seq;apply wpS_region;simp [wpOpsS,go_sem,recoverD,hu,fF,ntmps76,Exit.thenS];apply wpS_seq;apply wpS_region;simp [wpOpsS,go_sem,Exit.thenS];refine wpS_cond (t:=true) (by simp [Act.eval,Array.replicate]) ?_;simp only [if_true];apply wpS_region;have oS:(Instr.typeAssert (.iface 50 (.int .i64 c)) 20 50 false).run prog w = .ok (.int .i64 c) w:=by kernel_rfl
 simp [wpOpsS,go_sem,oS,hc,hz,bodyPostS,results,Tryz.results76]
theorem vF (p:Addr) (w:World) :
  CallsD prog 76 #[.pointer (some p)] .returning w λe u' w'=>e = .returned (.tuple #[])/\u' = .returning/\w'=w:=by
 refine callsD_of_wpS func76 rfl λc₀ cs hu=>?_;apply wpS_seq;apply wpS_region;simp [wpOpsS,go_sem,recoverD,hu,ntmps76,Exit.thenS];apply wpS_seq;apply wpS_region;simp [wpOpsS,go_sem,Exit.thenS];refine wpS_cond (t:=false) (by simp [Act.eval,Array.replicate]) ?_;simp only [Bool.false_eq_true,if_false];refine wpS_of_wp (wp_skip ?_);cases c₀
 simp_all [bodyPostS,results,Tryz.results76]
theorem qb (D:FuncId) (caps:aM) (hD:∀ w,(callFunc D caps).run prog w = .ok (.enter D caps) w) (w:World) (R:World->Prop)
  (h:Calls prog D caps (w.alloc (.cells #[.int .i64 0] 50)) λe w'=>e = .returned (.tuple #[])/\(w'.cell? ⟨w.heap.size,0,none⟩=some (.int .i64 0)/\w'.frozen? ⟨w.heap.size,0,none⟩=false)/\R w') :
  Calls prog 42 #[.func (.func D) #[] caps] w λe w'=>e = .returned (.int .i64 0)/\∃ w1,R w1/\w'=w1.setCell ⟨w.heap.size,0,none⟩ (.int .i64 0):=by
 have eR:∀ (fn:Fn) (first cap:aM) (w:World),(Instr.makeFunc fn first cap).run prog w = .ok (.func fn first cap) w:=λ_ _ _ _=>rfl;have H:=hid h;clear h;go_enter_defers func42,ntmps42
 go_wp2_with fail
 refine H.out.mono ?_;rintro e w1 ⟨rfl,⟨hc,hz⟩,hR⟩;have HR:=hid hR;clear hR H;go_wp2;refine leaves_cons (f:=76) (args:=#[.pointer (some ⟨w.heap.size,0,none⟩)]) (by simp) (by simp [go_sem]) ?_;refine (vF ⟨w.heap.size,0,none⟩ _).mono ?_;rintro e u' w'' ⟨rfl,rfl,rfl⟩;simp [Leaves,settle,results,Tryz.results42,go_sem,hc];exact ⟨w1,HR.out,rfl⟩
theorem qQ (D:FuncId) (caps:aM) (hD:∀ w,(callFunc D caps).run prog w = .ok (.enter D caps) w) (w:World) (c:Int) (R:World->Prop)
  (h:Calls prog D caps (w.alloc (.cells #[.int .i64 0] 50)) λe w'=>e = .panicked [fF c]/\(w'.cell? ⟨w.heap.size,0,none⟩=some (.int .i64 0)/\w'.frozen? ⟨w.heap.size,0,none⟩=false)/\R w') :
  Calls prog 42 #[.func (.func D) #[] caps] w λe w'=>e = .returned (.int .i64 c)/\∃ w1,R w1/\w'=w1.setCell ⟨w.heap.size,0,none⟩ (.int .i64 c):=by
 have eR:∀ (fn:Fn) (first cap:aM) (w:World),(Instr.makeFunc fn first cap).run prog w = .ok (.func fn first cap) w:=λ_ _ _ _=>rfl;have H:=hid h;clear h;go_enter_defers func42,ntmps42
 go_wp2_with fail
 refine H.out.mono ?_;rintro e w1 ⟨rfl,⟨hc,hz⟩,hR⟩;have HR:=hid hR;clear hR H;go_wp2;refine leaves_cons (f:=76) (args:=#[.pointer (some ⟨w.heap.size,0,none⟩)]) (by simp) (by simp [go_sem]) ?_;refine (mY ⟨w.heap.size,0,none⟩ 0 c [] _ hc hz).mono ?_;rintro e u' w'' ⟨rfl,rfl,rfl⟩;simp [Leaves,settle,results,Tryz.results42,go_sem,hc];exact ⟨w1,HR.out,rfl⟩
end Tk
end
section
open Go.RowKit
namespace Tm
open Tr Ni Pk
theorem WL (p:aJ) (k:aL) (hk:k.length=32) (bt bk br:Nat) (v:aK) (w:World) (mA:Rg.Own w bt #[.pointer p] 31) (mB:Rg.Own w bk (Ky.kc k) 25) (h1:bt≠br) (h2:bk≠br)
  (hOr:Rg.Own w br #[.string eB] 9) (hC:∀ w5,Below w.heap.size w w5->∀ a5 n5 c5,bq w5 a5 n5 c5 (Ky.eY k)->Calls prog 44 #[.agg #[.pointer p],.slice a5 n5 c5] w5 (λe w'=>e = .returned (.string v)/\Below w5.heap.size w5 w')) :
  Calls prog 43 #[.pointer (some ⟨bt,0,none⟩),.pointer (some ⟨bk,0,none⟩),.pointer (some ⟨br,0,none⟩)] w (λe w'=>e = .returned (.tuple #[])/\Rg.Own w' br #[.string v] 9/\Bo br w w'):=by
 have si:=hid (λwx=>Ky.wD k hk wx);have pm:=hid mA;have js:=hid mB;have HOr:=hid hOr;have HC:=hid hC;clear hOr hC;clear mA mB;go_enter func43,ntmps43;go_wp2_with fail
 refine aB (S:=λw'=>Bo br w w') (Bo.of (below_drewN aG 1)) λhld=>?_;refine ah 0 ?_ (hy:=by intro wz hSw; (refine aT (aU (j:=0) (oC hSw pm.out (by omega)) rfl) ?_; exact ⟨_,rfl,rfl⟩));try simp only [Act.put,ak]
 refine ah 1 ?_ (hy:=by intro wz hSw; (refine dL hk (oC hSw js.out (by omega)).2 ?_; exact ⟨_,rfl,rfl⟩));try simp only [Act.put,ak]
 refine aj 2 λK hK=>?_;go_simp;go_at_call 34
 (with_reducible refine (si.out w.drew).mono ?_)
 rintro e w5 ⟨a5,n5,c5,rfl,hx5,hb5⟩;have ag:Hid (Below w.heap.size w w5):=hid (bst (below_drewN aG 1) hb5);have cT:=hid hx5;clear hb5 hx5;refine hK.out _ _ (Bo.of ag.out) λhld=>?_;clear hK K;try simp only [Act.put,ak]
 refine aj 3 λK hK=>?_;go_simp;go_at_call 44
 (with_reducible refine (HC.out w5 ag.out a5 n5 c5 cT.out).mono ?_)
 rintro e w6 ⟨rfl,hb6⟩;have cL:Below w.heap.size w w6:=bst ag.out hb6;have cM:=hid (HOr.out.below cL);refine hK.out _ _ (Bo.of cL) λhld=>?_;clear hK K;try simp only [Act.put,ak]
 refine aj 4 λK hK=>?_;refine Bz (by rfl) cM.out v ⟨_,_,rfl,rfl,rfl⟩ ?_;intro ap aq az;refine hK.out _ _ ((Bo.of cL).upd az) λhld=>?_;clear hK K;try simp only [Act.put,ak]
 refine aA ?_;go_wp2;go_end0;exact ⟨rfl,aq,(Bo.of cL).upd az⟩
theorem UD (p:aJ) (k:aL) (hk:k.length=32) (bt bk br:Nat) (c:Int) (w:World) (mA:Rg.Own w bt #[.pointer p] 31) (mB:Rg.Own w bk (Ky.kc k) 25) (h1:bt≠br) (h2:bk≠br)
  (hC:∀ w5,Below w.heap.size w w5->∀ a5 n5 c5,bq w5 a5 n5 c5 (Ky.eY k)->Calls prog 44 #[.agg #[.pointer p],.slice a5 n5 c5] w5 (λe w'=>e = .panicked [fF c]/\Below w5.heap.size w5 w')) :
  Calls prog 43 #[.pointer (some ⟨bt,0,none⟩),.pointer (some ⟨bk,0,none⟩),.pointer (some ⟨br,0,none⟩)] w (λe w'=>e = .panicked [fF c]/\Below w.heap.size w w'):=by
 have si:=hid (λwx=>Ky.wD k hk wx);have pm:=hid mA;have js:=hid mB;have HC:=hid hC;clear hC;clear mA mB;go_enter func43,ntmps43;go_wp2_with fail
 refine wp_region_held_drew (S:=λw'=>Bo br w w') (by kernel_rfl) (Bo.of (below_drewN aG 1)) (λhld=>?_);refine ah 0 ?_ (hy:=by intro wz hSw; (refine aT (aU (j:=0) (oC hSw pm.out (by omega)) rfl) ?_; exact ⟨_,rfl,rfl⟩));try simp only [Act.put,ak]
 refine ah 1 ?_ (hy:=by intro wz hSw; (refine dL hk (oC hSw js.out (by omega)).2 ?_; exact ⟨_,rfl,rfl⟩));try simp only [Act.put,ak]
 refine aj 2 λK hK=>?_;go_simp;go_at_call 34
 (with_reducible refine (si.out w.drew).mono ?_)
 rintro e w5 ⟨a5,n5,c5,rfl,hx5,hb5⟩;have ag:Hid (Below w.heap.size w w5):=hid (bst (below_drewN aG 1) hb5);have cT:=hid hx5;clear hb5 hx5;refine hK.out _ _ (Bo.of ag.out) λhld=>?_;clear hK K;try simp only [Act.put,ak]
 refine aj 3 λK hK=>?_;go_simp;go_at_call 44
 (with_reducible refine (HC.out w5 ag.out a5 n5 c5 cT.out).mono ?_)
 rintro e w6 ⟨rfl,hb6⟩;simp +zetaDelta [bodyPost,Exit.then];exact bst ag.out hb6
theorem Vx (p:aJ) (k:aL) (hk:k.length=32) (bt bk br:Nat) (bs:Nat) (v:aK) (w:World) (mA:Rg.Own w bt #[.pointer p] 31) (mB:Rg.Own w bk (Ky.kc k) 25) (h1:bt≠br) (h2:bk≠br)
  (hOr:Rg.Own w br #[.pointer none] 31) (M:Mp) (hi:Inv M w) (R:T) (hC:∀ w5,Below w.heap.size w w5->∀ a5 n5 c5,bq w5 a5 n5 c5 (Ky.eY k)->Calls prog 58 #[.agg #[.pointer p],.slice a5 n5 c5,.string v] w5 (dA (plus M (inS a5 n5)) w5 R)) (y3:Rg.Own w bs #[.string v] 9) (h3:bs≠br) :
  Calls prog 57 #[.pointer (some ⟨bt,0,none⟩),.pointer (some ⟨bk,0,none⟩),.pointer (some ⟨bs,0,none⟩),.pointer (some ⟨br,0,none⟩)] w (λe w'=>e = .returned (.tuple #[])/\∃ p' M' w6,IsT M' p' R/\St M w M' w6/\Rg.Upd w6 br w'/\Rg.Own w' br #[.pointer p'] 31):=by
 have si:=hid (λwx=>Ky.wD k hk wx);have pm:=hid mA;have js:=hid mB;have HF:Hid (∀ w5,Below w.heap.size w w5->∀ a5 n5 c5,bq w5 a5 n5 c5 (Ky.eY k)->∀ e w6,dA (plus M (inS a5 n5)) w5 R e w6->∃ p6,e = .returned (tv p6)/\Below w.heap.size w w6/\Rg.Own w6 br #[.pointer none] 31/\∀ ap,Rg.Own ap br #[.pointer p6] 31->Rg.Upd w6 br ap->∃ p' M' w6,IsT M' p' R/\St M w M' w6/\Rg.Upd w6 br ap/\Rg.Own ap br #[.pointer p'] 31):=hid (λw5 hb5 a5 n5 c5 hx e w6 hG=>by
  have hs:St M w (plus M (inS a5 n5)) w5:=((St.refl hi).below hb5).bytes hx;obtain ⟨p6,M6,he,hT,hS,_,hb6⟩:=hs.got hG;exact ⟨p6,he,hS.b,hOr.below hS.b,λap hO hu=>⟨p6,M6,w6,hT,hS,hu,hO⟩⟩)
 have HC:=hid hC;have Fo:=hid y3;clear y3;clear hOr hC hi;clear mA mB;go_enter func57,ntmps57;go_wp2_with fail
 refine aB (S:=λw'=>Bo br w w') (Bo.of (below_drewN aG 1)) λhld=>?_;refine ah 0 ?_ (hy:=by intro wz hSw; (refine aT (aU (j:=0) (oC hSw pm.out (by omega)) rfl) ?_; exact ⟨_,rfl,rfl⟩));try simp only [Act.put,ak]
 refine ah 1 ?_ (hy:=by intro wz hSw; (refine dL hk (oC hSw js.out (by omega)).2 ?_; exact ⟨_,rfl,rfl⟩));try simp only [Act.put,ak]
 refine ah 3 ?_ (hy:=by intro wz hSw; (refine dV (aU (j:=0) (oC hSw Fo.out (by omega)) rfl) ?_; exact ⟨_,rfl,rfl⟩));try simp only [Act.put,ak]
 refine aj 2 λK hK=>?_;go_simp;go_at_call 34
 (with_reducible refine (si.out w.drew).mono ?_)
 rintro e w5 ⟨a5,n5,c5,rfl,hx5,hb5⟩;have ag:Hid (Below w.heap.size w w5):=hid (bst (below_drewN aG 1) hb5);have cT:=hid hx5;clear hb5 hx5;refine hK.out _ _ (Bo.of ag.out) λhld=>?_;clear hK K;try simp only [Act.put,ak]
 refine aj 4 λK hK=>?_;go_simp;go_at_call 58
 (with_reducible refine (HC.out w5 ag.out a5 n5 c5 cT.out).mono ?_)
 intro e w6 hG;obtain ⟨p6,rfl,cL,H6⟩:=HF.out w5 ag.out a5 n5 c5 cT.out e w6 hG;replace H6:=hid H6;clear hG;refine hK.out _ _ (Bo.of cL) λhld=>?_;clear hK K;try simp only [Act.put,ak]
 refine aj 5 λK hK=>?_;refine cK (by rfl) H6.out.1 (off:=0) (by decide) p6 ⟨_,_,rfl,rfl,rfl⟩ ?_;intro ap aq az;have g9:=hid (H6.out.2 ap aq az);clear aq;refine hK.out _ _ ((Bo.of cL).upd az) λhld=>?_;clear hK K;try simp only [Act.put,ak]
 refine aA ?_;go_wp2;go_end0;exact ⟨rfl,g9.out⟩
theorem Rz (p:aJ) (k:aL) (hk:k.length=32) (bt bk br:Nat) (bs:Nat) (v:aK) (c:Int) (w:World) (mA:Rg.Own w bt #[.pointer p] 31) (mB:Rg.Own w bk (Ky.kc k) 25) (h1:bt≠br) (h2:bk≠br)
  (y3:Rg.Own w bs #[.string v] 9) (h3:bs≠br) (hC:∀ w5,Below w.heap.size w w5->∀ a5 n5 c5,bq w5 a5 n5 c5 (Ky.eY k)->Calls prog 58 #[.agg #[.pointer p],.slice a5 n5 c5,.string v] w5 (λe w'=>e = .panicked [fF c]/\Below w5.heap.size w5 w')) :
  Calls prog 57 #[.pointer (some ⟨bt,0,none⟩),.pointer (some ⟨bk,0,none⟩),.pointer (some ⟨bs,0,none⟩),.pointer (some ⟨br,0,none⟩)] w (λe w'=>e = .panicked [fF c]/\Below w.heap.size w w'):=by
 have si:=hid (λwx=>Ky.wD k hk wx);have pm:=hid mA;have js:=hid mB;have HC:=hid hC;have Fo:=hid y3;clear hC y3;clear mA mB;go_enter func57,ntmps57;go_wp2_with fail
 refine wp_region_held_drew (S:=λw'=>Bo br w w') (by kernel_rfl) (Bo.of (below_drewN aG 1)) (λhld=>?_);refine ah 0 ?_ (hy:=by intro wz hSw; (refine aT (aU (j:=0) (oC hSw pm.out (by omega)) rfl) ?_; exact ⟨_,rfl,rfl⟩));try simp only [Act.put,ak]
 refine ah 1 ?_ (hy:=by intro wz hSw; (refine dL hk (oC hSw js.out (by omega)).2 ?_; exact ⟨_,rfl,rfl⟩));try simp only [Act.put,ak]
 refine ah 3 ?_ (hy:=by intro wz hSw; (refine dV (aU (j:=0) (oC hSw Fo.out (by omega)) rfl) ?_; exact ⟨_,rfl,rfl⟩));try simp only [Act.put,ak]
 refine aj 2 λK hK=>?_;go_simp;go_at_call 34
 (with_reducible refine (si.out w.drew).mono ?_)
 rintro e w5 ⟨a5,n5,c5,rfl,hx5,hb5⟩;have ag:Hid (Below w.heap.size w w5):=hid (bst (below_drewN aG 1) hb5);have cT:=hid hx5;clear hb5 hx5;refine hK.out _ _ (Bo.of ag.out) λhld=>?_;clear hK K;try simp only [Act.put,ak]
 refine aj 4 λK hK=>?_;go_simp;go_at_call 58
 (with_reducible refine (HC.out w5 ag.out a5 n5 c5 cT.out).mono ?_)
 rintro e w6 ⟨rfl,hb6⟩;simp +zetaDelta [bodyPost,Exit.then];exact bst ag.out hb6
open Ky
theorem Ri (w:World) (p:aJ) (C:aM) (cs:aM) (T:TypeId):∃ w4,w4=((w.alloc (.cells #[.pointer p] 31)).alloc (.cells C 25)).alloc (.cells cs T)/\Rg.Own w4 w.heap.size #[.pointer p] 31/\Rg.Own w4 (w.heap.size+1) C 25/\Rg.Own w4 (w.heap.size+2) cs T/\Below w.heap.size w w4/\w4.heap.size=w.heap.size+3:=by
 have h2:=Rg.Own.new (w.alloc (.cells #[.pointer p] 31)) C 25;have h3:=Rg.Own.new ((w.alloc (.cells #[.pointer p] 31)).alloc (.cells C 25)) cs T;rw [show (w.alloc (.cells #[.pointer p] 31)).heap.size=w.heap.size+1 by simp] at h2;rw [show ((w.alloc (.cells #[.pointer p] 31)).alloc (.cells C 25)).heap.size=w.heap.size+2 by simp] at h3;exact ⟨_,rfl,((Rg.Own.new _ _ _).below (al1 _ _)).below (al1 _ _),h2.below (al1 _ _),h3,(al2 _ _ _).alloc (by simp; omega) _,by simp⟩
theorem VG (x:Int):∀ (j:Nat) (y:Int),(#[Value.int .i64 x]:aM)[j]? ≠ some (Value.int .u8 y):=λj y h=>by
 match j,h with
 | 0,h=>simp at h
 | j+1,h=>simp at h
theorem xB {w:World} {b:Nat} {t:TypeId} (h:Rg.Own w b #[v] t):w.cell? ⟨b,0,none⟩=some v/\w.frozen? ⟨b,0,none⟩=false:=⟨aU (j:=0) h rfl,jk h⟩
def GI:Option (Option aK)->Value
 | none=>.tuple #[.string eB,.int .i64 8]
 | some none=>.tuple #[.string eB,.int .i64 7]
 | some (some v)=>.tuple #[.string v,.int .i64 0]
theorem sH (p:aJ) (k:aL) (x:aK) (c:Int) (w w4:World) (hw4:w4=((w.alloc (.cells #[.pointer p] 31)).alloc (.cells (kc k) 25)).alloc (.cells #[.string eB] 9))
  (h:Calls prog 42 #[.func (.func 43) #[] #[.pointer (some ⟨w.heap.size,0,none⟩),.pointer (some ⟨w.heap.size+1,0,none⟩),.pointer (some ⟨w.heap.size+2,0,none⟩)]] w4 λe w'=>e = .returned (.int .i64 c)/\Rg.Own w' (w.heap.size+2) #[.string x] 9/\Below w.heap.size w w') :
  Calls prog 20 #[.agg #[.pointer p],.agg (kc k)] w λe w'=>e = .returned (.tuple #[.string x,.int .i64 c])/\Below w.heap.size w w':=by
 have eR:∀ (fn:Fn) (first cap:aM) (w:World),(Instr.makeFunc fn first cap).run prog w = .ok (.func fn first cap) w:=λ_ _ _ _=>rfl;obtain ⟨C,hC⟩:=av (kc k)
 have HH:=hid h;have HW:=hid hw4;rw [hC] at HW ⊢;clear h hw4 hC;go_enter func20,ntmps20;go_wp2_with fail
 rw [<-HW.out];refine HH.out.mono ?_;rintro e w5 ⟨rfl,aE,ge⟩;have cd:=hid aE;have ag:=hid ge;clear aE ge HH HW eR;go_wp2_with (first
  | (refine ay (dV (aU (j:=0) cd.out rfl) ⟨_,rfl,rfl⟩) ?_)
  | (refine CK cd.out x rfl _ _ rfl rfl rfl ?_; intro w6 cI jj; have cM:=hid cI; have cg:Hid (Below w.heap.size w w6):=hid (jj.below ag.out (by omega)); clear cI jj))
 exact bodyPost_ret (RO rfl _ rfl cM.out) rfl ⟨rfl,cg.out⟩
theorem wL (M:Mp) (p:aJ) (t:T) (k:aL) (hk:k.length=32) (w:World) (hi:Inv M w) (ht:IsT M p t) (hg:Tr.Good t 64) :
  Calls prog 20 #[.agg #[.pointer p],.agg (kc k)] w λe w'=>e = .returned (GI (Tr.get t (path k)))/\Below w.heap.size w w':=by
 obtain ⟨w4,hw4,b8,af,hO2,hb4,hs4⟩:=Ri w p (kc k) #[.string eB] 9;have hE:Rg.Own (w4.alloc (.cells #[.int .i64 0] 50)) w4.heap.size #[.int .i64 0] 50:=Rg.Own.new _ _ _;have hA:=al1 w4 (.cells #[.int .i64 0] 50);obtain ⟨wc,hwc⟩:=av (w4.alloc (.cells #[.int .i64 0] 50))
 rw [hwc] at hE hA;have hbc:=bst hb4 hA;have hic:=hi.below hbc;have hpl:(path k).length=64:=by rw [Tr.iJ,hk]
 have hfind:∀ w5,Below wc.heap.size wc w5->∀ a5 n5 c5,bq w5 a5 n5 c5 (eY k)->Calls prog 44 #[.agg #[.pointer p],.slice a5 n5 c5] w5 (λe w'=>e=kY (Tr.get t (path k))/\Below w5.heap.size w5 w'):=λw5 hb5 a5 n5 c5 hx =>
  TJ t M w5 p a5 n5 c5 (path k) (hic.below hb5) ht hx (by rw [hpl]; exact hg) (mJ k) (by omega)
 have hD:∀ wx,(callFunc 43 #[.pointer (some ⟨w.heap.size,0,none⟩),.pointer (some ⟨w.heap.size+1,0,none⟩),.pointer (some ⟨w.heap.size+2,0,none⟩)]).run prog wx = .ok (.enter 43 #[.pointer (some ⟨w.heap.size,0,none⟩),.pointer (some ⟨w.heap.size+1,0,none⟩),.pointer (some ⟨w.heap.size+2,0,none⟩)]) wx:=by intro wx; kernel_rfl
 have mC:∀ c:Int,kY (Tr.get t (path k)) = .panicked [fF c]->GI (Tr.get t (path k)) = .tuple #[.string eB,.int .i64 c]->Calls prog 20 #[.agg #[.pointer p],.agg (kc k)] w λe w'=>e = .returned (GI (Tr.get t (path k)))/\Below w.heap.size w w':=λc hc hv=>by
  rw [hv];refine sH p k eB c w w4 hw4 ((Tk.qQ 43 _ hD w4 c (λw'=>Below wc.heap.size wc w') (by
   rw [hwc];refine (UD p k hk _ _ _ c wc (b8.below hA) (af.below hA) (by omega) (by omega) (λw5 hb5 a5 n5 c5 hx=>by rw [<-hc]; exact hfind w5 hb5 a5 n5 c5 hx)).mono ?_;rintro e w' ⟨rfl,hb⟩;exact ⟨rfl,xB (hE.below hb),hb⟩)).mono ?_)
  rintro e w' ⟨rfl,w1,hb,rfl⟩;exact ⟨rfl,((hO2.below hA).below hb).upd (bV _ _ _ _) (by omega),(bV w1 w4.heap.size 0 (.int .i64 c)).below (bst hbc hb) (by omega)⟩
 match hget:Tr.get t (path k),hfind,mC with
 | none,_,mC=>exact mC 8 rfl rfl
 | some none,_,mC=>exact mC 7 rfl rfl
 | some (some v),hfind,_ =>
  refine sH p k v 0 w w4 hw4 ((Tk.qb 43 _ hD w4 (λw'=>Rg.Own w' (w.heap.size+2) #[.string v] 9/\Bo (w.heap.size+2) wc w'/\Below w.heap.size w w') (by
   rw [hwc];refine ((WL p k hk w.heap.size (w.heap.size+1) (w.heap.size+2) v wc (b8.below hA) (af.below hA) (by omega) (by omega) (hO2.below hA) (λw5 hb5 a5 n5 c5 hx=>hfind w5 hb5 a5 n5 c5 hx))).mono ?_;rintro e w' ⟨rfl,hO,hb⟩;have hbw:Below w.heap.size w w':=hb.below hbc (by have:=hbc.size; omega) (by omega);exact ⟨rfl,xB (oC hb hE (by omega)),hO,hb,hbw⟩)).mono ?_)
  rintro e w' ⟨rfl,w1,⟨hO,hb,hB⟩,rfl⟩;exact ⟨rfl,hO.upd (bV _ _ _ _) (by omega),(bV w1 w4.heap.size 0 (.int .i64 0)).below hB (by omega)⟩
def Jd (M:Mp) (w:World) (t:T) (c:Int) (e:Ending) (w':World):Prop:=∃ p M',e = .returned (.tuple #[tv p,.int .i64 c])/\IsT M' p t/\Fr M M' w w'/\Inv M' w'/\Below w.heap.size w w'
def MC (M:Mp) (w:World) (br:Nat) (t:T) (w':World):Prop:=∃ p M',Rg.Own w' br #[.pointer p] 31/\IsT M' p t/\Fr M M' w w'/\Inv M' w'/\Below w.heap.size w w'/\¬ M'.ft br
theorem MC.end_ {M:Mp} {w w5:World} {br:Nat} {t:T} {c:Int} (h:MC M w br t w5) (hg:w.heap.size<=br):∃ p,Rg.Own w5 br #[.pointer p] 31/\∀ w6,Rg.Upd w5 br w6->Jd M w t c (.returned (.tuple #[tv p,.int .i64 c])) w6:=by
 obtain ⟨p,M',hO,hT,f,i,b,hn⟩:=h;exact ⟨p,hO,λw6 hu=>⟨p,M',rfl,hT,f.upd hu hg,i.upd hu hn,hu.below b hg⟩⟩
theorem Yu {M M':Mp} {w wc:World} {br be:Nat} {p:aJ} {t:T} {cs:aM} {te:TypeId} (hi:Inv M w) (hbc:Below w.heap.size w wc) (hT:IsT M' p t) (hS:St M wc M' w6) (hu:Rg.Upd w6 br w1) (hO:Rg.Own w1 br #[.pointer p] T')
  (hOr:Rg.Own wc br #[.pointer none] 31) (Mm:Rg.Own wc be cs te) (hne:∀ (j:Nat) (x:Int),cs[j]? ≠ some (Value.int .u8 x)) (hgr:w.heap.size<=br) (hge:w.heap.size<=be) (hre:br≠be) (lE:T'=31) (x:Value):MC M w br t (w1.setCell ⟨be,0,none⟩ x):=by
 subst lE;have hu2:=bV w1 be 0 x;have nr:¬ M'.ft br:=hS.f.box (hi.free hgr) hOr.1 (eu hOr (cZ _));have ne:¬ M'.ft be:=hS.f.box (hi.free hge) Mm.1 (eu Mm hne);have hf:=(((Fr.below M hbc).trans hi hS.f).upd hu hgr).upd hu2 hge;exact ⟨p,M',hO.upd hu2 hre,hT,hf,(hS.i.upd hu nr).upd hu2 ne,hu2.below (hu.below (bst hbc hS.b) hgr) hge,nr⟩
theorem IQ (M:Mp) (p:aJ) (k:aL) (v:aK) (hv0:v.size≠0) (hv1:v.size<=65552) (R:T) (c:Int) (w w4:World) (hw4:w4=(((w.alloc (.cells #[.pointer p] 31)).alloc (.cells (kc k) 25)).alloc (.cells #[.string v] 9)).alloc (.cells #[.pointer none] 31))
  (h:Calls prog 42 #[.func (.func 57) #[] #[.pointer (some ⟨w.heap.size,0,none⟩),.pointer (some ⟨w.heap.size+1,0,none⟩),.pointer (some ⟨w.heap.size+2,0,none⟩),.pointer (some ⟨w.heap.size+3,0,none⟩)]] w4 λe w'=>e = .returned (.int .i64 c)/\MC M w (w.heap.size+3) R w') :
  Calls prog 29 #[.agg #[.pointer p],.agg (kc k),.string v] w (Jd M w R c):=by
 have eR:∀ (fn:Fn) (first cap:aM) (w:World),(Instr.makeFunc fn first cap).run prog w = .ok (.func fn first cap) w:=λ_ _ _ _=>rfl;have hne:=Ni.dP (s:=v) (by omega);have hd:decide ((65552:Int)<(v.size:Int))=false:=by simp; omega
 obtain ⟨C,hC⟩:=av (kc k)
 have HH:=hid h;have HW:=hid hw4;rw [hC] at HW ⊢;clear h hw4 hC;go_enter func29,ntmps29;go_wp2_with (first
  | (refine ay (aW _ _ _ (w.heap.size+3) (by simp) rfl) ?_)
  | (refine ay (dV (s:=v) (by simp) ⟨_,rfl,rfl⟩) ?_)
  | (refine Rg.runW (by rfl) _ _ (dV (s:=v) (by simp) ⟨_,rfl,rfl⟩) ?_))
 rw [<-HW.out];refine HH.out.mono ?_;rintro e w5 ⟨rfl,hB⟩;obtain ⟨p5,aE,Mn⟩:=hB.end_ (c:=c) (by omega);have cd:=hid aE;have mL:=hid Mn;clear hB aE Mn HH HW eR;go_wp2_with (first
  | (refine ay (aT (aU (j:=0) cd.out rfl) ⟨_,rfl,rfl⟩) ?_)
  | (refine aX cd.out (by simp) p5 rfl _ _ rfl rfl rfl ?_; intro w6 cI jj; have cM:=hid cI; have T8:=hid jj; clear cI jj))
 exact bodyPost_ret (qm (q:=6) (u:=7) rfl _ rfl cM.out) rfl (mL.out w6 T8.out)
theorem zS (M:Mp) (p:aJ) (t:T) (k:aL) (hk:k.length=32) (v:aK) (hv0:v.size≠0) (hv1:v.size<=65552) (w:World) (hi:Inv M w) (ht:IsT M p t) (hg:Tr.Good t 64) :
  (Tr.get t (path k)=none->Calls prog 29 #[.agg #[.pointer p],.agg (kc k),.string v] w (Jd M w .nil 8))/\
  (Tr.get t (path k)≠none->Calls prog 29 #[.agg #[.pointer p],.agg (kc k),.string v] w (Jd M w (put t (path k) v) 0)):=by
 obtain ⟨w3,hw3,b8,af,hO2,hb3,hs3⟩:=Ri w p (kc k) #[.string v] 9;obtain ⟨w4,hw4⟩:=au (w3.alloc (.cells #[.pointer none] 31))
 have fh:Below w3.heap.size w3 w4:=by rw [hw4]; exact al1 _ _
 have hOr:Rg.Own w4 (w.heap.size+3) #[.pointer none] 31:=by rw [hw4,<-hs3]; exact Rg.Own.new _ _ _
 have hs4:w4.heap.size=w.heap.size+4:=by rw [hw4]; simp [hs3]
 have hb4:=bst hb3 fh;replace b8:=b8.below fh;replace af:=af.below fh;replace hO2:=hO2.below fh;have sk:=hw4;rw [hw3] at sk;have hE:Rg.Own (w4.alloc (.cells #[.int .i64 0] 50)) w4.heap.size #[.int .i64 0] 50:=Rg.Own.new _ _ _;have hA:=al1 w4 (.cells #[.int .i64 0] 50);obtain ⟨wc,hwc⟩:=av (w4.alloc (.cells #[.int .i64 0] 50))
 rw [hwc] at hE hA;have hbc:=bst hb4 hA;have hic:=hi.below hbc;have hpl:(path k).length=64:=by rw [Tr.iJ,hk]
 have hD:∀ wx,(callFunc 57 #[.pointer (some ⟨w.heap.size,0,none⟩),.pointer (some ⟨w.heap.size+1,0,none⟩),.pointer (some ⟨w.heap.size+2,0,none⟩),.pointer (some ⟨w.heap.size+3,0,none⟩)]).run prog wx = .ok (.enter 57 #[.pointer (some ⟨w.heap.size,0,none⟩),.pointer (some ⟨w.heap.size+1,0,none⟩),.pointer (some ⟨w.heap.size+2,0,none⟩),.pointer (some ⟨w.heap.size+3,0,none⟩)]) wx:=by intro wx; kernel_rfl
 refine ⟨λhget=>?_,λhget=>?_⟩
 .refine IQ M p k v hv0 hv1 .nil 8 w w4 sk ((Tk.qQ 57 _ hD w4 8 (λw'=>Below wc.heap.size wc w') (by
   rw [hwc];refine (Rz p k hk _ _ (w.heap.size+3) _ v 8 wc (b8.below hA) (af.below hA) (by omega) (by omega) (hO2.below hA) (by omega) (λw5 hb5 a5 n5 c5 hx=>?_)).mono ?_
   .exact (Ic t (plus M (inS a5 n5)) w5 p a5 n5 c5 (path k) v ((hic.below hb5).plus (λk hk=>(wU hx hk).2)) (Ch ht) (Bs.in_ hx) (by rw [hpl]; exact hg) (mJ k) (by omega)).1 hget
   rintro e w' ⟨rfl,hb⟩;exact ⟨rfl,xB (hE.below hb),hb⟩)).mono ?_)
  rintro e w' ⟨rfl,w1,hb,rfl⟩;have hu2:=bV w1 w4.heap.size 0 (.int .i64 8);have hbw:=hu2.below (bst hbc hb) (by omega);exact ⟨rfl,none,M,((hOr.below hA).below hb).upd hu2 (by omega),rfl,Fr.below M hbw,hi.below hbw,hbw,hi.free (by omega)⟩
 .refine IQ M p k v hv0 hv1 (put t (path k) v) 0 w w4 sk ((Tk.qb 57 _ hD w4 (λw'=>∃ p' M' w6,IsT M' p' (put t (path k) v)/\St M wc M' w6/\Rg.Upd w6 (w.heap.size+3) w'/\Rg.Own w' (w.heap.size+3) #[.pointer p'] 31) (by
   rw [hwc];refine (Vx p k hk _ _ (w.heap.size+3) _ v wc (b8.below hA) (af.below hA) (by omega) (by omega) (hOr.below hA) M hic (put t (path k) v) (λw5 hb5 a5 n5 c5 hx=>?_) (hO2.below hA) (by omega)).mono ?_
   .exact (Ic t (plus M (inS a5 n5)) w5 p a5 n5 c5 (path k) v ((hic.below hb5).plus (λk hk=>(wU hx hk).2)) (Ch ht) (Bs.in_ hx) (by rw [hpl]; exact hg) (mJ k) (by omega)).2 hget
   rintro e w' ⟨rfl,p',M',w6,h1,h2,h3,h4⟩;exact ⟨rfl,xB ((hE.below h2.b).upd h3 (by omega)),p',M',w6,h1,h2,h3,h4⟩)).mono ?_)
  rintro e w' ⟨rfl,w1,⟨p',M',w6,h1,h2,h3,h4⟩,rfl⟩;exact ⟨rfl,Yu hi hbc h1 h2 h3 h4 (hOr.below hA) hE (VG _) (by omega) (by omega) (by omega) rfl _⟩
theorem Bx.fr {M M':Mp} {w w':World} {cs:aM} {t:TypeId} (h:Bx M w g cs t) (f:Fr M M' w w') (b:Below w.heap.size w w'):Bx M' w' g cs t:=h.got f b
theorem St.te {M M1:Mp} {w w2:World} {t:T} {c:Int} {e:Ending} (s:St M w M1 w1) (h:Jd M1 w1 t c e w2):∃ p M2,e = .returned (.tuple #[tv p,.int .i64 c])/\IsT M2 p t/\St M w M2 w2/\Fr M1 M2 w1 w2/\Below w1.heap.size w1 w2:=by
 obtain ⟨p,M2,he,ht,f,i,b⟩:=h;exact ⟨p,M2,he,ht,⟨s.f.trans s.i0 f,i,bst s.b b,s.i0⟩,f,b⟩
def EF (l:List Tr.Pair):Prop:=(∀ x∈l,x.1.length=32)/\∀ x∈l,x.2.size≠0/\x.2.size<=65552
theorem EF.has {l:List Tr.Pair} (h:EF l):Has (bA .nil l) (iD l):=Nt l.length l rfl h.1 h.2
theorem EF.take {l:List Tr.Pair} (h:EF l) (j:Nat):EF (l.take j):=⟨λx hx=>h.1 x (List.mem_of_mem_take hx),λx hx=>h.2 x (List.mem_of_mem_take hx)⟩
theorem Xn {t:T} {m:Tr.Key->Option aK} (h:Has t m) {k:Tr.Key} (hk:k.length=32):Tr.get t (path k)≠none:=by
 rw [h.get k hk];intro e;cases e
theorem EJ (M:Mp) (a:aJ) (n c:Nat) (l:List Tr.Pair) (hok:EF l) (w:World) (hi:Inv M w) (h:jM w a n c l) (hn:n<=1000000) :
  Calls prog 9 #[.slice a n c] w (dA M w (bA .nil l)):=by
 obtain ⟨w2,hw2,b8,af,hb2,hs2⟩:=mZ w none;have hS2:St M w M w2:=(St.refl hi).below hb2;have hX0:Bx M w2 w.heap.size #[.pointer none] 31:=⟨b8,hi.free (by omega),cZ _⟩
 have hX1:Bx M w2 (w.heap.size+1) #[.pointer none] 31:=⟨af,hi.free (by omega),cZ _⟩
 have hl:=h.len;have hcap:=h.1;have hmx:=h.2.1;unfold maxLen at hmx;have H:=hid h;have js:=hid hok;have HL:=hid hl;have HS2:=hid hS2;have HX0:=hid hX0;have bc:=hid hX1;have HW2:Hid (_=_):=hid hw2;clear b8 af hb2 hs2 hw2 hS2 hX0 hX1 h hok hl hi;go_enter func9,ntmps9;go_wp2_with (first | (refine ay (aW _ _ _ w.heap.size rfl rfl) ?_) | (refine ay (aW _ _ _ (w.heap.size+1) (by simp) rfl) ?_))
 rw [<-HW2.out];clear HW2;go_loopw [10] (λi wr=>∃ (j:Nat) (p:aJ) (Mr:Mp),j<=n/\i = .int .i64 j/\Hid (St M w Mr wr)/\Hid (Bx Mr wr w.heap.size #[.pointer none] 31)/\Hid (Bx Mr wr (w.heap.size+1) #[.pointer p] 31)/\Hid (IsT Mr p (bA .nil (l.take j)))) (λi _=>n-(intOf i).toNat)
 case atStart=>exact ⟨0,none,M,Nat.zero_le _,rfl,HS2,HX0,bc,hid rfl⟩
 case round =>
  obtain ⟨j,p,Mr,hj,rfl,HS,HA,HB,HT⟩:=hrel;clear HS2 HX0 bc;by_cases hlt:j<n
  .obtain ⟨b,off,rfl,hblt,hpa,hk⟩:=H.out.at' j hlt;have HE:Hid (l.getD j ([],eB)∈l/\l.take (j+1)=l.take j++[l.getD j ([],eB)]):=hid (by
    have hjl:j<l.length:=by rw [HL.out]; exact hlt
    have e:l.getD j ([],eB)=l[j]:=by simp [List.getD,hjl]
    rw [e];exact ⟨List.getElem_mem _,List.take_succ_eq_append_getElem hjl⟩)
   obtain ⟨x,hx⟩:=av (l.getD j ([],eB))
   rw [hx] at hpa hk HE;have hpr:=hpa.below HS.out.b;have hx2:=js.out.2 x HE.out.1;have hh:=(js.out.take j).has;have oT:=HS.out.b.size;have cU:=hid (λw5 (h5:Inv Mr w5)=>(zS Mr p _ x.1 hk x.2 hx2.1 hx2.2 w5 h5 HT.out hh.good).2 (Xn hh hk));rw [<-yT,<-HE.out.2] at cU;have uc:=hid hpr;have qt:=hid hk;have hNew:=Rg.Own.new wr (gH (List.replicate 32 0,eB)) 66;have HN:=hid hNew;have T9:=hid hx2;obtain ⟨k,v⟩:=x;clear hx hpa hk hpr hx2 hh hNew HE HT;dsimp only at cU qt;go_wp2_with (first
    | (refine ay (gQ qt.out uc.out ⟨_,rfl,rfl⟩) ?_)
    | (refine ay (lq _ _ _ wr.heap.size rfl rfl) ?_)
    | (refine jD HN.out (by simp) (k,v) qt.out rfl _ _ rfl rfl rfl rfl ?_; intro w5 aE ax; have cd:=hid aE; have ag:Hid (Below wr.heap.size wr w5):=hid (ax.below (al1 _ _) aF); clear aE ax)
    | (refine ay (aT (aU (j:=0) (HB.out.o.below ag.out) rfl) ⟨_,rfl,rfl⟩) ?_)
    | (refine ay (eH qt.out (cB.own cd.out).key ⟨_,rfl,rfl⟩) ?_)
    | (refine ay (dV (s:=v) ((cB.own cd.out).val qt.out) ⟨_,rfl,rfl⟩) ?_))
   have hS5:=HS.out.below ag.out;have y5:=HA.out.below ag.out;have ge:=HB.out.below ag.out;refine (cU.out w5 hS5.i).mono ?_;intro e w6 hG;obtain ⟨p6,M6,rfl,ky,ml,de,hb6⟩:=hS5.te hG;have pp:=y5.fr de hb6;have cL:=ge.fr de hb6;have sl:=hid ky;have fX:=hid ml;have mN:=hid pp;have cg:=hid cL;have hs6:=ml.b.size;have hlb:=cL.o.1;have hNew:=Rg.Own.new w6 #[.pointer none] 31;have ud:=hid hNew;clear hG ky ml de hb6 pp cL hS5 y5 ge cU cd ag HN uc T9 hNew HS HA HB;go_wp2_with (first
    | (refine ay (aW _ _ _ w6.heap.size rfl rfl) ?_)
    | (refine aX ud.out (by decide) p6 rfl _ _ rfl rfl rfl ?_; intro w7 eL df; have kv:=hid eL; have cq:Hid (Below w6.heap.size w6 w7):=hid (df.below (al1 _ _) aF); clear eL df)
    | (refine ay (aT (aU (j:=0) kv.out rfl) ⟨_,rfl,rfl⟩) ?_)
    | (refine aX (cg.out.o.below cq.out) (by simp) p6 rfl _ _ rfl rfl rfl ?_; intro w8 fS ip; have ol:=hid fS; have rS:=hid ip; clear fS ip))
   have lz:=fX.out.below cq.out;have Cl:=mN.out.below cq.out;have y6:=cg.out.below cq.out;go_roundw
   case rel=>exact ⟨j+1,p6,M6,by omega,by go_num,hid (lz.upd rS.out (by omega) y6.n),hid (Cl.upd rS.out (by omega)),hid ⟨ol.out,y6.n,cZ _⟩,sl⟩
   case measure=>simp [intOf]; omega
  .obtain rfl:j=n:=by omega
   have xe:Hid (IsT Mr p (bA .nil l)):=hid (by
    have:=HT.out;rwa [List.take_of_length_le (by rw [HL.out]; exact aF)] at this)
   clear HT;go_wp2_with (first
    | (refine ay (aT (aU (j:=0) HB.out.o rfl) ⟨_,rfl,rfl⟩) ?_)
    | (refine aX HA.out.o (by decide) p rfl _ _ rfl rfl rfl ?_; intro w8 fS ip; have ol:=hid fS; have rS:=hid ip; clear fS ip))
   have gh:=HS.out.upd rS.out aF HA.out.n;exact bodyPost_ret (dW rfl _ rfl ol.out) rfl ⟨p,Mr,rfl,xe.out,gh.f,gh.i,gh.b⟩
open No
open Rf
open Rl
open Sm (Tab)
structure Lw (w0:World) (M:Mp) (w:World):Prop where
 f:Fr M0 M w0 w
 i:Inv M w
 t:Tab w
 z:0<w0.heap.size
theorem Lw.start {w:World} (hT:Tab w):Lw w M0 w:=⟨Fr.refl _ _,Inv.zero w,hT,hT.pos⟩
theorem Lw.b {w0 w:World} {M:Mp} (h:Lw w0 M w):Below w0.heap.size w0 w:=h.f.all
theorem Lw.below {w0 w w':World} {M:Mp} (h:Lw w0 M w) (hb:Below w.heap.size w w'):Lw w0 M w':=⟨h.f.trans (Inv.zero _) (Fr.below M hb),h.i.below hb,h.t.below hb h.t.pos,h.z⟩
theorem Lw.fr {w0 w w':World} {M M':Mp} (h:Lw w0 M w) (f:Fr M M' w w') (i:Inv M' w') (t:Tab w'):Lw w0 M' w':=⟨h.f.trans (Inv.zero _) f,i,t,h.z⟩
theorem Lw.got {w0 w w':World} {M:Mp} {t:T} {e:Ending} (h:Lw w0 M w) (g:dA M w t e w'):∃ p M',e = .returned (tv p)/\IsT M' p t/\Lw w0 M' w'/\Fr M M' w w'/\Below w.heap.size w w':=by
 obtain ⟨p,M',he,ht,f,i,b⟩:=g;exact ⟨p,M',he,ht,h.fr f i (h.t.below b h.t.pos),f,b⟩
theorem Lw.tell {w0 w w':World} {M:Mp} {s:aK} {e:Ending} (h:Lw w0 M w) (g:rH M w s e w'):e = .returned (.string s)/\Lw w0 M w'/\Fr M M w w':=by
 obtain ⟨he,f,i,t⟩:=g;exact ⟨he,h.fr f i t,f⟩
theorem Lw.upd {w0 w w':World} {M:Mp} {g:Nat} (h:Lw w0 M w) (hu:Rg.Upd w g w') (hg:w0.heap.size<=g) (hf:¬ M.ft g):Lw w0 M w' :=
 ⟨h.f.upd hu hg,h.i.upd hu hf,λi hi=>by rw [World.cell?_of_block (hu.block 0 (by have:=h.z; omega))]; exact h.t i hi,h.z⟩
theorem rX {M M':Mp} {w w':World} {cs:aM} {t:TypeId} (h:Rg.Own w g cs t) (f:Fr M M' w w') (hm:M.at_ g=none):Rg.Own w' g cs t:=⟨aH h.1 f.size,(f.block g h.1 hm).trans h.2⟩
theorem mR {M:Mp} {w:World} (hi:Inv M w) {g:Nat} (h:¬ M.ft g):M.at_ g=none:=by
 cases hm:M.at_ g with
 | none=>rfl
 | some t=>exact absurd (hi.part_ g t hm).2.1 h
theorem Bx.frm {M M':Mp} {w w':World} {cs:aM} {t:TypeId} (h:Bx M w g cs t) (hi:Inv M w) (f:Fr M M' w w'):Bx M' w' g cs t:=⟨rX h.o f (mR hi h.n),f.box h.n h.o.1 (eu h.o h.h),h.h⟩
theorem rZ {M M':Mp} {w w':World} {j:Nat} {x:Int} {cs:aM} {t:TypeId} (h:Rg.Own w g cs t) (hx:cs[j]? = some (.int .u8 x)) (hi:Inv M w) (f:Fr M M' w w'):Rg.Own w' g cs t:=rX h f (hi.eu (aU h hx))
theorem Ev {k:aL} (hk:k.length=32):(kc k)[0]? = some (.int .u8 (k.getD 0 0).toNat):=by
 simp [kc,List.getD,hk]
theorem cB.frm {M M':Mp} {w w':World} {b o:Nat} {x:Tr.Pair} (h:cB w b o x) (hk:x.1.length=32) (hi:Inv M w) (f:Fr M M' w w'):cB w' b o x:=λj v hv=>by
 have h0:w.cell? ⟨b,o+0,none⟩=some (.int .u8 (x.1.getD 0 0).toNat):=h 0 _ (by
  unfold iM;rw [List.getElem?_append_left (by simp [hk])];simp [List.getD,hk])
 rw [f.cell (World.block_lt_of_cell? w _ h0) (hi.eu h0)];exact h j v hv
theorem jM.frm {M M':Mp} {w w':World} {a:aJ} {n c:Nat} {l:List Tr.Pair} (h:jM w a n c l) (hi:Inv M w) (f:Fr M M' w w'):jM w' a n c l :=
 ⟨h.1,h.2.1,h.2.2.1,h.2.2.2.1,h.2.2.2.2.1,λj hj=>by
  obtain ⟨b,off,e,hlt,hp,hk⟩:=h.at' j hj;exact ⟨b,off,e,aH hlt f.size,hp.frm hk hi f⟩⟩
theorem iV.frm {M M':Mp} {w w':World} {a:aJ} {n c:Nat} {ps:List (aJ)} (h:iV w a n c ps) (hi:Inv M w) (f:Fr M M' w w'):iV w' a n c ps:=by
 refine ⟨h.1,h.2.1,h.2.2.1,h.2.2.2.1,λj hj=>?_⟩;obtain ⟨b,off,e,hlt,hc⟩:=h.2.2.2.2 j hj;exact ⟨b,off,e,aH hlt f.size,by rw [f.cell hlt (hi.lT hc)]; exact hc⟩
theorem Vk {w:World} {b:Nat} {t:TypeId} {l:List Tr.Pair} (h:Rg.Own w b (rowP l).toArray t) (hk:∀ x∈l,x.1.length=32) (hn:l.length<=1000000):jM w (some ⟨b,0,none⟩) l.length l.length l:=by
 refine ⟨aF,by unfold maxLen; omega,rfl,λe=>(by cases e),hk,λj hj=>⟨b,0,rfl,h.1,λi v hv=>?_⟩⟩;have hkj:(l.getD j ([],eB)).1.length=32:=hk _ (Si hj);have hi:i<33:=by
  have:=(List.getElem?_eq_some_iff.1 hv).1;rwa [fP hkj] at this
 refine aU h ?_;rw [Nat.zero_add];simpa [Fw l hk j i hj hi] using hv
theorem Fj {rest:List Oper} {w:World} {b off:Nat} {cs:aM} {t:TypeId} (h:Rg.Own w b cs t) (hof:off<cs.size) (x:Int)
  (hgd:o.guard=none) (p q:Operand) (ho:o.op = .store 5 p q) (hx:act.eval p = .pointer (some ⟨b,off,none⟩)) (hy:act.eval q = .int .u8 x)
  (hQ:∀ w',Rg.Own w' b (cs.setIfInBounds off (.int .u8 x)) t->Rg.Upd w b w'->wpList prog ops Q rest (act.put o.dst undef) w'):wpList prog ops Q (o::rest) act w :=
 wpList_plain hgd λK hK=>by
  have hc:w.cell? ⟨b,off,none⟩=some cs[off]:=aU h (Array.getElem?_eq_getElem hof);have hz:w.frozen? ⟨b,off,none⟩=false:=jk h;have hst:(Instr.storeAt 5 (.pointer (some ⟨b,off,none⟩)) (.int .u8 x)).run prog w = .ok () (w.setCell ⟨b,off,none⟩ (.int .u8 x)):=by
   simp [go_sem,hc,hz]
  unfold Oper.wp execOp;simp only [ho,hx,hy,Sem.run_bind,Sem.run_pure,Result.andThen_ok,hst];exact hK _ _ (hQ _ (dO h _) (bV _ _ _ _))
theorem XY (k:aL) (i:Nat) (x:UInt8):(kc k).setIfInBounds i (.int .u8 x.toNat)=kc (k.set i x):=by
 unfold kc;rw [List.map_set];simp
theorem FC {w:World} {x z:Tr.Pair} (hk:x.1.length=32) (hz:z.1.length=32) (b:Nat) (hb:b=w.heap.size) (ho:∃ p q,o.op = .buildSlice 22 2 #[(0,p),(1,q)]/\ev p = .agg (gH x)/\ev q = .agg (gH z)) :
  (execOp ev o).run prog w = .ok (.value (.slice (some ⟨b,0,none⟩) 2 2)) (w.alloc (.cells (rowP [x,z]).toArray 66)):=by
 obtain ⟨p,q,ho,hx,hy⟩:=ho;obtain ⟨k,v⟩:=x;obtain ⟨k',v'⟩:=z;subst hb;unfold execOp;simp only [ho,List.map_toArray,List.map_cons,List.map_nil,hx,hy];obtain ⟨a0,a1,a2,a3,a4,a5,a6,a7,b0,b1,b2,b3,b4,b5,b6,b7,c0,c1,c2,c3,c4,c5,c6,c7,d0,d1,d2,d3,d4,d5,d6,d7,rfl⟩:=qp k hk;obtain ⟨e0,e1,e2,e3,e4,e5,e6,e7,f0,f1,f2,f3,f4,f5,f6,f7,g0,g1,g2,g3,g4,g5,g6,g7,h0,h1,h2,h3,h4,h5,h6,h7,rfl⟩:=qp k' hz;kernel_rfl
def ka:aL:=zk
def kb:aL:=zk.set 0 16
def sx:aK:=⟨#[120]⟩
def sy:aK:=⟨#[121]⟩
def lAB:List Tr.Pair:=[(ka,sx),(kb,sy)]
def lB:List Tr.Pair:=[(kb,sy)]
theorem Ai:ka.length=32:=rfl
theorem xC:kb.length=32:=rfl
theorem XP:EF lAB:=⟨λx hx=>by rcases List.mem_cons.1 hx with rfl | hx; exact Ai; rw [List.mem_singleton.1 hx]; exact xC,λx hx=>by rcases List.mem_cons.1 hx with rfl | hx; exact ⟨by decide,by decide⟩; rw [List.mem_singleton.1 hx]; exact ⟨by decide,by decide⟩⟩
theorem lastB (k:aL):iD lB k=if kb=k then some sy else none:=rfl
theorem Yr (k:aL):iD lAB k=if kb=k then some sy else if ka=k then some sx else none:=by
 show (match iD lB k with | some v=>some v | none=>if ka=k then some sx else none)=_;rw [lastB];by_cases h:kb=k
 .rw [if_pos h,if_pos h]
 .rw [if_neg h,if_neg h]
theorem jS:Has (bA .nil lAB) (iD lAB):=XP.has
theorem Vy:Tr.get (bA .nil lAB) (path kb)=some (some sy):=by rw [jS.get kb xC,Yr,if_pos rfl]
theorem TI:(bH (bA .nil lAB)).kd=3:=by kernel_rfl
end Tm
end
section
open Go.RowKit
namespace No
open Rl (FW Me Jw WH)
theorem Ol {w:World} (s:aK) (h:∃ x y,o.op = .binOp .eql 9 x y 9/\ev x = .string s/\ev y = .string s) :
  (execOp ev o).run prog w = .ok (.value (.bool true)) w:=by
 obtain ⟨x,y,ho,hx,hy⟩:=h;have:(binOp .eql 9 (.string s) (.string s)).run prog w = .ok (.bool true) w:=by
  unfold binOp;simp [go_sem,Op.stringOp]
 unfold execOp;simp [ho,hx,hy,go_sem]
end No
end
section
open Go.RowKit
namespace Rf
open Rl Ni No
theorem Ux (N:Nd) (a:aJ) (n c:Nat) (hl:N.ks.length=16) (w:World):Calls prog 135 #[.agg (ndC N a n c)] w (λe w'=>∃ (a':aJ) (n' cap':Nat),e = .returned (.slice a' n' cap')/\lW w' a' n' cap' (bJ N.ks)/\(∀ b off,a'=some ⟨b,off,none⟩->w.heap.size<=b)/\Below w.heap.size w w'):=by
 obtain ⟨i0,hi,hz0,hz1,hz2⟩:=jQ;have HI:Hid (_/\_/\_/\_):=hid ⟨hi,hz0,hz1,hz2⟩;have HO:Hid (dJ (w.alloc (.cells (ndC N a n c) 56)) w.heap.size N a n c):=hid (Rg.Own.new _ _ _);have HL:=hid hl;clear hi hz0 hz1 hz2 hl;go_enter func135,ntmps135;go_wp2_with (refine ay (nY HO.out HL.out ⟨_,rfl,rfl⟩) ?_)
 go_loopw [3,8] (λv i wr=>∃ j:Nat,j<=16/\i = .int .i64 j/\Hid (wr.ownsRow (w.heap.size+1) 9 1 v (bJ (N.ks.take j)).length ((bJ (N.ks.take j)).map Value.string))/\Below (w.heap.size+1) (w.alloc (.cells (ndC N a n c) 56)) wr) (λ_ i _=>16-(intOf i).toNat)
 case atStart=>exact ⟨0,Nat.zero_le _,rfl,hid (World.ownsRow_nil _ _ _ _),aG⟩
 case round =>
  obtain ⟨j,hj,rfl,HR,hB⟩:=hrel;have hsz:w.heap.size+1<=wr.heap.size:=by have:=hB.size; simp at this; omega
  by_cases hlt:j<16
  .have HS:=hid (qR N.ks j (by rw [HL.out]; exact hlt));have hkl:=DZ N.ks j;obtain ⟨L,hL⟩:=av (bJ (N.ks.take j))
   rw [hL] at HS hkl HR;clear hL;by_cases hk:(N.ks.getD j eB).size=0
   .have km:Hid (bJ (N.ks.take (j+1))=L):=hid (by rw [HS.out,if_neg (by simpa using hk),List.append_nil]);have HE:Hid (N.ks.getD j eB=eB):=hid (eF hk);clear hk;go_wp2_with (refine Rg.run rfl (.string (N.ks.getD j eB)) _ (fO HL.out hlt ⟨_,_,rfl,rfl,rfl⟩) ?_; rw [HE.out])
    go_roundw
    case rel=>exact ⟨j+1,by omega,by go_num,by rw [km.out]; exact HR,hB⟩
    case measure=>simp [intOf]; omega
   .have km:Hid (bJ (N.ks.take (j+1))=L++[N.ks.getD j eB]):=hid (by rw [HS.out,if_pos hk]);have hne:=Ni.dP (s:=N.ks.getD j eB) (by omega);obtain ⟨K,hK⟩:=av (N.ks.getD j eB)
    have HK:=hid hK;rw [hK] at hne km;clear hK hk HS;go_wp2_with (first
     | (refine Rg.run rfl (.string (N.ks.getD j eB)) _ (fO HL.out hlt ⟨_,_,rfl,rfl,rfl⟩) ?_; rw [HK.out])
     | (at_builtin; refine wpList_append_own _ rfl _ _ 34 rfl (w.heap.size+1) 9 i0 (.string ⟨#[]⟩) 1 16 underlying34 HI.out.1 HI.out.2.1 HI.out.2.2.1 HI.out.2.2.2 rfl (by decide) _ _ _ rfl (HR.out.alloc _) ⟨wr.heap.size,0,none⟩ 1 1 [.string K] rfl rfl ?d1 ?d2 ?d3 ?d4 ?d5 ?_))
    case d1=>exact Bu.cell_one_new' _ _ _ _
    case d2=>intro u hu; simp at hu; subst hu; rfl
    case d3=>unfold maxLen; omega
    case d4=>omega
    case d5=>simp; omega
    intro v' w2 hown2 hgrow _;have hlt':=HR.out.lt;go_wp2;go_roundw
    case rel=>exact ⟨j+1,by omega,by go_num,hid (by rw [km.out,List.length_append,List.map_append]; exact hown2),(hB.alloc hsz _).grown hgrow (by simp; omega) (λg hg=>(hlt' g hg).1)⟩
    case measure=>simp [intOf]; omega
  .obtain rfl:j=16:=by omega
   have hO:=HR.out;rw [List.take_of_length_le (by rw [HL.out]; exact aF)] at hO;obtain ⟨a',cap',rfl,hb⟩:=lW.qx hO;have hlt2:=hO.lt;have HF:Hid (∀ b off,a'=some ⟨b,off,none⟩->w.heap.size<=b):=hid (λb off e=>by
    subst e;have:=(hlt2 b rfl).1;omega)
   have HB:=hid hb;have cD:Hid (Below w.heap.size w wr):=hid (pU hB);clear hO hb hlt2;go_wp2;go_ret;exact ⟨a',_,cap',rfl,HB.out,HF.out,cD.out⟩
theorem Ht {B n:Nat} {w w':World} {xs:List Value} (h:w.ownsRow B e 1 v n xs) (hb:Below w.heap.size w w'):w'.ownsRow B e 1 v n xs:=h.kept (Bu.fu hb) (by cases v.ownBlock <;> simp)
end Rf
end
section
open Go.RowKit
namespace Tm
open Tr Ni Pk Ky No Rf Rl
open Sm (Tab)
def Yv (M:Mp) (w:World) (e:Ending) (w':World):Prop:=e = .returned (.bool true)/\Fr M M w w'/\Inv M w'/\Tab w'
theorem QH (M:Mp) (p:aJ) (t:T) (L:Nat) (g:Tr.Good t L) (hL:L<=64) (f:Fine t) (w:World) (hi:Inv M w) (ht:IsT M p t) (hT:Tab w) :
  Calls prog 151 #[tv p,.string (ref t)] w (Yv M w):=by
 obtain ⟨w1,hw1⟩:=au (w.alloc (.cells #[.pointer p] 31))
 have af:Rg.Own w1 w.heap.size #[.pointer p] 31:=by rw [hw1]; exact Rg.Own.new _ _ _
 have hb1:Below w.heap.size w w1:=by rw [hw1]; exact al1 _ _
 have HO:=hid af;have HC:=hid (sD M p t L g hL f w1 (hi.below hb1) ht (hT.below hb1 hT.pos));have HI:=hid hi;have HF:Hid (Fr M M w w1):=hid (Fr.below M hb1);obtain ⟨s,hs⟩:=av (ref t)
 rw [hs] at HC ⊢;clear af hb1 hi ht hT f g hs;subst hw1;go_enter func151,ntmps151;go_wp2_with (refine ay (aT (aU (j:=0) HO.out rfl) ⟨_,rfl,rfl⟩) ?_)
 refine HC.out.mono ?_;rintro e w2 ⟨rfl,hf,hi2,il⟩;have HY:Hid (Fr M M w w2/\Inv M w2/\Tab w2):=hid ⟨HF.out.trans HI.out hf,hi2,il⟩;clear hf hi2 il HC HF;go_wp2_with (refine ay (Ol s ⟨_,_,rfl,rfl,rfl⟩) ?_)
 go_ret;exact ⟨rfl,HY.out.1,HY.out.2.1,HY.out.2.2⟩
theorem lW.frm {M M':Mp} {w w':World} {a:aJ} {n c:Nat} {xs:List aK} (h:lW w a n c xs) (f:Fr M M' w w') (hm:∀ b off,a=some ⟨b,off,none⟩->M.at_ b=none):lW w' a n c xs:=by
 refine ⟨h.1,h.2.1,h.2.2.1,λj hj=>?_⟩;obtain ⟨b,off,h1,h2,h3⟩:=h.2.2.2 j hj;exact ⟨b,off,h1,aH h2 f.size,by rw [World.cell?_of_block (w:=w) (a:=⟨b,off+j,none⟩) (f.block b h2 (hm b off h1))]; exact h3⟩
theorem PW (M:Mp) (ps:List (aJ)) (ts:List T) (a:aJ) (n c:Nat) (b:aJ) (m d:Nat) (w:World) (hP:iV w a n c ps) (hA:Are M ps ts) (hts:∀ s∈ts,∃ L,Tr.Good s L/\L<=64/\Fine s)
  (hS:lW w b m d (ts.map ref)) (hnew:∀ g off,b=some ⟨g,off,none⟩->M.at_ g=none) (hn:n<=1000000) (hi:Inv M w) (hT:Tab w) :
  Calls prog 150 #[.slice a n c,.slice b m d,.func (Fn.func 151) #[] #[]] w (Yv M w):=by
 have hm:=hP.2.1;have hnc:=hP.1;have hl:=hP.2.2.1;have hmn:m=n:=by rw [<-hS.2.2.1,List.length_map,<-hA.1,hl]
 subst hmn;unfold maxLen at hm;have H:=hid hP;have HA:=hid hA;have Tb:=hid hts;have HS:=hid hS;have HN:=hid hnew;have HI:=hid hi;have HL:=hid hl;have HT:=hid hT;clear hP hA hts hS hnew hi hT hl;go_enter func150,ntmps150;go_wp2_with fail
 go_loopw [17] (λi wr=>∃ j:Nat,j<=m/\i = .int .i64 j/\Hid (Fr M M w wr/\Inv M wr/\Tab wr)) (λi _=>m-(intOf i).toNat)
 case atStart=>exact ⟨0,Nat.zero_le _,rfl,hid ⟨Fr.refl _ _,HI.out,HT.out⟩⟩
 case round =>
  obtain ⟨j,hj,rfl,HF⟩:=hrel;by_cases hlt:j<m
  .have hji:(j:Int)<m:=by omega
   obtain ⟨g1,off1,rfl,hblt,hc⟩:=(H.out.frm HI.out HF.out.1).2.2.2.2 j hlt;obtain ⟨g2,off2,rfl,r9,hc2⟩:=(lW.frm HS.out HF.out.1 HN.out).2.2.2 j hlt;have hjt:j<ts.length:=by rw [<-HA.out.1,HL.out]; exact hlt
   have ht:=HA.out.2 j (by rw [HL.out]; exact hlt);have he:(ts.map ref).getD j eB=ref (ts.getD j .nil):=by
    simp [List.getD,hjt]
   have hmem:ts.getD j .nil∈ts:=by
    rw [List.getD_eq_getElem?_getD,List.getElem?_eq_getElem hjt];exact List.getElem_mem _
   obtain ⟨L,hg,hL,hf⟩:=Tb.out _ hmem;rw [he] at hc2;obtain ⟨t,Mo⟩:=av (ts.getD j .nil)
   obtain ⟨p,hp⟩:=av (ps.getD j none)
   rw [hp] at hc ht;rw [Mo] at hc2 ht hg hf;have hNew:=Rg.Own.new wr #[.pointer none] 31;have mS:=hid hNew;have HC:Hid (∀ w5,Below wr.heap.size wr w5->Calls prog 151 #[tv p,.string (ref t)] w5 (Yv M w5)):=hid (λw5 hb5=>QH M p t L hg hL hf w5 (HF.out.2.1.below hb5) ht (HF.out.2.2.below hb5 HF.out.2.2.pos));obtain ⟨s,hs⟩:=av (ref t)
   rw [hs] at HC hc2;have mT:Hid (∀ w5,Below wr.heap.size wr w5->w5.cell? ⟨g2,off2+j,none⟩=some (.string s)):=hid (λw5 hb5=>aV hb5 hc2);clear he hmem hg hL hf Mo hp hs hNew ht hc2 hjt;go_wp2_with (first
    | (refine ay (aT hc ⟨_,rfl,rfl⟩) ?_)
    | (refine ay (aW _ _ _ wr.heap.size rfl rfl) ?_)
    | (refine aX mS.out (by decide) _ rfl _ _ rfl rfl rfl ?_; intro w5 aE ax; have cd:=hid aE; have ag:Hid (Below wr.heap.size wr w5):=hid (ax.below (al1 _ _) aF); have c2:=mT.out w5 ag.out; clear aE ax mT)
    | (refine ay (aT (aU (j:=0) cd.out rfl) ⟨_,rfl,rfl⟩) ?_)
    | (refine ay (dV c2 ⟨_,rfl,rfl⟩) ?_))
   refine (HC.out w5 ag.out).mono ?_;rintro e w6 ⟨rfl,de,lv,ky⟩;have Th:Hid (Fr M M w w6/\Inv M w6/\Tab w6):=hid ⟨(HF.out.1.trans HI.out (Fr.below M ag.out)).trans HI.out de,lv,ky⟩;clear de lv ky HC HF hc c2;go_wp2_with fail
   go_roundw
   case rel=>exact ⟨j+1,by omega,by go_num,Th⟩
   case measure=>simp [intOf]; omega
  .obtain rfl:j=m:=by omega
   go_wp2_with fail
   go_ret;exact ⟨rfl,HF.out.1,HF.out.2.1,HF.out.2.2⟩
theorem Zz (w:World):∃ w1,w1=w.alloc (.cells #[.pointer none] 31)/\Rg.Own w1 w.heap.size #[.pointer none] 31/\Below w.heap.size w w1/\w1.heap.size=w.heap.size+1:=⟨_,rfl,Rg.Own.new _ _ _,al1 _ _,by simp⟩
def Ph (M:Mp) (w:World) (t:T) (e:Ending) (w':World):Prop:=∃ p M',e = .returned (.agg #[.pointer p])/\IsT M' p t/\Fr M M' w w'/\Inv M' w'/\Below w.heap.size w w'/\∀ k,k<w.heap.size->M'.ft k->M.ft k
theorem Qa {M:Mp} {w w':World} {b:Nat} (hi:Inv M w) (hb:Below w.heap.size w w') (hB:w.heap.size<=b)
  (hc:w'.heap[b]? = some (.cells (iq (.stub r) none 0 0 none 0 0 0 r) 108 (0,0))) :
  Ph M w (.stub r) (.returned (.agg #[.pointer (some ⟨b,0,none⟩)])) w':=by
 have hn:T.stub r ≠ .nil:=λe=>by cases e
 have f:=Fr.more hi hb b (.stub r) hB;have hlt:b<w'.heap.size:=(Array.getElem?_eq_some_iff.1 hc).1;refine ⟨_,Tm.more M b (.stub r) w.heap.size w'.heap.size,rfl,⟨b,rfl,tY _ _ _ _ _,hn⟩,f,⟨λk hk=>hk.elim (λh=>aH (hi.lt_ k h) hb.size) (λh=>h.2),λk u hm=>?_⟩,hb,λk hk h=>h.elim (λh=>h) (λh=>absurd h.1 (by omega))⟩;by_cases e:k=b
 .subst e;rw [tY] at hm;obtain rfl:=Option.some.inj hm;exact ⟨hn,Or.inr ⟨hB,hlt⟩,none,0,0,none,0,0,0,_,hc,Bs.nil _ _,Ks.nil _ _,Or.inl ⟨rfl,rfl⟩⟩
 .rw [rT e] at hm;have hlt:=hi.lt hm;obtain ⟨h1,h2,a,n,c,ka,kn,kc,d,r,g1,g2,g3,g4⟩:=hi.part_ k u hm;exact ⟨h1,Or.inl h2,a,n,c,ka,kn,kc,d,r,(hb.block k hlt).trans g1,g2.fr hi f,g3.fr hi f,g4⟩
theorem Qc (M:Mp) (r:aK) (hr:r.size<=maxLen) (hk:oh r=1\/oh r=2) (w:World) (hi:Inv M w) :
  Calls prog 63 #[.string r] w (Ph M w (.stub r)):=by
 obtain ⟨w1,hw1,af,hb1,hs1⟩:=Zz w;have HK:=hid (Rf.dF r hr w1);have HO:Hid (∀ w2,Below w1.heap.size w1 w2->Rg.Own (w2.alloc (.cells (iq (.stub r) none 0 0 none 0 0 0 r) 108)) w.heap.size #[.pointer none] 31):=hid (λw2 hb2=>(af.below hb2).below (al1 _ _));have HE:Hid (∀ w2,Below w1.heap.size w1 w2->∀ w3,Rg.Upd (w2.alloc (.cells (iq (.stub r) none 0 0 none 0 0 0 r) 108)) w.heap.size w3->Ph M w (.stub r) (.returned (tv (some ⟨w2.heap.size,0,none⟩))) w3):=hid (λw2 hb2 w3 hu=>by
  have hb:=hu.below (bst (bst hb1 hb2) (al1 _ _)) aF;have hs2:=hb2.size;have hP:Rg.Own (w2.alloc (.cells (iq (.stub r) none 0 0 none 0 0 0 r) 108)) w2.heap.size (iq (.stub r) none 0 0 none 0 0 0 r) 108:=Rg.Own.new _ _ _;exact Qa hi hb (by omega) (zJ hP hu (by omega)))
 clear af hb1 hs1 hi hr;subst hw1;go_enter func63,ntmps63;go_wp2_with (refine ay (aW _ _ _ _ rfl rfl) ?_)
 refine HK.out.mono ?_;rintro e w2 ⟨rfl,hb2⟩;have d8:=hid (HO.out w2 hb2);have HE2:=hid (HE.out w2 hb2);clear hb2 HO HE HK;rcases hk with hk | hk
 .rw [hk];go_wp2_with (first
   | (refine ay (bK (AP r) ⟨_,rfl,rfl⟩) ?_)
   | (refine ay (kK (t:=.stub r) ⟨_,rfl,rfl⟩) ?_)
   | (refine aX d8.out (by decide) (some ⟨w2.heap.size,0,none⟩) rfl _ _ rfl rfl rfl ?_; intro w3 hO3 hu3; have am:=hid hO3; have ld:=hid hu3; clear hO3 hu3))
  exact bodyPost_ret (dW rfl _ rfl am.out) rfl (HE2.out w3 ld.out)
 .rw [hk];go_wp2_with (first
   | (refine ay (bK (AP r) ⟨_,rfl,rfl⟩) ?_)
   | (refine ay (kK (t:=.stub r) ⟨_,rfl,rfl⟩) ?_)
   | (refine aX d8.out (by decide) (some ⟨w2.heap.size,0,none⟩) rfl _ _ rfl rfl rfl ?_; intro w3 hO3 hu3; have am:=hid hO3; have ld:=hid hu3; clear hO3 hu3))
  exact bodyPost_ret (dW rfl _ rfl am.out) rfl (HE2.out w3 ld.out)
theorem UJ {t:T} (g:Tr.Good t L) (hL:L<=64) (f:Fine t) (hn:t ≠ .nil):oh (ref t)=1\/oh (ref t)=2:=by
 obtain ⟨_,h1,h2⟩:=eZ t L g hL f hn;unfold oh;rw [if_neg h2];by_cases h:(ref t).size=32
 .rw [if_pos h]; exact .inl rfl
 .rw [if_neg h,if_pos h1]; exact .inr rfl
def yG (ks:List aK) (ps:List (aJ)) (i:Nat):aJ:=if (ks.getD i eB).size=0 then none else ps.getD (bJ (ks.take i)).length none
def gD (ks:List aK) (ps:List (aJ)) (j:Nat):List (aJ):=(List.range 16).map λi=>if i<j then yG ks ps i else none
section
variable {ks:List aK} {ps:List (aJ)} {j:Nat}
theorem iK:(gD ks ps j).length=16:=by simp [gD]
theorem Fp:gD ks ps 0=uK:=rfl
theorem Gh (hj:j<16):gD ks ps (j+1)=(gD ks ps j).set j (yG ks ps j):=by
 apply List.ext_getElem
 .rw [List.length_set,iK,iK]
 .intro i h1 h2;rw [iK] at h1;rw [List.getElem_set];simp only [gD,List.getElem_map,List.getElem_range];by_cases e:j=i
  .subst e;rw [if_pos rfl,if_pos (Nat.lt_succ_self _)]
  .rw [if_neg e];by_cases h:i<j
   .rw [if_pos h,if_pos (by omega)]
   .rw [if_neg h,if_neg (by omega)]
theorem EB (hj:j<16) (h:yG ks ps j=none):gD ks ps (j+1)=gD ks ps j:=by
 apply List.ext_getElem
 .rw [iK,iK]
 .intro i h1 h2;simp only [gD,List.getElem_map,List.getElem_range];by_cases e:i=j
  .subst e;rw [if_pos (Nat.lt_succ_self _),if_neg (Nat.lt_irrefl _),h]
  .by_cases h:i<j
   .rw [if_pos h,if_pos (by omega)]
   .rw [if_neg h,if_neg (by omega)]
theorem Km (i:Nat) (hi:i<16):(gD ks ps 16).getD i none=yG ks ps i:=by
 have:i<(gD ks ps 16).length:=by rw [iK]; exact hi
 rw [List.getD_eq_getElem?_getD,List.getElem?_eq_getElem this];simp [gD,hi]
theorem vH (q:Nat):(bJ (ks.take q)).length<=(bJ ks).length:=by
 unfold bJ;exact ((List.take_sublist q ks).filter _).length_le
end
theorem iV.from' {w:World} {a:aJ} {n c:Nat} {ps:List (aJ)} (h:iV w a n c ps) (i:Nat) (hi:i<=n):iV w (dM a c i) (n-i) (c-i) (ps.drop i):=by
 have h1:=h.1;have h2:=h.2.1;refine ⟨by omega,by omega,by rw [List.length_drop,h.2.2.1],λe=>?_,λj hj=>?_⟩
 .unfold dM at e;split at e
  .omega
  .have:a=none:=by simpa using e
   have:=h.2.2.2.1 this;omega
 .obtain ⟨b,off,e,hlt,hc⟩:=h.2.2.2.2 (i+j) (by omega);refine ⟨b,off+i,?_,hlt,?_⟩
  .unfold dM;rw [if_neg (by omega),e];simp [Addr.add_mid]
  .rw [Nat.add_assoc,hc];simp [List.getD]
theorem ES (N:Nd) (hk:N.kd≠3) (hl:N.ks.length=16) (pa:aJ) (pn pc:Nat) (ps:List (aJ)) (ka:aJ) (kn kc:Nat) (w:World) (h:iV w ka kn kc ps) (hn:kn<=1000000) :
  Calls prog 152 #[.agg (ndC N pa pn pc),.slice ka kn kc] w λe w'=>∃ v,e = .returned v/\vP w.heap.size w' v ps/\Below w.heap.size w w':=by
 obtain ⟨w1,hw1,af,hb1,hs1⟩:∃ w1,w1=w.alloc (.cells (ndC N pa pn pc) 56)/\dJ w1 w.heap.size N pa pn pc/\Below w.heap.size w w1/\w1.heap.size=w.heap.size+1:=⟨_,rfl,Rg.Own.new _ _ _,al1 _ _,by simp⟩
 have c0:=(bW af).1;have k1:(N.kd==3)=false:=by rw [beq_eq_false_iff_ne]; exact hk
 have k2:decide (N.kd=3)=false:=decide_eq_false hk;have HC:=hid (uf ka kn kc ps w1 (h.below hb1) hn);have HB:=hid hb1;have HS:=hid hs1;clear h af hb1 hs1;subst hw1;go_enter func152,ntmps152;go_wp2_with fail
 refine HC.out.mono ?_;rintro e w2 ⟨v,rfl,hR,hb2⟩;have HR:=hid hR;have HB2:=hid hb2;clear hR hb2 HC;go_wp2_with fail
 go_ret;have hrr:=HR.out;refine ⟨v,rfl,?_,bst HB.out HB2.out⟩;rcases hrr with h | ⟨g,cap,h1,h2,h3⟩
 .exact .inl h
 .exact .inr ⟨g,cap,h1,by rw [HS.out] at h2; omega,h3⟩
theorem QC (N:Nd) (hk:N.kd=3) (hl:N.ks.length=16) (pa:aJ) (pn pc:Nat) (ps:List (aJ)) (ka:aJ) (kn kc:Nat) (w:World) (h:iV w ka kn kc ps) (hn:kn=(bJ N.ks).length) :
  Calls prog 152 #[.agg (ndC N pa pn pc),.slice ka kn kc] w λe w'=>∃ g,e = .returned (.slice (some ⟨g,0,none⟩) 16 16)/\w.heap.size<=g/\Rg.Own w' g (oq (gD N.ks ps 16)) 31/\Below w.heap.size w w':=by
 obtain ⟨w1,hw1,af,hb1,hs1⟩:∃ w1,w1=w.alloc (.cells (ndC N pa pn pc) 56)/\dJ w1 w.heap.size N pa pn pc/\Below w.heap.size w w1/\w1.heap.size=w.heap.size+1:=⟨_,rfl,Rg.Own.new _ _ _,al1 _ _,by simp⟩
 obtain ⟨w2,hw2,hO2,hb2⟩:∃ w2,w2=w1.alloc (.cells (oq uK) 31)/\Rg.Own w2 (w.heap.size+1) (oq uK) 31/\Below w1.heap.size w1 w2:=⟨_,rfl,by rw [<-hs1]; exact Rg.Own.new _ _ _,al1 _ _⟩
 have c0:=(bW af).1;rw [hk] at c0;have c1:=c0;rw [hw1] at c1;have hkm:=h.2.1;have hkc:=h.1;unfold maxLen at hkm;have HO:=hid (af.below hb2);have im:=hid hO2;have HL:=hid hl;have HB1:=hid hb1;have HB2:Hid (Below (w.heap.size+1) w1 w2):=hid (by rw [<-hs1]; exact hb2);have HH:=hid (h.below hb1);have Z8:=hid h;have HW2:Hid (_=_):=hid hw2;have HS:=hid hs1;have hgen:∀ q,(bJ (N.ks.take q)).length<=kn:=λq=>by rw [hn]; exact vH q
 have HG:=hid hgen;have HW1:Hid (_=_):=hid hw1;clear h af hb1 hs1 hO2 hb2 hw2 hl hgen hw1 hn hk;go_enter func152,ntmps152;go_wp2_with (first
  | (rw [<-HW1.out]; refine ay (CX (w.heap.size+1) HS.out.symm ⟨_,_,rfl,rfl,rfl⟩) ?_; rw [<-HW2.out])
  | (refine ay (nY HO.out HL.out ⟨_,rfl,rfl⟩) ?_))
 clear HW2 c0 c1;go_loopw [1,16] (λv i wr=>∃ (j r:Nat) (a:aJ) (m c:Nat),j<=16/\r+m=kn/\i = .int .i64 j/\v = .slice a m c/\r=(bJ (N.ks.take j)).length/\Hid (iV w1 a m c (ps.drop r))/\Hid (Rg.Own wr (w.heap.size+1) (oq (gD N.ks ps j)) 31)/\Hid (Below (w.heap.size+1) w1 wr)) (λ_ i _=>16-(intOf i).toNat)
 case atStart=>exact ⟨0,0,ka,kn,kc,Nat.zero_le _,Nat.zero_add _,rfl,rfl,rfl,HH,hid (by rw [Fp]; exact im.out),HB2⟩
 case round =>
  obtain ⟨j,r,a,m0,c,hj,hrm,rfl,rfl,hr,HP,lx,HB⟩:=hrel;clear im HB2 HH;by_cases hlt:j<16
  .have i1:(j:Int)<16:=by omega
   have jt:=hid (qR N.ks j (by rw [HL.out]; exact hlt));have hg1:=HG.out (j+1);by_cases hkz:(N.ks.getD j eB).size=0
   .have iv:Hid (bJ (N.ks.take (j+1))=bJ (N.ks.take j)):=hid (by rw [jt.out,if_neg (by simpa using hkz),List.append_nil]);have Tl:Hid (gD N.ks ps (j+1)=gD N.ks ps j):=hid (EB hlt (if_pos hkz));have HE:Hid (N.ks.getD j eB=eB):=hid (eF hkz);clear hkz;go_wp2_with (refine Rg.run rfl (.string (N.ks.getD j eB)) _ (fO HL.out hlt ⟨_,_,rfl,rfl,rfl⟩) ?_; rw [HE.out])
    go_roundw
    case rel=>exact ⟨j+1,r,_,_,_,by omega,hrm,by go_num,rfl,by rw [iv.out]; exact hr,HP,hid (by rw [Tl.out]; exact lx.out),HB⟩
    case measure=>simp [intOf]; omega
   .replace jt:Hid (bJ (N.ks.take (j+1))=bJ (N.ks.take j)++[N.ks.getD j eB]):=hid (by rw [jt.out,if_pos hkz]);rw [jt.out,List.length_append,List.length_singleton,<-hr] at hg1;obtain ⟨m,rfl⟩:∃ m,m0=m+1:=⟨m0-1,by omega⟩
    have hne:=Ni.dP (s:=N.ks.getD j eB) (by omega);obtain ⟨b,off,rfl,hblt,hcc⟩:=HP.out.2.2.2.2 0 (by omega);have hpp:(ps.drop r).getD 0 none=yG N.ks ps j:=by
     unfold yG;rw [if_neg hkz,<-hr];simp [List.getD]
    rw [hpp,Nat.add_zero] at hcc;have u4:=hid (Gh (ks:=N.ks) (ps:=ps) hlt);obtain ⟨p,hp⟩:=av (yG N.ks ps j)
    rw [hp] at hcc u4;have HC:Hid (∀ wz,Below (w.heap.size+1) w1 wz->wz.cell? ⟨b,off,none⟩=some (.pointer p)):=hid (λwz hb=>(Below.cell (p:=⟨b,off,none⟩) hb (by rw [<-HS.out]; exact hblt)).trans hcc);have ue:Hid (iV w1 (dM (some ⟨b,off,none⟩) c 1) (m+1-1) (c-1) (ps.drop (r+1))):=hid (by
     have:=HP.out.from' 1 (by omega);rwa [List.drop_drop] at this)
    have hm0:(0:Int)<((m+1:Nat):Int):=by omega
    have hcm:=HP.out.1;have hcx:=HP.out.2.1;unfold maxLen at hcx;obtain ⟨K,hK⟩:=av (N.ks.getD j eB)
    have HK:=hid hK;rw [hK] at hne jt;clear hkz hpp hp hcc hblt hK;go_wp2_with (refine Rg.run rfl (.string (N.ks.getD j eB)) _ (fO HL.out hlt ⟨_,_,rfl,rfl,rfl⟩) ?_; rw [HK.out])
    have h0:=lx.out;refine aB (S:=λw'=>Below (w.heap.size+1) w1 w') (HB.out.drew) λhld=>?_;replace h0:=h0.drew;refine ah 0 ?_;try simp only [Act.put,ak]
    refine ah 1 ?_;try simp only [Act.put,ak]
    refine ah 2 ?_;try simp only [Act.put,ak]
    refine ah 3 ?_ (hy:=by intro wz hSw; (have q0:=hm0; go_simp <;> with_reducible rfl));try simp only [Act.put,ak]
    refine ah 4 ?_ (hy:=by intro wz hSw; (refine aT (HC.out wz hSw) ?_; exact ⟨_,rfl,rfl⟩));try simp only [Act.put,ak]
    refine ah 5 ?_;try simp only [Act.put,ak]
    refine ah 6 ?_ (hy:=by intro wz hSw; (refine lD mU yC (a:=some ⟨b,off,none⟩) (n:=m+1) (c:=c) (i:=1) (by omega:1<=m+1) ?_; exact ⟨_,_,rfl,rfl,rfl⟩));try simp only [Act.put,ak]
    refine ah 7 ?_ (hy:=by intro wz hSw; (have q0:=i1; go_simp <;> with_reducible rfl));try simp only [Act.put,ak]
    refine aj 8 λK hK=>?_;refine cK (by rfl) h0 (off:=j) (by simpa [oq,iK] using hlt) p ⟨_,_,rfl,rfl,rfl⟩ ?_;rintro w6 hn hu;have cg:Hid (Below (w.heap.size+1) w1 w6):=hid (hu.below hld aF);rw [IX] at hn;replace h0:=hn;clear hn hu;refine hK.out _ _ (cg.out) λhld=>?_;clear hK K;try simp only [Act.put,ak]
    refine ah 9 ?_;try simp only [Act.put,ak]
    refine aA ?_;have cM:=hid h0;clear h0 hld;go_wp2;go_roundw
    case rel=>exact ⟨j+1,r+1,_,_,_,by omega,by omega,by go_num,rfl,by rw [jt.out,List.length_append,List.length_singleton,hr],ue,hid (by rw [u4.out]; exact cM.out),cg⟩
    case measure=>simp [intOf]; omega
  .obtain rfl:j=16:=by omega
   go_wp2_with fail
   go_ret;exact ⟨w.heap.size+1,rfl,by omega,lx.out,HB1.out.trans (Below.mono HB.out (by omega))⟩
theorem sI (ev:Operand->Value) (o:Oper) (w:World) (b:Nat) (hb:b=w.heap.size) (ho:o.op = .alloc 25):(execOp ev o).run prog w = .ok (.value (.pointer (some ⟨b,0,none⟩))) (w.alloc (.cells (kc zk) 25)):=by
 subst hb;exact Ct ev o ho w
namespace Aw
variable {w0:World} {M M':Mp} {w w':World} {gu gb gn:Nat} {pu:aJ} {C:aM} {KB:aL}
end Aw
end Tm
end
section
open Go.RowKit Go.ChangeShapes Go.WideShapes
theorem XE {n:Int} (h:(Lit.int .u8 n).wf=true):0<=n/\n<256:=by
 have:=bounds_u8 h;omega
end
section
open Go.RowKit Go.ChangeShapes Go.WideShapes
namespace Ky
def byteOf:Value->UInt8
 | .int _ n=>UInt8.ofNat n.toNat
 | _=>0
theorem Vn {H:Type} {enc:TypeId × Value->H} {w:World} {t:TypeId} {d:DataW H} {p:List MemPlace}
  (ht:P.underlying t=some (.array 32 e)) (he:P.underlying e=some (.int .u8)) (hc:P.cellsOf e=1) (hct:P.cellsOf t=32)
  (hv:Value.okWide P w .any base t v) (h:DataW.Trod enc P w 0 (λ_=>true) true t v d p):∃ k:aL,v = .agg (kc k)/\k.length=32:=by
 unfold Value.okWide at hv;rw [ht] at hv;obtain ⟨cs,rfl,hsz,_⟩:=hv;rw [hct] at hsz;obtain ⟨fuel,hf⟩:=h;obtain ⟨xs,m,rfl,_,hcs,hxl,hel⟩:=DataW.trod_array ht hf;have each:∀ i,i<32->∃ n:Int,cs.toList[i]? = some (.int .u8 n)/\0<=n/\n<256:=λi hi=>by
  have hi':=hel i hi;rw [hc,Nat.mul_one] at hi';have hx:i<xs.length:=by omega
  rw [List.getElem?_eq_getElem hx] at hi';obtain ⟨n,hn,_,hw⟩:=DataW.trod_int he hi';have hlen:i<cs.toList.length:=by simpa [hsz] using hi
  have e1:(cs.toList.drop i).take 1=[cs.toList[i]]:=by
   rw [List.drop_eq_getElem_cons hlen]; rfl
  have e2:(Value.agg cs).cells.toList=cs.toList:=rfl;rw [e2,e1] at hn;injection hn with hn;refine ⟨n,?_,XE hw⟩;rw [List.getElem?_eq_getElem hlen,hn]
 refine ⟨cs.toList.map byteOf,?_,by simp [hsz]⟩;congr 1;apply Array.ext';unfold kc;rw [List.map_map];apply List.ext_getElem?;intro i;by_cases hi:i<32
 .obtain ⟨n,hn,h0,h1⟩:=each i hi;rw [hn];simp only [List.getElem?_map,hn,Option.map_some,Function.comp,byteOf];have:((UInt8.ofNat n.toNat).toNat:Int)=n:=by simp only [UInt8.toNat_ofNat']; omega
  rw [this]
 .rw [List.getElem?_eq_none (by simp [hsz]; omega),List.getElem?_eq_none (by simp [hsz]; omega)]
end Ky
end
section
open Go.RowKit Go.ChangeShapes Go.WideShapes Go.Deep
namespace Tm
open Tr Ni Pk Ky
section
variable {H:Type} {enc:TypeId × Value->H} {w:World} {fuel:Nat} {cs:List Value} {x:DataW H × List MemPlace}
theorem CQ:prog.cellsOf 25=32:=by kernel_rfl
theorem Qg:prog.cellsOf 5=1:=by kernel_rfl
theorem Pq:prog.cellsOf 9=1:=by kernel_rfl
theorem Cb:prog.cellsOf 66=33:=by kernel_rfl
theorem XW (h:DataW.trod enc prog w 0 (λ_=>true) true fuel 25 cs=some x):∃ k:aL,k.length=32/\cs=k.map λb=>Value.int .u8 b.toNat:=by
 obtain ⟨xs,m,rfl,_,hcs,hxl,hel⟩:=DataW.trod_array underlying25 h;rw [CQ] at hcs;have each:∀ i,i<32->∃ n:Int,cs[i]? = some (.int .u8 n)/\0<=n/\n<256:=λi hi=>by
  have hi':=hel i hi;rw [Qg,Nat.mul_one] at hi';have hx:i<xs.length:=by omega
  rw [List.getElem?_eq_getElem hx] at hi';obtain ⟨n,hn,_,hw⟩:=DataW.trod_int underlying5 hi';have hlen:i<cs.length:=by omega
  have e1:(cs.drop i).take 1=[cs[i]]:=by
   rw [List.drop_eq_getElem_cons hlen]; rfl
  rw [e1] at hn;injection hn with hn;exact ⟨n,by rw [List.getElem?_eq_getElem hlen,hn],XE hw⟩
 refine ⟨cs.map Ky.byteOf,by simp [hcs],?_⟩;rw [List.map_map];apply List.ext_getElem?;intro i;by_cases hi:i<32
 .obtain ⟨n,hn,h0,h1⟩:=each i hi;rw [List.getElem?_map,hn];simp only [Option.map_some,Function.comp,Ky.byteOf];have:((UInt8.ofNat n.toNat).toNat:Int)=n:=by simp only [UInt8.toNat_ofNat']; omega
  rw [this]
 .rw [List.getElem?_eq_none (by omega),List.getElem?_eq_none (by simp [hcs]; omega)]
theorem Cr {cs:List Value} (h:(cs.drop i).take 1=[v]) (hl:cs.length=i+1):cs=cs.take i++[v]:=by
 have e:(cs.drop i).take 1=cs.drop i:=List.take_of_length_le (by rw [List.length_drop]; omega);rw [<-h,e,List.take_append_drop]
theorem Wv (h:DataW.trod enc prog w 0 (λ_=>true) true fuel 66 cs=some x):∃ y:Tr.Pair,y.1.length=32/\cs=iM y:=by
 obtain ⟨xs,m,rfl,_,hcs,hxl,hf⟩:=DataW.trod_struct underlying66 h;rw [Cb] at hcs;have To:xs.length=2:=hxl;have g0:=hf 0 _ rfl;have g1:=hf 1 _ rfl;rw [List.getElem?_eq_getElem (by omega)] at g0 g1;obtain ⟨k,hk,e0⟩:=XW g0;obtain ⟨s,e1,_,_⟩:=DataW.trod_string underlying9 g1;have Mu:(cs.drop 0).take (prog.cellsOf 25)=k.map λb=>Value.int .u8 b.toNat:=e0;have My:(cs.drop 32).take (prog.cellsOf 9)=[Value.string s]:=e1;rw [CQ,List.drop_zero] at Mu;rw [Pq] at My;refine ⟨(k,s),hk,?_⟩;unfold iM
 have:=Cr My (by omega);rw [this,Mu]
theorem WT (h:DataW.trod enc prog w 0 (λ_=>true) true fuel 22 cs=some x):∃ a n cap l,cs=[.slice a n cap]/\jM w a n cap l:=by
 rcases open_slice underlying22 h with ⟨rfl,_⟩ | ⟨ad,len,cap,m,n,D,Pl,rfl,_,hl,hm,hmm,_,hel⟩
 .exact ⟨none,0,0,[],rfl,jM.nil w⟩
 .have hmm':m=cap:=by simpa using hmm
  subst hmm';have cell:∀ i,i<m->∃ y:Tr.Pair,y.1.length=32/\∀ j,j<33->w.cell? ((ad.add (i*33)).add j)=(iM y)[j]? := λi hi=>by
   obtain ⟨cs',h1,h2⟩:=hel i hi;obtain ⟨y,hy,rfl⟩:=Wv h2;obtain ⟨_,hcl,hat⟩:=World.cells?_some h1;rw [Cb] at hat;exact ⟨y,hy,hat⟩
  obtain ⟨F,hF⟩:=choose_lt (α:=Tr.Pair) cell;refine ⟨some ad,len,m,(List.range len).map F,rfl,hl,hm,by simp,λe=>(by cases e),λx hx=>?_,λj hj=>?_⟩
  .obtain ⟨i,hi,rfl⟩:=List.mem_map.1 hx;exact (hF i (by have:=List.mem_range.1 hi; omega)).1
  .have Fs:=hF j (by omega);have Mz:=hF 0 (by omega);obtain ⟨b,off,spot⟩:=ad;have hc0:=Mz.2 0 (by omega);have hp0:(iM (F 0))[0]? = some ((iM (F 0))[0]'(by rw [fP Mz.1]; omega)):=List.getElem?_eq_getElem _;rw [hp0] at hc0;have hspot:spot=none:=by simpa [Addr.add] using World.cell?_spot hc0
   subst hspot;have hget:((List.range len).map F).getD j ([],eB)=F j:=by simp [List.getD,hj]
   rw [hget];have hat:cB w b (off+j*33) (F j):=λi v hv=>by
    have hi:i<33:=by
     have:=(List.getElem?_eq_some_iff.1 hv).1;rwa [fP Fs.1] at this
    have:=Fs.2 i hi;rw [Addr.add_mid,Addr.add_mid] at this;rw [this,hv]
   refine ⟨b,off,rfl,?_,hat⟩;have hz:=hat 0 ((iM (F j))[0]'(by rw [fP Fs.1]; omega)) (List.getElem?_eq_getElem _);exact World.block_lt_of_cell? w _ hz
end
end Tm
end
section
open Go.RowKit
namespace Tm
open Tr Ni Pk Ky No Rf Rl
open Sm (Tab)
namespace Do
variable {w0:World} {M M':Mp} {w w':World} {p p':aJ} {t t':T} {W W':List Tr.Pair} {a a':aJ} {c c' j:Nat}
end Do
theorem EN:∀ (l:List Tr.Pair),(ni l).length<=l.length
 | []=>aF
 | x::r=>by
  have ih:=EN r;unfold ni;split
  .rw [List.length_cons]; omega
  .rw [List.length_cons,List.length_cons]; omega
theorem QM {w:World} {b o:Nat} {x:Tr.Pair} (hp:cB w b o x) (hk:x.1.length=32):fH w b:=by
 refine ⟨o+0,(x.1.getD 0 0).toNat,hp 0 _ ?_⟩;unfold iM;rw [List.getElem?_append_left (by simp [hk])];simp [List.getD,hk]
theorem jM.upd {w w':World} {a:aJ} {n c:Nat} {l:List Tr.Pair} (h:jM w a n c l) (hu:Rg.Upd w g w') (hg:¬ fH w g):jM w' a n c l :=
 ⟨h.1,h.2.1,h.2.2.1,h.2.2.2.1,h.2.2.2.2.1,λj hj=>by
  obtain ⟨b,off,e,hlt,hp,hk⟩:=h.at' j hj;have hne:b≠g:=λe=>hg (e ▸ QM hp hk);exact ⟨b,off,e,by rw [hu.size]; exact hlt,λi v hv=>by rw [World.cell?_of_block (hu.block b hne)]; exact hp i v hv⟩⟩
end Tm
end
section
namespace Tr
open Rf Rl Ni No
def sv:aK:=⟨#[118]⟩
def Fv (x:Pair):Pair:=(x.1,if x.2.size=0 then sv else if 100<x.2.size then x.2.extract 0 100 else x.2)
def fq (l:List Pair):List Pair:=(l.take 24).map Fv
theorem RY (x:Pair):(Fv x).2.size≠0/\(Fv x).2.size<=65552:=by
 unfold Fv;dsimp only;split
 .exact ⟨by decide,by decide⟩
 .split
  .rw [ByteArray.size_extract]; omega
  .omega
theorem DF (l:List Pair):(fq l).length<=24:=by
 unfold fq;rw [List.length_map,List.length_take];omega
theorem Ji {l:List Pair} (h:∀ x∈l,x.1.length=32):(∀ x∈fq l,x.1.length=32)/\∀ x∈fq l,x.2.size≠0/\x.2.size<=65552:=by
 constructor
 .intro x hx;obtain ⟨y,hy,rfl⟩:=List.mem_map.1 hx;exact h y (List.mem_of_mem_take hy)
 .intro x hx;obtain ⟨y,_,rfl⟩:=List.mem_map.1 hx;exact RY y
end Tr
end
end Go.Proofs.YtlcplcgigjagpaaGreatDoor
