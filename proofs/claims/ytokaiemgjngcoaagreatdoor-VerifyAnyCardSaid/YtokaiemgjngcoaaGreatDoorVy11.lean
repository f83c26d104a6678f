/-
 Contracts of cut, lifted, turned: trees made of a part's pieces.
-/
import Derived.Test.YtokaiemgjngcoaaGreatDoorVy10
import Derived.Lib.ConvBytes
open Go.Lib (hid)
open Go.Proofs.Tryz
set_option linter.unusedSimpArgs false
set_option linter.unusedVariables false
set_option maxHeartbeats 40000000
set_option maxRecDepth 100000
namespace Go.Proofs.YtokaiemgjngcoaaGreatDoor
variable {w w' w1 w2:World} {c g i j m n off:Nat} {t ty:TypeId} {a:aL} {S p:Nat->Prop} {o:Oper} {K:Act->World->Prop} {Q:Exit->Act->World->Prop} {ops:Array Oper} {ev:Operand->Value} {v:Value} {P:Program} {r x x0:aM} {act:Act} {k:aN} {d:Int}
section
open Go.RowKit
namespace Tm
open Tr Ni Pk
theorem Fr.upd {M M':Mp} (f:Fr M M' w w1) (hu:Rg.Upd w1 g w') (hg:w.heap.size<=g):Fr M M' w w' :=
 ⟨hu.os.trans f.os,hu.tape.trans f.tape,hu.output.trans f.output,by rw [hu.size]; exact f.size,λk hk hm=>(hu.block k (by omega)).trans (f.block k hk hm),f.mono,f.fresh,f.grow,f.foot⟩
theorem finish {M M1:Mp} {w3 w4:World} {t:T} {e:Ending} {cs:aO} (hi:Inv M w) (f3:Fr M M1 w w3) (b3:Below w.heap.size w w3) (hG:dQ M1 w3 t e w4)
  (hO3:Rg.Own w3 g cs ty) (hne:∀ (j:Nat) (x:Int),cs[j]? ≠ some (Value.int .u8 x)) (hg:w.heap.size<=g) (hg1:¬ M1.ft g) :
  ∃ p,e = .returned (tv p)/\Rg.Own w4 g cs ty/\∀ w5,Rg.Upd w4 g w5->dQ M w t (.returned (tv p)) w5:=by
 obtain ⟨p,M',he,ht,f,i,b⟩:=hG;have hbw:=b3.trans (b.mono b3.size);exact ⟨p,he,hO3.below b,λw5 hu=>⟨p,M',rfl,ht,(f3.trans hi f).upd hu hg,i.upd hu (f.box hg1 hO3.1 (gP hO3 hne)),hu.below hbw hg⟩⟩
theorem jZ {M:Mp} {b:Nat} {t:T} (hi:Inv M w) (hm:M.at_ b=some t):IsT M (some ⟨b,0,none⟩) t:=⟨b,rfl,hm,(hi.part_ b t hm).1⟩
theorem Td (M:Mp) (b:Nat) (q:Pa) (u:aM) (hm:M.at_ b=some (.leaf q u)) (k:Nat) (hk:k<=q.length) (w:World) (hi:Inv M w) :
  Calls prog 161 #[.agg #[.pointer (some ⟨b,0,none⟩)],.int .i64 k] w (dQ M w (.leaf (q.drop k) u)):=by
 obtain ⟨w2,hw2,aE,bc,hb2,hs2⟩:=mY w (some ⟨b,0,none⟩);have hi2:=hi.below hb2;obtain ⟨pa,pn,pc,c1,hP⟩:=hi2.path hm;have c2:=hi2.val hm;have hl:q.length=pn:=hP.1.len;have hcap:=hP.1.1;have hmx:=hP.1.2.1;unfold maxLen at hmx;rw [hl] at hk;have HK:=hid (eZ M _ _ w2 hi2 (jZ hi2 hm));have HL:Hid (∀ w3,Below w2.heap.size w2 w3->Calls prog 87 #[.slice (eX pa pc k) (pn-k) (pc-k),.string u] w3 (dQ M w3 (.leaf (q.drop k) u))):=hid (λw3 hb3 =>
  nV M _ _ _ _ _ w3 (hi2.below hb3) ((hP.fr hi2 (Fr.below M hb3)).from' k hk))
 have H0:=hid aE;have HF:Hid (∀ w3,Below w2.heap.size w2 w3->∀ e w4,dQ M w3 (.leaf (q.drop k) u) e w4->∃ p,e = .returned (tv p)/\Rg.Own w4 (w.heap.size+1) #[.pointer none] 46/\∀ w5,Rg.Upd w4 (w.heap.size+1) w5->dQ M w (.leaf (q.drop k) u) (.returned (tv p)) w5):=hid (λw3 hb3 e w4 hG =>
  finish hi (Fr.below M (bst hb2 hb3)) (bst hb2 hb3) hG (bc.below hb3) (jK _) (by omega) (hi.free (by omega)))
 have c2':w2.cell? ⟨b,2,none⟩=some (.string u):=c2;have h0:=aV (j:=0) aE rfl;have HC:Hid (∀ w3,Below w2.heap.size w2 w3->w3.cell? ⟨w.heap.size,0,none⟩=some (.pointer (some ⟨b,0,none⟩))/\w3.cell? ⟨b,2,none⟩=some (.string u)):=hid (λw3 hb3=>⟨aX hb3 h0,aX hb3 c2'⟩);clear aE bc hb2 hs2 hi hi2 hP c2 c2' hl;subst hw2;go_enter func161,ntmps161;go_wp2_with (first
  | (refine aB (bD _ _ _ (w.heap.size+1) (by simp) rfl) ?_)
  | (refine aB (jk fV iD hk ⟨_,_,rfl,rfl,rfl⟩) ?_)
  | (refine aB (aW (aV (j:=0) H0.out rfl) ⟨_,rfl,rfl⟩) ?_))
 refine HK.out.mono ?_;rintro e w3 ⟨rfl,hb3⟩;obtain ⟨d0,d2⟩:=HC.out w3 hb3;have lR:=hid (HL.out w3 hb3);have m0:=hid (HF.out w3 hb3);clear hb3 HC HL HF h0 c1;unfold fI;go_wp2_with fail
 refine lR.out.mono ?_;intro e w4 hG;obtain ⟨p,rfl,hO4,hE⟩:=m0.out e w4 hG;have cS:=hid hO4;have HE:=hid hE;clear hG hO4 hE m0 lR;go_wp2_with (refine bU cS.out (by decide) p rfl _ _ rfl rfl rfl ?_; intro w5 c8 cq; have cf:=hid c8; have pP:=hid cq; clear c8 cq)
 exact bodyPost_ret (gL rfl _ rfl cf.out) rfl (HE.out w5 pP.out)
theorem TY (M:Mp) (b:Nat) (q:Pa) (s:T) (hm:M.at_ b=some (.ext q s)) (k:Nat) (hk:k<=q.length) (w:World) (hi:Inv M w) :
  Calls prog 161 #[.agg #[.pointer (some ⟨b,0,none⟩)],.int .i64 k] w (dQ M w (wrap (q.drop k) s)):=by
 obtain ⟨w2,hw2,aE,bc,hb2,hs2⟩:=mY w (some ⟨b,0,none⟩);have hi2:=hi.below hb2;obtain ⟨pa,pn,pc,c1,hP⟩:=hi2.path hm;obtain ⟨ka,kn,kc,c3,hK⟩:=hi2.kids hm;obtain ⟨kb,ko,p0,rfl,eW,ix,hk0,hT0⟩:=hK.at' 0 (by rw [<-hK.len]; exact Nat.one_pos);have hkn:kn=1:=hK.len.symm;have hkc:=hK.1;have hkm:=hK.2.1;unfold maxLen at hkm;rw [Nat.add_zero] at hk0;have cz:IsT M p0 s:=hT0;have hl:q.length=pn:=hP.1.len;have hcap:=hP.1.1;have hmx:=hP.1.2.1;unfold maxLen at hmx;rw [hl] at hk;have HK:=hid (eZ M _ _ w2 hi2 (jZ hi2 hm));have h0:=aV (j:=0) aE rfl
 have H3:Hid (∀ w3,Below w2.heap.size w2 w3->Calls prog 129 #[.slice (eX pa pc k) (pn-k) (pc-k),.agg #[.pointer p0]] w3 (dQ M w3 (wrap (q.drop k) s))/\(∀ e w9,dQ M w3 (wrap (q.drop k) s) e w9->∃ p,e = .returned (tv p)/\Rg.Own w9 (w.heap.size+1) #[.pointer none] 46/\∀ ai,Rg.Upd w9 (w.heap.size+1) ai->dQ M w (wrap (q.drop k) s) (.returned (tv p)) ai)/\
   w3.cell? ⟨w.heap.size,0,none⟩=some (.pointer (some ⟨b,0,none⟩))/\w3.cell? ⟨b,3,none⟩=some (.slice (some ⟨kb,ko,none⟩) kn kc)/\w3.cell? ⟨kb,ko,none⟩=some (.pointer p0)):=hid (λw3 hb3 =>
  ⟨uE M _ _ _ _ _ _ w3 (hi2.below hb3) ((hP.fr hi2 (Fr.below M hb3)).from' k hk) cz,
   λe w9 hG=>finish hi (Fr.below M (bst hb2 hb3)) (bst hb2 hb3) hG (bc.below hb3) (jK _) (by omega) (hi.free (by omega)),
   aX hb3 h0,aX hb3 c3,aX hb3 hk0⟩)
 have H0:=hid aE;clear aE bc hb2 hs2 hi hi2 hP hl hK hT0 cz c3 hk0 h0;subst hw2;go_enter func161,ntmps161;go_wp2_with (first
  | (refine aB (bD _ _ _ (w.heap.size+1) (by simp) rfl) ?_)
  | (refine aB (jk fV iD hk ⟨_,_,rfl,rfl,rfl⟩) ?_)
  | (refine aB (aW (aV (j:=0) H0.out rfl) ⟨_,rfl,rfl⟩) ?_))
 refine HK.out.mono ?_;rintro e w3 ⟨rfl,hb3⟩;obtain ⟨HB,HF,d0,d3,e0⟩:=H3.out w3 hb3;replace HB:=hid HB;replace HF:=hid HF;clear hb3 H3 c1;unfold fI;go_wp2_with (refine aB (aW e0 ⟨_,rfl,rfl⟩) ?_)
 refine HB.out.mono ?_;intro e w9 hG;obtain ⟨p9,rfl,ae,hE⟩:=HF.out e w9 hG;have b8:=hid ae;have HE:=hid hE;clear hG ae hE;go_wp2_with (refine bU b8.out (by decide) p9 rfl _ _ rfl rfl rfl ?_; intro ai aw ax; have cP:=hid aw; have f9:=hid ax; clear aw ax)
 exact bodyPost_ret (gL rfl _ rfl cP.out) rfl (HE.out ai f9.out)
theorem gD (ks:Fin 16->T):(jr (.br ks)).length=16:=by simp [jr]
theorem kM (ks:Fin 16->T) (i:Fin 16):(jr (.br ks)).getD i.val .nil=ks i:=by
 have hi:=i.isLt;show ((List.finRange 16).map ks).getD i.val .nil=ks i;rw [List.getD_eq_getElem?_getD,List.getElem?_map,List.getElem?_eq_getElem (by simp)];simp
theorem wB (ks:Fin 16->T) (i:Fin 16) (t:T):(jr (.br ks)).set i.val t=jr (.br λj=>if j=i then t else ks j):=by
 apply List.ext_getElem?;intro j;by_cases hj:j<16
 .have h1:=kM (λj=>if j=i then t else ks j) ⟨j,hj⟩;have h2:=kM ks ⟨j,hj⟩;have hl1:j<(jr (.br ks)).length:=by rw [gD]; exact hj
  have hl2:j<(jr (.br λj=>if j=i then t else ks j)).length:=by rw [gD]; exact hj
  rw [List.getD_eq_getElem?_getD,List.getElem?_eq_getElem hl2] at h1;rw [List.getD_eq_getElem?_getD,List.getElem?_eq_getElem hl1] at h2;rw [List.getElem?_eq_getElem hl2];by_cases e:i.val=j
  .subst e;rw [List.getElem?_set_self hl1];simp only [Option.getD_some] at h1;rw [h1]; simp
  .rw [List.getElem?_set_ne e,List.getElem?_eq_getElem hl1];have:(⟨j,hj⟩:Fin 16)≠i:=λh=>e (by rw [<-h]);simp only [Option.getD_some] at h1 h2;rw [h1,h2,if_neg this]
 .rw [List.getElem?_eq_none (by rw [List.length_set,gD]; omega),List.getElem?_eq_none (by rw [gD]; omega)]
theorem Wo (w:World) (p q:aL):∃ w2,w2=((w.alloc (.cells #[.pointer p] 46)).alloc (.cells #[.pointer q] 46)).alloc (.cells #[.pointer none] 46)/\Rg.Own w2 w.heap.size #[.pointer p] 46/\Rg.Own w2 (w.heap.size+1) #[.pointer q] 46/\Rg.Own w2 (w.heap.size+2) #[.pointer none] 46/\Below w.heap.size w w2/\w2.heap.size=w.heap.size+3:=by
 have h2:=Rg.Own.new (w.alloc (.cells #[.pointer p] 46)) #[.pointer q] 46;have h3:=Rg.Own.new ((w.alloc (.cells #[.pointer p] 46)).alloc (.cells #[.pointer q] 46)) #[.pointer none] 46;rw [show (w.alloc (.cells #[.pointer p] 46)).heap.size=w.heap.size+1 by simp] at h2;rw [show ((w.alloc (.cells #[.pointer p] 46)).alloc (.cells #[.pointer q] 46)).heap.size=w.heap.size+2 by simp] at h3
 exact ⟨_,rfl,((Rg.Own.new _ _ _).below (al1 _ _)).below (al1 _ _),h2.below (al1 _ _),h3,(al2 _ _ _).alloc (by simp; omega) _,by simp⟩
theorem Je (M:Mp) (b:Nat) (ks:Fin 16->T) (hm:M.at_ b=some (.br ks)) (i:Fin 16) (p:aL) (t:T) (ht:IsT M p t) (w:World) (hi:Inv M w) :
  Calls prog 85 #[.agg #[.pointer (some ⟨b,0,none⟩)],.int .u8 i.val,.agg #[.pointer p]] w (dQ M w (.br λj=>if j=i then t else ks j)):=by
 obtain ⟨w2,hw2,aE,bc,hO2,hb2,hs2⟩:=Wo w (some ⟨b,0,none⟩) p;have hi2:=hi.below hb2;obtain ⟨ka,kn,kc,c3,hK⟩:=hi2.kids hm;have hkn:kn=16:=by rw [<-hK.len]; exact gD ks
 subst hkn;obtain ⟨ps,IR,nf⟩:=hK.ptrs;obtain ⟨kb,ko,p0,rfl,_⟩:=hK.at' 0 (by omega);have hpl:ps.length=16:=IR.2.2.1;have HC:Hid (Calls prog 125 #[.slice (some ⟨kb,ko,none⟩) 16 kc] w2 λe w'=>∃ g cap,e = .returned (.slice (some ⟨g,0,none⟩) 16 cap)/\w2.heap.size<=g/\RowK w' g cap ps/\Below w2.heap.size w2 w'):=hid (by
  have:=zm ⟨kb,ko,none⟩ 16 kc ps w2 IR (by omega);refine this.mono ?_;rintro e w' ⟨g,cap,rfl,h1,h2,h3⟩;exact ⟨g,cap,by rw [hpl],h1,h2,h3⟩)
 have hlt:=i.isLt;have hiv:((iL i).toNat:Nat)=i.val:=qR i;obtain ⟨k,hk⟩:=aA i.val
 have H3:Hid (∀ g cap w4,w2.heap.size<=g->RowK w4 g cap ps->Below w2.heap.size w2 w4->Rg.Own w4 (w.heap.size+1) #[.pointer p] 46/\16<=cap/\cap<=maxLen/\∀ w5,RowK w5 g cap (ps.set k p)->Rg.Upd w4 g w5->∃ M5,
   Calls prog 126 #[.slice (some ⟨g,0,none⟩) 16 cap] w5 (dQ M5 w5 (.br λj=>if j=i then t else ks j))/\
   ∀ e w9,dQ M5 w5 (.br λj=>if j=i then t else ks j) e w9->∃ p,e = .returned (tv p)/\Rg.Own w9 (w.heap.size+2) #[.pointer none] 46/\∀ ai,Rg.Upd w9 (w.heap.size+2) ai->dQ M w (.br λj=>if j=i then t else ks j) (.returned (tv p)) ai):=hid (λg cap w4 hg hR hb4=>by
  refine ⟨bc.below hb4,by have:=hR.ptrs.1; omega,hR.ptrs.2.1,λw5 pv hu=>?_⟩;have hbw:=hu.below (bst hb2 hb4) (show w.heap.size<=g by omega);have hi5:Inv (plus M (λk=>k=g)) w5:=(hi.below hbw).plus (λk hk=>by rw [hk]; exact pv.lt);have yb:Ks (plus M (λk=>k=g)) w5 (some ⟨g,0,none⟩) 16 cap (jr (.br λj=>if j=i then t else ks j)):=by
   have h1:=pv.ptrs;rw [List.length_set,hpl] at h1;rw [<-wB,hk];exact h1.ks ((nf.set k ht).mono λ_ _ h=>h) (λad e _=>by
    obtain rfl:=Option.some.inj e;exact Or.inr rfl)
  have c8:=(hO2.below hb4).upd hu (by omega);exact ⟨plus M (λk=>k=g),kE _ _ _ _ _ w5 hi5 yb,λe w9 hG=>finish hi ((Fr.below M hbw).plus (λk hk=>Or.inl (by omega))) hbw hG c8 (jK _) (by omega) (λh=>h.elim (hi.free (by omega)) (λh=>by omega))⟩)
 rw [hk] at hlt ⊢;have h0:=aV (j:=0) aE rfl;have pS:=hid hpl;clear aE bc hO2 hb2 hs2 hi hi2 hK IR nf ht hpl hiv hk hm;obtain ⟨R,hRr⟩:=aA (T.br λj=>if j=i then t else ks j)
 rw [hRr] at H3 ⊢;clear hRr;subst hw2;go_enter func85,ntmps85;go_wp2_with (refine aB (bD _ _ _ (w.heap.size+2) (by simp) rfl) ?_)
 refine HC.out.mono ?_;rintro e w4 ⟨g,cap,rfl,hg,hR,hb4⟩;obtain ⟨hO4,hcap,hcm,H5⟩:=H3.out g cap w4 hg hR hb4;unfold maxLen at hcm;replace H5:=hid H5;have cS:=hid hO4;have HR4:=hid hR;clear H3 HC hg hR hb4 hO4 c3 h0;go_wp2_with (first
  | (refine aB (aW (aV (j:=0) cS.out rfl) ⟨_,rfl,rfl⟩) ?_)
  | (refine sQ HR4.out (i:=k) (by rw [pS.out]; exact hlt) p rfl _ _ rfl rfl rfl ?_; intro w5 pv cq; have tr:=hid pv; have pP:=hid cq; clear pv cq))
 obtain ⟨M5,HB,HF⟩:=H5.out w5 tr.out pP.out;replace HB:=hid HB;replace HF:=hid HF;clear H5 cS HR4 tr pP;refine HB.out.mono ?_;intro e w9 hG;obtain ⟨p9,rfl,ae,hE⟩:=HF.out e w9 hG;have b8:=hid ae;have HE:=hid hE;clear hG ae hE;go_wp2_with (refine bU b8.out (by decide) p9 rfl _ _ rfl rfl rfl ?_; intro ai aw ax; have cP:=hid aw; have f9:=hid ax; clear aw ax)
 exact bodyPost_ret (gL rfl _ rfl cP.out) rfl (HE.out ai f9.out)
structure St (M:Mp) (w:World) (M':Mp) (w':World):Prop where
 f:Fr M M' w w'
 i:Inv M' w'
 b:Below w.heap.size w w'
 i0:Inv M w
theorem St.refl {M:Mp} {w:World} (hi:Inv M w):St M w M w:=⟨Fr.refl _ _,hi,aI,hi⟩
theorem St.below {M M1:Mp} {w w1 w2:World} (s:St M w M1 w1) (h:Below w1.heap.size w1 w2):St M w M1 w2:=⟨s.f.trans s.i0 (Fr.below M1 h),s.i.below h,bst s.b h,s.i0⟩
theorem St.got {M M1:Mp} {t:T} {e:Ending} (s:St M w M1 w1) (h:dQ M1 w1 t e w2):∃ p M2,e = .returned (tv p)/\IsT M2 p t/\St M w M2 w2/\Fr M1 M2 w1 w2/\Below w1.heap.size w1 w2:=by
 obtain ⟨p,M2,he,ht,f,i,b⟩:=h;exact ⟨p,M2,he,ht,⟨s.f.trans s.i0 f,i,bst s.b b,s.i0⟩,f,b⟩
theorem St.upd {M M1:Mp} {w w1 w2:World} {g:Nat} (s:St M w M1 w1) (hu:Rg.Upd w1 g w2) (hg:w.heap.size<=g) (hf:¬ M1.ft g):St M w M1 w2:=⟨s.f.upd hu hg,s.i.upd hu hf,hu.below s.b hg,s.i0⟩
theorem St.plus {M M1:Mp} {w w1:World} (s:St M w M1 w1) {S:Nat->Prop} (hS:∀ k,S k->(w.heap.size<=k\/jh w k)/\k<w1.heap.size):St M w (Tm.plus M1 S) w1:=⟨s.f.plus λk hk=>(hS k hk).1,s.i.plus λk hk=>(hS k hk).2,s.b,s.i0⟩
theorem St.bytes {M M1:Mp} (s:St M w M1 w1) {l:aN} (h:bf w1 a n c l):St M w (Tm.plus M1 (inS a n)) w1:=s.plus λk hk=>⟨by
  obtain ⟨⟨j,x,hc⟩,_⟩:=uK h hk;exact jh.below ⟨j,x,hc⟩ s.b,(uK h hk).2⟩
structure Bx (M:Mp) (w:World) (g:Nat) (cs:aO) (t:TypeId):Prop where
 o:Rg.Own w g cs t
 n:¬ M.ft g
 h:∀ (j:Nat) (x:Int),cs[j]? ≠ some (Value.int .u8 x)
theorem Bx.got {M M':Mp} {cs:aO} (h:Bx M w g cs t) (f:Fr M M' w w') (b:Below w.heap.size w w'):Bx M' w' g cs t:=⟨h.o.below b,f.box h.n h.o.1 (gP h.o h.h),h.h⟩
theorem Bx.upd {M:Mp} {w w':World} {g b:Nat} {cs:aO} {t:TypeId} (h:Bx M w g cs t) (hu:Rg.Upd w b w') (hne:g≠b):Bx M w' g cs t:=⟨h.o.upd hu hne,h.n,h.h⟩
theorem Bx.below {M:Mp} {w w':World} {g:Nat} {cs:aO} {t:TypeId} (h:Bx M w g cs t) (b:Below w.heap.size w w'):Bx M w' g cs t:=⟨h.o.below b,h.n,h.h⟩
theorem Bx.plus {M:Mp} {cs:aO} (h:Bx M w g cs t) (hS:¬ S g):Bx (Tm.plus M S) w g cs t:=⟨h.o,λe=>e.elim h.n hS,h.h⟩
structure Rx (M:Mp) (w:World) (g:Nat) (ps:List (aL)):Prop where
 o:Rg.Own w g (uF ps) 46
 n:¬ M.ft g
 m:ps.length<=maxLen
theorem WG (ps:List (aL)):∀ (j:Nat) (x:Int),(uF ps)[j]? ≠ some (Value.int .u8 x):=λj x h=>by
 simp [uF] at h
theorem Rx.got {M M':Mp} {ps:List (aL)} (h:Rx M w g ps) (f:Fr M M' w w') (b:Below w.heap.size w w'):Rx M' w' g ps:=⟨h.o.below b,f.box h.n h.o.1 (gP h.o (WG ps)),h.m⟩
theorem Rx.below {M:Mp} {w w':World} {g:Nat} {ps:List (aL)} (h:Rx M w g ps) (b:Below w.heap.size w w'):Rx M w' g ps:=⟨h.o.below b,h.n,h.m⟩
theorem RI (ps:List (aL)) (i:Nat) (p:aL):(uF ps).setIfInBounds i (.pointer p)=uF (ps.set i p):=by
 unfold uF;rw [List.map_set];simp
theorem Rx.ks {M:Mp} {ps:List (aL)} {l:List T} (h:Rx M w g ps) (ha:Are M ps l):Ks (Tm.plus M (λk=>k=g)) w (some ⟨g,0,none⟩) ps.length ps.length l:=by
 refine ⟨aH,h.m,ha.1.symm,λe=>(by cases e),λj hj=>⟨g,0,_,rfl,h.o.1,Or.inr rfl,?_,zW (ha.2 j hj)⟩⟩;rw [Nat.zero_add,cell_of_row w g _ _ _ _ h.o.2];simp [uF,List.getD,hj]
theorem sO {a:Act} {M:Mp} (hw:Region.wanted o (yielded ops a.tmps)=true) {ps:List (aL)} (h:Rx M w g ps) (hof:i<ps.length) (p:aL)
  (ho:∃ x y,o.op = .store 46 x y/\a.eval x = .pointer (some ⟨g,i,none⟩)/\a.eval y=tv p)
  (hQ:∀ w',Rx M w' g (ps.set i p)->Rg.Upd w g w'->K (a.put o.dst undef) w'):if Region.wanted o (yielded ops a.tmps)=true then Oper.wp prog o a w K Q else K (a.put o.dst undef) w :=
 iX hw h.o (off:=i) (by simpa [uF] using hof) p ho (λw' zc hu=>hQ w' ⟨by rw [<-RI]; exact zc,h.n,by simpa using h.m⟩ hu)
def vY:List (aL):=List.replicate 16 none
theorem oU:vY.length=16:=rfl
theorem MH (b:Nat) (hb:b=w.heap.size) (ho:∃ x y,o.op = .makeSlice 136 x y/\ev x = .int .i64 16/\ev y = .int .i64 16) :
  (execOp ev o).run prog w = .ok (.value (.slice (some ⟨b,0,none⟩) 16 16)) (w.alloc (.cells (uF vY) 46)):=by
 obtain ⟨x,y,ho,hx,hy⟩:=ho;subst hb;unfold execOp;rw [ho];dsimp only;rw [hx,hy];kernel_rfl
theorem NM (j:Nat):vY.getD j none=none:=by
 unfold vY;rw [List.getD_eq_getElem?_getD,List.getElem?_replicate];split <;> rfl
theorem Jc (j:Nat):(List.replicate 16 T.nil).getD j T.nil=T.nil:=by
 rw [List.getD_eq_getElem?_getD,List.getElem?_replicate];split <;> rfl
theorem PZ (M:Mp):Are M vY (List.replicate 16 .nil):=⟨rfl,λj hj=>by rw [NM,Jc]; exact rfl⟩
theorem VB (i j:Fin 16) (a b:T) (hij:i≠j):((List.replicate 16 T.nil).set i.val a).set j.val b=jr (two i j a b):=by
 have e:List.replicate 16 T.nil=jr (.br λ_=>.nil):=by
  show List.replicate 16 T.nil=(List.finRange 16).map (λ_=>T.nil);rfl
 rw [e,wB,wB];unfold two;congr 2;funext k;by_cases h1:k=j
 .subst h1;rw [if_pos rfl,if_neg (λe=>hij e.symm),if_pos rfl]
 .rw [if_neg h1,if_neg h1]
structure Bo (g:Nat) (w w':World):Prop where
 size:w.heap.size<=w'.heap.size
 block:∀ k,k<w.heap.size->k≠g->w'.heap[k]? = w.heap[k]?
 os:w'.os=w.os
 tape:w'.tape=w.tape
 output:w'.output=w.output
theorem Bo.of (h:Below w.heap.size w w'):Bo g w w':=⟨h.size,λk hk _=>h.block k hk,h.os,h.tape,h.output⟩
theorem Bo.then (h:Bo g w w1) (hb:Below w1.heap.size w1 w2):Bo g w w2:=⟨Nat.le_trans h.size hb.size,λk hk hg=>(hb.block k (aJ hk h.size)).trans (h.block k hk hg),hb.os.trans h.os,hb.tape.trans h.tape,hb.output.trans h.output⟩
theorem Bo.upd (h:Bo g w w1) (hu:Rg.Upd w1 g w2):Bo g w w2:=⟨by rw [hu.size]; exact h.size,λk hk hg=>(hu.block k hg).trans (h.block k hk hg),hu.os.trans h.os,hu.tape.trans h.tape,hu.output.trans h.output⟩
theorem Bo.below {B:Nat} {w0:World} (h:Bo g w w') (hb:Below B w0 w) (hB:B<=w.heap.size) (hg:B<=g):Below B w0 w':=⟨h.os.trans hb.os,h.tape.trans hb.tape,h.output.trans hb.output,Nat.le_trans hb.size h.size,λk hk=>(h.block k (by omega) (by omega)).trans (hb.block k hk)⟩
theorem gQ (h:Bo g w w') {b o:Nat} (hne:b≠g) (hc:w.cell? ⟨b,o,none⟩=some v):w'.cell? ⟨b,o,none⟩=some v:=by
 rw [<-hc];exact World.cell?_of_block (w:=w) (h.block b (World.block_lt_of_cell? w _ hc) hne)
end Tm
end
section
open Go.RowKit
namespace Ky
open Ni
def kc (k:aN):aO:=(k.map λb=>Value.int .u8 b.toNat).toArray
theorem gy (k:aN):(kc k).size=k.length:=by simp [kc]
theorem FP:(prog.info? 24).map (·.size)=some 32:=by kernel_rfl
theorem gq (k:aN) (h:k.length=32):(prog.info? 24).map (·.size)=some (kc k).size:=by rw [gy,h]; exact FP
def bO (k:aN):aN:=Ni.fJ ⟨k.toArray⟩
theorem vI (k:aN) (hk:k.length=32) (w:World) :
  Calls prog 42 #[.agg (kc k)] w (TD w (bO k)):=by
 have h0:bf (w.alloc (.cells (kc k) 24)) (some ⟨w.heap.size,0,none⟩) k.length k.length k:=bf.new w k (by unfold maxLen; omega) _ _ rfl;rw [hk] at h0;have hcv:=gY h0;obtain ⟨s,hs⟩:=aA (⟨k.toArray⟩:aM)
 have hsz:s.size=32:=by rw [<-hs]; show k.toArray.size=32; simp [hk]
 have HP:Hid (bO k=Ni.fJ s):=hid (by unfold bO; rw [hs]);have IT:=hid (λwx=>Ni.zU s (by omega) wx);rw [hs] at hcv;obtain ⟨C,hC⟩:=aA (kc k)
 rw [hC] at hcv ⊢;clear h0 hs hC hsz hk;go_enter func42,ntmps42;go_wp2_with fail
 refine (IT.out _).mono ?_;rintro e w1 ⟨a,n,cap,rfl,hx,hb⟩;go_wp2;go_ret;exact ⟨a,n,cap,rfl,by rw [HP.out]; exact hx,((Below.refl w.heap.size w).alloc aH _).trans (hb.mono (by simp))⟩
def zk:aN:=List.replicate 32 0
theorem eH {rest:List Oper} {a:Act} (hgd:o.guard=none) (v:Value) (w':World)
  (hr:(execOp a.eval o).run P w = .ok (.value v) w') (h:wpList P ops Q rest (a.put o.dst v) w'):wpList P ops Q (o::rest) a w :=
 wpList_plain hgd λK hK=>by
  unfold Oper.wp;rw [hr];exact hK _ _ h
theorem BH (ev:Operand->Value) (o:Oper) (ho:o.op = .alloc 24) (w:World) :
  (execOp ev o).run prog w = .ok (.value (.pointer (some ⟨w.heap.size,0,none⟩))) (w.alloc (.cells (kc zk) 24)):=by
 unfold execOp;rw [ho];kernel_rfl
theorem Vj:(kc zk).size=32:=by rw [gy]; rfl
theorem fZ (k:aN) (hk:k.length=32):(bO k).length=64:=by
 unfold bO;rw [dW];show 2*k.toArray.size=64;simp [hk]
def pc (k:aN) (j:Nat):List Value:=((bO k).take j).map λx=>Value.int .u8 x.toNat
theorem UG (k:aN) (hk:k.length=32) (j:Nat) (hj:j<64) (V:Int) (hV:V=(cK ⟨k.toArray⟩ j:Nat)):pc k (j+1)=pc k j++[.int .u8 V]:=by
 unfold pc;rw [lD _ _ (by rw [fZ k hk]; exact hj),List.map_append,List.map_cons,List.map_nil];have:((bO k).getD j 0).toNat=cK ⟨k.toArray⟩ j:=iB _ _ (by show j<2*k.toArray.size; simp [hk]; omega);rw [this,hV]
theorem RZ (k:aN) (j:Nat) (h:j%2=0):cK ⟨k.toArray⟩ j=(k.getD (j/2) 0).toNat/16:=by unfold cK; rw [if_pos h]
theorem Uc (k:aN) (j:Nat) (h:¬ j%2=0):cK ⟨k.toArray⟩ j=(k.getD (j/2) 0).toNat%16:=by unfold cK; rw [if_neg h]
theorem Cu (k:aN) (i:Nat) (hi:i<k.length) (w:World):(part 5 (kc k) i).run prog w = .ok (.int .u8 (k.getD i 0).toNat) w:=by
 have hagg:(isAgg 5).run prog w = .ok false w:=by
  unfold isAgg;rw [Sem.run_bind,run_underlying underlying5 w];simp
 have hg:(kc k)[i]? = some (.int .u8 (k.getD i 0).toNat):=by simp [kc,List.getD,hi]
 unfold part;rw [Sem.run_bind,hagg];simp [hg]
theorem QH:prog.cellsOf 5=1:=by kernel_rfl
theorem mE (k:aN):dx (bO k)=true:=ow _
theorem FC (ev:Operand->Value) (o:Oper) (x:Operand) (w:World) (g:Nat) (l:aN) (ho:o.op = .load 24 x) (hx:ev x = .pointer (some ⟨g,0,none⟩)) (hr:(loadVar 24 ⟨g,0,none⟩).run prog w = .ok (.agg (kc l)) w) :
  (execOp ev o).run prog w = .ok (.value (.agg (kc l))) w:=by
 unfold execOp;simp only [ho,hx,Instr.loadAt,Instr.sureAddr,Sem.run_bind,Sem.run_pure,Result.andThen_ok,hr]
theorem Jf (w:World) (g:Nat) (l:aN) (hl:l.length=32) (hg:w.heap[g]? = some (.cells (kc l) 24 (0,0))):(loadVar 24 ⟨g,0,none⟩).run prog w = .ok (.agg (kc l)) w :=
 run_loadVar_row (P:=prog) w g 24 24 (kc l) (0,0) _ hg underlying24 rfl (gq l hl)
end Ky
end
section
open Go.RowKit
namespace Tm
open Tr Ni Pk
theorem Ce {b:Nat} (h:Rg.Own w b #[.string x] t) (s:aM):(Instr.storeAt 9 (.pointer (some ⟨b,0,none⟩)) (.string s)).run prog w = .ok () (w.setCell ⟨b,0,none⟩ (.string s)):=by
 have hc:w.cell? ⟨b,0,none⟩=some (.string x):=aV (j:=0) h rfl;have hz:w.frozen? ⟨b,0,none⟩=false:=fB h;simp [go_sem,hc,hz]
theorem Ba {a:Act} (hw:Region.wanted o (yielded ops a.tmps)=true) {b:Nat} {x:aM} (hg:Rg.Own w b #[.string x] t) (s:aM)
  (ho:∃ x y,o.op = .store 9 x y/\a.eval x = .pointer (some ⟨b,0,none⟩)/\a.eval y = .string s)
  (h:∀ w',Rg.Own w' b #[.string s] t->Rg.Upd w b w'->K (a.put o.dst undef) w'):if Region.wanted o (yielded ops a.tmps)=true then Oper.wp prog o a w K Q else K (a.put o.dst undef) w:=by
 obtain ⟨x,y,ho,hx,hy⟩:=ho;refine Rg.want hw ?_;unfold Oper.wp execOp;simp only [ho,hx,hy,Sem.run_bind,Sem.run_pure,Result.andThen_ok,Ce hg s];exact h _ (cO hg _) (bQ _ _ _ _)
theorem BX {rest:List Oper} {b:Nat} (h:Rg.Own w b #[.string x0] t) (s:aM)
  (hgd:o.guard=none) (x y:Operand) (ho:o.op = .store 9 x y) (hx:act.eval x = .pointer (some ⟨b,0,none⟩)) (hy:act.eval y = .string s)
  (hQ:∀ w',Rg.Own w' b #[.string s] t->Rg.Upd w b w'->wpList prog ops Q rest (act.put o.dst undef) w'):wpList prog ops Q (o::rest) act w :=
 wpList_plain hgd λK hK=>by
  unfold Oper.wp execOp;simp only [ho,hx,hy,Sem.run_bind,Sem.run_pure,Result.andThen_ok,Ce h s];exact hK _ _ (hQ _ (cO h _) (bQ _ _ _ _))
theorem EX {b:Nat} {o:Nat} (h:w.cell? ⟨b,o,none⟩=some (.string x)):(Instr.loadAt 9 (.pointer (some ⟨b,o,none⟩))).run prog w = .ok (.string x) w:=by
 simp [go_sem,h]
theorem kT {b:Nat} {s:aM} (hc:w.cell? ⟨b,off,none⟩=some (.string s)) (ho:∃ x,o.op = .load 9 x/\ev x = .pointer (some ⟨b,off,none⟩)) :
  (execOp ev o).run prog w = .ok (.value (.string s)) w:=by
 obtain ⟨x,ho,hx⟩:=ho;unfold execOp;simp only [ho,hx,Sem.run_bind,Sem.run_pure,Result.andThen_ok,EX hc]
theorem bE (hk:k.length=32) (hg:w.heap[g]? = some (.cells (Ky.kc k) 24 (0,0))) (ho:∃ x,o.op = .load 24 x/\ev x = .pointer (some ⟨g,0,none⟩)) :
  (execOp ev o).run prog w = .ok (.value (.agg (Ky.kc k))) w:=by
 obtain ⟨x,ho,hx⟩:=ho;exact Ky.FC ev o x w g k ho hx (Ky.Jf w g k hk hg)
theorem nZ {b:Nat} {cs:aO} (h:Bo g w w') (hO:Rg.Own w b cs t) (hne:b≠g):Rg.Own w' b cs t:=⟨aJ hO.1 h.size,(h.block b hO.1 hne).trans hO.2⟩
theorem QX {fn:Func} {q u:Tmp} (hf:fn.results = #[.cell q 9,.tmp u]) (tmps:aO) {b:Nat} (hp:tmps.getD q undef = .pointer (some ⟨b,0,none⟩)) (h:Rg.Own w b #[.string x] 9) :
  (results fn tmps).run prog w = .ok (.tuple #[.string x,tmps.getD u undef]) w:=by
 have hp':tmps[q]?.getD undef = .pointer (some ⟨b,0,none⟩):=by simpa using hp
 have hc:w.cell? ⟨b,0,none⟩=some (.string x):=aV (j:=0) h rfl;have hagg:(isAgg 9).run prog w = .ok false w:=by kernel_rfl
 have hl:(loadVar 9 ⟨b,0,none⟩).run prog w = .ok (.string x) w:=by
  have:=EX (b:=b) (o:=0) hc;simpa only [Instr.loadAt,Instr.sureAddr,Sem.run_bind,Sem.run_pure,Result.andThen_ok] using this
 simp [results,hf,hp',asAddr,hl]
open Ky
def pG (x:Tr.Pair):List Value:=(x.1.map λb=>Value.int .u8 b.toNat)++[.string x.2]
def mZ (x:Tr.Pair):aO:=(pG x).toArray
theorem qg {x:Tr.Pair} (h:x.1.length=32):(pG x).length=33:=by simp [pG,h]
theorem Nf (x:Tr.Pair):∀ u∈pG x,u.oneCell'=true:=λu hu=>by
 unfold pG at hu;rw [List.mem_append] at hu;rcases hu with hu | hu
 .obtain ⟨b,_,rfl⟩:=List.mem_map.1 hu;rfl
 .obtain rfl:=List.mem_singleton.1 hu;rfl
theorem CU:(prog.info? 60).map (λi=>(i.size,i.bytes))=some (33,48):=by kernel_rfl
def lq (w:World) (b o:Nat) (x:Tr.Pair):Prop:=w.rangeAt b o (pG x)
theorem lq.below {b o:Nat} {x:Tr.Pair} (h:lq w b o x) (hb:Below w.heap.size w w'):lq w' b o x:=λj v hv=>aX hb (h j v hv)
theorem lq.key {b o:Nat} {x:Tr.Pair} (h:lq w b o x):w.rangeAt b o (x.1.map λb=>Value.int .u8 b.toNat):=λj v hv=>h j v (by
 unfold pG;have:=(List.getElem?_eq_some_iff.1 hv).1;rw [List.getElem?_append_left this]; exact hv)
theorem lq.val {b o:Nat} {x:Tr.Pair} (h:lq w b o x) (hk:x.1.length=32):w.cell? ⟨b,o+32,none⟩=some (.string x.2):=h 32 _ (by
 unfold pG;rw [List.getElem?_append_right (by simp [hk])];simp [hk])
theorem lq.own {b:Nat} {x:Tr.Pair} (h:Rg.Own w b (mZ x) t):lq w b 0 x:=λj v hv=>by
 rw [Nat.zero_add];exact aV h (by unfold mZ; simpa using hv)
theorem Ei {ev:Operand->Value} {o:Oper} {w:World} {b off:Nat} {x:Tr.Pair} (hk:x.1.length=32) (h:lq w b off x) (ho:∃ y,o.op = .load 60 y/\ev y = .pointer (some ⟨b,off,none⟩)) :
  (execOp ev o).run prog w = .ok (.value (.agg (mZ x))) w:=by
 obtain ⟨y,ho,hx⟩:=ho;have hl:=run_loadAt_mid (P:=prog) w b off 60 (pG x) _ h underlying60 rfl (by
  have:=CU;rw [qg hk];cases hi:prog.info? 60 with
  | none=>rw [hi] at this; simp at this
  | some i=>rw [hi] at this; simp at this; simp [this.1])
 unfold execOp;simp only [ho,hx,Sem.run_bind,Sem.run_pure,Result.andThen_ok,hl];rfl
theorem yw {b:Nat} (hk:k.length=32) (h:w.rangeAt b off (k.map λb=>Value.int .u8 b.toNat)) (ho:∃ y,o.op = .load 24 y/\ev y = .pointer (some ⟨b,off,none⟩)) :
  (execOp ev o).run prog w = .ok (.value (.agg (kc k))) w:=by
 obtain ⟨y,ho,hx⟩:=ho;have hl:=run_loadAt_mid (P:=prog) w b off 24 (k.map λb=>Value.int .u8 b.toNat) _ h underlying24 rfl (by rw [FP]; simp [hk]);unfold execOp;simp only [ho,hx,Sem.run_bind,Sem.run_pure,Result.andThen_ok,hl];rfl
theorem xq {α:Type} (l:List α) (h:l.length=32):∃ a0 a1 a2 a3 a4 a5 a6 a7 b0 b1 b2 b3 b4 b5 b6 b7 c0 c1 c2 c3 c4 c5 c6 c7 d0 d1 d2 d3 d4 d5 d6 d7,l=[a0,a1,a2,a3,a4,a5,a6,a7,b0,b1,b2,b3,b4,b5,b6,b7,c0,c1,c2,c3,c4,c5,c6,c7,d0,d1,d2,d3,d4,d5,d6,d7]:=by
 match l,h with
 | [a0,a1,a2,a3,a4,a5,a6,a7,b0,b1,b2,b3,b4,b5,b6,b7,c0,c1,c2,c3,c4,c5,c6,c7,d0,d1,d2,d3,d4,d5,d6,d7],_=>exact ⟨_,_,_,_,_,_,_,_,_,_,_,_,_,_,_,_,_,_,_,_,_,_,_,_,_,_,_,_,_,_,_,_,rfl⟩
theorem Ai (k:aN) (v:aM) (h:k.length=32):prog.built 60 [(0,.agg (kc k)),(1,.string v)]=some (mZ (k,v)):=by
 obtain ⟨a0,a1,a2,a3,a4,a5,a6,a7,b0,b1,b2,b3,b4,b5,b6,b7,c0,c1,c2,c3,c4,c5,c6,c7,d0,d1,d2,d3,d4,d5,d6,d7,rfl⟩:=xq k h;kernel_rfl
def Fy (w:World) (a:aL) (n c:Nat) (l:List Tr.Pair):Prop :=
 n<=c/\c<=maxLen/\l.length=n/\(a=none->c=0)/\(∀ x∈l,x.1.length=32)/\∀ j,j<n->∃ b off,a=some ⟨b,off,none⟩/\b<w.heap.size/\lq w b (off+j*33) (l.getD j ([],eB))
theorem Fy.len {l:List Tr.Pair} (h:Fy w a n c l):l.length=n:=h.2.2.1
theorem Fy.keys {l:List Tr.Pair} (h:Fy w a n c l):∀ x∈l,x.1.length=32:=h.2.2.2.2.1
theorem Fy.at' {l:List Tr.Pair} (h:Fy w a n c l) (j:Nat) (hj:j<n):∃ b off,a=some ⟨b,off,none⟩/\b<w.heap.size/\lq w b (off+j*33) (l.getD j ([],eB))/\(l.getD j ([],eB)).1.length=32:=by
 obtain ⟨b,off,e,hlt,hp⟩:=h.2.2.2.2.2 j hj;refine ⟨b,off,e,hlt,hp,h.keys _ ?_⟩;have hl:=h.len;rw [List.getD_eq_getElem?_getD,List.getElem?_eq_getElem (by omega)];exact List.getElem_mem _
def rowP (l:List Tr.Pair):List Value:=l.flatMap pG
theorem KN:∀ (l:List Tr.Pair),(∀ x∈l,x.1.length=32)->∀ j i,j<l.length->i<33->(rowP l)[j*33+i]? = (pG (l.getD j ([],eB)))[i]?
 | [],_,_,_,h,_=>absurd h (Nat.not_lt_zero _)
 | x::l,h,0,i,_,hi=>by
  show (pG x++rowP l)[0*33+i]? = _;rw [Nat.zero_mul,Nat.zero_add,List.getElem?_append_left (by rw [qg (h x List.mem_cons_self)]; exact hi)];rfl
 | x::l,h,j+1,i,hj,hi=>by
  show (pG x++rowP l)[(j+1)*33+i]? = _;have hx:=qg (h x List.mem_cons_self);rw [List.getElem?_append_right (by omega),hx,show (j+1)*33+i-33=j*33+i by omega,KN l (λy hy=>h y (List.mem_cons_of_mem _ hy)) j i (by simpa using hj) hi];rfl
theorem Ao (ev:Operand->Value) (o:Oper) (w:World) (b:Nat) (hb:b=w.heap.size) (ho:o.op = .alloc 60) :
  (execOp ev o).run prog w = .ok (.value (.pointer (some ⟨b,0,none⟩))) (w.alloc (.cells (mZ (List.replicate 32 0,eB)) 60)):=by
 subst hb;unfold execOp;rw [ho];kernel_rfl
theorem tY {x:Tr.Pair} (h:x.1.length=32):(mZ x).size=33:=by simp [mZ,qg h]
theorem MR (x:Tr.Pair):(mZ x).all (·.oneCell')=true:=by
 unfold mZ;exact all_oneCell_toArray (Nf x)
theorem IZ {x:Tr.Pair} (h:x.1.length=32):(prog.info? 60).map (·.size)=some (mZ x).size:=by
 rw [tY h];have:=CU;cases hi:prog.info? 60 with
 | none=>rw [hi] at this; simp at this
 | some i=>rw [hi] at this; simp at this; simp [this.1]
theorem Az {rest:List Oper} {b:Nat} {x:Tr.Pair} (h:Rg.Own w b (mZ x) 60) (hx:x.1.length=32) (y:Tr.Pair) (hy:y.1.length=32)
  (hgd:o.guard=none) (p q:Operand) (ho:o.op = .store 60 p q) (hp:act.eval p = .pointer (some ⟨b,0,none⟩)) (hq:act.eval q = .agg (mZ y)) (hd:o.dst=none)
  (hQ:∀ w',Rg.Own w' b (mZ y) 60->Rg.Upd w b w'->wpList prog ops Q rest act w'):wpList prog ops Q (o::rest) act w :=
 wpList_store_rowTo hgd 60 p q ho hd b _ hp hq 60 _ h.2 (IZ hy) (by rw [tY hx,tY hy]) (MR _) (hQ _ ⟨by simp; exact h.1,setRow_heap _ _ _ _ _ _ h.2⟩ (Rg.Upd.set _ _ _))
theorem CO (k l:aN) (w:World) (d:Nat):∀ is:List Nat,(∀ i∈is,i<k.length/\i<l.length)->(Op.eqItems (d+1) 5 1 (kc k) (kc l) is).run prog w = .ok (is.all λi=>decide (k.getD i 0=l.getD i 0)) w
 | [],_=>by simp [Op.eqItems]
 | i::is,h=>by
  have ih:=CO k l w d is (λj hj=>h j (List.mem_cons_of_mem _ hj));have hp:=Cu k i (h i (List.mem_cons_self ..)).1 w;have hq:=Cu l i (h i (List.mem_cons_self ..)).2 w;unfold Op.eqItems;rw [Nat.mul_one];simp only [Sem.run_bind,hp,hq,Result.andThen_ok,run_equalIn_int w d 5 .u8 .u8 _ _ underlying5];by_cases e:k.getD i 0=l.getD i 0
  .rw [List.all_cons,aK e,Bool.true_and,e];simp only [beq_self_eq_true,Bool.not_true,Bool.false_eq_true,if_false];exact ih
  .have hne:(((k.getD i 0).toNat:Int)==((l.getD i 0).toNat:Int))=false:=by
    simp only [beq_eq_false_iff_ne,ne_eq];intro h;exact e (UInt8.toNat_inj.1 (by omega))
   rw [List.all_cons,decide_eq_false e,Bool.false_and,hne];simp
theorem QW {l:aN} (hk:k.length=32) (hl:l.length=32):((List.range 32).all λi=>decide (k.getD i 0=l.getD i 0))=decide (k=l):=by
 rw [Bool.eq_iff_iff,List.all_eq_true,decide_eq_true_iff];constructor
 .intro h;apply List.ext_getElem (by omega);intro i h1 h2;have:=of_decide_eq_true (h i (List.mem_range.2 (by omega)));simpa [List.getD,h1,h2] using this
 .rintro rfl i _;exact aK rfl
end Tm
end
section
open Go.RowKit
namespace Tm
open Tr Ni Pk
open Ky
theorem gW {l:List Tr.Pair} (h:j<l.length):l.getD j ([],eB)∈l:=by
 rw [List.getD_eq_getElem?_getD,List.getElem?_eq_getElem h];exact List.getElem_mem _
abbrev Hdl:Type:=aL × Nat × Nat
def BsP (p:Nat->Prop) (w:World) (h:Hdl) (l:aN):Prop:=bf w h.1 h.2.1 h.2.2 l/\∀ ad,h.1=some ad->0<h.2.1->p ad.block
theorem BsP.kept {h:Hdl} {l:aN} (g:BsP p w h l) (hs:w.heap.size<=w'.heap.size) (hk:∀ b,p b->b<w.heap.size->w'.heap[b]? = w.heap[b]?):BsP p w' h l:=by
 refine ⟨⟨g.1.1,g.1.2.1,g.1.2.2.1,g.1.2.2.2.1,λj hj=>?_⟩,g.2⟩;obtain ⟨b,off,e,hlt,hc⟩:=g.1.at' j hj;exact ⟨b,off,e,aJ hlt hs,by rw [World.cell?_of_block (a:=⟨b,off+j,none⟩) (hk b (g.2 _ e (by omega)) hlt)]; exact hc⟩
theorem BsP.to {q:Nat->Prop} {h:Hdl} {l:aN} (g:BsP p w h l) (hp:∀ b,b<w.heap.size->p b->q b):BsP q w h l:=by
 refine ⟨g.1,λad e hn=>hp _ ?_ (g.2 ad e hn)⟩;obtain ⟨b,off,e2,hlt,_⟩:=g.1.at' 0 hn;rw [e] at e2;cases e2;exact hlt
theorem BsP.old {h:Hdl} {l:aN} (g:bf w h.1 h.2.1 h.2.2 l):BsP (λb=>b<w.heap.size) w h l:=by
 refine ⟨g,λad e hn=>?_⟩;obtain ⟨b,off,e2,hlt,_⟩:=g.at' 0 hn;rw [e] at e2;cases e2;exact hlt
open No
theorem OE (k:aN) (hk:k.length=32) (w:World) :
  Calls prog 10 #[.agg (kc k)] w (TL w (bO k)):=by
 obtain ⟨i0,hi,hz0,hz1,hz2⟩:=info_parts Cc.jS;have HI:Hid (_/\_/\_/\_):=hid ⟨hi,hz0,hz1,hz2⟩;have hcell:∀ q,q<32->(w.alloc (.cells (kc k) 24)).cell? ⟨w.heap.size,q,none⟩=some (.int .u8 (k.getD q 0).toNat):=λq hq=>by
  rw [World.cell?_alloc_mark];simp [kc,List.getD,hk,hq]
 have HC:=hid hcell;have R5:=hid (λj hj V hV=>UG k hk j hj V hV);have X6:=hid (fZ k hk);obtain ⟨C,hC⟩:=aA (kc k)
 rw [hC] at HC ⊢;clear hcell hi hz0 hz1 hz2 hC hk;go_enter func10,ntmps10;go_wp2;go_loopw [3,4] (λv i wr=>∃ j:Nat,j<=64/\i = .int .i64 j/\Hid (wr.ownsRow (w.heap.size+1) 5 1 v j (pc k j))/\Below (w.heap.size+1) (w.alloc (.cells C 24)) wr) (λ_ i _=>64-(intOf i).toNat)
 case atStart=>exact ⟨0,Nat.zero_le _,rfl,hid (World.ownsRow_nil _ _ _ _),aI⟩
 case round =>
  obtain ⟨j,hj,rfl,HO,hB⟩:=hrel;by_cases hlt:j<64
  .have hc0:=HC.out (j/2) (by omega);have hc:∀ o:Obj,wr.cell? ⟨w.heap.size,j/2,none⟩=some (.int .u8 (k.getD (j/2) 0).toNat):=λ_=>by
    rw [hB.cell (p:=⟨w.heap.size,j/2,none⟩) (by simp)]; exact hc0
   have hc:=hc (.cells #[] 0);have hx:=UInt8.toNat_lt (k.getD (j/2) 0);have hsz:w.heap.size+1<=wr.heap.size:=by have:=hB.size; simp at this; omega
   by_cases hp:j%2=0
   .have HV:=hid (RZ k j hp);obtain ⟨x,hxe⟩:=aA ((k.getD (j/2) 0).toNat)
    rw [hxe] at hc hx HV;have HS:=hid (R5.out j hlt ((x:Int)/16%16) (by rw [HV.out]; omega));have hp2:((j:Int)%2==0)=true:=by simp; omega
    clear hc0 hxe hp;go_wp2_with (at_builtin; refine wpList_append_own _ rfl _ _ 35 rfl (w.heap.size+1) 5 i0 (.int .u8 0) 1 1 underlying35 HI.out.1 HI.out.2.1 HI.out.2.2.1 HI.out.2.2.2 rfl (by decide) _ _ _ rfl (HO.out.alloc _) ⟨wr.heap.size,0,none⟩ 1 1 [.int .u8 ((x:Int)/16%16)] rfl rfl ?c1 ?c2 ?c3 ?c4 ?c5 ?_)
    case c1=>exact Bu.cell_one_new' _ _ _ _
    case c2=>intro u hu; simp at hu; subst hu; rfl
    case c3=>unfold maxLen; omega
    case c4=>omega
    case c5=>simp; omega
    intro v' w2 hown2 hgrow _;have hlt':=HO.out.lt;go_wp2;go_roundw
    case rel=>exact ⟨j+1,by omega,by go_num,hid (by rw [HS.out]; exact hown2),(hB.alloc hsz _).grown hgrow (by simp; omega) (λg hg=>(hlt' g hg).1)⟩
    case measure=>simp [intOf]; omega
   .have HV:=hid (Uc k j hp);obtain ⟨x,hxe⟩:=aA ((k.getD (j/2) 0).toNat)
    rw [hxe] at hc hx HV;have HS:=hid (R5.out j hlt ((x:Int)%16) (by rw [HV.out]; omega));have hp2:((j:Int)%2==0)=false:=by simp; omega
    clear hc0 hxe hp;go_wp2_with (at_builtin; refine wpList_append_own _ rfl _ _ 35 rfl (w.heap.size+1) 5 i0 (.int .u8 0) 1 1 underlying35 HI.out.1 HI.out.2.1 HI.out.2.2.1 HI.out.2.2.2 rfl (by decide) _ _ _ rfl (HO.out.alloc _) ⟨wr.heap.size,0,none⟩ 1 1 [.int .u8 ((x:Int)%16)] rfl rfl ?d1 ?d2 ?d3 ?d4 ?d5 ?_)
    case d1=>exact Bu.cell_one_new' _ _ _ _
    case d2=>intro u hu; simp at hu; subst hu; rfl
    case d3=>unfold maxLen; omega
    case d4=>omega
    case d5=>simp; omega
    intro v' w2 hown2 hgrow _;have hlt':=HO.out.lt;go_wp2;go_roundw
    case rel=>exact ⟨j+1,by omega,by go_num,hid (by rw [HS.out]; exact hown2),(hB.alloc hsz _).grown hgrow (by simp; omega) (λg hg=>(hlt' g hg).1)⟩
    case measure=>simp [intOf]; omega
  .obtain rfl:j=64:=by omega
   have hO:=HO.out;have e:pc k 64=(bO k).map λx=>Value.int .u8 x.toNat:=by
    unfold pc; rw [List.take_of_length_le (by rw [X6.out]; exact aH)]
   rw [e] at hO;obtain ⟨a,cap,rfl,hb⟩:=wK hO;have HB:=hid hb;have iz:Hid (Below w.heap.size w wr):=hid (((Below.refl w.heap.size w).alloc aH _).trans (hB.mono (by omega)));clear hO e hb;go_wp2;go_ret;exact ⟨a,_,cap,rfl,HB.out.weak (by omega),iz.out⟩
end Tm
end
section
open Go.RowKit
namespace Tm
open Tr Ni Pk Sm
def sz:T->Nat
 | .nil=>0
 | .leaf _ _=>1
 | .ext _ t=>sz t+1
 | .br ks=>((List.finRange 16).map λi=>sz (ks i)).sum+1
 | .stub _=>1
theorem KY:∀ (l:List Nat) (x:Nat),x∈l->x<=l.sum
 | [],_,h=>by cases h
 | y::l,x,h=>by
  rw [List.sum_cons];rcases List.mem_cons.1 h with rfl | h
  .omega
  .have:=KY l x h;omega
theorem Wy (ks:Fin 16->T) (i:Fin 16):sz (ks i)<sz (.br ks):=by
 have h:=KY ((List.finRange 16).map λi=>sz (ks i)) (sz (ks i)) (List.mem_map.2 ⟨i,List.mem_finRange i,rfl⟩);show _<_+1;omega
def Eb (w:World) (b:Nat):Prop:=(∀ j v,w.cell? ⟨b,j,none⟩=some v->(∀ x,v ≠ .int .u8 x)/\∀ p,v ≠ .pointer p)/\w.cell? ⟨b,8,none⟩=none
structure eG (M:Mp) (n:Nat) (w:World):Prop where
 lt_:∀ k,M.ft k->k<w.heap.size
 part_:∀ b t,M.at_ b=some t->t ≠ .nil/\M.ft b/\Eb w b/\(sz t<n->qA M w b t)
structure FrN (M:Mp) (n:Nat) (w w':World):Prop where
 os:w'.os=w.os
 tape:w'.tape=w.tape
 output:w'.output=w.output
 size:w.heap.size<=w'.heap.size
 block:∀ k,k<w.heap.size->(M.at_ k=none\/∃ t,M.at_ k=some t/\n<=sz t)->w'.heap[k]? = w.heap[k]?
theorem Dr {b:Nat} {t:T} {ka:aL} {kn kc:Nat} (h:w.heap[b]? = some (.cells (kV t a n c ka kn kc d r) 150 (0,0))):Eb w b:=by
 refine ⟨λj v hc=>DR (pJ h hc),?_⟩;rw [World.cell?,h];rfl
theorem Inv.toN {M:Mp} (h:Inv M w) (n:Nat):eG M n w:=⟨h.lt_,λb t hm=>by
 obtain ⟨h1,h2,h3⟩:=h.part_ b t hm;obtain ⟨a,n,c,ka,kn,kc,d,r,hb,hr⟩:=h3;exact ⟨h1,h2,Dr hb,λ_=>⟨a,n,c,ka,kn,kc,d,r,hb,hr⟩⟩⟩
theorem eG.mono {M:Mp} (h:eG M n w) (hm:m<=n):eG M m w:=⟨h.lt_,λb t e=>by
 obtain ⟨h1,h2,h3,h4⟩:=h.part_ b t e;exact ⟨h1,h2,h3,λhl=>h4 (by omega)⟩⟩
theorem eG.gP {M:Mp} {n:Nat} {w:World} (h:eG M n w) {b j:Nat} {x:Int} (hc:w.cell? ⟨b,j,none⟩=some (.int .u8 x)):M.at_ b=none:=by
 cases hm:M.at_ b with
 | none=>rfl
 | some t=>exact absurd rfl (((h.part_ b t hm).2.2.1.1 _ _ hc).1 x)
theorem eG.qw {M:Mp} {n:Nat} {w:World} (h:eG M n w) {b j:Nat} {p:aL} (hc:w.cell? ⟨b,j,none⟩=some (.pointer p)):M.at_ b=none:=by
 cases hm:M.at_ b with
 | none=>rfl
 | some t=>exact absurd rfl (((h.part_ b t hm).2.2.1.1 _ _ hc).2 p)
theorem FrN.below (M:Mp) (n:Nat) (h:Below w.heap.size w w'):FrN M n w w':=⟨h.os,h.tape,h.output,h.size,λk hk _=>h.block k hk⟩
theorem FrN.trans {M:Mp} {n:Nat} {w w1 w2:World} (h:FrN M n w w1) (g:FrN M n w1 w2):FrN M n w w2:=⟨g.os.trans h.os,g.tape.trans h.tape,g.output.trans h.output,Nat.le_trans h.size g.size,λk hk hc=>(g.block k (aJ hk h.size) hc).trans (h.block k hk hc)⟩
theorem FrN.mono {M:Mp} (h:FrN M n w w') (hm:n<=m):FrN M m w w':=⟨h.os,h.tape,h.output,h.size,λk hk hc=>h.block k hk (hc.imp id (λ⟨t,e,hl⟩=>⟨t,e,by omega⟩))⟩
theorem FrN.cell {M:Mp} (h:FrN M n w w') {b o:Nat} (hc:w.cell? ⟨b,o,none⟩=some v) (hb:M.at_ b=none\/∃ t,M.at_ b=some t/\n<=sz t):w'.cell? ⟨b,o,none⟩=some v:=by
 rw [<-hc];exact World.cell?_of_block (w:=w) (h.block b (World.block_lt_of_cell? w _ hc) hb)
theorem FrN.upd {M:Mp} (h:FrN M n w w1) (hu:Rg.Upd w1 g w') (hg:w.heap.size<=g):FrN M n w w':=⟨hu.os.trans h.os,hu.tape.trans h.tape,hu.output.trans h.output,by rw [hu.size]; exact h.size,λk hk hc=>(hu.block k (by omega)).trans (h.block k hk hc)⟩
theorem FrN.fr {M:Mp} (h:FrN M n w w'):Fr M M w w':=⟨h.os,h.tape,h.output,h.size,λk hk hm=>h.block k hk (Or.inl hm),λ_ _ h=>h,λ_ _ h=>h,λ_ h=>h,λ_ h=>Or.inl h⟩
theorem qA.keep {M:Mp} {b:Nat} {t:T} (h:qA M w b t) (hs:w.heap.size<=w'.heap.size) (hb:w'.heap[b]? = w.heap[b]?)
  (hk:∀ k j v,k<w.heap.size->w.cell? ⟨k,j,none⟩=some v->((∃ x,v = .int .u8 x)\/∃ p,v = .pointer p)->w'.heap[k]? = w.heap[k]?):qA M w' b t:=by
 obtain ⟨a,n,c,ka,kn,kc,d,r,h1,hB,hK,hd⟩:=h;refine ⟨a,n,c,ka,kn,kc,d,r,hb.trans h1,⟨⟨hB.1.1,hB.1.2.1,hB.1.2.2.1,hB.1.2.2.2.1,λj hj=>?_⟩,hB.2⟩,⟨hK.1,hK.2.1,hK.2.2.1,hK.2.2.2.1,λj hj=>?_⟩,hd⟩
 .obtain ⟨b',off,e,hlt,hc⟩:=hB.1.2.2.2.2 j hj;exact ⟨b',off,e,aJ hlt hs,by rw [World.cell?_of_block (hk b' _ _ hlt hc (Or.inl ⟨_,rfl⟩))]; exact hc⟩
 .obtain ⟨b',off,p,e,hlt,hf,hc,ht⟩:=hK.at' j hj;exact ⟨b',off,p,e,aJ hlt hs,hf,by rw [World.cell?_of_block (hk b' _ _ hlt hc (Or.inr ⟨_,rfl⟩))]; exact hc,ht⟩
theorem Eb.keep {b:Nat} (h:Eb w b) (hb:w'.heap[b]? = w.heap[b]?):Eb w' b:=by
 have hc:∀ j,w'.cell? ⟨b,j,none⟩=w.cell? ⟨b,j,none⟩:=λj=>World.cell?_of_block hb;exact ⟨λj v h1=>h.1 j v (by rw [<-hc j]; exact h1),by rw [hc 8]; exact h.2⟩
theorem eG.after {M:Mp} (h:eG M n w) (f:FrN M m w w') (g:eG M m w'):eG M n w':=by
 refine ⟨λk hk=>aJ (h.lt_ k hk) f.size,λb t hm=>?_⟩;obtain ⟨h1,h2,h3,h4⟩:=h.part_ b t hm;obtain ⟨_,_,g3,g4⟩:=g.part_ b t hm;refine ⟨h1,h2,g3,λhl=>?_⟩;by_cases e:sz t<m
 .exact g4 e
 .refine (h4 hl).keep f.size (f.block b (h.lt_ b h2) (Or.inr ⟨t,hm,by omega⟩)) (λk j v hlt hc hv=>f.block k hlt (Or.inl ?_));rcases hv with ⟨x,rfl⟩ | ⟨p,rfl⟩
  .exact h.gP hc
  .exact h.qw hc
theorem eG.below {M:Mp} (h:eG M n w) (hb:Below w.heap.size w w'):eG M n w':=by
 refine ⟨λk hk=>aJ (h.lt_ k hk) hb.size,λb t hm=>?_⟩;obtain ⟨h1,h2,h3,h4⟩:=h.part_ b t hm;have hlt:=h.lt_ b h2;exact ⟨h1,h2,h3.keep (hb.block b hlt),λhl=>(h4 hl).keep hb.size (hb.block b hlt) (λk j v hk _ _=>hb.block k hk)⟩
theorem eG.upd {M:Mp} (h:eG M n w) (hu:Rg.Upd w g w') (hg:¬ M.ft g):eG M n w':=by
 refine ⟨λk hk=>by rw [hu.size]; exact h.lt_ k hk,λb t hm=>?_⟩;obtain ⟨h1,h2,h3,h4⟩:=h.part_ b t hm;have hne:∀ k,M.ft k->k≠g:=λk hk e=>hg (by rw [<-e]; exact hk);refine ⟨h1,h2,h3.keep (hu.block b (hne b h2)),λhl=>?_⟩;obtain ⟨a,n,c,ka,kn,kc,d,r,hb,hB,hK,hd⟩:=h4 hl;refine ⟨a,n,c,ka,kn,kc,d,r,(hu.block b (hne b h2)).trans hb,⟨⟨hB.1.1,hB.1.2.1,hB.1.2.2.1,hB.1.2.2.2.1,λj hj=>?_⟩,hB.2⟩,⟨hK.1,hK.2.1,hK.2.2.1,hK.2.2.2.1,λj hj=>?_⟩,hd⟩
 .obtain ⟨b',off,e,hlt,hc⟩:=hB.1.2.2.2.2 j hj;exact ⟨b',off,e,by rw [hu.size]; exact hlt,by rw [World.cell?_of_block (hu.block b' (hne b' (hB.2 _ e (by omega))))]; exact hc⟩
 .obtain ⟨b',off,p,e,hlt,hf,hc,ht⟩:=hK.at' j hj;exact ⟨b',off,p,e,by rw [hu.size]; exact hlt,hf,by rw [World.cell?_of_block (hu.block b' (hne b' hf))]; exact hc,ht⟩
theorem FX {M:Mp} {n:Nat} {w:World} (h:eG M n w) (hT:Tab w):M.at_ 0=none:=by
 cases hm:M.at_ 0 with
 | none=>rfl
 | some t =>
  have h8:=(h.part_ 0 t hm).2.2.1.2;rw [hT 8 (by omega)] at h8;cases h8
theorem yX {M:Mp} (h:eG M n w) (f:FrN M n w w') (hT:Tab w):Tab w':=λi hi=>f.cell (hT i hi) (Or.inl (FX h hT))
theorem Iu {M:Mp} {k:Nat} {l:aN} (hi:eG M n w) (h:bf w a k c l) (f:FrN M n w w'):bf w' a k c l:=by
 refine ⟨h.1,h.2.1,h.2.2.1,h.2.2.2.1,λj hj=>?_⟩;obtain ⟨b,off,e,hlt,hc⟩:=h.2.2.2.2 j hj;exact ⟨b,off,e,aJ hlt f.size,f.cell hc (Or.inl (hi.gP hc))⟩
structure Body (M:Mp) (w:World) (b:Nat) (t:T) (a:aL) (n c:Nat) (ka:aL) (kn kc:Nat):Prop where
 c0:w.cell? ⟨b,0,none⟩=some (.int .i64 (fI t))
 c1:w.cell? ⟨b,1,none⟩=some (.slice a n c)
 c2:w.cell? ⟨b,2,none⟩=some (.string (Si t))
 c3:w.cell? ⟨b,3,none⟩=some (.slice ka kn kc)
 hb:bf w a n c (dA t)
 hk:Ks M w ka kn kc (jr t)
theorem qA.body {M:Mp} {b:Nat} {t:T} (h:qA M w b t):∃ a n c ka kn kc,Body M w b t a n c ka kn kc:=by
 obtain ⟨a,n,c,ka,kn,kc,d,r,hb,hB,hK,_⟩:=h;obtain ⟨⟨c0,c1,c2,c3⟩,_⟩:=jU hb;exact ⟨a,n,c,ka,kn,kc,c0,c1,c2,c3,hB.1,hK⟩
theorem Ks.frN {M:Mp} {l:List T} (hi:eG M m w) (h:Ks M w a n c l) (f:FrN M m w w'):Ks M w' a n c l:=by
 refine ⟨h.1,h.2.1,h.2.2.1,h.2.2.2.1,λj hj=>?_⟩;obtain ⟨b,off,p,e,hlt,hm,hc,ht⟩:=h.at' j hj;exact ⟨b,off,p,e,aJ hlt f.size,hm,f.cell hc (Or.inl (hi.qw hc)),ht⟩
theorem Body.frN {M:Mp} {m:Nat} {w w':World} {b:Nat} {t:T} {a:aL} {n c:Nat} {ka:aL} {kn kc:Nat} (h:Body M w b t a n c ka kn kc) (hi:eG M m w) (f:FrN M m w w') (hm:M.at_ b=some t) (hl:m<=sz t):Body M w' b t a n c ka kn kc :=
 have e:=Or.inr ⟨t,hm,hl⟩
 ⟨f.cell h.c0 e,f.cell h.c1 e,f.cell h.c2 e,f.cell h.c3 e,Iu hi h.hb f,h.hk.frN hi f⟩
theorem Body.below {M:Mp} {w w':World} {b:Nat} {t:T} {a:aL} {n c:Nat} {ka:aL} {kn kc:Nat} (h:Body M w b t a n c ka kn kc) (hb:Below w.heap.size w w'):Body M w' b t a n c ka kn kc:=by
 refine ⟨aX hb h.c0,aX hb h.c1,aX hb h.c2,aX hb h.c3,h.hb.below hb,h.hk.1,h.hk.2.1,h.hk.2.2.1,h.hk.2.2.2.1,λj hj=>?_⟩;obtain ⟨b',off,p,e,hlt,hm,hc,ht⟩:=h.hk.at' j hj;exact ⟨b',off,p,e,aJ hlt hb.size,hm,aX hb hc,ht⟩
theorem nM (b:Nat) (k:Int) (w:World) (hc:w.cell? ⟨b,0,none⟩=some (.int .i64 k)) :
  Calls prog 83 #[.agg #[.pointer (some ⟨b,0,none⟩)]] w λe w'=>e = .returned (.int .i64 k)/\Below w.heap.size w w':=by
 have h0:=fU w (some ⟨b,0,none⟩);have HE:=hid (mh (some ⟨b,0,none⟩) (w.alloc (.cells #[.pointer (some ⟨b,0,none⟩)] 46)));have hk:=Ls (o':=.cells #[.pointer (some ⟨b,0,none⟩)] 46) hc;clear hc;go_enter func83,ntmps83;go_wp2_with fail
 refine HE.out.mono ?_;rintro e w2 ⟨rfl,hb⟩;have h1:=aX hb h0;have h2:=aX hb hk;clear h0 hk;go_wp2;go_ret;exact ⟨rfl,bst (al1 _ _) hb⟩
open Rf
open Rl
open No
def nu (M:Mp) (t:T) (w:World) (e:Ending) (w':World):Prop:=∃ a n c,e = .returned (.agg (ndC (bV t) a n c))/\BsF w.heap.size w' a n c (bV t).p/\FrN M (sz t) w w'/\eG M (sz t) w'
def mW (t:T):Prop:=∀ (M:Mp) (w:World) (p:aL),eG M (sz t+1) w->IsT M p t->Tab w->Calls prog 111 #[.agg #[.pointer p]] w λe w'=>e = .returned (.string (ref t))/\FrN M (sz t+1) w w'/\eG M (sz t+1) w'
theorem Lx (N:Nd) (a:aL) (n c:Nat):∀ (j:Nat) (x:Int),(ndC N a n c)[j]? ≠ some (Value.int .u8 x):=λj x h=>by
 unfold ndC at h
 match j,h with
 | 0,h=>simp at h
 | 1,h=>simp at h
 | 2,h=>simp at h
 | j+3,h=>simp at h
theorem wS (w:World) (p:aL):∃ w2,w2=(w.alloc (.cells #[.pointer p] 46)).alloc (.cells (ndC nd0 none 0 0) 67)/\Rg.Own w2 w.heap.size #[.pointer p] 46/\dL w2 (w.heap.size+1) nd0 none 0 0/\Below w.heap.size w w2/\w2.heap.size=w.heap.size+2:=by
 refine ⟨_,rfl,(Rg.Own.new _ _ _).below (al1 _ _),?_,al2 _ _ _,by simp⟩;have:=Rg.Own.new (w.alloc (.cells #[.pointer p] 46)) (ndC nd0 none 0 0) 67;simpa using this
theorem Tc (M:Mp) (b:Nat) (q:Pa) (v:aM) (hm:M.at_ b=some (.leaf q v)) (w:World) (hi:eG M 1 w) (pa:aL) (pn pc:Nat) (ka:aL) (kn kc:Nat) (hB:Body M w b (.leaf q v) pa pn pc ka kn kc) (hq:q.length<=64) :
  Calls prog 63 #[.agg #[.pointer (some ⟨b,0,none⟩)]] w (nu M (.leaf q v) w):=by
 obtain ⟨w2,hw2,aE,bc,hb2,hs2⟩:=wS w (some ⟨b,0,none⟩);have hB2:=hB.below hb2;have h0:=aV (j:=0) aE rfl;have hlb:=hi.lt_ b (hi.part_ b _ hm).2.1;have hpn:q.length=pn:=hB.hb.len;have HK:=hid (nM b 1 w2 hB2.c0);have zd:Hid (∀ w3,Below w2.heap.size w2 w3->(w3.cell? ⟨w.heap.size,0,none⟩=some (.pointer (some ⟨b,0,none⟩))/\w3.cell? ⟨b,1,none⟩=some (.slice pa pn pc)/\w3.cell? ⟨b,2,none⟩=some (.string v))/\
   (∀ wx,Below w3.heap.size w3 wx->Calls prog 109 #[.slice pa pn pc,.string v] wx (Fu wx ⟨1,q,v,zks⟩))/\
   (∀ w6,Below w3.heap.size w3 w6->∀ a6 n6 c6,BsF w3.heap.size w6 a6 n6 c6 q->dL w6 (w.heap.size+1) nd0 none 0 0/\∀ ai,Rg.Upd w6 (w.heap.size+1) ai->nu M (.leaf q v) w (.returned (.agg (ndC ⟨1,q,v,zks⟩ a6 n6 c6))) ai)):=hid (λw3 hb3 =>
  ⟨⟨aX hb3 h0,aX hb3 hB2.c1,aX hb3 hB2.c2⟩,λwx hbx=>No.nV pa pn pc q (by omega) v wx (hB2.hb.below (bst hb3 hbx)),λw6 hb6 a6 n6 c6 hx=>by
   have az:=bc.below (bst hb3 hb6);have hbw:=bst hb2 (bst hb3 hb6);refine ⟨az,λai hu=>⟨a6,n6,c6,rfl,⟨uO hx.1 (gP az (Lx _ _ _ _)) hu,λad e=>Nat.le_trans (Nat.le_trans hb2.size hb3.size) (hx.2 ad e)⟩,(FrN.below M _ hbw).upd hu (by omega),(hi.below hbw).upd hu (λe=>by have:=hi.lt_ _ e; omega)⟩⟩⟩)
 have H0:=hid aE;clear aE bc hb2 hs2 hB hB2 h0 hi hm hpn hq;subst hw2;go_enter func63,ntmps63;go_wp2_with (first | (refine aB (aY _ _ _ (w.heap.size+1) (by simp) rfl) ?_) | (refine aB (aW (aV (j:=0) H0.out rfl) ⟨_,rfl,rfl⟩) ?_))
 refine HK.out.mono ?_;rintro e w3 ⟨rfl,hb3⟩;obtain ⟨⟨d0,d1,d2⟩,HC,HF⟩:=zd.out w3 hb3;replace HC:=hid HC;replace HF:=hid HF;clear hb3 zd HK H0;go_wp2_with fail
 refine aD (S:=λw'=>Bo (w.heap.size+1) w3 w') (Bo.of (below_drewN aI 1)) λhld=>?_;refine aj 0 ?_;try simp only [Act.put,au]
 refine aF 1 (λwz hSw=>gQ hSw (by omega) d0) ?_;try simp only [Act.put,au]
 refine aj 2 ?_;try simp only [Act.put,au]
 refine aj 3 ?_;try simp only [Act.put,au]
 refine aF 4 (λwz hSw=>gQ hSw (by omega) d1) ?_;try simp only [Act.put,au]
 refine aj 5 ?_;try simp only [Act.put,au]
 refine aF 6 (λwz hSw=>gQ hSw (by omega) d0) ?_;try simp only [Act.put,au]
 refine aj 7 ?_;try simp only [Act.put,au]
 refine aj 8 ?_;try simp only [Act.put,au]
 refine aF 9 (λwz hSw=>gQ hSw (by omega) d2) ?_;try simp only [Act.put,au]
 refine ak 10 λK hK=>?_;go_simp;go_at_call 109
 (with_reducible refine (HC.out w3.drew (below_drewN aI 1)).mono ?_)
 intro e w6 hG;obtain ⟨a6,n6,c6,rfl,d8,s7,hb6⟩:=hG;have tw:=hid s7;have H6:=hid (HF.out w6 (bst (below_drewN aI 1) hb6) a6 n6 c6 d8);have zg:Below w3.heap.size w3 w6:=bst (below_drewN aI 1) hb6;have cG:=hid H6.out.1;clear s7 hb6 d8;refine hK.out _ _ (Bo.of zg) λhld=>?_;clear hK K;try simp only [Act.put,au]
 refine ak 11 λK hK=>?_;refine Rg.meetStore (by rfl) cG.out 67 (ndC ⟨1,q,v,zks⟩ a6 n6 c6) ⟨_,_,rfl,rfl,rfl⟩ (gH _ _ _ _ tw.out) (by rw [dD _ _ _ _ bK,dD _ _ _ _ tw.out]) (jf _ _ _ _) ?_;intro ai aw ax;have cP:=hid aw;have iS:=hid (H6.out.2 ai ax);clear aw;refine hK.out _ _ ((Bo.of zg).upd ax) λhld=>?_;clear hK K;try simp only [Act.put,au]
 refine aC ?_;go_wp2;exact bodyPost_ret (tC rfl _ rfl cP.out tw.out) rfl iS.out
theorem VA (M:Mp) (b:Nat) (q:Pa) (s:T) (hm:M.at_ b=some (.ext q s)) (w:World) (hi:eG M (sz s+1) w) (pa:aL) (pn pc:Nat) (ka:aL) (kn kc:Nat) (hB:Body M w b (.ext q s) pa pn pc ka kn kc) (hq:q.length<=64) (hT:Tab w) (hR:mW s) :
  Calls prog 63 #[.agg #[.pointer (some ⟨b,0,none⟩)]] w (nu M (.ext q s) w):=by
 obtain ⟨w2,hw2,aE,bc,hb2,hs2⟩:=wS w (some ⟨b,0,none⟩);have hB2:=hB.below hb2;have hi2:=hi.below hb2;have h0:=aV (j:=0) aE rfl;have hlb:=hi.lt_ b (hi.part_ b _ hm).2.1;have hpn:q.length=pn:=hB.hb.len;obtain ⟨kb,ko,p0,rfl,eW,ix,hk0,hT0⟩:=hB2.hk.at' 0 (by rw [<-hB2.hk.len]; exact Nat.one_pos);have hkn:kn=1:=hB2.hk.len.symm;have hkc:=hB2.hk.1;have hkm:=hB2.hk.2.1;unfold maxLen at hkm;rw [Nat.add_zero] at hk0;have cz:IsT M p0 s:=hT0;have nh:=hi.lt_ kb ix;have HK:=hid (nM b 2 w2 hB2.c0);have zj:=hT.pos
 have zd:Hid (∀ w3,Below w2.heap.size w2 w3->(w3.cell? ⟨w.heap.size,0,none⟩=some (.pointer (some ⟨b,0,none⟩))/\w3.cell? ⟨b,1,none⟩=some (.slice pa pn pc)/\w3.cell? ⟨b,3,none⟩=some (.slice (some ⟨kb,ko,none⟩) kn kc)/\w3.cell? ⟨kb,ko,none⟩=some (.pointer p0))/\
   Calls prog 111 #[.agg #[.pointer p0]] w3.drew (λe w'=>e = .returned (.string (ref s))/\FrN M (sz s+1) w3.drew w'/\eG M (sz s+1) w')/\
   ∀ w5,FrN M (sz s+1) w3.drew w5->eG M (sz s+1) w5->(((w5.cell? ⟨w.heap.size,0,none⟩=some (.pointer (some ⟨b,0,none⟩))/\w5.cell? ⟨b,1,none⟩=some (.slice pa pn pc))/\w5.cell? ⟨b,3,none⟩=some (.slice (some ⟨kb,ko,none⟩) kn kc))/\w5.cell? ⟨kb,ko,none⟩=some (.pointer p0))/\
    Calls prog 110 #[.slice pa pn pc,.string (ref s)] w5 (Fu w5 ⟨2,q,eB,ref s::List.replicate 15 eB⟩)/\
    ∀ w6,Below w5.heap.size w5 w6->∀ a6 n6 c6,BsF w5.heap.size w6 a6 n6 c6 q->(((w6.cell? ⟨w.heap.size,0,none⟩=some (.pointer (some ⟨b,0,none⟩))/\w6.cell? ⟨b,1,none⟩=some (.slice pa pn pc))/\w6.cell? ⟨b,3,none⟩=some (.slice (some ⟨kb,ko,none⟩) kn kc))/\w6.cell? ⟨kb,ko,none⟩=some (.pointer p0))/\dL w6 (w.heap.size+1) nd0 none 0 0/\
     ∀ ai,Rg.Upd w6 (w.heap.size+1) ai->(((ai.cell? ⟨w.heap.size,0,none⟩=some (.pointer (some ⟨b,0,none⟩))/\ai.cell? ⟨b,1,none⟩=some (.slice pa pn pc))/\ai.cell? ⟨b,3,none⟩=some (.slice (some ⟨kb,ko,none⟩) kn kc))/\ai.cell? ⟨kb,ko,none⟩=some (.pointer p0))/\nu M (.ext q s) w (.returned (.agg (ndC ⟨2,q,eB,dR (ref s)⟩ a6 n6 c6))) ai):=hid (λw3 hb3=>by
  have eA:Below w2.heap.size w2 w3.drew:=hb3.drew;have hi3:eG M (sz s+1) w3.drew:=hi2.below eA;have e0:=aX eA h0;have e1:=aX eA hB2.c1;have e3:=aX eA hB2.c3;have ek:=aX eA hk0;have ne:M.at_ b=none\/∃ t,M.at_ b=some t/\sz s+1<=sz t:=Or.inr ⟨_,hm,aH⟩;have tx:Tab w3.drew:=hT.below (bst hb2 eA) zj;refine ⟨⟨e0,e1,e3,ek⟩,hR M _ p0 hi3 cz tx,λw5 em hi5=>?_⟩;have g0:=em.cell e0 (Or.inl (hi3.qw e0));have g1:=em.cell e1 ne;have g3:=em.cell e3 ne;have gk:=em.cell ek (Or.inl (hi3.qw ek));have X7:=Iu hi3 (hB2.hb.below eA) em
  have hg1:M.at_ (w.heap.size+1)=none:=by
   cases hmm:M.at_ (w.heap.size+1) with
   | none=>rfl
   | some t=>exact absurd (hi.lt_ _ (hi.part_ _ t hmm).2.1) (by omega)
  have c8:dL w5 (w.heap.size+1) nd0 none 0 0:=⟨aJ (bc.below eA).1 em.size,(em.block _ (bc.below eA).1 (Or.inl hg1)).trans (bc.below eA).2⟩
  refine ⟨⟨⟨⟨g0,g1⟩,g3⟩,gk⟩,No.LU pa pn pc q (by omega) (ref s) w5 X7,λw6 hb6 a6 n6 c6 hx=>?_⟩;have az:=c8.below hb6;refine ⟨⟨⟨⟨aX hb6 g0,aX hb6 g1⟩,aX hb6 g3⟩,aX hb6 gk⟩,az,λai hu=>?_⟩;have hc:∀ (b' o:Nat) (v:Value),b'≠w.heap.size+1->w6.cell? ⟨b',o,none⟩=some v->ai.cell? ⟨b',o,none⟩=some v:=λb' o v hne h=>by
   rw [<-h]; exact World.cell?_of_block (w:=w6) (hu.block b' hne)
  have hfw:FrN M (sz s+1) w w6:=((FrN.below M _ (bst hb2 eA)).trans em).trans (FrN.below M _ hb6);exact ⟨⟨⟨⟨hc _ _ _ (by omega) (aX hb6 g0),hc _ _ _ (by omega) (aX hb6 g1)⟩,hc _ _ _ (by omega) (aX hb6 g3)⟩,hc _ _ _ (by omega) (aX hb6 gk)⟩,
   a6,n6,c6,rfl,⟨uO hx.1 (gP az (Lx _ _ _ _)) hu,λad e=>Nat.le_trans (Nat.le_trans (Nat.le_trans hb2.size eA.size) em.size) (hx.2 ad e)⟩,hfw.upd hu (by omega),(hi5.below hb6).upd hu (λe=>by have:=hi.lt_ _ e; omega)⟩)
 have H0:=hid aE;clear aE bc hb2 hs2 hB hB2 h0 hi hi2 hm hpn hq hT hR zj hk0 hT0 cz ix eW;subst hw2;go_enter func63,ntmps63;go_wp2_with (first | (refine aB (aY _ _ _ (w.heap.size+1) (by simp) rfl) ?_) | (refine aB (aW (aV (j:=0) H0.out rfl) ⟨_,rfl,rfl⟩) ?_))
 refine HK.out.mono ?_;rintro e w3 ⟨rfl,hb3⟩;obtain ⟨⟨d0,d1,d3,dk⟩,HC,HF⟩:=zd.out w3 hb3;replace HC:=hid HC;replace HF:=hid HF;clear hb3 zd HK H0;go_wp2_with fail
 refine aD (S:=λw'=>((w'.cell? ⟨w.heap.size,0,none⟩=some (.pointer (some ⟨b,0,none⟩))/\w'.cell? ⟨b,1,none⟩=some (.slice pa pn pc))/\w'.cell? ⟨b,3,none⟩=some (.slice (some ⟨kb,ko,none⟩) kn kc))/\w'.cell? ⟨kb,ko,none⟩=some (.pointer p0)) (⟨⟨⟨d0,d1⟩,d3⟩,dk⟩) λhld=>?_;refine aj 0 ?_;try simp only [Act.put,au]
 refine aF 1 (λwz hSw=>hSw.1.1.1) ?_;try simp only [Act.put,au]
 refine aj 2 ?_;try simp only [Act.put,au]
 refine aj 3 ?_;try simp only [Act.put,au]
 refine aF 4 (λwz hSw=>hSw.1.1.2) ?_;try simp only [Act.put,au]
 refine aj 5 ?_;try simp only [Act.put,au]
 refine aF 6 (λwz hSw=>hSw.1.1.1) ?_;try simp only [Act.put,au]
 refine aj 7 ?_;try simp only [Act.put,au]
 refine aj 8 ?_;try simp only [Act.put,au]
 refine aF 9 (λwz hSw=>hSw.1.2) ?_;try simp only [Act.put,au]
 refine aj 10 ?_;try simp only [Act.put,au]
 refine aj 11 ?_ (hy:=by intro wz hSw; (refine aW hSw.2 ?_; exact ⟨_,rfl,rfl⟩));try simp only [Act.put,au]
 refine ak 12 λK hK=>?_;go_simp;go_at_call 111
 (with_reducible refine HC.out.mono ?_)
 rintro e w5 ⟨rfl,em,hi5⟩;obtain ⟨hS5,H5⟩:=HF.out w5 em hi5;replace H5:=hid H5;clear em hi5;refine hK.out _ _ (hS5) λhld=>?_;clear hK K;try simp only [Act.put,au]
 refine ak 13 λK hK=>?_;go_simp;go_at_call 110
 (with_reducible refine (H5.out.1).mono ?_)
 intro e w6 hG;obtain ⟨a6,n6,c6,rfl,d8,s7,hb6⟩:=hG;have tw:=hid s7;obtain ⟨ke,az,zp⟩:=H5.out.2 w6 hb6 a6 n6 c6 d8;have H6:=hid zp;have cG:=hid az;clear s7 hb6 d8 zp az;refine hK.out _ _ (ke) λhld=>?_;clear hK K;try simp only [Act.put,au]
 refine ak 14 λK hK=>?_;refine Rg.meetStore (by rfl) cG.out 67 (ndC ⟨2,q,eB,ref s::List.replicate 15 eB⟩ a6 n6 c6) ⟨_,_,rfl,rfl,rfl⟩ (gH _ _ _ _ tw.out) (by rw [dD _ _ _ _ bK,dD _ _ _ _ tw.out]) (jf _ _ _ _) ?_;intro ai aw ax;have cP:=hid aw;obtain ⟨df,nj⟩:=H6.out ai ax;have iS:=hid nj;clear aw nj;refine hK.out _ _ (df) λhld=>?_;clear hK K;try simp only [Act.put,au]
 refine aC ?_;go_wp2;exact bodyPost_ret (tC rfl _ rfl cP.out tw.out) rfl iS.out
theorem Hr (p:aL) (k:Int) (h1:k≠1) (h2:k≠2) (h3:k≠3) (w:World)
  (hK:∀ wx,Below w.heap.size w wx->Calls prog 83 #[.agg #[.pointer p]] wx λe w'=>e = .returned (.int .i64 k)/\Below wx.heap.size wx w') :
  Calls prog 63 #[.agg #[.pointer p]] w λe w'=>e = .returned (.agg (ndC nd0 none 0 0))/\Below w.heap.size w w':=by
 obtain ⟨w2,hw2,aE,bc,hb2,hs2⟩:=wS w p;have HK:=hid (hK w2 hb2);have H3:Hid (∀ w3,Below w2.heap.size w2 w3->dL w3 (w.heap.size+1) nd0 none 0 0/\Below w.heap.size w w3):=hid (λw3 hb3=>⟨bc.below hb3,bst hb2 hb3⟩);have H0:=hid aE;have e1:(k==1)=false:=by simp [h1]
 have e2:(k==2)=false:=by simp [h2]
 have e3:(k==3)=false:=by simp [h3]
 clear aE bc hb2 hs2 hK h1 h2 h3;subst hw2;go_enter func63,ntmps63;go_wp2_with (first | (refine aB (aY _ _ _ (w.heap.size+1) (by simp) rfl) ?_) | (refine aB (aW (aV (j:=0) H0.out rfl) ⟨_,rfl,rfl⟩) ?_))
 refine HK.out.mono ?_;rintro e w3 ⟨rfl,hb3⟩;obtain ⟨hO3,hB3⟩:=H3.out w3 hb3;have ce:=hid hO3;have HB3:=hid hB3;clear hb3 H3 HK H0 hO3 hB3;go_wp2_with (first
  | (refine aB (bC lY ⟨_,rfl,rfl⟩) ?_)
  | (refine bA ce.out bK nd0 none 0 0 bK rfl _ _ rfl rfl rfl rfl ?_))
 exact bodyPost_ret (tC rfl _ rfl (dG ce.out) bK) rfl ⟨rfl,bX HB3.out (by omega) _⟩
theorem uP {b o:Nat} {cs:aO} (h:Rg.Own w b cs t) (ho:o<cs.size) (s:aM):(Instr.storeAt 9 (.pointer (some ⟨b,o,none⟩)) (.string s)).run prog w = .ok () (w.setCell ⟨b,o,none⟩ (.string s)):=by
 have hc:w.cell? ⟨b,o,none⟩=some cs[o]:=aV h (Array.getElem?_eq_getElem ho);have hz:w.frozen? ⟨b,o,none⟩=false:=fB h;simp [go_sem,hc,hz]
theorem Ae (ks:List aM) (i:Nat) (x:aM):(iN ks).setIfInBounds i (.string x)=iN (ks.set i x):=by
 unfold iN;rw [List.map_set];simp
theorem BN {rest:List Oper} {b:Nat} {ks:List aM} (h:qO w b ks) (hl:ks.length=16) (hi:i<16) (s:aM)
  (hgd:o.guard=none) (x y:Operand) (ho:o.op = .store 9 x y) (hx:act.eval x = .pointer (some ⟨b,i,none⟩)) (hy:act.eval y = .string s)
  (hQ:∀ w',qO w' b (ks.set i s)->Rg.Upd w b w'->wpList prog ops Q rest (act.put o.dst undef) w'):wpList prog ops Q (o::rest) act w :=
 wpList_plain hgd λK hK=>by
  unfold Oper.wp execOp;simp only [ho,hx,hy,Sem.run_bind,Sem.run_pure,Result.andThen_ok,uP h (o:=i) (by rw [DI,hl]; exact hi) s];refine hK _ _ (hQ _ ?_ (bQ _ _ _ _));have:=cO (o:=i) h (.string s);rwa [Ae] at this
def jv (l:List aM) (j:Nat):List aM:=l.take j++List.replicate (16-j) eB
theorem BR {l:List aM} (hl:l.length=16) (hj:j<=16):(jv l j).length=16:=by
 unfold jv;rw [List.length_append,List.length_take,List.length_replicate,hl];omega
theorem Kr {l:List aM} (hl:l.length=16) (hj:j<16):(jv l j).set j (l.getD j eB)=jv l (j+1):=by
 unfold jv;have h1:(l.take j).length=j:=by rw [List.length_take,hl]; omega
 have h2:List.replicate (16-j) eB=eB::List.replicate (16-(j+1)) eB:=by
  rw [show 16-j=(16-(j+1))+1 by omega,List.replicate_succ]
 have h3:l.take (j+1)=l.take j++[l.getD j eB]:=by
  have e:l.getD j eB=l[j]'(by omega):=by simp [List.getD,hl,hj]
  rw [e,List.take_succ_eq_append_getElem (by omega)]
 rw [h2,h3,List.set_append_right _ _ (by omega),h1,Nat.sub_self,List.set_cons_zero,List.append_assoc];rfl
theorem JK {l:List aM} (hl:l.length=16):jv l 16=l:=by
 unfold jv;rw [List.take_of_length_le (by omega)];simp
theorem Ib (l:List aM):jv l 0=zks:=by
 unfold jv;simp [zks]
theorem eG.yU {M:Mp} {n:Nat} {w:World} (h:eG M n w) {b:Nat} (hb:w.heap.size<=b):M.at_ b=none:=by
 cases hm:M.at_ b with
 | none=>rfl
 | some t=>exact absurd (h.lt_ b (h.part_ b t hm).2.1) (by omega)
theorem yY {M:Mp} {b:Nat} {cs:aO} (h:Rg.Own w b cs t) (f:FrN M n w w') (hb:M.at_ b=none):Rg.Own w' b cs t:=⟨aJ h.1 f.size,(f.block b h.1 (Or.inl hb)).trans h.2⟩
theorem Ws (M:Mp) (b:Nat) (ks:Fin 16->T) (hm:M.at_ b=some (.br ks)) (w:World) (hi:eG M (sz (.br ks)) w) (pa:aL) (pn pc:Nat) (ka:aL) (kn kc:Nat) (hB:Body M w b (.br ks) pa pn pc ka kn kc) (hT:Tab w) (hR:∀ i,mW (ks i)) :
  Calls prog 63 #[.agg #[.pointer (some ⟨b,0,none⟩)]] w (nu M (.br ks) w):=by
 obtain ⟨w2,hw2,aE,bc,hb2,hs2⟩:=wS w (some ⟨b,0,none⟩);have hB2:=hB.below hb2;have hi2:=hi.below hb2;have h0:=aV (j:=0) aE rfl;have hlb:=hi.lt_ b (hi.part_ b _ hm).2.1;have hkn:kn=16:=by rw [<-hB2.hk.len]; exact gD ks
 subst hkn;obtain ⟨kb,ko,p0,rfl,eW,ix,hzz⟩:=hB2.hk.at' 0 (by omega);clear hzz;have zr:∀ j (hj:j<16),∃ p,w2.cell? ⟨kb,ko+j,none⟩=some (.pointer p)/\IsT M p (ks ⟨j,hj⟩):=λj hj=>by
  obtain ⟨b',o',p,e,_,_,hc,ht⟩:=hB2.hk.at' j hj;obtain ⟨rfl,rfl⟩:kb=b'/\ko=o':=by simpa using e
  refine ⟨p,hc,?_⟩;have:=kM ks ⟨j,hj⟩;rw [this] at ht;exact ht
 have hkc:=hB2.hk.1;have hkm:=hB2.hk.2.1;unfold maxLen at hkm;have nh:=hi.lt_ kb ix;have zj:=hT.pos;have fR:=hT.below hb2 zj;have HK:=hid (nM b 3 w2 hB2.c0);obtain ⟨L,hL⟩:∃ L,(iJ λi=>ref (ks i))=L:=⟨_,rfl⟩
 have G0:L.length=16:=by rw [<-hL]; exact oV _
 have R6:∀ j (hj:j<16),L.getD j eB=ref (ks ⟨j,hj⟩):=λj hj=>by
  rw [<-hL]; exact qY (λi=>ref (ks i)) ⟨j,hj⟩
 have hg1:M.at_ (w.heap.size+1)=none:=hi.yU (by omega);have HA:Hid (∀ w3,Below w2.heap.size w2 w3->(w3.cell? ⟨w.heap.size,0,none⟩=some (.pointer (some ⟨b,0,none⟩))/\w3.cell? ⟨b,3,none⟩=some (.slice (some ⟨kb,ko,none⟩) 16 kc))/\
   ((w3.alloc (.cells (iN zks) 65)).cell? ⟨w.heap.size,0,none⟩=some (.pointer (some ⟨b,0,none⟩))/\(w3.alloc (.cells (iN zks) 65)).cell? ⟨b,3,none⟩=some (.slice (some ⟨kb,ko,none⟩) 16 kc))/\
   M.at_ w3.heap.size=none/\w.heap.size+1<w3.heap.size/\qO (w3.alloc (.cells (iN zks) 65)) w3.heap.size (jv L 0)/\FrN M (sz (.br ks)) w2 (w3.alloc (.cells (iN zks) 65))/\eG M (sz (.br ks)) (w3.alloc (.cells (iN zks) 65))):=hid (λw3 hb3=>by
  have hb4:=bst hb3 (al1 w3 (.cells (iN zks) 65));have hsz:=hb3.size;refine ⟨⟨aX hb3 h0,aX hb3 hB2.c3⟩,⟨aX hb4 h0,aX hb4 hB2.c3⟩,hi2.yU (by omega),by omega,?_,FrN.below M _ hb4,hi2.below hb4⟩;rw [Ib];exact Rg.Own.new _ _ _)
 have lO:Hid (∀ (bl:Nat) (wr:World),w2.heap.size<=bl->FrN M (sz (.br ks)) w2 wr->eG M (sz (.br ks)) wr->∀ j (hj:j<16),qO wr bl (jv L j)->∃ p,wr.cell? ⟨kb,ko+j,none⟩=some (.pointer p)/\
   ∀ w5,Below wr.heap.size wr w5->Calls prog 111 #[.agg #[.pointer p]] w5 (λe w'=>e = .returned (.string (L.getD j eB))/\FrN M (sz (.br ks)) w5 w'/\eG M (sz (.br ks)) w')/\
   ∀ w6,FrN M (sz (.br ks)) w5 w6->eG M (sz (.br ks)) w6->qO w6 bl (jv L j)/\
   ∀ w7,qO w7 bl ((jv L j).set j (L.getD j eB))->Rg.Upd w6 bl w7->qO w7 bl (jv L (j+1))/\FrN M (sz (.br ks)) w2 w7/\eG M (sz (.br ks)) w7):=hid (λbl wr hbl hf hir j hj tz=>by
  obtain ⟨p,hcp,htp⟩:=zr j hj;have zs:=Wy ks ⟨j,hj⟩;refine ⟨p,hf.cell hcp (Or.inl (hi2.qw hcp)),λw5 hb5=>?_⟩;have hi5:=hir.below hb5;have hTr:=yX hi2 hf fR;have ju:=hTr.below hb5 hTr.pos;refine ⟨(hR ⟨j,hj⟩ M w5 p (hi5.mono zs) htp ju).mono ?_,λw6 eL pT=>?_⟩
  .rintro e w' ⟨rfl,hfe,hie⟩;exact ⟨by rw [R6 j hj],hfe.mono zs,hi5.after hfe hie⟩
  .have J1:qO w6 bl (jv L j):=yY (tz.below hb5) eL (hi2.yU hbl);refine ⟨J1,λw7 dE hu=>⟨by rw [<-Kr G0 hj]; exact dE,((hf.trans (FrN.below M _ hb5)).trans eL).upd hu hbl,pT.upd hu (λe=>by have:=hi2.lt_ _ e; omega)⟩⟩)
 have dT:Hid (∀ (bl:Nat) (wr:World),FrN M (sz (.br ks)) w2 wr->eG M (sz (.br ks)) wr->qO wr bl (jv L 16)->qO wr bl L/\∀ w6,Below wr.heap.size wr w6->∀ a6 n6 c6,BsF wr.heap.size w6 a6 n6 c6 []->dL w6 (w.heap.size+1) nd0 none 0 0/\
   ∀ ai,Rg.Upd w6 (w.heap.size+1) ai->nu M (.br ks) w (.returned (.agg (ndC ⟨3,[],eB,L⟩ a6 n6 c6))) ai):=hid (λbl wr hf hir tz=>by
  rw [JK G0] at tz;refine ⟨tz,λw6 hb6 a6 n6 c6 hx=>?_⟩;have az:=(yY bc hf hg1).below hb6;refine ⟨az,λai hu=>⟨a6,n6,c6,by rw [<-hL]; rfl,⟨uO hx.1 (gP az (Lx _ _ _ _)) hu,λad e=>Nat.le_trans (Nat.le_trans hb2.size hf.size) (hx.2 ad e)⟩,?_,(hir.below hb6).upd hu (λe=>by have:=hi.lt_ _ e; omega)⟩⟩;exact (((FrN.below M _ hb2).trans hf).trans (FrN.below M _ hb6)).upd hu (by omega))
 have zt:=hid G0;have H0:=hid aE;have J2:=hs2;obtain ⟨N,hN⟩:=aA (sz (.br ks))
 rw [hN] at HA lO dT;clear aE bc hb2 hB hB2 h0 hi hi2 hm hT hR zj fR zr ix eW hL R6 hg1 hN G0 hs2;have HW2:Hid (_=_):=hid hw2;clear hw2;go_enter func63,ntmps63;have J3:=H0;rw [HW2.out] at J3;go_wp2_with (first | (refine aB (aY _ _ _ (w.heap.size+1) (by simp) rfl) ?_) | (refine aB (aW (aV (j:=0) J3.out rfl) ⟨_,rfl,rfl⟩) ?_))
 rw [<-HW2.out];refine HK.out.mono ?_;rintro e w3 ⟨rfl,hb3⟩;obtain ⟨⟨d0,d3⟩,⟨e0,e3⟩,hnb,X8,tz,tA,hi4⟩:=HA.out w3 hb3;have R7:=hid tz;have R8:=hid tA;have HI4:=hid hi4;have hsz2:=hb3.size;clear hb3 HA HK H0 J3 HW2 tz tA hi4;go_wp2_with (refine aB (vB _ _ _ w3.heap.size rfl rfl) ?_)
 clear d0 d3 e0 e3;go_loopw [45] (λi wr=>∃ j:Nat,j<=16/\i = .int .i64 j/\Hid (qO wr w3.heap.size (jv L j))/\Hid (FrN M N w2 wr)/\Hid (eG M N wr)) (λi _=>16-(intOf i).toNat)
 case atStart=>exact ⟨0,Nat.zero_le _,rfl,R7,R8,HI4⟩
 case round =>
  obtain ⟨j,hj,rfl,HO,HF,HI⟩:=hrel;clear R7 R8 HI4;by_cases hlt:j<16
  .obtain ⟨p,hkp,H5⟩:=lO.out w3.heap.size wr hsz2 HF.out HI.out j hlt HO.out;replace H5:=hid H5;have hNew:=Rg.Own.new wr #[.pointer none] 46;have HN:=hid hNew;obtain ⟨R,hR⟩:=aA (L.getD j eB)
   rw [hR] at H5;clear hNew HO HF HI lO dT hR;go_wp2_with (first
    | (refine aB (aW hkp ⟨_,rfl,rfl⟩) ?_)
    | (refine aB (bD _ _ _ wr.heap.size rfl rfl) ?_)
    | (refine bU HN.out (by decide) p rfl _ _ rfl rfl rfl ?_; intro w5 c8 cq; have cf:=hid c8; have al:Hid (Below wr.heap.size wr w5):=hid (cq.below (al1 _ _) aH); clear c8 cq)
    | (refine aB (aW (aV (j:=0) cf.out rfl) ⟨_,rfl,rfl⟩) ?_))
   obtain ⟨HC,H6⟩:=H5.out w5 al.out;replace HC:=hid HC;replace H6:=hid H6;clear H5 al cf HN hkp;refine HC.out.mono ?_;rintro e w6 ⟨rfl,eL,pT⟩;obtain ⟨az,H7⟩:=H6.out w6 eL pT;replace H7:=hid H7;have cG:=hid az;clear eL pT H6 HC az;have hji:(j:Int)<16:=by omega
   go_wp2_with (refine BN cG.out (BR zt.out (by omega)) hlt R rfl _ _ rfl rfl rfl ?_; intro w7 dE cE; obtain ⟨g1,g2,g3⟩:=H7.out w7 dE cE; have G1:=hid g1; have G2:=hid g2; have G3:=hid g3; clear g1 g2 g3 dE cE)
   go_roundw
   case rel=>exact ⟨j+1,by omega,by go_num,G1,G2,G3⟩
   case measure=>simp [intOf]; omega
  .obtain rfl:j=16:=by omega
   obtain ⟨R9,H6⟩:=dT.out w3.heap.size wr HF.out HI.out HO.out;have HOL:=hid R9;replace H6:=hid H6;have e8:=hid (No.kE L zt.out wr);clear HO HF HI lO dT R9;go_wp2_with (refine aB (nQ HOL.out zt.out ⟨_,rfl,rfl⟩) ?_)
   refine e8.out.mono ?_;rintro e w6 ⟨a6,n6,c6,rfl,d8,s7,hb6⟩;obtain ⟨az,iS⟩:=H6.out w6 hb6 a6 n6 c6 d8;have cG:=hid az;replace iS:=hid iS;clear d8 s7 hb6 az H6 e8 HOL;go_wp2_with (refine bA cG.out bK ⟨3,[],eB,L⟩ a6 n6 c6 zt.out rfl _ _ rfl rfl rfl rfl ?_)
   exact bodyPost_ret (tC rfl _ rfl (dG cG.out) zt.out) rfl (iS.out _ (Rg.Upd.set _ _ _))
end Tm
end
end Go.Proofs.YtokaiemgjngcoaaGreatDoor
