/-
 Contracts of cut, lifted, turned: trees made of a part's pieces.
-/
import Derived.Test.YtlcplcgigjagpaaGreatDoorSg9
import Derived.Lib.ConvBytes
open Go.Lib (hid)
open Go.Proofs.Tryz
set_option linter.unusedSimpArgs false
set_option linter.unusedVariables false
set_option maxHeartbeats 40000000
set_option maxRecDepth 100000
namespace Go.Proofs.YtlcplcgigjagpaaGreatDoor
variable {w w' w0 w1 w2:World} {B b2 c g i j m off:Nat} {cs:aM} {e t ty:TypeId} {a:aJ} {S:Nat->Prop} {o:Oper} {K:Act->World->Prop} {Q:Exit->Act->World->Prop} {ops:Array Oper} {ev:Operand->Value} {v:Value} {P:Program} {r x x0:aK} {act:Act} {d:Int}
section
open Go.RowKit
namespace Tm
open Tr Ni Pk
theorem Fr.upd {M M':Mp} (f:Fr M M' w w1) (hu:Rg.Upd w1 g w') (hg:w.heap.size<=g):Fr M M' w w' :=
 ⟨hu.os.trans f.os,hu.tape.trans f.tape,hu.output.trans f.output,by rw [hu.size]; exact f.size,λk hk hm=>(hu.block k (by omega)).trans (f.block k hk hm),f.mono,f.fresh,f.grow,f.foot⟩
theorem finish {M M1:Mp} {w3 w4:World} {t:T} {e:Ending} (hi:Inv M w) (f3:Fr M M1 w w3) (b3:Below w.heap.size w w3) (hG:dA M1 w3 t e w4)
  (hO3:Rg.Own w3 g cs ty) (hne:∀ (j:Nat) (x:Int),cs[j]? ≠ some (Value.int .u8 x)) (hg:w.heap.size<=g) (hg1:¬ M1.ft g) :
  ∃ p,e = .returned (tv p)/\Rg.Own w4 g cs ty/\∀ w5,Rg.Upd w4 g w5->dA M w t (.returned (tv p)) w5:=by
 obtain ⟨p,M',he,ht,f,i,b⟩:=hG;have hbw:=b3.trans (b.mono b3.size);exact ⟨p,he,hO3.below b,λw5 hu=>⟨p,M',rfl,ht,(f3.trans hi f).upd hu hg,i.upd hu (f.box hg1 hO3.1 (eu hO3 hne)),hu.below hbw hg⟩⟩
theorem kD {M:Mp} {b:Nat} {t:T} (hi:Inv M w) (hm:M.at_ b=some t):IsT M (some ⟨b,0,none⟩) t:=⟨b,rfl,hm,(hi.part_ b t hm).1⟩
theorem Tq (M:Mp) (b:Nat) (q:Pa) (u:aK) (hm:M.at_ b=some (.leaf q u)) (k:Nat) (hk:k<=q.length) (w:World) (hi:Inv M w) :
  Calls prog 159 #[.agg #[.pointer (some ⟨b,0,none⟩)],.int .i64 k] w (dA M w (.leaf (q.drop k) u)):=by
 obtain ⟨w2,hw2,b8,af,hb2,hs2⟩:=mZ w (some ⟨b,0,none⟩);have hi2:=hi.below hb2;obtain ⟨pa,pn,pc,c1,hP⟩:=hi2.path hm;have c2:=hi2.val hm;have hl:q.length=pn:=hP.1.len;have hcap:=hP.1.1;have hmx:=hP.1.2.1;unfold maxLen at hmx;rw [hl] at hk;have HK:=hid (dF M _ _ w2 hi2 (kD hi2 hm));have HL:Hid (∀ w3,Below w2.heap.size w2 w3->Calls prog 96 #[.slice (dM pa pc k) (pn-k) (pc-k),.string u] w3 (dA M w3 (.leaf (q.drop k) u))):=hid (λw3 hb3 =>
  nV M _ _ _ _ _ w3 (hi2.below hb3) ((hP.fr hi2 (Fr.below M hb3)).from' k hk))
 have H0:=hid b8;have HF:Hid (∀ w3,Below w2.heap.size w2 w3->∀ e w4,dA M w3 (.leaf (q.drop k) u) e w4->∃ p,e = .returned (tv p)/\Rg.Own w4 (w.heap.size+1) #[.pointer none] 31/\∀ w5,Rg.Upd w4 (w.heap.size+1) w5->dA M w (.leaf (q.drop k) u) (.returned (tv p)) w5):=hid (λw3 hb3 e w4 hG =>
  finish hi (Fr.below M (bst hb2 hb3)) (bst hb2 hb3) hG (af.below hb3) (cZ _) (by omega) (hi.free (by omega)))
 have c2':w2.cell? ⟨b,2,none⟩=some (.string u):=c2;have h0:=aU (j:=0) b8 rfl;have HC:Hid (∀ w3,Below w2.heap.size w2 w3->w3.cell? ⟨w.heap.size,0,none⟩=some (.pointer (some ⟨b,0,none⟩))/\w3.cell? ⟨b,2,none⟩=some (.string u)):=hid (λw3 hb3=>⟨aV hb3 h0,aV hb3 c2'⟩);clear b8 af hb2 hs2 hi hi2 hP c2 c2' hl;subst hw2;go_enter func159,ntmps159;go_wp2_with (first
  | (refine ay (aW _ _ _ (w.heap.size+1) (by simp) rfl) ?_)
  | (refine ay (lD iU jT hk ⟨_,_,rfl,rfl,rfl⟩) ?_)
  | (refine ay (aT (aU (j:=0) H0.out rfl) ⟨_,rfl,rfl⟩) ?_))
 refine HK.out.mono ?_;rintro e w3 ⟨rfl,hb3⟩;obtain ⟨d0,d2⟩:=HC.out w3 hb3;have ob:=hid (HL.out w3 hb3);have m7:=hid (HF.out w3 hb3);clear hb3 HC HL HF h0 c1;unfold dD;go_wp2_with fail
 refine ob.out.mono ?_;intro e w4 hG;obtain ⟨p,rfl,hO4,hE⟩:=m7.out e w4 hG;have ch:=hid hO4;have HE:=hid hE;clear hG hO4 hE m7 ob;go_wp2_with (refine aX ch.out (by decide) p rfl _ _ rfl rfl rfl ?_; intro w5 aE ax; have cd:=hid aE; have gO:=hid ax; clear aE ax)
 exact bodyPost_ret (dW rfl _ rfl cd.out) rfl (HE.out w5 gO.out)
theorem Vz (M:Mp) (b:Nat) (q:Pa) (s:T) (hm:M.at_ b=some (.ext q s)) (k:Nat) (hk:k<=q.length) (w:World) (hi:Inv M w) :
  Calls prog 159 #[.agg #[.pointer (some ⟨b,0,none⟩)],.int .i64 k] w (dA M w (wrap (q.drop k) s)):=by
 obtain ⟨w2,hw2,b8,af,hb2,hs2⟩:=mZ w (some ⟨b,0,none⟩);have hi2:=hi.below hb2;obtain ⟨pa,pn,pc,c1,hP⟩:=hi2.path hm;obtain ⟨ka,kn,kc,c3,hK⟩:=hi2.kids hm;obtain ⟨kb,ko,p0,rfl,cA,el,hk0,hT0⟩:=hK.at' 0 (by rw [<-hK.len]; exact Nat.one_pos);have hkn:kn=1:=hK.len.symm;have hkc:=hK.1;have hkm:=hK.2.1;unfold maxLen at hkm;rw [Nat.add_zero] at hk0;have cn:IsT M p0 s:=hT0;have hl:q.length=pn:=hP.1.len;have hcap:=hP.1.1;have hmx:=hP.1.2.1;unfold maxLen at hmx;rw [hl] at hk;have HK:=hid (dF M _ _ w2 hi2 (kD hi2 hm));have h0:=aU (j:=0) b8 rfl
 have H3:Hid (∀ w3,Below w2.heap.size w2 w3->Calls prog 130 #[.slice (dM pa pc k) (pn-k) (pc-k),.agg #[.pointer p0]] w3 (dA M w3 (wrap (q.drop k) s))/\(∀ e w9,dA M w3 (wrap (q.drop k) s) e w9->∃ p,e = .returned (tv p)/\Rg.Own w9 (w.heap.size+1) #[.pointer none] 31/\∀ ap,Rg.Upd w9 (w.heap.size+1) ap->dA M w (wrap (q.drop k) s) (.returned (tv p)) ap)/\
   w3.cell? ⟨w.heap.size,0,none⟩=some (.pointer (some ⟨b,0,none⟩))/\w3.cell? ⟨b,3,none⟩=some (.slice (some ⟨kb,ko,none⟩) kn kc)/\w3.cell? ⟨kb,ko,none⟩=some (.pointer p0)):=hid (λw3 hb3 =>
  ⟨vE M _ _ _ _ _ _ w3 (hi2.below hb3) ((hP.fr hi2 (Fr.below M hb3)).from' k hk) cn,
   λe w9 hG=>finish hi (Fr.below M (bst hb2 hb3)) (bst hb2 hb3) hG (af.below hb3) (cZ _) (by omega) (hi.free (by omega)),
   aV hb3 h0,aV hb3 c3,aV hb3 hk0⟩)
 have H0:=hid b8;clear b8 af hb2 hs2 hi hi2 hP hl hK hT0 cn c3 hk0 h0;subst hw2;go_enter func159,ntmps159;go_wp2_with (first
  | (refine ay (aW _ _ _ (w.heap.size+1) (by simp) rfl) ?_)
  | (refine ay (lD iU jT hk ⟨_,_,rfl,rfl,rfl⟩) ?_)
  | (refine ay (aT (aU (j:=0) H0.out rfl) ⟨_,rfl,rfl⟩) ?_))
 refine HK.out.mono ?_;rintro e w3 ⟨rfl,hb3⟩;obtain ⟨HB,HF,d0,d3,e0⟩:=H3.out w3 hb3;replace HB:=hid HB;replace HF:=hid HF;clear hb3 H3 c1;unfold dD;go_wp2_with (refine ay (aT e0 ⟨_,rfl,rfl⟩) ?_)
 refine HB.out.mono ?_;intro e w9 hG;obtain ⟨p9,rfl,ai,hE⟩:=HF.out e w9 hG;have bh:=hid ai;have HE:=hid hE;clear hG ai hE;go_wp2_with (refine aX bh.out (by decide) p9 rfl _ _ rfl rfl rfl ?_; intro ap aq az; have ct:=hid aq; have e8:=hid az; clear aq az)
 exact bodyPost_ret (dW rfl _ rfl ct.out) rfl (HE.out ap e8.out)
theorem fK (ks:Fin 16->T):(fI (.br ks)).length=16:=by simp [fI]
theorem kJ (ks:Fin 16->T) (i:Fin 16):(fI (.br ks)).getD i.val .nil=ks i:=by
 have hi:=i.isLt;show ((List.finRange 16).map ks).getD i.val .nil=ks i;rw [List.getD_eq_getElem?_getD,List.getElem?_map,List.getElem?_eq_getElem (by simp)];simp
theorem xV (ks:Fin 16->T) (i:Fin 16) (t:T):(fI (.br ks)).set i.val t=fI (.br λj=>if j=i then t else ks j):=by
 apply List.ext_getElem?;intro j;by_cases hj:j<16
 .have h1:=kJ (λj=>if j=i then t else ks j) ⟨j,hj⟩;have h2:=kJ ks ⟨j,hj⟩;have hl1:j<(fI (.br ks)).length:=by rw [fK]; exact hj
  have hl2:j<(fI (.br λj=>if j=i then t else ks j)).length:=by rw [fK]; exact hj
  rw [List.getD_eq_getElem?_getD,List.getElem?_eq_getElem hl2] at h1;rw [List.getD_eq_getElem?_getD,List.getElem?_eq_getElem hl1] at h2;rw [List.getElem?_eq_getElem hl2];by_cases e:i.val=j
  .subst e;rw [List.getElem?_set_self hl1];simp only [Option.getD_some] at h1;rw [h1]; simp
  .rw [List.getElem?_set_ne e,List.getElem?_eq_getElem hl1];have:(⟨j,hj⟩:Fin 16)≠i:=λh=>e (by rw [<-h]);simp only [Option.getD_some] at h1 h2;rw [h1,h2,if_neg this]
 .rw [List.getElem?_eq_none (by rw [List.length_set,fK]; omega),List.getElem?_eq_none (by rw [fK]; omega)]
theorem Yb (w:World) (p q:aJ):∃ w2,w2=((w.alloc (.cells #[.pointer p] 31)).alloc (.cells #[.pointer q] 31)).alloc (.cells #[.pointer none] 31)/\Rg.Own w2 w.heap.size #[.pointer p] 31/\Rg.Own w2 (w.heap.size+1) #[.pointer q] 31/\Rg.Own w2 (w.heap.size+2) #[.pointer none] 31/\Below w.heap.size w w2/\w2.heap.size=w.heap.size+3:=by
 have h2:=Rg.Own.new (w.alloc (.cells #[.pointer p] 31)) #[.pointer q] 31;have h3:=Rg.Own.new ((w.alloc (.cells #[.pointer p] 31)).alloc (.cells #[.pointer q] 31)) #[.pointer none] 31;rw [show (w.alloc (.cells #[.pointer p] 31)).heap.size=w.heap.size+1 by simp] at h2;rw [show ((w.alloc (.cells #[.pointer p] 31)).alloc (.cells #[.pointer q] 31)).heap.size=w.heap.size+2 by simp] at h3
 exact ⟨_,rfl,((Rg.Own.new _ _ _).below (al1 _ _)).below (al1 _ _),h2.below (al1 _ _),h3,(al2 _ _ _).alloc (by simp; omega) _,by simp⟩
theorem KG (M:Mp) (b:Nat) (ks:Fin 16->T) (hm:M.at_ b=some (.br ks)) (i:Fin 16) (p:aJ) (t:T) (ht:IsT M p t) (w:World) (hi:Inv M w) :
  Calls prog 94 #[.agg #[.pointer (some ⟨b,0,none⟩)],.int .u8 i.val,.agg #[.pointer p]] w (dA M w (.br λj=>if j=i then t else ks j)):=by
 obtain ⟨w2,hw2,b8,af,hO2,hb2,hs2⟩:=Yb w (some ⟨b,0,none⟩) p;have hi2:=hi.below hb2;obtain ⟨ka,kn,kc,c3,hK⟩:=hi2.kids hm;have hkn:kn=16:=by rw [<-hK.len]; exact fK ks
 subst hkn;obtain ⟨ps,DG,m8⟩:=hK.ptrs;obtain ⟨kb,ko,p0,rfl,_⟩:=hK.at' 0 (by omega);have hpl:ps.length=16:=DG.2.2.1;have HC:Hid (Calls prog 46 #[.slice (some ⟨kb,ko,none⟩) 16 kc] w2 λe w'=>∃ g cap,e = .returned (.slice (some ⟨g,0,none⟩) 16 cap)/\w2.heap.size<=g/\RowK w' g cap ps/\Below w2.heap.size w2 w'):=hid (by
  have:=Ah ⟨kb,ko,none⟩ 16 kc ps w2 DG (by omega);refine this.mono ?_;rintro e w' ⟨g,cap,rfl,h1,h2,h3⟩;exact ⟨g,cap,by rw [hpl],h1,h2,h3⟩)
 have hlt:=i.isLt;have hiv:((iN i).toNat:Nat)=i.val:=mO i;obtain ⟨k,hk⟩:=av i.val
 have H3:Hid (∀ g cap w4,w2.heap.size<=g->RowK w4 g cap ps->Below w2.heap.size w2 w4->Rg.Own w4 (w.heap.size+1) #[.pointer p] 31/\16<=cap/\cap<=maxLen/\∀ w5,RowK w5 g cap (ps.set k p)->Rg.Upd w4 g w5->∃ M5,
   Calls prog 128 #[.slice (some ⟨g,0,none⟩) 16 cap] w5 (dA M5 w5 (.br λj=>if j=i then t else ks j))/\
   ∀ e w9,dA M5 w5 (.br λj=>if j=i then t else ks j) e w9->∃ p,e = .returned (tv p)/\Rg.Own w9 (w.heap.size+2) #[.pointer none] 31/\∀ ap,Rg.Upd w9 (w.heap.size+2) ap->dA M w (.br λj=>if j=i then t else ks j) (.returned (tv p)) ap):=hid (λg cap w4 hg hR hb4=>by
  refine ⟨af.below hb4,by have:=hR.ptrs.1; omega,hR.ptrs.2.1,λw5 eo hu=>?_⟩;have hbw:=hu.below (bst hb2 hb4) (show w.heap.size<=g by omega);have hi5:Inv (plus M (λk=>k=g)) w5:=(hi.below hbw).plus (λk hk=>by rw [hk]; exact eo.lt);have tP:Ks (plus M (λk=>k=g)) w5 (some ⟨g,0,none⟩) 16 cap (fI (.br λj=>if j=i then t else ks j)):=by
   have h1:=eo.ptrs;rw [List.length_set,hpl] at h1;rw [<-xV,hk];exact h1.ks ((m8.set k ht).mono λ_ _ h=>h) (λad e _=>by
    obtain rfl:=Option.some.inj e;exact Or.inr rfl)
  have aE:=(hO2.below hb4).upd hu (by omega);exact ⟨plus M (λk=>k=g),jV _ _ _ _ _ w5 hi5 tP,λe w9 hG=>finish hi ((Fr.below M hbw).plus (λk hk=>Or.inl (by omega))) hbw hG aE (cZ _) (by omega) (λh=>h.elim (hi.free (by omega)) (λh=>by omega))⟩)
 rw [hk] at hlt ⊢;have h0:=aU (j:=0) b8 rfl;have qq:=hid hpl;clear b8 af hO2 hb2 hs2 hi hi2 hK DG m8 ht hpl hiv hk hm;obtain ⟨R,hRr⟩:=av (T.br λj=>if j=i then t else ks j)
 rw [hRr] at H3 ⊢;clear hRr;subst hw2;go_enter func94,ntmps94;go_wp2_with (refine ay (aW _ _ _ (w.heap.size+2) (by simp) rfl) ?_)
 refine HC.out.mono ?_;rintro e w4 ⟨g,cap,rfl,hg,hR,hb4⟩;obtain ⟨hO4,hcap,hcm,H5⟩:=H3.out g cap w4 hg hR hb4;unfold maxLen at hcm;replace H5:=hid H5;have ch:=hid hO4;have HR4:=hid hR;clear H3 HC hg hR hb4 hO4 c3 h0;go_wp2_with (first
  | (refine ay (aT (aU (j:=0) ch.out rfl) ⟨_,rfl,rfl⟩) ?_)
  | (refine uN HR4.out (i:=k) (by rw [qq.out]; exact hlt) p rfl _ _ rfl rfl rfl ?_; intro w5 eo ax; have ew:=hid eo; have gO:=hid ax; clear eo ax))
 obtain ⟨M5,HB,HF⟩:=H5.out w5 ew.out gO.out;replace HB:=hid HB;replace HF:=hid HF;clear H5 ch HR4 ew gO;refine HB.out.mono ?_;intro e w9 hG;obtain ⟨p9,rfl,ai,hE⟩:=HF.out e w9 hG;have bh:=hid ai;have HE:=hid hE;clear hG ai hE;go_wp2_with (refine aX bh.out (by decide) p9 rfl _ _ rfl rfl rfl ?_; intro ap aq az; have ct:=hid aq; have e8:=hid az; clear aq az)
 exact bodyPost_ret (dW rfl _ rfl ct.out) rfl (HE.out ap e8.out)
structure St (M:Mp) (w:World) (M':Mp) (w':World):Prop where
 f:Fr M M' w w'
 i:Inv M' w'
 b:Below w.heap.size w w'
 i0:Inv M w
theorem St.refl {M:Mp} {w:World} (hi:Inv M w):St M w M w:=⟨Fr.refl _ _,hi,aG,hi⟩
theorem St.below {M M1:Mp} {w w1 w2:World} (s:St M w M1 w1) (h:Below w1.heap.size w1 w2):St M w M1 w2:=⟨s.f.trans s.i0 (Fr.below M1 h),s.i.below h,bst s.b h,s.i0⟩
theorem St.got {M M1:Mp} {t:T} {e:Ending} (s:St M w M1 w1) (h:dA M1 w1 t e w2):∃ p M2,e = .returned (tv p)/\IsT M2 p t/\St M w M2 w2/\Fr M1 M2 w1 w2/\Below w1.heap.size w1 w2:=by
 obtain ⟨p,M2,he,ht,f,i,b⟩:=h;exact ⟨p,M2,he,ht,⟨s.f.trans s.i0 f,i,bst s.b b,s.i0⟩,f,b⟩
theorem St.upd {M M1:Mp} {w w1 w2:World} {g:Nat} (s:St M w M1 w1) (hu:Rg.Upd w1 g w2) (hg:w.heap.size<=g) (hf:¬ M1.ft g):St M w M1 w2:=⟨s.f.upd hu hg,s.i.upd hu hf,hu.below s.b hg,s.i0⟩
theorem St.plus {M M1:Mp} {w w1:World} (s:St M w M1 w1) {S:Nat->Prop} (hS:∀ k,S k->(w.heap.size<=k\/fH w k)/\k<w1.heap.size):St M w (Tm.plus M1 S) w1:=⟨s.f.plus λk hk=>(hS k hk).1,s.i.plus λk hk=>(hS k hk).2,s.b,s.i0⟩
theorem St.bytes {M M1:Mp} (s:St M w M1 w1) {n:Nat} {l:aL} (h:bq w1 a n c l):St M w (Tm.plus M1 (inS a n)) w1:=s.plus λk hk=>⟨by
  obtain ⟨⟨j,x,hc⟩,_⟩:=wU h hk;exact fH.below ⟨j,x,hc⟩ s.b,(wU h hk).2⟩
structure Bx (M:Mp) (w:World) (g:Nat) (cs:aM) (t:TypeId):Prop where
 o:Rg.Own w g cs t
 n:¬ M.ft g
 h:∀ (j:Nat) (x:Int),cs[j]? ≠ some (Value.int .u8 x)
theorem Bx.got {M M':Mp} (h:Bx M w g cs t) (f:Fr M M' w w') (b:Below w.heap.size w w'):Bx M' w' g cs t:=⟨h.o.below b,f.box h.n h.o.1 (eu h.o h.h),h.h⟩
theorem Bx.upd {M:Mp} {w w':World} {g b:Nat} {cs:aM} {t:TypeId} (h:Bx M w g cs t) (hu:Rg.Upd w b w') (hne:g≠b):Bx M w' g cs t:=⟨h.o.upd hu hne,h.n,h.h⟩
theorem Bx.below {M:Mp} {w w':World} {g:Nat} {cs:aM} {t:TypeId} (h:Bx M w g cs t) (b:Below w.heap.size w w'):Bx M w' g cs t:=⟨h.o.below b,h.n,h.h⟩
theorem Bx.plus {M:Mp} (h:Bx M w g cs t) (hS:¬ S g):Bx (Tm.plus M S) w g cs t:=⟨h.o,λe=>e.elim h.n hS,h.h⟩
structure Rx (M:Mp) (w:World) (g:Nat) (ps:List (aJ)):Prop where
 o:Rg.Own w g (oq ps) 31
 n:¬ M.ft g
 m:ps.length<=maxLen
theorem Ya (ps:List (aJ)):∀ (j:Nat) (x:Int),(oq ps)[j]? ≠ some (Value.int .u8 x):=λj x h=>by
 simp [oq] at h
theorem Rx.got {M M':Mp} {ps:List (aJ)} (h:Rx M w g ps) (f:Fr M M' w w') (b:Below w.heap.size w w'):Rx M' w' g ps:=⟨h.o.below b,f.box h.n h.o.1 (eu h.o (Ya ps)),h.m⟩
theorem Rx.below {M:Mp} {w w':World} {g:Nat} {ps:List (aJ)} (h:Rx M w g ps) (b:Below w.heap.size w w'):Rx M w' g ps:=⟨h.o.below b,h.n,h.m⟩
theorem IX (ps:List (aJ)) (i:Nat) (p:aJ):(oq ps).setIfInBounds i (.pointer p)=oq (ps.set i p):=by
 unfold oq;rw [List.map_set];simp
theorem Rx.ks {M:Mp} {ps:List (aJ)} {l:List T} (h:Rx M w g ps) (ha:Are M ps l):Ks (Tm.plus M (λk=>k=g)) w (some ⟨g,0,none⟩) ps.length ps.length l:=by
 refine ⟨aF,h.m,ha.1.symm,λe=>(by cases e),λj hj=>⟨g,0,_,rfl,h.o.1,Or.inr rfl,?_,Ch (ha.2 j hj)⟩⟩;rw [Nat.zero_add,cell_of_row w g _ _ _ _ h.o.2];simp [oq,List.getD,hj]
theorem uR {a:Act} {M:Mp} (hw:Region.wanted o (yielded ops a.tmps)=true) {ps:List (aJ)} (h:Rx M w g ps) (hof:i<ps.length) (p:aJ)
  (ho:∃ x y,o.op = .store 31 x y/\a.eval x = .pointer (some ⟨g,i,none⟩)/\a.eval y=tv p)
  (hQ:∀ w',Rx M w' g (ps.set i p)->Rg.Upd w g w'->K (a.put o.dst undef) w'):if Region.wanted o (yielded ops a.tmps)=true then Oper.wp prog o a w K Q else K (a.put o.dst undef) w :=
 cK hw h.o (off:=i) (by simpa [oq] using hof) p ho (λw' vm hu=>hQ w' ⟨by rw [<-IX]; exact vm,h.n,by simpa using h.m⟩ hu)
def uK:List (aJ):=List.replicate 16 none
theorem oL:uK.length=16:=rfl
theorem CX (b:Nat) (hb:b=w.heap.size) (ho:∃ x y,o.op = .makeSlice 57 x y/\ev x = .int .i64 16/\ev y = .int .i64 16) :
  (execOp ev o).run prog w = .ok (.value (.slice (some ⟨b,0,none⟩) 16 16)) (w.alloc (.cells (oq uK) 31)):=by
 obtain ⟨x,y,ho,hx,hy⟩:=ho;subst hb;unfold execOp;rw [ho];dsimp only;rw [hx,hy];kernel_rfl
theorem Qw (j:Nat):uK.getD j none=none:=by
 unfold uK;rw [List.getD_eq_getElem?_getD,List.getElem?_replicate];split <;> rfl
theorem Kj (j:Nat):(List.replicate 16 T.nil).getD j T.nil=T.nil:=by
 rw [List.getD_eq_getElem?_getD,List.getElem?_replicate];split <;> rfl
theorem Ti (M:Mp):Are M uK (List.replicate 16 .nil):=⟨rfl,λj hj=>by rw [Qw,Kj]; exact rfl⟩
theorem VT (i j:Fin 16) (a b:T) (hij:i≠j):((List.replicate 16 T.nil).set i.val a).set j.val b=fI (two i j a b):=by
 have e:List.replicate 16 T.nil=fI (.br λ_=>.nil):=by
  show List.replicate 16 T.nil=(List.finRange 16).map (λ_=>T.nil);rfl
 rw [e,xV,xV];unfold two;congr 2;funext k;by_cases h1:k=j
 .subst h1;rw [if_pos rfl,if_neg (λe=>hij e.symm),if_pos rfl]
 .rw [if_neg h1,if_neg h1]
structure Bo (g:Nat) (w w':World):Prop where
 size:w.heap.size<=w'.heap.size
 block:∀ k,k<w.heap.size->k≠g->w'.heap[k]? = w.heap[k]?
 os:w'.os=w.os
 tape:w'.tape=w.tape
 output:w'.output=w.output
theorem Bo.of (h:Below w.heap.size w w'):Bo g w w':=⟨h.size,λk hk _=>h.block k hk,h.os,h.tape,h.output⟩
theorem Bo.then (h:Bo g w w1) (hb:Below w1.heap.size w1 w2):Bo g w w2:=⟨Nat.le_trans h.size hb.size,λk hk hg=>(hb.block k (aH hk h.size)).trans (h.block k hk hg),hb.os.trans h.os,hb.tape.trans h.tape,hb.output.trans h.output⟩
theorem Bo.upd (h:Bo g w w1) (hu:Rg.Upd w1 g w2):Bo g w w2:=⟨by rw [hu.size]; exact h.size,λk hk hg=>(hu.block k hg).trans (h.block k hk hg),hu.os.trans h.os,hu.tape.trans h.tape,hu.output.trans h.output⟩
theorem Bo.below (h:Bo g w w') (hb:Below B w0 w) (hB:B<=w.heap.size) (hg:B<=g):Below B w0 w':=⟨h.os.trans hb.os,h.tape.trans hb.tape,h.output.trans hb.output,Nat.le_trans hb.size h.size,λk hk=>(h.block k (by omega) (by omega)).trans (hb.block k hk)⟩
theorem fZ (h:Bo g w w') {b o:Nat} (hne:b≠g) (hc:w.cell? ⟨b,o,none⟩=some v):w'.cell? ⟨b,o,none⟩=some v:=by
 rw [<-hc];exact World.cell?_of_block (w:=w) (h.block b (World.block_lt_of_cell? w _ hc) hne)
end Tm
end
section
open Go.RowKit
namespace Ky
open Ni
def kc (k:aL):aM:=(k.map λb=>Value.int .u8 b.toNat).toArray
theorem mg (k:aL):(kc k).size=k.length:=by simp [kc]
theorem Lx (k:aL):(kc k).all (·.oneCell')=true:=by
 rw [Array.all_eq_true];intro i hi;simp [kc];rfl
theorem IL:(prog.info? 25).map (·.size)=some 32:=by kernel_rfl
theorem uI (k:aL) (h:k.length=32):(prog.info? 25).map (·.size)=some (kc k).size:=by rw [mg,h]; exact IL
def eY (k:aL):aL:=Ni.ig ⟨k.toArray⟩
theorem wD (k:aL) (hk:k.length=32) (w:World) :
  Calls prog 34 #[.agg (kc k)] w (Ta w (eY k)):=by
 have h0:bq (w.alloc (.cells (kc k) 25)) (some ⟨w.heap.size,0,none⟩) k.length k.length k:=bq.new w k (by unfold maxLen; omega) _ _ rfl;rw [hk] at h0;have hcv:=lu h0;obtain ⟨s,hs⟩:=av (⟨k.toArray⟩:aK)
 have hsz:s.size=32:=by rw [<-hs]; show k.toArray.size=32; simp [hk]
 have HP:Hid (eY k=Ni.ig s):=hid (by unfold eY; rw [hs]);have tR:=hid (λwx=>Ni.AZ s (by omega) wx);rw [hs] at hcv;obtain ⟨C,hC⟩:=av (kc k)
 rw [hC] at hcv ⊢;clear h0 hs hC hsz hk;go_enter func34,ntmps34;go_wp2_with fail
 refine (tR.out _).mono ?_;rintro e w1 ⟨a,n,cap,rfl,hx,hb⟩;go_wp2;go_ret;exact ⟨a,n,cap,rfl,by rw [HP.out]; exact hx,((Below.refl w.heap.size w).alloc aF _).trans (hb.mono (by simp))⟩
def zk:aL:=List.replicate 32 0
theorem gU {rest:List Oper} {a:Act} (hgd:o.guard=none) (v:Value) (w':World)
  (hr:(execOp a.eval o).run P w = .ok (.value v) w') (h:wpList P ops Q rest (a.put o.dst v) w'):wpList P ops Q (o::rest) a w :=
 wpList_plain hgd λK hK=>by
  unfold Oper.wp;rw [hr];exact hK _ _ h
theorem Ct (ev:Operand->Value) (o:Oper) (ho:o.op = .alloc 25) (w:World) :
  (execOp ev o).run prog w = .ok (.value (.pointer (some ⟨w.heap.size,0,none⟩))) (w.alloc (.cells (kc zk) 25)):=by
 unfold execOp;rw [ho];kernel_rfl
theorem Wd:(kc zk).size=32:=by rw [mg]; rfl
theorem qD (k:aL) (hk:k.length=32):(eY k).length=64:=by
 unfold eY;rw [gM];show 2*k.toArray.size=64;simp [hk]
def pc (k:aL) (j:Nat):List Value:=((eY k).take j).map λx=>Value.int .u8 x.toNat
theorem Xv (k:aL) (hk:k.length=32) (j:Nat) (hj:j<64) (V:Int) (hV:V=(dX ⟨k.toArray⟩ j:Nat)):pc k (j+1)=pc k j++[.int .u8 V]:=by
 unfold pc;rw [sZ _ _ (by rw [qD k hk]; exact hj),List.map_append,List.map_cons,List.map_nil];have:((eY k).getD j 0).toNat=dX ⟨k.toArray⟩ j:=lZ _ _ (by show j<2*k.toArray.size; simp [hk]; omega);rw [this,hV]
theorem UE (k:aL) (j:Nat) (h:j%2=0):dX ⟨k.toArray⟩ j=(k.getD (j/2) 0).toNat/16:=by unfold dX; rw [if_pos h]
theorem Wy (k:aL) (j:Nat) (h:¬ j%2=0):dX ⟨k.toArray⟩ j=(k.getD (j/2) 0).toNat%16:=by unfold dX; rw [if_neg h]
theorem DT (k:aL) (i:Nat) (hi:i<k.length) (w:World):(part 5 (kc k) i).run prog w = .ok (.int .u8 (k.getD i 0).toNat) w:=by
 have hagg:(isAgg 5).run prog w = .ok false w:=by
  unfold isAgg;rw [Sem.run_bind,run_underlying underlying5 w];simp
 have hg:(kc k)[i]? = some (.int .u8 (k.getD i 0).toNat):=by simp [kc,List.getD,hi]
 unfold part;rw [Sem.run_bind,hagg];simp [hg]
theorem UW:prog.cellsOf 5=1:=by kernel_rfl
theorem Oo:prog.eqGuardType prog.depth 25=false:=by kernel_rfl
theorem Ii (ev:Operand->Value) (o:Oper) (x:Operand) (w:World) (g:Nat) (l:aL) (ho:o.op = .load 25 x) (hx:ev x = .pointer (some ⟨g,0,none⟩)) (hr:(loadVar 25 ⟨g,0,none⟩).run prog w = .ok (.agg (kc l)) w) :
  (execOp ev o).run prog w = .ok (.value (.agg (kc l))) w:=by
 unfold execOp;simp only [ho,hx,Instr.loadAt,Instr.sureAddr,Sem.run_bind,Sem.run_pure,Result.andThen_ok,hr]
theorem Ka (w:World) (g:Nat) (l:aL) (hl:l.length=32) (hg:w.heap[g]? = some (.cells (kc l) 25 (0,0))):(loadVar 25 ⟨g,0,none⟩).run prog w = .ok (.agg (kc l)) w :=
 run_loadVar_row (P:=prog) w g 25 25 (kc l) (0,0) _ hg underlying25 rfl (uI l hl)
end Ky
end
section
open Go.RowKit
namespace Tm
open Tr Ni Pk
theorem DR {b:Nat} (h:Rg.Own w b #[.string x] t) (s:aK):(Instr.storeAt 9 (.pointer (some ⟨b,0,none⟩)) (.string s)).run prog w = .ok () (w.setCell ⟨b,0,none⟩ (.string s)):=by
 have hc:w.cell? ⟨b,0,none⟩=some (.string x):=aU (j:=0) h rfl;have hz:w.frozen? ⟨b,0,none⟩=false:=jk h;simp [go_sem,hc,hz]
theorem Bz {a:Act} (hw:Region.wanted o (yielded ops a.tmps)=true) {b:Nat} (hg:Rg.Own w b #[.string x] t) (s:aK)
  (ho:∃ x y,o.op = .store 9 x y/\a.eval x = .pointer (some ⟨b,0,none⟩)/\a.eval y = .string s)
  (h:∀ w',Rg.Own w' b #[.string s] t->Rg.Upd w b w'->K (a.put o.dst undef) w'):if Region.wanted o (yielded ops a.tmps)=true then Oper.wp prog o a w K Q else K (a.put o.dst undef) w:=by
 obtain ⟨x,y,ho,hx,hy⟩:=ho;refine Rg.want hw ?_;unfold Oper.wp execOp;simp only [ho,hx,hy,Sem.run_bind,Sem.run_pure,Result.andThen_ok,DR hg s];exact h _ (dO hg _) (bV _ _ _ _)
theorem CK {rest:List Oper} {b:Nat} (h:Rg.Own w b #[.string x0] t) (s:aK)
  (hgd:o.guard=none) (x y:Operand) (ho:o.op = .store 9 x y) (hx:act.eval x = .pointer (some ⟨b,0,none⟩)) (hy:act.eval y = .string s)
  (hQ:∀ w',Rg.Own w' b #[.string s] t->Rg.Upd w b w'->wpList prog ops Q rest (act.put o.dst undef) w'):wpList prog ops Q (o::rest) act w :=
 wpList_plain hgd λK hK=>by
  unfold Oper.wp execOp;simp only [ho,hx,hy,Sem.run_bind,Sem.run_pure,Result.andThen_ok,DR h s];exact hK _ _ (hQ _ (dO h _) (bV _ _ _ _))
theorem GR {b:Nat} {o:Nat} (h:w.cell? ⟨b,o,none⟩=some (.string x)):(Instr.loadAt 9 (.pointer (some ⟨b,o,none⟩))).run prog w = .ok (.string x) w:=by
 simp [go_sem,h]
theorem dV {b:Nat} {s:aK} (hc:w.cell? ⟨b,off,none⟩=some (.string s)) (ho:∃ x,o.op = .load 9 x/\ev x = .pointer (some ⟨b,off,none⟩)) :
  (execOp ev o).run prog w = .ok (.value (.string s)) w:=by
 obtain ⟨x,ho,hx⟩:=ho;unfold execOp;simp only [ho,hx,Sem.run_bind,Sem.run_pure,Result.andThen_ok,GR hc]
theorem dL {k:aL} (hk:k.length=32) (hg:w.heap[g]? = some (.cells (Ky.kc k) 25 (0,0))) (ho:∃ x,o.op = .load 25 x/\ev x = .pointer (some ⟨g,0,none⟩)) :
  (execOp ev o).run prog w = .ok (.value (.agg (Ky.kc k))) w:=by
 obtain ⟨x,ho,hx⟩:=ho;exact Ky.Ii ev o x w g k ho hx (Ky.Ka w g k hk hg)
theorem XO (x:aK):∀ (j:Nat) (y:Int),(#[Value.string x]:aM)[j]? ≠ some (Value.int .u8 y):=λj y h=>by
 match j,h with
 | 0,h=>simp at h
 | j+1,h=>simp at h
theorem oC {b:Nat} (h:Bo g w w') (hO:Rg.Own w b cs t) (hne:b≠g):Rg.Own w' b cs t:=⟨aH hO.1 h.size,(h.block b hO.1 hne).trans hO.2⟩
theorem RO {fn:Func} {q u:Tmp} (hf:fn.results = #[.cell q 9,.tmp u]) (tmps:aM) {b:Nat} (hp:tmps.getD q undef = .pointer (some ⟨b,0,none⟩)) (h:Rg.Own w b #[.string x] 9) :
  (results fn tmps).run prog w = .ok (.tuple #[.string x,tmps.getD u undef]) w:=by
 have hp':tmps[q]?.getD undef = .pointer (some ⟨b,0,none⟩):=by simpa using hp
 have hc:w.cell? ⟨b,0,none⟩=some (.string x):=aU (j:=0) h rfl;have hagg:(isAgg 9).run prog w = .ok false w:=by kernel_rfl
 have hl:(loadVar 9 ⟨b,0,none⟩).run prog w = .ok (.string x) w:=by
  have:=GR (b:=b) (o:=0) hc;simpa only [Instr.loadAt,Instr.sureAddr,Sem.run_bind,Sem.run_pure,Result.andThen_ok] using this
 simp [results,hf,hp',asAddr,hl]
open Ky
def iM (x:Tr.Pair):List Value:=(x.1.map λb=>Value.int .u8 b.toNat)++[.string x.2]
def gH (x:Tr.Pair):aM:=(iM x).toArray
theorem fP {x:Tr.Pair} (h:x.1.length=32):(iM x).length=33:=by simp [iM,h]
theorem qo (x:Tr.Pair):∀ u∈iM x,u.oneCell'=true:=λu hu=>by
 unfold iM at hu;rw [List.mem_append] at hu;rcases hu with hu | hu
 .obtain ⟨b,_,rfl⟩:=List.mem_map.1 hu;rfl
 .obtain rfl:=List.mem_singleton.1 hu;rfl
theorem yu:(prog.info? 66).map (λi=>(i.size,i.bytes))=some (33,48):=by kernel_rfl
theorem BH:((prog.info? 66).bind (·.zero)).isSome=true:=by kernel_rfl
theorem zu:((prog.info? 66).bind (·.zero)).map (·.cells.size)=some 33:=by kernel_rfl
theorem zn:∃ i z,prog.info? 66=some i/\i.zero=some z/\i.size=33/\i.bytes=48/\z.cells.size=33:=by
 have h1:=yu;have h2:=BH;have h3:=zu;cases hi:prog.info? 66 with
 | none=>rw [hi] at h1; simp at h1
 | some i =>
  rw [hi] at h1 h2 h3;simp at h1 h2 h3;cases hz:i.zero with
  | none=>rw [hz] at h2; simp at h2
  | some z =>
   rw [hz] at h3;simp at h3;exact ⟨i,z,rfl,hz,h1.1,h1.2,h3⟩
def cB (w:World) (b o:Nat) (x:Tr.Pair):Prop:=w.rangeAt b o (iM x)
theorem cB.below {b o:Nat} {x:Tr.Pair} (h:cB w b o x) (hb:Below w.heap.size w w'):cB w' b o x:=λj v hv=>aV hb (h j v hv)
theorem cB.key {b o:Nat} {x:Tr.Pair} (h:cB w b o x):w.rangeAt b o (x.1.map λb=>Value.int .u8 b.toNat):=λj v hv=>h j v (by
 unfold iM;have:=(List.getElem?_eq_some_iff.1 hv).1;rw [List.getElem?_append_left this]; exact hv)
theorem cB.val {b o:Nat} {x:Tr.Pair} (h:cB w b o x) (hk:x.1.length=32):w.cell? ⟨b,o+32,none⟩=some (.string x.2):=h 32 _ (by
 unfold iM;rw [List.getElem?_append_right (by simp [hk])];simp [hk])
theorem cB.own {b:Nat} {x:Tr.Pair} (h:Rg.Own w b (gH x) t):cB w b 0 x:=λj v hv=>by
 rw [Nat.zero_add];exact aU h (by unfold gH; simpa using hv)
theorem gQ {ev:Operand->Value} {o:Oper} {w:World} {b off:Nat} {x:Tr.Pair} (hk:x.1.length=32) (h:cB w b off x) (ho:∃ y,o.op = .load 66 y/\ev y = .pointer (some ⟨b,off,none⟩)) :
  (execOp ev o).run prog w = .ok (.value (.agg (gH x))) w:=by
 obtain ⟨y,ho,hx⟩:=ho;have hl:=run_loadAt_mid (P:=prog) w b off 66 (iM x) _ h underlying66 rfl (by
  have:=yu;rw [fP hk];cases hi:prog.info? 66 with
  | none=>rw [hi] at this; simp at this
  | some i=>rw [hi] at this; simp at this; simp [this.1])
 unfold execOp;simp only [ho,hx,Sem.run_bind,Sem.run_pure,Result.andThen_ok,hl];rfl
theorem eH {b:Nat} {k:aL} (hk:k.length=32) (h:w.rangeAt b off (k.map λb=>Value.int .u8 b.toNat)) (ho:∃ y,o.op = .load 25 y/\ev y = .pointer (some ⟨b,off,none⟩)) :
  (execOp ev o).run prog w = .ok (.value (.agg (kc k))) w:=by
 obtain ⟨y,ho,hx⟩:=ho;have hl:=run_loadAt_mid (P:=prog) w b off 25 (k.map λb=>Value.int .u8 b.toNat) _ h underlying25 rfl (by rw [IL]; simp [hk]);unfold execOp;simp only [ho,hx,Sem.run_bind,Sem.run_pure,Result.andThen_ok,hl];rfl
theorem qp {α:Type} (l:List α) (h:l.length=32):∃ a0 a1 a2 a3 a4 a5 a6 a7 b0 b1 b2 b3 b4 b5 b6 b7 c0 c1 c2 c3 c4 c5 c6 c7 d0 d1 d2 d3 d4 d5 d6 d7,l=[a0,a1,a2,a3,a4,a5,a6,a7,b0,b1,b2,b3,b4,b5,b6,b7,c0,c1,c2,c3,c4,c5,c6,c7,d0,d1,d2,d3,d4,d5,d6,d7]:=by
 match l,h with
 | [a0,a1,a2,a3,a4,a5,a6,a7,b0,b1,b2,b3,b4,b5,b6,b7,c0,c1,c2,c3,c4,c5,c6,c7,d0,d1,d2,d3,d4,d5,d6,d7],_=>exact ⟨_,_,_,_,_,_,_,_,_,_,_,_,_,_,_,_,_,_,_,_,_,_,_,_,_,_,_,_,_,_,_,_,rfl⟩
theorem oz (k:aL) (v:aK) (h:k.length=32):prog.built 66 [(0,.agg (kc k)),(1,.string v)]=some (gH (k,v)):=by
 obtain ⟨a0,a1,a2,a3,a4,a5,a6,a7,b0,b1,b2,b3,b4,b5,b6,b7,c0,c1,c2,c3,c4,c5,c6,c7,d0,d1,d2,d3,d4,d5,d6,d7,rfl⟩:=qp k h;kernel_rfl
theorem oN {x:Tr.Pair} (hk:x.1.length=32) (b:Nat) (hb:b=w.heap.size) (ho:∃ y,o.op = .buildSlice 22 1 #[(0,y)]/\ev y = .agg (gH x)) :
  (execOp ev o).run prog w = .ok (.value (.slice (some ⟨b,0,none⟩) 1 1)) (w.alloc (.cells (gH x) 66)):=by
 obtain ⟨y,ho,hx⟩:=ho;obtain ⟨k,v⟩:=x;subst hb;unfold execOp;simp only [ho,List.map_toArray,List.map_cons,List.map_nil,hx];obtain ⟨a0,a1,a2,a3,a4,a5,a6,a7,b0,b1,b2,b3,b4,b5,b6,b7,c0,c1,c2,c3,c4,c5,c6,c7,d0,d1,d2,d3,d4,d5,d6,d7,rfl⟩:=qp k hk;kernel_rfl
def jM (w:World) (a:aJ) (n c:Nat) (l:List Tr.Pair):Prop :=
 n<=c/\c<=maxLen/\l.length=n/\(a=none->c=0)/\(∀ x∈l,x.1.length=32)/\∀ j,j<n->∃ b off,a=some ⟨b,off,none⟩/\b<w.heap.size/\cB w b (off+j*33) (l.getD j ([],eB))
theorem jM.len {n:Nat} {l:List Tr.Pair} (h:jM w a n c l):l.length=n:=h.2.2.1
theorem jM.keys {n:Nat} {l:List Tr.Pair} (h:jM w a n c l):∀ x∈l,x.1.length=32:=h.2.2.2.2.1
theorem jM.at' {n:Nat} {l:List Tr.Pair} (h:jM w a n c l) (j:Nat) (hj:j<n):∃ b off,a=some ⟨b,off,none⟩/\b<w.heap.size/\cB w b (off+j*33) (l.getD j ([],eB))/\(l.getD j ([],eB)).1.length=32:=by
 obtain ⟨b,off,e,hlt,hp⟩:=h.2.2.2.2.2 j hj;refine ⟨b,off,e,hlt,hp,h.keys _ ?_⟩;have hl:=h.len;rw [List.getD_eq_getElem?_getD,List.getElem?_eq_getElem (by omega)];exact List.getElem_mem _
theorem jM.below {w w':World} {a:aJ} {n c:Nat} {l:List Tr.Pair} (h:jM w a n c l) (hb:Below w.heap.size w w'):jM w' a n c l :=
 ⟨h.1,h.2.1,h.2.2.1,h.2.2.2.1,h.2.2.2.2.1,λj hj=>by
  obtain ⟨b,off,e,hlt,hp⟩:=h.2.2.2.2.2 j hj;exact ⟨b,off,e,aH hlt hb.size,hp.below hb⟩⟩
theorem jM.nil (w:World):jM w none 0 0 []:=⟨aF,Nat.zero_le _,rfl,λ_=>rfl,λ_ h=>(by cases h),λ_ h=>absurd h (Nat.not_lt_zero _)⟩
def rowP (l:List Tr.Pair):List Value:=l.flatMap iM
theorem uy (l:List Tr.Pair) (x:Tr.Pair):rowP (l++[x])=rowP l++iM x:=by simp [rowP]
theorem Fw:∀ (l:List Tr.Pair),(∀ x∈l,x.1.length=32)->∀ j i,j<l.length->i<33->(rowP l)[j*33+i]? = (iM (l.getD j ([],eB)))[i]?
 | [],_,_,_,h,_=>absurd h (Nat.not_lt_zero _)
 | x::l,h,0,i,_,hi=>by
  show (iM x++rowP l)[0*33+i]? = _;rw [Nat.zero_mul,Nat.zero_add,List.getElem?_append_left (by rw [fP (h x List.mem_cons_self)]; exact hi)];rfl
 | x::l,h,j+1,i,hj,hi=>by
  show (iM x++rowP l)[(j+1)*33+i]? = _;have hx:=fP (h x List.mem_cons_self);rw [List.getElem?_append_right (by omega),hx,show (j+1)*33+i-33=j*33+i by omega,Fw l (λy hy=>h y (List.mem_cons_of_mem _ hy)) j i (by simpa using hj) hi];rfl
theorem jM.qx {n:Nat} {l:List Tr.Pair} (hk:∀ x∈l,x.1.length=32) (hl:l.length=n) (h:w.ownsRow B 66 33 v n (rowP l)):∃ a cap,v = .slice a n cap/\jM w a n cap l:=by
 rcases h.2 with ⟨rfl,hz⟩ | ⟨g,cap,cur,rfl,hbg,hg,hnc,hcm,hcs,htake⟩
 .subst hz;obtain rfl:l=[]:=List.eq_nil_of_length_eq_zero hl;exact ⟨none,0,rfl,jM.nil w⟩
 .refine ⟨_,_,rfl,hnc,hcm,hl,λe=>(by cases e),hk,λj hj=>⟨g,0,rfl,(Array.getElem?_eq_some_iff.1 hg).1,λi u hu=>?_⟩⟩;have hkj:(l.getD j ([],eB)).1.length=32:=hk _ (by
   rw [List.getD_eq_getElem?_getD,List.getElem?_eq_getElem (by omega)];exact List.getElem_mem _)
  have hi:i<33:=by
   have:=(List.getElem?_eq_some_iff.1 hu).1;rwa [fP hkj] at this
  have:=h.cells (g:=g) rfl (j*33+i) u (by rw [Fw l hk j i (by omega) hi]; exact hu);rw [Addr.add_mid] at this;rw [Nat.add_assoc];exact this
def XD (w:World) (l:List Tr.Pair) (e:Ending) (w':World):Prop:=∃ a n c,e = .returned (.slice a n c)/\jM w' a n c l/\Below w.heap.size w w'
theorem lq (ev:Operand->Value) (o:Oper) (w:World) (b:Nat) (hb:b=w.heap.size) (ho:o.op = .alloc 66) :
  (execOp ev o).run prog w = .ok (.value (.pointer (some ⟨b,0,none⟩))) (w.alloc (.cells (gH (List.replicate 32 0,eB)) 66)):=by
 subst hb;unfold execOp;rw [ho];kernel_rfl
theorem jW {x:Tr.Pair} (h:x.1.length=32):(gH x).size=33:=by simp [gH,fP h]
theorem xM (x:Tr.Pair):(gH x).all (·.oneCell')=true:=by
 unfold gH;exact all_oneCell_toArray (qo x)
theorem vo {x:Tr.Pair} (h:x.1.length=32):(prog.info? 66).map (·.size)=some (gH x).size:=by
 rw [jW h];have:=yu;cases hi:prog.info? 66 with
 | none=>rw [hi] at this; simp at this
 | some i=>rw [hi] at this; simp at this; simp [this.1]
theorem jD {rest:List Oper} {b:Nat} {x:Tr.Pair} (h:Rg.Own w b (gH x) 66) (hx:x.1.length=32) (y:Tr.Pair) (hy:y.1.length=32)
  (hgd:o.guard=none) (p q:Operand) (ho:o.op = .store 66 p q) (hp:act.eval p = .pointer (some ⟨b,0,none⟩)) (hq:act.eval q = .agg (gH y)) (hd:o.dst=none)
  (hQ:∀ w',Rg.Own w' b (gH y) 66->Rg.Upd w b w'->wpList prog ops Q rest act w'):wpList prog ops Q (o::rest) act w :=
 wpList_store_rowTo hgd 66 p q ho hd b _ hp hq 66 _ h.2 (vo hy) (by rw [jW hx,jW hy]) (xM _) (hQ _ ⟨by simp; exact h.1,setRow_heap _ _ _ _ _ _ h.2⟩ (Rg.Upd.set _ _ _))
theorem DI (k l:aL) (w:World) (d:Nat):∀ is:List Nat,(∀ i∈is,i<k.length/\i<l.length)->(Op.eqItems (d+1) 5 1 (kc k) (kc l) is).run prog w = .ok (is.all λi=>decide (k.getD i 0=l.getD i 0)) w
 | [],_=>by simp [Op.eqItems]
 | i::is,h=>by
  have ih:=DI k l w d is (λj hj=>h j (List.mem_cons_of_mem _ hj));have hp:=DT k i (h i (List.mem_cons_self ..)).1 w;have hq:=DT l i (h i (List.mem_cons_self ..)).2 w;unfold Op.eqItems;rw [Nat.mul_one];simp only [Sem.run_bind,hp,hq,Result.andThen_ok,run_equalIn_int w d 5 .u8 .u8 _ _ underlying5];by_cases e:k.getD i 0=l.getD i 0
  .rw [List.all_cons,aI e,Bool.true_and,e];simp only [beq_self_eq_true,Bool.not_true,Bool.false_eq_true,if_false];exact ih
  .have hne:(((k.getD i 0).toNat:Int)==((l.getD i 0).toNat:Int))=false:=by
    simp only [beq_eq_false_iff_ne,ne_eq];intro h;exact e (UInt8.toNat_inj.1 (by omega))
   rw [List.all_cons,decide_eq_false e,Bool.false_and,hne];simp
theorem Tf {k l:aL} (hk:k.length=32) (hl:l.length=32):((List.range 32).all λi=>decide (k.getD i 0=l.getD i 0))=decide (k=l):=by
 rw [Bool.eq_iff_iff,List.all_eq_true,decide_eq_true_iff];constructor
 .intro h;apply List.ext_getElem (by omega);intro i h1 h2;have:=of_decide_eq_true (h i (List.mem_range.2 (by omega)));simpa [List.getD,h1,h2] using this
 .rintro rfl i _;exact aI rfl
theorem LQ {k l:aL} (hk:k.length=32) (hl:l.length=32) (w:World):(Op.equalIn 10000 25 (.agg (kc k)) (.agg (kc l))).run prog w = .ok (decide (k=l)) w:=by
 obtain ⟨i0,hi,_⟩:=info_parts Cc.mh;rw [show (10000:Nat)=9999+1 from rfl,run_equalIn_array w 9999 (kc k) (kc l) underlying25 hi,UW,DI k l w 9998 (List.range 32) (λi h=>by rw [hk,hl]; have:=List.mem_range.1 h; omega),Tf hk hl]
theorem Us {k l:aL} (hk:k.length=32) (hl:l.length=32) (w:World):(binOp .neq 25 (.agg (kc k)) (.agg (kc l))).run prog w = .ok (.bool (!decide (k=l))) w:=by
 rw [run_neq_struct,LQ hk hl w];rfl
theorem IJ {k l:aL} (hk:k.length=32) (hl:l.length=32) (ho:∃ x y tt,o.op = .binOp .neq 25 x y tt/\ev x = .agg (kc k)/\ev y = .agg (kc l)) :
  (execOp ev o).run prog w = .ok (.value (.bool (!decide (k=l)))) w:=by
 obtain ⟨x,y,tt,ho,hx,hy⟩:=ho;unfold execOp;have hg:=Oo;simp [ho,hx,hy,run_eqGuard_agg,hg,Us hk hl,Result.andThen]
end Tm
end
section
open Go.RowKit
namespace Tm
open Tr Ni Pk
open Ky
theorem Si {l:List Tr.Pair} (h:j<l.length):l.getD j ([],eB)∈l:=by
 rw [List.getD_eq_getElem?_getD,List.getElem?_eq_getElem h];exact List.getElem_mem _
theorem drop_at {l:List Tr.Pair} (h:j<l.length):l.drop j=l.getD j ([],eB)::l.drop (j+1):=by
 have e:l.getD j ([],eB)=l[j]:=by simp [List.getD,h]
 rw [e];exact (List.getElem_cons_drop h).symm
theorem take_at {l:List Tr.Pair} (h:j<l.length):l.take (j+1)=l.take j++[l.getD j ([],eB)]:=by
 have e:l.getD j ([],eB)=l[j]:=by simp [List.getD,h]
 rw [e,List.take_succ_eq_append_getElem h]
theorem Yc (w:World) (k:aL):∃ w1,w1=w.alloc (.cells (kc k) 25)/\Rg.Own w1 w.heap.size (kc k) 25/\Below w.heap.size w w1/\w1.heap.size=w.heap.size+1:=⟨_,rfl,Rg.Own.new _ _ _,al1 _ _,by simp⟩
def zH (w:World) (l:List Tr.Pair) (e:Ending) (w':World):Prop:=∃ v,e = .returned v/\w'.ownsRow w.heap.size 66 33 v l.length (rowP l)/\Below w.heap.size w w'
theorem zH.ps {l:List Tr.Pair} {e:Ending} (hk:∀ x∈l,x.1.length=32) (h:zH w l e w'):XD w l e w':=by
 obtain ⟨v,rfl,ho,hb⟩:=h;obtain ⟨a,cap,rfl,hp⟩:=jM.qx hk rfl ho;exact ⟨a,_,cap,rfl,hp,hb⟩
theorem tN {n sz:Nat} {xs:List Value} (h:w.ownsRow B e sz v n xs) (hb:Below w.heap.size w w'):w'.ownsRow B e sz v n xs:=h.kept (Bu.fu hb) (by cases v.ownBlock <;> simp)
abbrev Hdl:Type:=aJ × Nat × Nat
def inC (x:Tr.In) (h:Hdl):List Value:=[.slice h.1 h.2.1 h.2.2,.string x.2]
def inA (x:Tr.In) (h:Hdl):aM:=#[.slice h.1 h.2.1 h.2.2,.string x.2]
theorem ug:(prog.info? 75).map (λi=>(i.zero,i.size,i.bytes))=some (some (.agg #[.slice none 0 0,.string ⟨#[]⟩]),2,40):=by kernel_rfl
theorem pV:∃ i z,prog.info? 75=some i/\i.zero=some z/\i.size=2/\i.bytes=40/\z.cells.size=2:=by
 obtain ⟨i0,hi,hz,hs,hby⟩:=info_parts ug;exact ⟨i0,_,hi,hz,hs,hby,rfl⟩
def BsP (p:Nat->Prop) (w:World) (h:Hdl) (l:aL):Prop:=bq w h.1 h.2.1 h.2.2 l/\∀ ad,h.1=some ad->0<h.2.1->p ad.block
theorem BsP.kept {p:Nat->Prop} {h:Hdl} {l:aL} (g:BsP p w h l) (hs:w.heap.size<=w'.heap.size) (hk:∀ b,p b->b<w.heap.size->w'.heap[b]? = w.heap[b]?):BsP p w' h l:=by
 refine ⟨⟨g.1.1,g.1.2.1,g.1.2.2.1,g.1.2.2.2.1,λj hj=>?_⟩,g.2⟩;obtain ⟨b,off,e,hlt,hc⟩:=g.1.at' j hj;exact ⟨b,off,e,aH hlt hs,by rw [World.cell?_of_block (a:=⟨b,off+j,none⟩) (hk b (g.2 _ e (by omega)) hlt)]; exact hc⟩
theorem BsP.to {p q:Nat->Prop} {h:Hdl} {l:aL} (g:BsP p w h l) (hp:∀ b,b<w.heap.size->p b->q b):BsP q w h l:=by
 refine ⟨g.1,λad e hn=>hp _ ?_ (g.2 ad e hn)⟩;obtain ⟨b,off,e2,hlt,_⟩:=g.1.at' 0 hn;rw [e] at e2;cases e2;exact hlt
theorem BsP.old {h:Hdl} {l:aL} (g:bq w h.1 h.2.1 h.2.2 l):BsP (λb=>b<w.heap.size) w h l:=by
 refine ⟨g,λad e hn=>?_⟩;obtain ⟨b,off,e2,hlt,_⟩:=g.at' 0 hn;rw [e] at e2;cases e2;exact hlt
def CJ (w:World) (b o:Nat) (x:Tr.In) (h:Hdl):Prop:=w.cell? ⟨b,o,none⟩=some (.slice h.1 h.2.1 h.2.2)/\w.cell? ⟨b,o+1,none⟩=some (.string x.2)
theorem CJ.below {b o:Nat} {x:Tr.In} {h:Hdl} (g:CJ w b o x h) (hb:Below w.heap.size w w'):CJ w' b o x h:=⟨aV hb g.1,aV hb g.2⟩
def dY (w:World) (a:aJ) (n c:Nat) (l:List Tr.In):Prop :=
 n<=c/\c<=maxLen/\l.length=n/\(a=none->c=0)/\∀ j,j<n->∃ b off h,a=some ⟨b,off,none⟩/\b<w.heap.size/\CJ w b (off+j*2) (l.getD j ([],eB)) h/\bq w h.1 h.2.1 h.2.2 (l.getD j ([],eB)).1
theorem dY.len {n:Nat} {l:List Tr.In} (h:dY w a n c l):l.length=n:=h.2.2.1
theorem dY.at' {n:Nat} {l:List Tr.In} (h:dY w a n c l) (j:Nat) (hj:j<n):∃ b off h,a=some ⟨b,off,none⟩/\b<w.heap.size/\CJ w b (off+j*2) (l.getD j ([],eB)) h/\bq w h.1 h.2.1 h.2.2 (l.getD j ([],eB)).1:=h.2.2.2.2 j hj
theorem dY.below {w w':World} {a:aJ} {n c:Nat} {l:List Tr.In} (h:dY w a n c l) (hb:Below w.heap.size w w'):dY w' a n c l :=
 ⟨h.1,h.2.1,h.2.2.1,h.2.2.2.1,λj hj=>by
  obtain ⟨b,off,g,e,hlt,hp,hi⟩:=h.2.2.2.2 j hj;exact ⟨b,off,g,e,aH hlt hb.size,hp.below hb,hi.below hb⟩⟩
theorem dY.nil (w:World):dY w none 0 0 []:=⟨aF,Nat.zero_le _,rfl,λ_=>rfl,λ_ h=>absurd h (Nat.not_lt_zero _)⟩
def gY:List Tr.In->List Hdl->List Value
 | x::xs,h::hs=>.slice h.1 h.2.1 h.2.2 :: .string x.2::gY xs hs
 | _,_=>[]
theorem mK:∀ (xs:List Tr.In) (hs:List Hdl) (x:Tr.In) (h:Hdl),hs.length=xs.length->gY (xs++[x]) (hs++[h])=gY xs hs++inC x h
 | [],[],_,_,_=>rfl
 | y::xs,g::hs,x,h,e=>by
  have:=mK xs hs x h (by simpa using e);simp [gY,this]
theorem qh:∀ (xs:List Tr.In) (hs:List Hdl) (j:Nat) (x:Tr.In) (h:Hdl),xs[j]? = some x->hs[j]? = some h->
  (gY xs hs)[j*2]? = some (.slice h.1 h.2.1 h.2.2)/\(gY xs hs)[j*2+1]? = some (.string x.2)
 | [],_,_,_,_,hx,_=>by simp at hx
 | _::_,[],_,_,_,_,hh=>by simp at hh
 | y::xs,g::hs,0,x,h,hx,hh=>by
  simp at hx hh;subst hx hh;simp [gY]
 | y::xs,g::hs,j+1,x,h,hx,hh=>by
  have:=qh xs hs j x h (by simpa using hx) (by simpa using hh);rw [show (j+1)*2=j*2+2 by omega];simp only [gY,List.getElem?_cons_succ];exact this
def eG (B:Nat) (w:World) (v:Value) (xs:List Tr.In):Prop :=
 ∃ hs:List Hdl,hs.length=xs.length/\w.ownsRow B 75 2 v xs.length (gY xs hs)/\∀ (j:Nat) (x:Tr.In) (h:Hdl),xs[j]? = some x->hs[j]? = some h->BsP (λb=>v.ownBlock≠some b) w h x.1
theorem eG.nil (B:Nat) (w:World):eG B w (.slice none 0 0) []:=⟨[],rfl,World.ownsRow_nil _ _ _ _,λ_ _ _ hx _=>by simp at hx⟩
theorem eG.lt {B:Nat} {w:World} {v:Value} {xs:List Tr.In} (h:eG B w v xs):∀ k,v.ownBlock=some k->B<=k/\k<w.heap.size:=by
 obtain ⟨hs,_,ho,_⟩:=h;exact ho.lt
theorem eG.below {xs:List Tr.In} (h:eG B w v xs) (hb:Below w.heap.size w w'):eG B w' v xs:=by
 obtain ⟨hs,hlen,ho,hi⟩:=h;exact ⟨hs,hlen,ho.kept (Bu.fu hb) (by cases v.ownBlock <;> simp),λj x h hx hh=>(hi j x h hx hh).kept hb.size λb _ hlt=>hb.block b hlt⟩
theorem eG.push {v':Value} {xs:List Tr.In} {x:Tr.In} {h:Hdl} {hs:List Hdl} (hlen:hs.length=xs.length) (hi:∀ (j:Nat) (x:Tr.In) (h:Hdl),xs[j]? = some x->hs[j]? = some h->BsP (λb=>v.ownBlock≠some b) w h x.1)
  (hI:BsP (λb=>v.ownBlock≠some b) w h x.1) (ho:w'.ownsRow B 75 2 v' (xs.length+1) (gY xs hs++inC x h))
  (hg:w.grownBy w' v.ownBlock) (hat:v'.ownBlock=v.ownBlock\/v'.ownBlock=some w.heap.size):eG B w' v' (xs++[x]):=by
 have keep:∀ {l:aL} {h:Hdl},BsP (λb=>v.ownBlock≠some b) w h l->BsP (λb=>v'.ownBlock≠some b) w' h l:=λ{l h} hh=>by
  have h1:=hh.to (q:=λb=>v'.ownBlock≠some b/\v.ownBlock≠some b) λb hlt hb=>⟨λe=>by
   rcases hat with h2 | h2
   .exact hb (h2 ▸ e)
   .rw [h2] at e;have:=Option.some.inj e;omega,hb⟩
  have h2:=h1.kept (w':=w') hg.size λb hb hlt=>hg.block b hlt (λe=>hb.2 e.symm);exact h2.to λb _ hb=>hb.1
 refine ⟨hs++[h],by simp [hlen],?_,λj y g hy hh=>?_⟩
 .rw [List.length_append,mK xs hs x h hlen];exact ho
 .by_cases hj:j<xs.length
  .rw [List.getElem?_append_left hj] at hy;rw [List.getElem?_append_left (by omega)] at hh;exact keep (hi j y g hy hh)
  .have hj2:j=xs.length:=by
    have:=(List.getElem?_eq_some_iff.1 hy).1;simp at this;omega
   subst hj2;rw [List.getElem?_append_right aF,Nat.sub_self] at hy;rw [List.getElem?_append_right (by omega),hlen,Nat.sub_self] at hh;simp at hy hh;subst hy hh;exact keep hI
theorem eG.done {xs:List Tr.In} (h:eG B w v xs):∃ a n cap,v = .slice a n cap/\dY w a n cap xs:=by
 obtain ⟨hs,hlen,ho,hi⟩:=h;rcases ho.2 with ⟨rfl,hz⟩ | ⟨g,cap,cur,rfl,hbg,hg,hnc,hcm,hcs,htake⟩
 .have:xs=[]:=List.eq_nil_of_length_eq_zero hz;subst this;exact ⟨none,0,0,rfl,dY.nil _⟩
 .refine ⟨_,_,_,rfl,hnc,hcm,rfl,λe=>(by cases e),λj hj=>?_⟩;have hx:xs[j]? = some (xs.getD j ([],eB)):=by simp [hj]
  have hh:hs[j]? = some (hs.getD j (none,0,0)):=by simp [show j<hs.length by omega]
  obtain ⟨f0,f1⟩:=qh xs hs j _ _ hx hh;have e:∀ i,(⟨g,0,none⟩:Addr).add i=⟨g,0+i,none⟩:=λi=>Addr.add_mid g 0 i;refine ⟨g,0,hs.getD j (none,0,0),rfl,(Array.getElem?_eq_some_iff.1 hg).1,⟨?_,?_⟩,(hi j _ _ hx hh).1⟩
  .have:=ho.cells (g:=g) rfl _ _ f0;rw [e] at this;exact this
  .have:=ho.cells (g:=g) rfl _ _ f1;rw [e,<-Nat.add_assoc] at this;exact this
def AY (w:World) (l:List Tr.In) (e:Ending) (w':World):Prop:=∃ a n c,e = .returned (.slice a n c)/\dY w' a n c l/\Below w.heap.size w w'
theorem yF {a:Act} {x:Tr.In} {h:Hdl} (hw:Region.wanted o (yielded ops a.tmps)=true)
  (ho:∃ y,o.op = .buildSlice 37 1 #[(0,y)]/\a.eval y = .agg (inA x h))
  (H:∀ w' b,b=w.heap.size->Rg.Own w' b (inA x h) 75->Below w.heap.size w w'->K (a.put o.dst (.slice (some ⟨b,0,none⟩) 1 1)) w'):if Region.wanted o (yielded ops a.tmps)=true then Oper.wp prog o a w K Q else K (a.put o.dst undef) w:=by
 obtain ⟨y,ho,hy⟩:=ho;obtain ⟨i0,hi,hz,hs,hby⟩:=info_parts ug;refine Rg.want hw (wp_buildSlice 37 75 1 _ ho (inA x h) i0 _ underlying37 hi hz (by rw [hs]; decide) (by rw [hs]; decide) ?_ (H _ _ rfl (Rg.Own.new _ _ _) (al1 _ _)));simp only [List.map_toArray,List.map_cons,List.map_nil,hy,hs];kernel_rfl
theorem pG {xs:List Tr.In} {x:Tr.In} {h:Hdl} (hR:eG B w v xs) (h2:Rg.Own w b2 (inA x h) 75) (hI:BsP (λb=>v.ownBlock≠some b) w h x.1) (hn:xs.length<=1000000) (hB:B<=w.heap.size) :
  ∃ v' w',(Builtin.append_ #[37,37] ty #[v,.slice (some ⟨b2,0,none⟩) 1 1]).run prog w = .ok v' w'/\eG B w' v' (xs++[x])/\w.grownBy w' v.ownBlock:=by
 obtain ⟨i0,z0,hi,hz,hsz,hby,hzc⟩:=pV;obtain ⟨hs',hlen,hown,hi'⟩:=hR;obtain ⟨v',w',hr,h3,h4,_,h5⟩:=run_append_own_at (P:=prog) w B 37 ty 75 i0 z0 2 40 underlying37 hi hz hsz hby hzc (by decide) v xs.length _ hown ⟨b2,0,none⟩ 1 1 (inC x h) rfl
  (λj u hu=>by
   rw [Addr.add_mid,Nat.zero_add,cell_of_row w b2 _ _ _ _ h2.2];unfold inA;simpa [inC] using hu)
  (λu hu=>by unfold inC at hu; simp at hu; rcases hu with rfl | rfl <;> rfl) (by unfold maxLen; omega) (by omega) hB
 exact ⟨v',w',hr,eG.push hlen hi' hI h3 h4 h5,h4⟩
theorem wF {a:Act} {xs:List Tr.In} {x:Tr.In} {h:Hdl} (hw:Region.wanted o (yielded ops a.tmps)=true)
  (ho:∃ s y,o.op = .call { callee:=.builtin .append,args:=#[s,y],argTypes:=#[37,37] }/\a.eval s=v/\a.eval y = .slice (some ⟨b2,0,none⟩) 1 1)
  (hR:eG B w v xs) (h2:Rg.Own w b2 (inA x h) 75) (hI:BsP (λb=>v.ownBlock≠some b) w h x.1) (hn:xs.length<=1000000) (hB:B<=w.heap.size)
  (H:∀ v' w',eG B w' v' (xs++[x])->w.grownBy w' v.ownBlock->K (a.put o.dst v') w'):if Region.wanted o (yielded ops a.tmps)=true then Oper.wp prog o a w K Q else K (a.put o.dst undef) w:=by
 obtain ⟨s,y,ho,hs,hy⟩:=ho;obtain ⟨v',w',hr,h3,h4⟩:=pG (ty:=o.type) hR h2 hI hn hB;refine Rg.want hw ?_;unfold Oper.wp execOp;simp only [ho,resolve,invoke,builtin,Sem.run_bind,Sem.run_pure,Result.andThen_ok,List.map_toArray,List.map_cons,List.map_nil,hs,hy,hr];exact H v' w' h3 h4
theorem oZ {rest:List Oper} {a:Act} {xs:List Tr.In} {x:Tr.In} {h:Hdl} (hgd:o.guard=none)
  (ho:∃ s y,o.op = .call { callee:=.builtin .append,args:=#[s,y],argTypes:=#[37,37] }/\a.eval s=v/\a.eval y = .slice (some ⟨b2,0,none⟩) 1 1)
  (hR:eG B w v xs) (h2:Rg.Own w b2 (inA x h) 75) (hI:BsP (λb=>v.ownBlock≠some b) w h x.1) (hn:xs.length<=1000000) (hB:B<=w.heap.size)
  (H:∀ v' w',eG B w' v' (xs++[x])->w.grownBy w' v.ownBlock->wpList prog ops Q rest (a.put o.dst v') w'):wpList prog ops Q (o::rest) a w:=by
 obtain ⟨s,y,ho,hs,hy⟩:=ho;refine wpList_plain hgd λK hK=>?_;obtain ⟨v',w',hr,h3,h4⟩:=pG (ty:=o.type) hR h2 hI hn hB;unfold Oper.wp execOp;simp only [ho,resolve,invoke,builtin,Sem.run_bind,Sem.run_pure,Result.andThen_ok,List.map_toArray,List.map_cons,List.map_nil,hs,hy,hr];exact hK _ _ (H v' w' h3 h4)
theorem kR {xs:List Tr.In} (hR:eG B w v xs) (hb:Below B w0 w) (hB:B<=w.heap.size) (hg:w.grownBy w' v.ownBlock):Below B w0 w':=hb.grown hg hB (λg hg=>(hR.lt g hg).1)
theorem BsP.apart {xs:List Tr.In} {h:Hdl} {l:aL} (hR:eG B w v xs) (g:bq w0 h.1 h.2.1 h.2.2 l) (hb:Below w0.heap.size w0 w) (hB:w0.heap.size<=B):BsP (λb=>v.ownBlock≠some b) w h l:=by
 have h1:=(BsP.old g).kept hb.size λb hlt _=>hb.block b hlt;exact h1.to λb _ hlt e=>by have:=(hR.lt b e).1; omega
theorem vG {ev:Operand->Value} {o:Oper} {w:World} {b off:Nat} {x:Tr.In} {h:Hdl} (g:CJ w b off x h) (ho:∃ y,o.op = .load 75 y/\ev y = .pointer (some ⟨b,off,none⟩)) :
  (execOp ev o).run prog w = .ok (.value (.agg (inA x h))) w:=by
 obtain ⟨y,ho,hx⟩:=ho;have hl:=run_loadAt_mid (P:=prog) w b off 75 (inC x h) _ (λj u hu=>by
  match j,hu with
  | 0,hu=>cases hu; exact g.1
  | 1,hu=>cases hu; exact g.2) underlying75 rfl (by
  obtain ⟨i0,hi,hz,hs,hby⟩:=info_parts ug;rw [hi];simp [hs,inC])
 unfold execOp;simp only [ho,hx,Sem.run_bind,Sem.run_pure,Result.andThen_ok,hl];rfl
theorem OG {l:List Tr.In} (h:j<l.length):l.getD j ([],eB)∈l/\l.take (j+1)=l.take j++[l.getD j ([],eB)]:=by
 have e:l.getD j ([],eB)=l[j]:=by simp [List.getD,h]
 rw [e];exact ⟨List.getElem_mem _,List.take_succ_eq_append_getElem h⟩
theorem NR {l:List Tr.In} (h:j<l.length):bR (l.take (j+1)) m=bR (l.take j) m++[((l.getD j ([],eB)).1.drop m,(l.getD j ([],eB)).2)]:=by
 rw [(OG h).2];unfold bR;rw [List.map_append];rfl
theorem xu (l:List Tr.In) (a:aJ) (n c m:Nat) (hm:∀ x∈l,m<=x.1.length) (w:World) (h:dY w a n c l) (hn:n<=1000000) :
  Calls prog 37 #[.slice a n c,.int .i64 m] w (AY w (bR l m)):=by
 have HH:=hid h;have HL:=hid h.len;have HM:=hid hm;have hcap:=h.1;have hmx:=h.2.1;unfold maxLen at hmx;clear h hm;go_enter func37,ntmps37;go_wp2_with fail
 go_loopw [5,6] (λv i wr=>∃ j:Nat,j<=n/\i = .int .i64 j/\Hid (eG w.heap.size wr v (bR (l.take j) m))/\Hid (Below w.heap.size w wr)) (λ_ i _=>n-(intOf i).toNat)
 case atStart=>exact ⟨0,Nat.zero_le _,rfl,hid (eG.nil _ _),hid aG⟩
 case round =>
  obtain ⟨j,hj,rfl,HR,HB⟩:=hrel;have oT:=HB.out.size;by_cases hlt:j<n
  .obtain ⟨b,off,hd,rfl,hblt,hin,hbs⟩:=HH.out.at' j hlt;have hji:(j:Int)<n:=by omega
   have hjl:j<l.length:=by rw [HL.out]; exact hlt
   have HS:=hid (NR (m:=m) hjl);have m9:=HM.out _ (OG hjl).1;have hwl:(bR (l.take j) m).length<=j:=by unfold bR; rw [List.length_map,List.length_take]; exact Nat.min_le_left _ _
   obtain ⟨x,hx⟩:=av (l.getD j ([],eB))
   rw [hx] at HS hin hbs m9;obtain ⟨p,v⟩:=x;obtain ⟨h0,h1,h2⟩:=hd;dsimp only at hbs m9 HS;rw [hbs.len] at m9;obtain ⟨W,vq⟩:=av (bR (l.take j) m)
   rw [vq] at HR HS hwl;have j7:=hid hin;have ry:=hid (vV hbs m m9);clear hx hin hbs vq;go_wp2_with fail
   refine aB (S:=λw'=>Below w.heap.size w w') (below_drewN HB.out 1) λhld=>?_;refine ah 0 ?_;try simp only [ak]
   refine ah 1 ?_;try simp only [ak]
   refine ah 2 ?_;try simp only [ak]
   refine ah 3 ?_ (hy:=by intro wz hSw; have q0:=hji; have q1:=hlt; (try dsimp only at hSw); go_simp <;> with_reducible rfl);try simp only [ak]
   refine ah 4 ?_;try simp only [ak]
   refine aC 5 (λwz hSw=>aV hSw j7.out.1) ?_;try simp only [ak]
   refine ah 6 ?_;try simp only [ak]
   refine ah 7 ?_ (hy:=by intro wz hSw; (refine lD (a:=h0) (n:=h1) (c:=h2) (i:=m) iU jT m9 ?_; exact ⟨_,_,rfl,rfl,rfl⟩));try simp only [ak]
   refine ah 8 ?_;try simp only [ak]
   refine ah 9 ?_;try simp only [ak]
   refine ah 10 ?_ (hy:=by intro wz hSw; have q0:=hji; have q1:=hlt; (try dsimp only at hSw); go_simp <;> with_reducible rfl);try simp only [ak]
   refine ah 11 ?_;try simp only [ak]
   refine aC 12 (λwz hSw=>aV hSw j7.out.2) ?_;try simp only [ak]
   refine ah 13 ?_;try simp only [ak]
   refine aj 14 λK hK=>?_;refine yF (x:=(p.drop m,v)) (h:=(dM h0 h2 m,h1-m,h2-m)) (by rfl) ⟨_,rfl,rfl⟩ ?_;intro w6 b6 hbe hN hb6;have HN:=hid hN;have cg:Hid (Below wr.heap.size wr w6):=hid (Below.trans (show Below wr.heap.size wr wr.drew from below_drewN aG 1) hb6);clear hN hb6 hbe;refine hK.out _ _ (HB.out.trans (cg.out.mono HB.out.size)) λhld=>?_;clear hK K;try simp only [ak]
   refine aj 15 λK hK=>?_;refine wF (by rfl) ⟨_,_,rfl,rfl,rfl⟩ (eG.below HR.out cg.out) HN.out (h:=(dM h0 h2 m,h1-m,h2-m)) (x:=(p.drop m,v)) (BsP.apart (eG.below HR.out cg.out) ry.out hld aF) (by omega) (Below.size hld) ?_;intro v7 w7 g8 lr;have cq:Hid (Below w.heap.size w w7):=hid (kR (eG.below HR.out cg.out) hld (Below.size hld) lr);have rB:=hid g8;clear g8 lr;refine hK.out _ _ (cq.out) λhld=>?_;clear hK K;try simp only [ak]
   refine ah 16 ?_;try simp only [ak]
   refine aA ?_;go_wp2;go_roundw
   case rel=>exact ⟨j+1,by omega,by go_num,hid (by rw [HS.out]; exact rB.out),cq⟩
   case measure=>simp [intOf]; omega
  .obtain rfl:j=n:=by omega
   have HR':=HR.out;rw [List.take_of_length_le (by rw [HL.out]; exact aF)] at HR';obtain ⟨a',n',c',rfl,hd⟩:=HR'.done;have HD:=hid hd;clear HR' hd HR;go_wp2;go_ret;exact ⟨_,_,_,rfl,HD.out,HB.out⟩
theorem Lu {l:List Tr.In} {d:Fin 16} (h:j<l.length):bI (l.take (j+1)) d=bI (l.take j) d++if ((l.getD j ([],eB)).1.getD 0 0).toNat=d.val then [l.getD j ([],eB)] else []:=by
 rw [(OG h).2];unfold bI;rw [List.filter_append];congr 1;generalize l.getD j ([],eB)=x;by_cases e:(x.1.getD 0 0).toNat=d.val
 .rw [if_pos e]; simp only [List.filter,e,decide_true]
 .rw [if_neg e]; simp only [List.filter,e,decide_false]
theorem Dq (l:List Tr.In) (d:Fin 16) (j:Nat):(bI (l.take j) d).length<=j:=by
 unfold bI;exact Nat.le_trans (List.length_filter_le _ _) (by rw [List.length_take]; exact Nat.min_le_left _ _)
theorem Po {x:Tr.In} {h:Hdl} (b:Nat) (hb:b=w.heap.size) (ho:∃ y,o.op = .buildSlice 37 1 #[(0,y)]/\ev y = .agg (inA x h)) :
  (execOp ev o).run prog w = .ok (.value (.slice (some ⟨b,0,none⟩) 1 1)) (w.alloc (.cells (inA x h) 75)):=by
 obtain ⟨y,ho,hx⟩:=ho;subst hb;unfold execOp;simp only [ho,List.map_toArray,List.map_cons,List.map_nil,hx];kernel_rfl
theorem Ei (l:List Tr.In) (a:aJ) (n c:Nat) (d:Fin 16) (hm:∀ x∈l,0<x.1.length) (w:World) (h:dY w a n c l) (hn:n<=1000000) :
  Calls prog 38 #[.slice a n c,.int .i64 d.val] w (AY w (bI l d)):=by
 have HH:=hid h;have HL:=hid h.len;have HM:=hid hm;have hcap:=h.1;have hmx:=h.2.1;unfold maxLen at hmx;obtain ⟨D,hD⟩:∃ D:Nat,d.val=D:=⟨_,rfl⟩
 have HD:=hid hD;rw [hD];clear h hm hD;go_enter func38,ntmps38;go_wp2_with fail
 go_loopw [5,6] (λv i wr=>∃ j:Nat,j<=n/\i = .int .i64 j/\Hid (eG w.heap.size wr v (bI (l.take j) d))/\Hid (Below w.heap.size w wr)) (λ_ i _=>n-(intOf i).toNat)
 case atStart=>exact ⟨0,Nat.zero_le _,rfl,hid (eG.nil _ _),hid aG⟩
 case round =>
  obtain ⟨j,hj,rfl,HR,HB⟩:=hrel;have oT:=HB.out.size;by_cases hlt:j<n
  .obtain ⟨b,off,hd,rfl,hblt,hin,hbs⟩:=HH.out.at' j hlt;have hji:(j:Int)<n:=by omega
   have hjl:j<l.length:=by rw [HL.out]; exact hlt
   have HS:=hid (Lu (d:=d) hjl);have hp0:=HM.out _ (OG hjl).1;have hwl:=Dq l d j;obtain ⟨x,hx⟩:=av (l.getD j ([],eB))
   rw [hx] at HS hin hbs hp0;obtain ⟨p,v⟩:=x;obtain ⟨h0,h1,h2⟩:=hd;dsimp only at hbs hp0 HS;rw [hbs.len] at hp0;obtain ⟨W,vq⟩:=av (bI (l.take j) d)
   rw [vq] at HR HS hwl;have hin':=hin.below HB.out;have j7:=hid hin';have RC:=hid (BsP.apart HR.out (h:=(h0,h1,h2)) hbs HB.out aF);obtain ⟨b',off',rfl,qr,hc0⟩:=(hbs.below HB.out).at' 0 hp0;have hcs:=hin'.1;dsimp only at hcs;obtain ⟨u,hu⟩:=av ((p.getD 0 0).toNat)
   have vr:=UInt8.toNat_lt (p.getD 0 0);rw [hu,HD.out] at HS;rw [hu] at hc0 vr;simp only [Nat.add_zero] at hc0;have RE:(0:Int)<h1:=by omega
   clear hx hin hbs vq hin' hu;by_cases he:u=D
   .have km:Hid (bI (l.take (j+1)) d=W++[(p,v)]):=hid (by rw [HS.out,if_pos he]);have hd:decide ((u:Int)=(D:Int))=true:=aI (by omega);have hbq:((u:Int)==(D:Int))=true:=by simp; omega
    clear he HS;go_wp2_with (first
     | (refine ay (vG j7.out ⟨_,rfl,rfl⟩) ?_)
     | (refine ay (Po wr.heap.size (by simp) ⟨_,rfl,rfl⟩) ?_)
     | (refine oZ rfl ⟨_,_,rfl,rfl,rfl⟩ (eG.below HR.out (al1 _ _)) (Rg.Own.new _ _ _) (h:=(some ⟨b',off',none⟩,h1,h2)) (x:=(p,v)) (BsP.kept RC.out (by simp) (λb _ hlt=>(al1 _ _).block b hlt)) ?d1 ?d2 ?_))
    case d1=>omega
    case d2=>simp; omega
    intro v7 w7 g8 lr;have cq:Hid (Below w.heap.size w w7):=hid (kR (eG.below HR.out (al1 _ _)) (HB.out.trans ((al1 _ _).mono oT)) (by simp; omega) lr);have rB:=hid g8;clear g8 lr;go_wp2;go_roundw
    case rel=>exact ⟨j+1,by omega,by go_num,hid (by rw [km.out]; exact rB.out),cq⟩
    case measure=>simp [intOf]; omega
   .have km:Hid (bI (l.take (j+1)) d=W):=hid (by rw [HS.out,if_neg he,List.append_nil]);have hd:decide ((u:Int)=(D:Int))=false:=decide_eq_false (by omega);have hbq:((u:Int)==(D:Int))=false:=by simp; omega
    clear he HS;go_wp2_with fail
    go_roundw
    case rel=>exact ⟨j+1,by omega,by go_num,hid (by rw [km.out]; exact HR.out),HB⟩
    case measure=>simp [intOf]; omega
  .obtain rfl:j=n:=by omega
   have HR':=HR.out;rw [List.take_of_length_le (by rw [HL.out]; exact aF)] at HR';obtain ⟨a',n',c',rfl,hd⟩:=HR'.done;have HD:=hid hd;clear HR' hd HR;go_wp2;go_ret;exact ⟨_,_,_,rfl,HD.out,HB.out⟩
theorem Hl:∀ {l:List Tr.In} {k:Nat},1<=k->k<l.length->bF (l.take (k+1))=min (bF (l.take k)) (cp (l.getD 0 ([],eB)).1 (l.getD k ([],eB)).1)
 | [],_,_,h=>absurd h (Nat.not_lt_zero _)
 | _::_,0,h,_=>absurd h (by omega)
 | x::r,k+1,_,h=>by
  have hk:k<r.length:=by simpa using h
  rw [List.take_succ_cons,List.take_succ_cons,List.take_succ_eq_append_getElem hk];have e:(x::r).getD (k+1) ([],eB)=r[k]:=by simp [List.getD,hk]
  rw [e];show List.foldl _ _ (r.take k++[r[k]])=_;rw [List.foldl_append];rfl
theorem qV (l:List Tr.In) (a:aJ) (n c:Nat) (hm:∀ x∈l,x.1.length<=1000000) (h1:1<=n) (w:World) (h:dY w a n c l) (hn:n<=1000000) :
  Calls prog 67 #[.slice a n c] w λe w'=>e = .returned (.int .i64 (bF l:Nat))/\Below w.heap.size w w':=by
 have HH:=hid h;have HL:=hid h.len;have HM:=hid hm;have hcap:=h.1;have hmx:=h.2.1;unfold maxLen at hmx;obtain ⟨b,off,hd0,rfl,hblt,mc,me⟩:=h.at' 0 (by omega);have HF:Hid (bF (l.take 1)=(l.getD 0 ([],eB)).1.length):=hid (by
  match l,h.len,h1 with
  | [],e,h1=>simp at e; omega
  | x::r,_,_=>rfl)
 have oc:=HM.out _ (OG (l:=l) (j:=0) (by rw [HL.out]; omega)).1;obtain ⟨x0,hx0⟩:=av (l.getD 0 ([],eB))
 rw [hx0] at mc me HF oc;have HX0:=hid hx0;obtain ⟨p,v0⟩:=x0;obtain ⟨g0,g1,g2⟩:=hd0;dsimp only at me HF oc;rw [me.len] at HF oc;have RM:=oc;simp only [Nat.zero_mul,Nat.add_zero] at mc;have hc0:=mc.1;dsimp only at hc0;have HI0:=hid mc;have HG:=hid me;have hn0:(0:Int)<n:=by omega
 have oX:0<n:=h1;clear h hm hx0 mc me oc;go_enter func67,ntmps67;go_wp2_with fail
 go_loopw [3,4] (λv i wr=>∃ j:Nat,1<=j/\j<=n/\i = .int .i64 j/\v = .int .i64 (bF (l.take j):Nat)/\Hid (Below w.heap.size w wr)) (λ_ i _=>n-(intOf i).toNat)
 case atStart=>exact ⟨1,aF,h1,rfl,by rw [HF.out],hid aG⟩
 case round =>
  obtain ⟨j,hj1,hj,rfl,rfl,HB⟩:=hrel;have oT:=HB.out.size;by_cases hlt:j<n
  .obtain ⟨b',off',hd,hbe,qr,hin,hbs⟩:=HH.out.at' j hlt;cases hbe;have hji:(j:Int)<n:=by omega
   have hjl:j<l.length:=by rw [HL.out]; exact hlt
   have HS:=hid (Hl hj1 hjl);have C3:=HM.out _ (OG hjl).1;rw [HX0.out] at HS;obtain ⟨x,hx⟩:=av (l.getD j ([],eB))
   rw [hx] at HS hin hbs C3;obtain ⟨q,v⟩:=x;obtain ⟨h0,h1,h2⟩:=hd;dsimp only at hbs C3 HS;rw [hbs.len] at C3;obtain ⟨Kn,hK⟩:=av (bF (l.take j))
   obtain ⟨C,hC⟩:=av (cp p q)
   rw [hK,hC] at HS;rw [hK];have HC:=hid hC;have hmin:((min Kn C:Nat):Int)=if (Kn:Int)<(C:Int) then (Kn:Int) else (C:Int):=by split <;> omega
   have j7:=hid hin;have ry:=hid hbs;clear hx hin hbs hK hC;go_wp2_with fail
   refine aB (S:=λw'=>Below w.heap.size w w') (below_drewN HB.out 1) λhld=>?_;refine ah 0 ?_;try simp only [ak]
   refine ah 1 ?_;try simp only [ak]
   refine ah 2 ?_ (hy:=by intro wz hSw; have q0:=hn0; have q1:=oX; (try dsimp only at hSw); go_simp <;> with_reducible rfl);try simp only [ak]
   refine ah 3 ?_;try simp only [ak]
   refine aC 4 (λwz hSw=>aV hSw HI0.out.1) ?_;try simp only [ak]
   refine ah 5 ?_;try simp only [ak]
   refine ah 6 ?_;try simp only [ak]
   refine ah 7 ?_ (hy:=by intro wz hSw; have q0:=hji; have q1:=hlt; (try dsimp only at hSw); go_simp <;> with_reducible rfl);try simp only [ak]
   refine ah 8 ?_;try simp only [ak]
   refine aC 9 (λwz hSw=>aV hSw j7.out.1) ?_;try simp only [ak]
   refine aj 10 λK hK=>?_;go_simp;go_at_call 39
   (with_reducible refine (Ni.Ik g0 h0 g1 h1 g2 h2 p q RM C3 _ (HG.out.below hld) (ry.out.below hld)).mono ?_)
   rintro e w5 ⟨rfl,q5,rfl⟩;rw [yA,HC.out];have ag:Hid (Below w.heap.size w (wr.drewN (1+q5))):=hid (below_drewN HB.out (1+q5));refine hK.out _ _ ?_ (λhld=>?_)
   .first | exact ag.out | exact below_drewN (below_drewN HB.out 1) q5
   clear hK K;try simp only [ak]
   refine aj 11 λK hK=>?_;go_simp;go_at_call 100
   (with_reducible refine (Lh.pJ (Kn:Int) (C:Int) _).mono ?_)
   rintro e w6 ⟨rfl,rfl⟩;refine hK.out _ _ ?_ (λhld=>?_)
   .first | exact ag.out | exact below_drewN (below_drewN HB.out 1) q5
   clear hK K;try simp only [ak]
   refine ah 12 ?_;try simp only [ak]
   refine aA ?_;go_wp2;go_roundw
   case rel=>exact ⟨j+1,by omega,by omega,by go_num,by rw [HS.out]; congr 1; split <;> omega,ag⟩
   case measure=>simp [intOf]; omega
  .obtain rfl:j=n:=by omega
   rw [List.take_of_length_le (by rw [HL.out]; exact aF)];go_wp2;go_ret;exact ⟨rfl,HB.out⟩
open No
theorem QG (k:aL) (hk:k.length=32) (w:World) :
  Calls prog 13 #[.agg (kc k)] w (KR w (eY k)):=by
 obtain ⟨i0,hi,hz0,hz1,hz2⟩:=info_parts Cc.mh;have HI:Hid (_/\_/\_/\_):=hid ⟨hi,hz0,hz1,hz2⟩;have hcell:∀ q,q<32->(w.alloc (.cells (kc k) 25)).cell? ⟨w.heap.size,q,none⟩=some (.int .u8 (k.getD q 0).toNat):=λq hq=>by
  rw [World.cell?_alloc_mark];simp [kc,List.getD,hk,hq]
 have HC:=hid hcell;have L2:=hid (λj hj V hV=>Xv k hk j hj V hV);have RW:=hid (qD k hk);obtain ⟨C,hC⟩:=av (kc k)
 rw [hC] at HC ⊢;clear hcell hi hz0 hz1 hz2 hC hk;go_enter func13,ntmps13;go_wp2;go_loopw [3,4] (λv i wr=>∃ j:Nat,j<=64/\i = .int .i64 j/\Hid (wr.ownsRow (w.heap.size+1) 5 1 v j (pc k j))/\Below (w.heap.size+1) (w.alloc (.cells C 25)) wr) (λ_ i _=>64-(intOf i).toNat)
 case atStart=>exact ⟨0,Nat.zero_le _,rfl,hid (World.ownsRow_nil _ _ _ _),aG⟩
 case round =>
  obtain ⟨j,hj,rfl,HO,hB⟩:=hrel;by_cases hlt:j<64
  .have hc0:=HC.out (j/2) (by omega);have hc:∀ o:Obj,wr.cell? ⟨w.heap.size,j/2,none⟩=some (.int .u8 (k.getD (j/2) 0).toNat):=λ_=>by
    rw [hB.cell (p:=⟨w.heap.size,j/2,none⟩) (by simp)]; exact hc0
   have hc:=hc (.cells #[] 0);have hx:=UInt8.toNat_lt (k.getD (j/2) 0);have hsz:w.heap.size+1<=wr.heap.size:=by have:=hB.size; simp at this; omega
   by_cases hp:j%2=0
   .have HV:=hid (UE k j hp);obtain ⟨x,hxe⟩:=av ((k.getD (j/2) 0).toNat)
    rw [hxe] at hc hx HV;have HS:=hid (L2.out j hlt ((x:Int)/16%16) (by rw [HV.out]; omega));have hp2:((j:Int)%2==0)=true:=by simp; omega
    clear hc0 hxe hp;go_wp2_with (at_builtin; refine wpList_append_own _ rfl _ _ 42 rfl (w.heap.size+1) 5 i0 (.int .u8 0) 1 1 underlying42 HI.out.1 HI.out.2.1 HI.out.2.2.1 HI.out.2.2.2 rfl (by decide) _ _ _ rfl (HO.out.alloc _) ⟨wr.heap.size,0,none⟩ 1 1 [.int .u8 ((x:Int)/16%16)] rfl rfl ?c1 ?c2 ?c3 ?c4 ?c5 ?_)
    case c1=>exact Bu.cell_one_new' _ _ _ _
    case c2=>intro u hu; simp at hu; subst hu; rfl
    case c3=>unfold maxLen; omega
    case c4=>omega
    case c5=>simp; omega
    intro v' w2 hown2 hgrow _;have hlt':=HO.out.lt;go_wp2;go_roundw
    case rel=>exact ⟨j+1,by omega,by go_num,hid (by rw [HS.out]; exact hown2),(hB.alloc hsz _).grown hgrow (by simp; omega) (λg hg=>(hlt' g hg).1)⟩
    case measure=>simp [intOf]; omega
   .have HV:=hid (Wy k j hp);obtain ⟨x,hxe⟩:=av ((k.getD (j/2) 0).toNat)
    rw [hxe] at hc hx HV;have HS:=hid (L2.out j hlt ((x:Int)%16) (by rw [HV.out]; omega));have hp2:((j:Int)%2==0)=false:=by simp; omega
    clear hc0 hxe hp;go_wp2_with (at_builtin; refine wpList_append_own _ rfl _ _ 42 rfl (w.heap.size+1) 5 i0 (.int .u8 0) 1 1 underlying42 HI.out.1 HI.out.2.1 HI.out.2.2.1 HI.out.2.2.2 rfl (by decide) _ _ _ rfl (HO.out.alloc _) ⟨wr.heap.size,0,none⟩ 1 1 [.int .u8 ((x:Int)%16)] rfl rfl ?d1 ?d2 ?d3 ?d4 ?d5 ?_)
    case d1=>exact Bu.cell_one_new' _ _ _ _
    case d2=>intro u hu; simp at hu; subst hu; rfl
    case d3=>unfold maxLen; omega
    case d4=>omega
    case d5=>simp; omega
    intro v' w2 hown2 hgrow _;have hlt':=HO.out.lt;go_wp2;go_roundw
    case rel=>exact ⟨j+1,by omega,by go_num,hid (by rw [HS.out]; exact hown2),(hB.alloc hsz _).grown hgrow (by simp; omega) (λg hg=>(hlt' g hg).1)⟩
    case measure=>simp [intOf]; omega
  .obtain rfl:j=64:=by omega
   have hO:=HO.out;have e:pc k 64=(eY k).map λx=>Value.int .u8 x.toNat:=by
    unfold pc; rw [List.take_of_length_le (by rw [RW.out]; exact aF)]
   rw [e] at hO;obtain ⟨a,cap,rfl,hb⟩:=Ul hO;have HB:=hid hb;have cD:Hid (Below w.heap.size w wr):=hid (((Below.refl w.heap.size w).alloc aF _).trans (hB.mono (by omega)));clear hO e hb;go_wp2;go_ret;exact ⟨a,_,cap,rfl,HB.out.weak (by omega),cD.out⟩
theorem Xw (l:List Tr.Pair) (a:aJ) (n c:Nat) (w:World) (h:jM w a n c l) (hn:n<=1000000) :
  Calls prog 10 #[.slice a n c] w λe w'=>∃ v,e = .returned v/\eG w.heap.size w' v (ni l)/\Below w.heap.size w w':=by
 have HH:=hid h;have HL:=hid h.len;have hcap:=h.1;have hmx:=h.2.1;unfold maxLen at hmx;clear h;go_enter func10,ntmps10;go_wp2_with fail
 go_loopw [3,4] (λv i wr=>∃ (j:Nat) (O:List Tr.In),j<=n/\i = .int .i64 j/\Hid (eG w.heap.size wr v O)/\Hid (ni l=O++ni (l.drop j))/\O.length<=j/\Hid (Below w.heap.size w wr)) (λ_ i _=>n-(intOf i).toNat)
 case atStart=>exact ⟨0,[],Nat.zero_le _,rfl,hid (eG.nil _ _),hid rfl,aF,hid aG⟩
 case round =>
  obtain ⟨wo,hwo⟩:=au wr
  subst hwo;obtain ⟨j,O,hj,rfl,HR,HI,hO,HB⟩:=hrel;by_cases hlt:j<n
  .obtain ⟨b,off,rfl,hblt,DM,hkj⟩:=HH.out.at' j hlt;have hji:(j:Int)<n:=by omega
   have DO:Hid (l.drop j=l.getD j ([],eB)::l.drop (j+1)):=hid (drop_at (by rw [HL.out]; exact hlt));obtain ⟨x,hx⟩:=av (l.getD j ([],eB))
   rw [hx] at DM hkj DO;have DP:=hid DM;have vt:=hid hkj;obtain ⟨T,hT⟩:∃ T,(l.drop (j+1)).any (λy=>decide (y.1=x.1))=T:=⟨_,rfl⟩
   have HT:=hid hT;clear hx DM hkj hT;go_wp2_with fail
   go_loopw [5,6] (λf i wi=>∃ (k:Nat) (f':Bool),j+1<=k/\k<=n/\i = .int .i64 k/\f = .bool f'/\Hid ((f' && !((l.drop k).any (λy=>decide (y.1=x.1)))) = !T)/\Hid (Below wo.heap.size wo wi)) (λ_ i _=>n-(intOf i).toNat)
   case atStart=>exact ⟨j+1,true,aF,by omega,by go_num,rfl,hid (by rw [HT.out,Bool.true_and]),hid aG⟩
   case round =>
    obtain ⟨wi,hwi⟩:=au wr
    subst hwi;obtain ⟨k,f',hjk,hk,rfl,rfl,HF,j8⟩:=hrel;have tS:Hid (Below w.heap.size w wi):=hid (HB.out.trans (j8.out.mono HB.out.size));by_cases cA:k<n
    .obtain ⟨b',off',hbe,qr,hpk,hkk⟩:=HH.out.at' k cA;cases hbe;have hki:(k:Int)<n:=by omega
     have L3:Hid (l.drop k=l.getD k ([],eB)::l.drop (k+1)):=hid (drop_at (by rw [HL.out]; exact cA));obtain ⟨y,hy⟩:=av (l.getD k ([],eB))
     rw [hy] at hpk hkk L3;have dv:=hid hpk;have qt:=hid hkk;clear hy hpk hkk;cases f'
     .have DQ:Hid ((false && !((l.drop (k+1)).any (λy=>decide (y.1=x.1)))) = !T):=hid (by rw [<-HF.out]; rfl);clear HF;go_wp2_with fail
      refine aB (S:=λw'=>Below w.heap.size w w') (below_drewN tS.out 1) λhld=>?_;refine ah 0 ?_;try simp only [ak]
      refine ah 1 ?_;try simp only [ak]
      refine Rg.takeL (i:=2) (v:=undef) rfl (by kernel_rfl) (by kernel_rfl) (by kernel_rfl) (λ_ _ _ h=>h) (Or.inr ⟨by rfl,rfl⟩) (by assumption) ?_;try simp only [ak]
      refine Rg.takeL (i:=3) (v:=undef) rfl (by kernel_rfl) (by kernel_rfl) (by kernel_rfl) (λ_ _ _ h=>h) (Or.inr ⟨by rfl,rfl⟩) (by assumption) ?_;try simp only [ak]
      refine Rg.takeL (i:=4) (v:=undef) rfl (by kernel_rfl) (by kernel_rfl) (by kernel_rfl) (λ_ _ _ h=>h) (Or.inr ⟨by rfl,rfl⟩) (by assumption) ?_;try simp only [ak]
      refine Rg.takeL (i:=5) (v:=undef) rfl (by kernel_rfl) (by kernel_rfl) (by kernel_rfl) (λ_ _ _ h=>h) (Or.inr ⟨by rfl,rfl⟩) (by assumption) ?_;try simp only [ak]
      refine Rg.takeL (i:=6) (v:=undef) rfl (by kernel_rfl) (by kernel_rfl) (by kernel_rfl) (λ_ _ _ h=>h) (Or.inr ⟨by rfl,rfl⟩) (by assumption) ?_;try simp only [ak]
      refine Rg.takeL (i:=7) (v:=undef) rfl (by kernel_rfl) (by kernel_rfl) (by kernel_rfl) (λ_ _ _ h=>h) (Or.inr ⟨by rfl,rfl⟩) (by assumption) ?_;try simp only [ak]
      refine Rg.takeL (i:=8) (v:=undef) rfl (by kernel_rfl) (by kernel_rfl) (by kernel_rfl) (λ_ _ _ h=>h) (Or.inr ⟨by rfl,rfl⟩) (by assumption) ?_;try simp only [ak]
      refine Rg.takeL (i:=9) (v:=undef) rfl (by kernel_rfl) (by kernel_rfl) (by kernel_rfl) (λ_ _ _ h=>h) (Or.inr ⟨by rfl,rfl⟩) (by assumption) ?_;try simp only [ak]
      refine Rg.takeL (i:=10) (v:=undef) rfl (by kernel_rfl) (by kernel_rfl) (by kernel_rfl) (λ_ _ _ h=>h) (Or.inr ⟨by rfl,rfl⟩) (by assumption) ?_;try simp only [ak]
      refine Rg.takeL (i:=11) (v:=undef) rfl (by kernel_rfl) (by kernel_rfl) (by kernel_rfl) (λ_ _ _ h=>h) (Or.inr ⟨by rfl,rfl⟩) (by assumption) ?_;try simp only [ak]
      refine Rg.takeL (i:=12) (v:=undef) rfl (by kernel_rfl) (by kernel_rfl) (by kernel_rfl) (λ_ _ _ h=>h) (Or.inr ⟨by rfl,rfl⟩) (by assumption) ?_;try simp only [ak]
      refine ah 13 ?_;try simp only [ak]
      refine ah 14 ?_;try simp only [ak]
      refine aA ?_;go_wp2;go_roundw
      case rel=>exact ⟨k+1,_,by omega,by omega,by go_num,rfl,DQ,hid (j8.out.trans (below_drewN aG 1))⟩
      case measure=>simp [intOf]; omega
     .go_wp2_with fail
      refine aB (S:=λw'=>Below w.heap.size w w') (below_drewN tS.out 1) λhld=>?_;refine ah 0 ?_;try simp only [ak]
      refine ah 1 ?_;try simp only [ak]
      refine ah 2 ?_;try simp only [ak]
      refine ah 3 ?_;try simp only [ak]
      refine ah 4 ?_ (hy:=by intro wz hSw; have q0:=hki; have q1:=cA; have q2:=hji; have q3:=hlt; (try dsimp only at hSw); go_simp <;> with_reducible rfl);try simp only [ak]
      refine ah 5 ?_;try simp only [ak]
      refine ah 6 ?_ (hy:=by intro wz hSw; (refine eH qt.out (cB.below dv.out hSw).key ?_; exact ⟨_,rfl,rfl⟩));try simp only [ak]
      refine ah 7 ?_;try simp only [ak]
      refine ah 8 ?_;try simp only [ak]
      refine ah 9 ?_ (hy:=by intro wz hSw; have q0:=hki; have q1:=cA; have q2:=hji; have q3:=hlt; (try dsimp only at hSw); go_simp <;> with_reducible rfl);try simp only [ak]
      refine ah 10 ?_;try simp only [ak]
      refine ah 11 ?_ (hy:=by intro wz hSw; (refine eH vt.out (cB.below DP.out hSw).key ?_; exact ⟨_,rfl,rfl⟩));try simp only [ak]
      refine ah 12 ?_ (hy:=by intro wz hSw; (refine IJ qt.out vt.out ?_; exact ⟨_,_,_,rfl,rfl,rfl⟩));try simp only [ak]
      refine ah 13 ?_;try simp only [ak]
      refine ah 14 ?_;try simp only [ak]
      refine aA ?_;go_wp2;go_roundw
      case rel=>exact ⟨k+1,_,by omega,by omega,by go_num,rfl,hid (by rw [<-HF.out,L3.out,List.any_cons,Bool.true_and]; cases decide (y.1=x.1) <;> rfl),hid (j8.out.trans (below_drewN aG 1))⟩
      case measure=>simp [intOf]; omega
    .obtain rfl:k=n:=by omega
     have hT':f' = !T:=by
      have:=HF.out;rw [List.drop_of_length_le (by rw [HL.out]; exact aF)] at this;simpa using this
     subst hT';have oY:Hid (eG w.heap.size wi u3 O):=hid (HR.out.below j8.out);clear HF;cases T
     .go_wp2_with fail
      refine aB (S:=λw'=>Below w.heap.size w w') (below_drewN tS.out 1) λhld=>?_;refine ah 0 ?_;try simp only [ak]
      refine ah 1 ?_;try simp only [ak]
      refine ah 2 ?_;try simp only [ak]
      refine ah 3 ?_ (hy:=by intro wz hSw; have q2:=hji; have q3:=hlt; (try dsimp only at hSw); go_simp <;> with_reducible rfl);try simp only [ak]
      refine ah 4 ?_;try simp only [ak]
      refine ah 5 ?_ (hy:=by intro wz hSw; (refine eH vt.out (cB.below DP.out hSw).key ?_; exact ⟨_,rfl,rfl⟩));try simp only [ak]
      refine ah 7 ?_;try simp only [ak]
      refine ah 8 ?_;try simp only [ak]
      refine ah 9 ?_ (hy:=by intro wz hSw; have q2:=hji; have q3:=hlt; (try dsimp only at hSw); go_simp <;> with_reducible rfl);try simp only [ak]
      refine ah 10 ?_;try simp only [ak]
      refine aC 11 (λwz hSw=>(cB.below DP.out hSw).val vt.out) ?_;try simp only [ak]
      refine aj 6 λK hK=>?_;go_simp;go_at_call 13
      (with_reducible refine (QG x.1 vt.out _).mono ?_)
      rintro e w5 ⟨pa,pn,pc,rfl,hpb,hb5⟩;have ag:Hid (Below wi.heap.size wi w5):=hid (bst (show Below wi.heap.size wi wi.drew from below_drewN aG 1) hb5);have C4:=hid hpb;clear hpb hb5;refine hK.out _ _ (tS.out.trans (ag.out.mono tS.out.size)) λhld=>?_;clear hK K;try simp only [ak]
      refine ah 12 ?_;try simp only [ak]
      refine aj 13 λK hK=>?_;refine yF (x:=(eY x.1,x.2)) (h:=(pa,pn,pc)) (by rfl) ⟨_,rfl,rfl⟩ ?_;intro w6 b6 hbe hN hb6;have HN:=hid hN;have cg:Hid (Below w5.heap.size w5 w6):=hid hb6;clear hN hb6 hbe;refine hK.out _ _ (Below.trans hld (cg.out.mono (Below.size hld))) λhld=>?_;clear hK K;try simp only [ak]
      refine aj 14 λK hK=>?_;refine wF (by rfl) ⟨_,_,rfl,rfl,rfl⟩ (eG.below (eG.below oY.out ag.out) cg.out) HN.out (h:=(pa,pn,pc)) (x:=(eY x.1,x.2)) (BsP.kept (p:=λb=>u3.ownBlock≠some b) (w:=w5) ⟨C4.out.1,λad e _ he=>by have h1:=(oY.out.lt _ he).2; have h2:=C4.out.2 ad e; have h3:wi.heap.size<=ad.block:=h2; omega⟩ cg.out.size (λb _ hlt=>cg.out.block b hlt)) (by omega) (Below.size hld) ?_;intro v7 w7 g8 lr;have cq:Hid (Below w.heap.size w w7):=hid (kR (eG.below (eG.below oY.out ag.out) cg.out) hld (Below.size hld) lr)
      have rB:=hid g8;clear g8 lr;refine hK.out _ _ (cq.out) λhld=>?_;clear hK K;try simp only [ak]
      refine ah 15 ?_;try simp only [ak]
      refine aA ?_;go_wp2;go_roundw
      case rel=>exact ⟨j+1,O++[(eY x.1,x.2)],by omega,by go_num,rB,hid (by rw [HI.out,DO.out,ni,if_neg (by rw [HT.out]; exact Bool.false_ne_true),List.append_assoc]; rfl),by rw [List.length_append,List.length_singleton]; omega,cq⟩
      case measure=>simp [intOf]; omega
     .go_wp2_with fail
      go_roundw
      case rel=>exact ⟨j+1,O,by omega,by go_num,oY,hid (by rw [HI.out,DO.out,ni,if_pos HT.out]),by omega,tS⟩
      case measure=>simp [intOf]; omega
  .obtain rfl:j=n:=by omega
   have HR':=HR.out;have hi:=HI.out;rw [List.drop_of_length_le (by rw [HL.out]; exact aF)] at hi;have hi':ni l=O:=by rw [hi]; exact List.append_nil _
   obtain ⟨a',n',c',rfl,hd⟩:=HR'.done;have HD:=hid HR';have HE:=hid hi';clear HR' hd HR hi hi' HI;go_wp2;go_ret;exact ⟨_,rfl,by rw [HE.out]; exact HD.out,HB.out⟩
end Tm
end
section
open Go.RowKit
namespace Tm
open Tr Ni Pk Sm
def sz:T->Nat
 | .nil=>0
 | .leaf _ _=>1
 | .ext _ t=>sz t+1
 | .br ks=>((List.finRange 16).map λi=>sz (ks i)).sum+1
 | .stub _=>1
theorem FP:∀ (l:List Nat) (x:Nat),x∈l->x<=l.sum
 | [],_,h=>by cases h
 | y::l,x,h=>by
  rw [List.sum_cons];rcases List.mem_cons.1 h with rfl | h
  .omega
  .have:=FP l x h;omega
theorem Yp (ks:Fin 16->T) (i:Fin 16):sz (ks i)<sz (.br ks):=by
 have h:=FP ((List.finRange 16).map λi=>sz (ks i)) (sz (ks i)) (List.mem_map.2 ⟨i,List.mem_finRange i,rfl⟩);show _<_+1;omega
def FD (w:World) (b:Nat):Prop:=(∀ j v,w.cell? ⟨b,j,none⟩=some v->(∀ x,v ≠ .int .u8 x)/\∀ p,v ≠ .pointer p)/\w.cell? ⟨b,8,none⟩=none
structure dR (M:Mp) (n:Nat) (w:World):Prop where
 lt_:∀ k,M.ft k->k<w.heap.size
 part_:∀ b t,M.at_ b=some t->t ≠ .nil/\M.ft b/\FD w b/\(sz t<n->rE M w b t)
structure FrN (M:Mp) (n:Nat) (w w':World):Prop where
 os:w'.os=w.os
 tape:w'.tape=w.tape
 output:w'.output=w.output
 size:w.heap.size<=w'.heap.size
 block:∀ k,k<w.heap.size->(M.at_ k=none\/∃ t,M.at_ k=some t/\n<=sz t)->w'.heap[k]? = w.heap[k]?
theorem Dy {b:Nat} {t:T} {n:Nat} {ka:aJ} {kn kc:Nat} (h:w.heap[b]? = some (.cells (iq t a n c ka kn kc d r) 108 (0,0))):FD w b:=by
 refine ⟨λj v hc=>Fz (ql h hc),?_⟩;rw [World.cell?,h];rfl
theorem Inv.toN {M:Mp} (h:Inv M w) (n:Nat):dR M n w:=⟨h.lt_,λb t hm=>by
 obtain ⟨h1,h2,h3⟩:=h.part_ b t hm;obtain ⟨a,n,c,ka,kn,kc,d,r,hb,hr⟩:=h3;exact ⟨h1,h2,Dy hb,λ_=>⟨a,n,c,ka,kn,kc,d,r,hb,hr⟩⟩⟩
theorem dR.mono {M:Mp} {n:Nat} (h:dR M n w) (hm:m<=n):dR M m w:=⟨h.lt_,λb t e=>by
 obtain ⟨h1,h2,h3,h4⟩:=h.part_ b t e;exact ⟨h1,h2,h3,λhl=>h4 (by omega)⟩⟩
theorem dR.eu {M:Mp} {n:Nat} {w:World} (h:dR M n w) {b j:Nat} {x:Int} (hc:w.cell? ⟨b,j,none⟩=some (.int .u8 x)):M.at_ b=none:=by
 cases hm:M.at_ b with
 | none=>rfl
 | some t=>exact absurd rfl (((h.part_ b t hm).2.2.1.1 _ _ hc).1 x)
theorem dR.lT {M:Mp} {n:Nat} {w:World} (h:dR M n w) {b j:Nat} {p:aJ} (hc:w.cell? ⟨b,j,none⟩=some (.pointer p)):M.at_ b=none:=by
 cases hm:M.at_ b with
 | none=>rfl
 | some t=>exact absurd rfl (((h.part_ b t hm).2.2.1.1 _ _ hc).2 p)
theorem FrN.below (M:Mp) (n:Nat) (h:Below w.heap.size w w'):FrN M n w w':=⟨h.os,h.tape,h.output,h.size,λk hk _=>h.block k hk⟩
theorem FrN.trans {M:Mp} {n:Nat} {w w1 w2:World} (h:FrN M n w w1) (g:FrN M n w1 w2):FrN M n w w2:=⟨g.os.trans h.os,g.tape.trans h.tape,g.output.trans h.output,Nat.le_trans h.size g.size,λk hk hc=>(g.block k (aH hk h.size) hc).trans (h.block k hk hc)⟩
theorem FrN.mono {M:Mp} {n:Nat} (h:FrN M n w w') (hm:n<=m):FrN M m w w':=⟨h.os,h.tape,h.output,h.size,λk hk hc=>h.block k hk (hc.imp id (λ⟨t,e,hl⟩=>⟨t,e,by omega⟩))⟩
theorem FrN.cell {M:Mp} {n:Nat} (h:FrN M n w w') {b o:Nat} (hc:w.cell? ⟨b,o,none⟩=some v) (hb:M.at_ b=none\/∃ t,M.at_ b=some t/\n<=sz t):w'.cell? ⟨b,o,none⟩=some v:=by
 rw [<-hc];exact World.cell?_of_block (w:=w) (h.block b (World.block_lt_of_cell? w _ hc) hb)
theorem FrN.upd {M:Mp} {n:Nat} (h:FrN M n w w1) (hu:Rg.Upd w1 g w') (hg:w.heap.size<=g):FrN M n w w':=⟨hu.os.trans h.os,hu.tape.trans h.tape,hu.output.trans h.output,by rw [hu.size]; exact h.size,λk hk hc=>(hu.block k (by omega)).trans (h.block k hk hc)⟩
theorem FrN.fr {M:Mp} {n:Nat} (h:FrN M n w w'):Fr M M w w':=⟨h.os,h.tape,h.output,h.size,λk hk hm=>h.block k hk (Or.inl hm),λ_ _ h=>h,λ_ _ h=>h,λ_ h=>h,λ_ h=>Or.inl h⟩
theorem rE.keep {M:Mp} {b:Nat} {t:T} (h:rE M w b t) (hs:w.heap.size<=w'.heap.size) (hb:w'.heap[b]? = w.heap[b]?)
  (hk:∀ k j v,k<w.heap.size->w.cell? ⟨k,j,none⟩=some v->((∃ x,v = .int .u8 x)\/∃ p,v = .pointer p)->w'.heap[k]? = w.heap[k]?):rE M w' b t:=by
 obtain ⟨a,n,c,ka,kn,kc,d,r,h1,hB,hK,hd⟩:=h;refine ⟨a,n,c,ka,kn,kc,d,r,hb.trans h1,⟨⟨hB.1.1,hB.1.2.1,hB.1.2.2.1,hB.1.2.2.2.1,λj hj=>?_⟩,hB.2⟩,⟨hK.1,hK.2.1,hK.2.2.1,hK.2.2.2.1,λj hj=>?_⟩,hd⟩
 .obtain ⟨b',off,e,hlt,hc⟩:=hB.1.2.2.2.2 j hj;exact ⟨b',off,e,aH hlt hs,by rw [World.cell?_of_block (hk b' _ _ hlt hc (Or.inl ⟨_,rfl⟩))]; exact hc⟩
 .obtain ⟨b',off,p,e,hlt,hf,hc,ht⟩:=hK.at' j hj;exact ⟨b',off,p,e,aH hlt hs,hf,by rw [World.cell?_of_block (hk b' _ _ hlt hc (Or.inr ⟨_,rfl⟩))]; exact hc,ht⟩
theorem FD.keep {b:Nat} (h:FD w b) (hb:w'.heap[b]? = w.heap[b]?):FD w' b:=by
 have hc:∀ j,w'.cell? ⟨b,j,none⟩=w.cell? ⟨b,j,none⟩:=λj=>World.cell?_of_block hb;exact ⟨λj v h1=>h.1 j v (by rw [<-hc j]; exact h1),by rw [hc 8]; exact h.2⟩
theorem dR.after {M:Mp} {n:Nat} (h:dR M n w) (f:FrN M m w w') (g:dR M m w'):dR M n w':=by
 refine ⟨λk hk=>aH (h.lt_ k hk) f.size,λb t hm=>?_⟩;obtain ⟨h1,h2,h3,h4⟩:=h.part_ b t hm;obtain ⟨_,_,g3,g4⟩:=g.part_ b t hm;refine ⟨h1,h2,g3,λhl=>?_⟩;by_cases e:sz t<m
 .exact g4 e
 .refine (h4 hl).keep f.size (f.block b (h.lt_ b h2) (Or.inr ⟨t,hm,by omega⟩)) (λk j v hlt hc hv=>f.block k hlt (Or.inl ?_));rcases hv with ⟨x,rfl⟩ | ⟨p,rfl⟩
  .exact h.eu hc
  .exact h.lT hc
theorem dR.below {M:Mp} {n:Nat} (h:dR M n w) (hb:Below w.heap.size w w'):dR M n w':=by
 refine ⟨λk hk=>aH (h.lt_ k hk) hb.size,λb t hm=>?_⟩;obtain ⟨h1,h2,h3,h4⟩:=h.part_ b t hm;have hlt:=h.lt_ b h2;exact ⟨h1,h2,h3.keep (hb.block b hlt),λhl=>(h4 hl).keep hb.size (hb.block b hlt) (λk j v hk _ _=>hb.block k hk)⟩
theorem dR.upd {M:Mp} {n:Nat} (h:dR M n w) (hu:Rg.Upd w g w') (hg:¬ M.ft g):dR M n w':=by
 refine ⟨λk hk=>by rw [hu.size]; exact h.lt_ k hk,λb t hm=>?_⟩;obtain ⟨h1,h2,h3,h4⟩:=h.part_ b t hm;have hne:∀ k,M.ft k->k≠g:=λk hk e=>hg (by rw [<-e]; exact hk);refine ⟨h1,h2,h3.keep (hu.block b (hne b h2)),λhl=>?_⟩;obtain ⟨a,n,c,ka,kn,kc,d,r,hb,hB,hK,hd⟩:=h4 hl;refine ⟨a,n,c,ka,kn,kc,d,r,(hu.block b (hne b h2)).trans hb,⟨⟨hB.1.1,hB.1.2.1,hB.1.2.2.1,hB.1.2.2.2.1,λj hj=>?_⟩,hB.2⟩,⟨hK.1,hK.2.1,hK.2.2.1,hK.2.2.2.1,λj hj=>?_⟩,hd⟩
 .obtain ⟨b',off,e,hlt,hc⟩:=hB.1.2.2.2.2 j hj;exact ⟨b',off,e,by rw [hu.size]; exact hlt,by rw [World.cell?_of_block (hu.block b' (hne b' (hB.2 _ e (by omega))))]; exact hc⟩
 .obtain ⟨b',off,p,e,hlt,hf,hc,ht⟩:=hK.at' j hj;exact ⟨b',off,p,e,by rw [hu.size]; exact hlt,hf,by rw [World.cell?_of_block (hu.block b' (hne b' hf))]; exact hc,ht⟩
theorem IY {M:Mp} {n:Nat} {w:World} (h:dR M n w) (hT:Tab w):M.at_ 0=none:=by
 cases hm:M.at_ 0 with
 | none=>rfl
 | some t =>
  have h8:=(h.part_ 0 t hm).2.2.1.2;rw [hT 8 (by omega)] at h8;cases h8
theorem xq {M:Mp} {n:Nat} (h:dR M n w) (f:FrN M n w w') (hT:Tab w):Tab w':=λi hi=>f.cell (hT i hi) (Or.inl (IY h hT))
theorem II {M:Mp} {n:Nat} {k:Nat} {l:aL} (hi:dR M n w) (h:bq w a k c l) (f:FrN M n w w'):bq w' a k c l:=by
 refine ⟨h.1,h.2.1,h.2.2.1,h.2.2.2.1,λj hj=>?_⟩;obtain ⟨b,off,e,hlt,hc⟩:=h.2.2.2.2 j hj;exact ⟨b,off,e,aH hlt f.size,f.cell hc (Or.inl (hi.eu hc))⟩
structure Body (M:Mp) (w:World) (b:Nat) (t:T) (a:aJ) (n c:Nat) (ka:aJ) (kn kc:Nat):Prop where
 c0:w.cell? ⟨b,0,none⟩=some (.int .i64 (dD t))
 c1:w.cell? ⟨b,1,none⟩=some (.slice a n c)
 c2:w.cell? ⟨b,2,none⟩=some (.string (EI t))
 c3:w.cell? ⟨b,3,none⟩=some (.slice ka kn kc)
 hb:bq w a n c (bT t)
 hk:Ks M w ka kn kc (fI t)
theorem rE.body {M:Mp} {b:Nat} {t:T} (h:rE M w b t):∃ a n c ka kn kc,Body M w b t a n c ka kn kc:=by
 obtain ⟨a,n,c,ka,kn,kc,d,r,hb,hB,hK,_⟩:=h;obtain ⟨⟨c0,c1,c2,c3⟩,_⟩:=kE hb;exact ⟨a,n,c,ka,kn,kc,c0,c1,c2,c3,hB.1,hK⟩
theorem Ks.frN {M:Mp} {n:Nat} {l:List T} (hi:dR M m w) (h:Ks M w a n c l) (f:FrN M m w w'):Ks M w' a n c l:=by
 refine ⟨h.1,h.2.1,h.2.2.1,h.2.2.2.1,λj hj=>?_⟩;obtain ⟨b,off,p,e,hlt,hm,hc,ht⟩:=h.at' j hj;exact ⟨b,off,p,e,aH hlt f.size,hm,f.cell hc (Or.inl (hi.lT hc)),ht⟩
theorem Body.frN {M:Mp} {m:Nat} {w w':World} {b:Nat} {t:T} {a:aJ} {n c:Nat} {ka:aJ} {kn kc:Nat} (h:Body M w b t a n c ka kn kc) (hi:dR M m w) (f:FrN M m w w') (hm:M.at_ b=some t) (hl:m<=sz t):Body M w' b t a n c ka kn kc :=
 have e:=Or.inr ⟨t,hm,hl⟩
 ⟨f.cell h.c0 e,f.cell h.c1 e,f.cell h.c2 e,f.cell h.c3 e,II hi h.hb f,h.hk.frN hi f⟩
theorem Body.below {M:Mp} {w w':World} {b:Nat} {t:T} {a:aJ} {n c:Nat} {ka:aJ} {kn kc:Nat} (h:Body M w b t a n c ka kn kc) (hb:Below w.heap.size w w'):Body M w' b t a n c ka kn kc:=by
 refine ⟨aV hb h.c0,aV hb h.c1,aV hb h.c2,aV hb h.c3,h.hb.below hb,h.hk.1,h.hk.2.1,h.hk.2.2.1,h.hk.2.2.2.1,λj hj=>?_⟩;obtain ⟨b',off,p,e,hlt,hm,hc,ht⟩:=h.hk.at' j hj;exact ⟨b',off,p,e,aH hlt hb.size,hm,aV hb hc,ht⟩
theorem nL (b:Nat) (k:Int) (w:World) (hc:w.cell? ⟨b,0,none⟩=some (.int .i64 k)) :
  Calls prog 53 #[.agg #[.pointer (some ⟨b,0,none⟩)]] w λe w'=>e = .returned (.int .i64 k)/\Below w.heap.size w w':=by
 have h0:=fU w (some ⟨b,0,none⟩);have HE:=hid (iC (some ⟨b,0,none⟩) (w.alloc (.cells #[.pointer (some ⟨b,0,none⟩)] 31)));have hk:=Nr (o':=.cells #[.pointer (some ⟨b,0,none⟩)] 31) hc;clear hc;go_enter func53,ntmps53;go_wp2_with fail
 refine HE.out.mono ?_;rintro e w2 ⟨rfl,hb⟩;have h1:=aV hb h0;have h2:=aV hb hk;clear h0 hk;go_wp2;go_ret;exact ⟨rfl,bst (al1 _ _) hb⟩
open Rf
open Rl
open No
def nG (M:Mp) (t:T) (w:World) (e:Ending) (w':World):Prop:=∃ a n c,e = .returned (.agg (ndC (bH t) a n c))/\BsF w.heap.size w' a n c (bH t).p/\FrN M (sz t) w w'/\dR M (sz t) w'
def mX (t:T):Prop:=∀ (M:Mp) (w:World) (p:aJ),dR M (sz t+1) w->IsT M p t->Tab w->Calls prog 28 #[.agg #[.pointer p]] w λe w'=>e = .returned (.string (ref t))/\FrN M (sz t+1) w w'/\dR M (sz t+1) w'
theorem FV (N:Nd) (a:aJ) (n c:Nat):∀ (j:Nat) (x:Int),(ndC N a n c)[j]? ≠ some (Value.int .u8 x):=λj x h=>by
 unfold ndC at h
 match j,h with
 | 0,h=>simp at h
 | 1,h=>simp at h
 | 2,h=>simp at h
 | j+3,h=>simp at h
theorem xE (w:World) (p:aJ):∃ w2,w2=(w.alloc (.cells #[.pointer p] 31)).alloc (.cells (ndC nd0 none 0 0) 56)/\Rg.Own w2 w.heap.size #[.pointer p] 31/\dJ w2 (w.heap.size+1) nd0 none 0 0/\Below w.heap.size w w2/\w2.heap.size=w.heap.size+2:=by
 refine ⟨_,rfl,(Rg.Own.new _ _ _).below (al1 _ _),?_,al2 _ _ _,by simp⟩;have:=Rg.Own.new (w.alloc (.cells #[.pointer p] 31)) (ndC nd0 none 0 0) 56;simpa using this
theorem Ro (M:Mp) (b:Nat) (q:Pa) (v:aK) (hm:M.at_ b=some (.leaf q v)) (w:World) (hi:dR M 1 w) (pa:aJ) (pn pc:Nat) (ka:aJ) (kn kc:Nat) (hB:Body M w b (.leaf q v) pa pn pc ka kn kc) (hq:q.length<=64) :
  Calls prog 41 #[.agg #[.pointer (some ⟨b,0,none⟩)]] w (nG M (.leaf q v) w):=by
 obtain ⟨w2,hw2,b8,af,hb2,hs2⟩:=xE w (some ⟨b,0,none⟩);have hB2:=hB.below hb2;have h0:=aU (j:=0) b8 rfl;have hlb:=hi.lt_ b (hi.part_ b _ hm).2.1;have hpn:q.length=pn:=hB.hb.len;have HK:=hid (nL b 1 w2 hB2.c0);have vu:Hid (∀ w3,Below w2.heap.size w2 w3->(w3.cell? ⟨w.heap.size,0,none⟩=some (.pointer (some ⟨b,0,none⟩))/\w3.cell? ⟨b,1,none⟩=some (.slice pa pn pc)/\w3.cell? ⟨b,2,none⟩=some (.string v))/\
   (∀ wx,Below w3.heap.size w3 wx->Calls prog 73 #[.slice pa pn pc,.string v] wx (FY wx ⟨1,q,v,zks⟩))/\
   (∀ w6,Below w3.heap.size w3 w6->∀ a6 n6 c6,BsF w3.heap.size w6 a6 n6 c6 q->dJ w6 (w.heap.size+1) nd0 none 0 0/\∀ ap,Rg.Upd w6 (w.heap.size+1) ap->nG M (.leaf q v) w (.returned (.agg (ndC ⟨1,q,v,zks⟩ a6 n6 c6))) ap)):=hid (λw3 hb3 =>
  ⟨⟨aV hb3 h0,aV hb3 hB2.c1,aV hb3 hB2.c2⟩,λwx hbx=>No.nV pa pn pc q (by omega) v wx (hB2.hb.below (bst hb3 hbx)),λw6 hb6 a6 n6 c6 hx=>by
   have cI:=af.below (bst hb3 hb6);have hbw:=bst hb2 (bst hb3 hb6);refine ⟨cI,λap hu=>⟨a6,n6,c6,rfl,⟨wW hx.1 (eu cI (FV _ _ _ _)) hu,λad e=>Nat.le_trans (Nat.le_trans hb2.size hb3.size) (hx.2 ad e)⟩,(FrN.below M _ hbw).upd hu (by omega),(hi.below hbw).upd hu (λe=>by have:=hi.lt_ _ e; omega)⟩⟩⟩)
 have H0:=hid b8;clear b8 af hb2 hs2 hB hB2 h0 hi hm hpn hq;subst hw2;go_enter func41,ntmps41;go_wp2_with (first | (refine ay (aY _ _ _ (w.heap.size+1) (by simp) rfl) ?_) | (refine ay (aT (aU (j:=0) H0.out rfl) ⟨_,rfl,rfl⟩) ?_))
 refine HK.out.mono ?_;rintro e w3 ⟨rfl,hb3⟩;obtain ⟨⟨d0,d1,d2⟩,HC,HF⟩:=vu.out w3 hb3;replace HC:=hid HC;replace HF:=hid HF;clear hb3 vu HK H0;go_wp2_with fail
 refine aB (S:=λw'=>Bo (w.heap.size+1) w3 w') (Bo.of (below_drewN aG 1)) λhld=>?_;refine ah 0 ?_;try simp only [ak]
 refine aC 1 (λwz hSw=>fZ hSw (by omega) d0) ?_;try simp only [ak]
 refine ah 2 ?_;try simp only [ak]
 refine ah 3 ?_;try simp only [ak]
 refine aC 4 (λwz hSw=>fZ hSw (by omega) d1) ?_;try simp only [ak]
 refine ah 5 ?_;try simp only [ak]
 refine aC 6 (λwz hSw=>fZ hSw (by omega) d0) ?_;try simp only [ak]
 refine ah 7 ?_;try simp only [ak]
 refine ah 8 ?_;try simp only [ak]
 refine aC 9 (λwz hSw=>fZ hSw (by omega) d2) ?_;try simp only [ak]
 refine aj 10 λK hK=>?_;go_simp;go_at_call 73
 (with_reducible refine (HC.out w3.drew (below_drewN aG 1)).mono ?_)
 intro e w6 hG;obtain ⟨a6,n6,c6,rfl,cL,qu,hb6⟩:=hG;have rI:=hid qu;have H6:=hid (HF.out w6 (bst (below_drewN aG 1) hb6) a6 n6 c6 cL);have vx:Below w3.heap.size w3 w6:=bst (below_drewN aG 1) hb6;have cM:=hid H6.out.1;clear qu hb6 cL;refine hK.out _ _ (Bo.of vx) λhld=>?_;clear hK K;try simp only [ak]
 refine aj 11 λK hK=>?_;refine Rg.meetStore (by rfl) cM.out 56 (ndC ⟨1,q,v,zks⟩ a6 n6 c6) ⟨_,_,rfl,rfl,rfl⟩ (kV _ _ _ _ rI.out) (by rw [eP _ _ _ _ jl,eP _ _ _ _ rI.out]) (oP _ _ _ _) ?_;intro ap aq az;have ct:=hid aq;have g9:=hid (H6.out.2 ap az);clear aq;refine hK.out _ _ ((Bo.of vx).upd az) λhld=>?_;clear hK K;try simp only [ak]
 refine aA ?_;go_wp2;exact bodyPost_ret (uZ rfl _ rfl ct.out rI.out) rfl g9.out
theorem Xf (M:Mp) (b:Nat) (q:Pa) (s:T) (hm:M.at_ b=some (.ext q s)) (w:World) (hi:dR M (sz s+1) w) (pa:aJ) (pn pc:Nat) (ka:aJ) (kn kc:Nat) (hB:Body M w b (.ext q s) pa pn pc ka kn kc) (hq:q.length<=64) (hT:Tab w) (hR:mX s) :
  Calls prog 41 #[.agg #[.pointer (some ⟨b,0,none⟩)]] w (nG M (.ext q s) w):=by
 obtain ⟨w2,hw2,b8,af,hb2,hs2⟩:=xE w (some ⟨b,0,none⟩);have hB2:=hB.below hb2;have hi2:=hi.below hb2;have h0:=aU (j:=0) b8 rfl;have hlb:=hi.lt_ b (hi.part_ b _ hm).2.1;have hpn:q.length=pn:=hB.hb.len;obtain ⟨kb,ko,p0,rfl,cA,el,hk0,hT0⟩:=hB2.hk.at' 0 (by rw [<-hB2.hk.len]; exact Nat.one_pos);have hkn:kn=1:=hB2.hk.len.symm;have hkc:=hB2.hk.1;have hkm:=hB2.hk.2.1;unfold maxLen at hkm;rw [Nat.add_zero] at hk0;have cn:IsT M p0 s:=hT0;have mf:=hi.lt_ kb el;have HK:=hid (nL b 2 w2 hB2.c0);have vy:=hT.pos
 have vu:Hid (∀ w3,Below w2.heap.size w2 w3->(w3.cell? ⟨w.heap.size,0,none⟩=some (.pointer (some ⟨b,0,none⟩))/\w3.cell? ⟨b,1,none⟩=some (.slice pa pn pc)/\w3.cell? ⟨b,3,none⟩=some (.slice (some ⟨kb,ko,none⟩) kn kc)/\w3.cell? ⟨kb,ko,none⟩=some (.pointer p0))/\
   Calls prog 28 #[.agg #[.pointer p0]] w3.drew (λe w'=>e = .returned (.string (ref s))/\FrN M (sz s+1) w3.drew w'/\dR M (sz s+1) w')/\
   ∀ w5,FrN M (sz s+1) w3.drew w5->dR M (sz s+1) w5->(((w5.cell? ⟨w.heap.size,0,none⟩=some (.pointer (some ⟨b,0,none⟩))/\w5.cell? ⟨b,1,none⟩=some (.slice pa pn pc))/\w5.cell? ⟨b,3,none⟩=some (.slice (some ⟨kb,ko,none⟩) kn kc))/\w5.cell? ⟨kb,ko,none⟩=some (.pointer p0))/\
    Calls prog 74 #[.slice pa pn pc,.string (ref s)] w5 (FY w5 ⟨2,q,eB,ref s::List.replicate 15 eB⟩)/\
    ∀ w6,Below w5.heap.size w5 w6->∀ a6 n6 c6,BsF w5.heap.size w6 a6 n6 c6 q->(((w6.cell? ⟨w.heap.size,0,none⟩=some (.pointer (some ⟨b,0,none⟩))/\w6.cell? ⟨b,1,none⟩=some (.slice pa pn pc))/\w6.cell? ⟨b,3,none⟩=some (.slice (some ⟨kb,ko,none⟩) kn kc))/\w6.cell? ⟨kb,ko,none⟩=some (.pointer p0))/\dJ w6 (w.heap.size+1) nd0 none 0 0/\
     ∀ ap,Rg.Upd w6 (w.heap.size+1) ap->(((ap.cell? ⟨w.heap.size,0,none⟩=some (.pointer (some ⟨b,0,none⟩))/\ap.cell? ⟨b,1,none⟩=some (.slice pa pn pc))/\ap.cell? ⟨b,3,none⟩=some (.slice (some ⟨kb,ko,none⟩) kn kc))/\ap.cell? ⟨kb,ko,none⟩=some (.pointer p0))/\nG M (.ext q s) w (.returned (.agg (ndC ⟨2,q,eB,dI (ref s)⟩ a6 n6 c6))) ap):=hid (λw3 hb3=>by
  have dp:Below w2.heap.size w2 w3.drew:=hb3.drew;have hi3:dR M (sz s+1) w3.drew:=hi2.below dp;have e0:=aV dp h0;have e1:=aV dp hB2.c1;have e3:=aV dp hB2.c3;have ek:=aV dp hk0;have ne:M.at_ b=none\/∃ t,M.at_ b=some t/\sz s+1<=sz t:=Or.inr ⟨_,hm,aF⟩;have j9:Tab w3.drew:=hT.below (bst hb2 dp) vy;refine ⟨⟨e0,e1,e3,ek⟩,hR M _ p0 hi3 cn j9,λw5 cN hi5=>?_⟩;have g0:=cN.cell e0 (Or.inl (hi3.lT e0));have g1:=cN.cell e1 ne;have g3:=cN.cell e3 ne;have gk:=cN.cell ek (Or.inl (hi3.lT ek));have S0:=II hi3 (hB2.hb.below dp) cN
  have hg1:M.at_ (w.heap.size+1)=none:=by
   cases hmm:M.at_ (w.heap.size+1) with
   | none=>rfl
   | some t=>exact absurd (hi.lt_ _ (hi.part_ _ t hmm).2.1) (by omega)
  have aE:dJ w5 (w.heap.size+1) nd0 none 0 0:=⟨aH (af.below dp).1 cN.size,(cN.block _ (af.below dp).1 (Or.inl hg1)).trans (af.below dp).2⟩
  refine ⟨⟨⟨⟨g0,g1⟩,g3⟩,gk⟩,No.MN pa pn pc q (by omega) (ref s) w5 S0,λw6 hb6 a6 n6 c6 hx=>?_⟩;have cI:=aE.below hb6;refine ⟨⟨⟨⟨aV hb6 g0,aV hb6 g1⟩,aV hb6 g3⟩,aV hb6 gk⟩,cI,λap hu=>?_⟩;have hc:∀ (b' o:Nat) (v:Value),b'≠w.heap.size+1->w6.cell? ⟨b',o,none⟩=some v->ap.cell? ⟨b',o,none⟩=some v:=λb' o v hne h=>by
   rw [<-h]; exact World.cell?_of_block (w:=w6) (hu.block b' hne)
  have hfw:FrN M (sz s+1) w w6:=((FrN.below M _ (bst hb2 dp)).trans cN).trans (FrN.below M _ hb6);exact ⟨⟨⟨⟨hc _ _ _ (by omega) (aV hb6 g0),hc _ _ _ (by omega) (aV hb6 g1)⟩,hc _ _ _ (by omega) (aV hb6 g3)⟩,hc _ _ _ (by omega) (aV hb6 gk)⟩,
   a6,n6,c6,rfl,⟨wW hx.1 (eu cI (FV _ _ _ _)) hu,λad e=>Nat.le_trans (Nat.le_trans (Nat.le_trans hb2.size dp.size) cN.size) (hx.2 ad e)⟩,hfw.upd hu (by omega),(hi5.below hb6).upd hu (λe=>by have:=hi.lt_ _ e; omega)⟩)
 have H0:=hid b8;clear b8 af hb2 hs2 hB hB2 h0 hi hi2 hm hpn hq hT hR vy hk0 hT0 cn el cA;subst hw2;go_enter func41,ntmps41;go_wp2_with (first | (refine ay (aY _ _ _ (w.heap.size+1) (by simp) rfl) ?_) | (refine ay (aT (aU (j:=0) H0.out rfl) ⟨_,rfl,rfl⟩) ?_))
 refine HK.out.mono ?_;rintro e w3 ⟨rfl,hb3⟩;obtain ⟨⟨d0,d1,d3,dk⟩,HC,HF⟩:=vu.out w3 hb3;replace HC:=hid HC;replace HF:=hid HF;clear hb3 vu HK H0;go_wp2_with fail
 refine aB (S:=λw'=>((w'.cell? ⟨w.heap.size,0,none⟩=some (.pointer (some ⟨b,0,none⟩))/\w'.cell? ⟨b,1,none⟩=some (.slice pa pn pc))/\w'.cell? ⟨b,3,none⟩=some (.slice (some ⟨kb,ko,none⟩) kn kc))/\w'.cell? ⟨kb,ko,none⟩=some (.pointer p0)) (⟨⟨⟨d0,d1⟩,d3⟩,dk⟩) λhld=>?_;refine ah 0 ?_;try simp only [ak]
 refine aC 1 (λwz hSw=>hSw.1.1.1) ?_;try simp only [ak]
 refine ah 2 ?_;try simp only [ak]
 refine ah 3 ?_;try simp only [ak]
 refine aC 4 (λwz hSw=>hSw.1.1.2) ?_;try simp only [ak]
 refine ah 5 ?_;try simp only [ak]
 refine aC 6 (λwz hSw=>hSw.1.1.1) ?_;try simp only [ak]
 refine ah 7 ?_;try simp only [ak]
 refine ah 8 ?_;try simp only [ak]
 refine aC 9 (λwz hSw=>hSw.1.2) ?_;try simp only [ak]
 refine ah 10 ?_;try simp only [ak]
 refine ah 11 ?_ (hy:=by intro wz hSw; (refine aT hSw.2 ?_; exact ⟨_,rfl,rfl⟩));try simp only [ak]
 refine aj 12 λK hK=>?_;go_simp;go_at_call 28
 (with_reducible refine HC.out.mono ?_)
 rintro e w5 ⟨rfl,cN,hi5⟩;obtain ⟨hS5,H5⟩:=HF.out w5 cN hi5;replace H5:=hid H5;clear cN hi5;refine hK.out _ _ (hS5) λhld=>?_;clear hK K;try simp only [ak]
 refine aj 13 λK hK=>?_;go_simp;go_at_call 74
 (with_reducible refine (H5.out.1).mono ?_)
 intro e w6 hG;obtain ⟨a6,n6,c6,rfl,cL,qu,hb6⟩:=hG;have rI:=hid qu;obtain ⟨ml,cI,vz⟩:=H5.out.2 w6 hb6 a6 n6 c6 cL;have H6:=hid vz;have cM:=hid cI;clear qu hb6 cL vz cI;refine hK.out _ _ (ml) λhld=>?_;clear hK K;try simp only [ak]
 refine aj 14 λK hK=>?_;refine Rg.meetStore (by rfl) cM.out 56 (ndC ⟨2,q,eB,ref s::List.replicate 15 eB⟩ a6 n6 c6) ⟨_,_,rfl,rfl,rfl⟩ (kV _ _ _ _ rI.out) (by rw [eP _ _ _ _ jl,eP _ _ _ _ rI.out]) (oP _ _ _ _) ?_;intro ap aq az;have ct:=hid aq;obtain ⟨cQ,mm⟩:=H6.out ap az;have g9:=hid mm;clear aq mm;refine hK.out _ _ (cQ) λhld=>?_;clear hK K;try simp only [ak]
 refine aA ?_;go_wp2;exact bodyPost_ret (uZ rfl _ rfl ct.out rI.out) rfl g9.out
theorem GY (p:aJ) (k:Int) (h1:k≠1) (h2:k≠2) (h3:k≠3) (w:World)
  (hK:∀ wx,Below w.heap.size w wx->Calls prog 53 #[.agg #[.pointer p]] wx λe w'=>e = .returned (.int .i64 k)/\Below wx.heap.size wx w') :
  Calls prog 41 #[.agg #[.pointer p]] w λe w'=>e = .returned (.agg (ndC nd0 none 0 0))/\Below w.heap.size w w':=by
 obtain ⟨w2,hw2,b8,af,hb2,hs2⟩:=xE w p;have HK:=hid (hK w2 hb2);have H3:Hid (∀ w3,Below w2.heap.size w2 w3->dJ w3 (w.heap.size+1) nd0 none 0 0/\Below w.heap.size w w3):=hid (λw3 hb3=>⟨af.below hb3,bst hb2 hb3⟩);have H0:=hid b8;have e1:(k==1)=false:=by simp [h1]
 have e2:(k==2)=false:=by simp [h2]
 have e3:(k==3)=false:=by simp [h3]
 clear b8 af hb2 hs2 hK h1 h2 h3;subst hw2;go_enter func41,ntmps41;go_wp2_with (first | (refine ay (aY _ _ _ (w.heap.size+1) (by simp) rfl) ?_) | (refine ay (aT (aU (j:=0) H0.out rfl) ⟨_,rfl,rfl⟩) ?_))
 refine HK.out.mono ?_;rintro e w3 ⟨rfl,hb3⟩;obtain ⟨hO3,hB3⟩:=H3.out w3 hb3;have am:=hid hO3;have HB3:=hid hB3;clear hb3 H3 HK H0 hO3 hB3;go_wp2_with (first
  | (refine ay (bK qN ⟨_,rfl,rfl⟩) ?_)
  | (refine bD am.out jl nd0 none 0 0 jl rfl _ _ rfl rfl rfl rfl ?_))
 exact bodyPost_ret (uZ rfl _ rfl (dz am.out) jl) rfl ⟨rfl,bS HB3.out (by omega) _⟩
theorem qO {b o:Nat} (h:Rg.Own w b cs t) (ho:o<cs.size) (s:aK):(Instr.storeAt 9 (.pointer (some ⟨b,o,none⟩)) (.string s)).run prog w = .ok () (w.setCell ⟨b,o,none⟩ (.string s)):=by
 have hc:w.cell? ⟨b,o,none⟩=some cs[o]:=aU h (Array.getElem?_eq_getElem ho);have hz:w.frozen? ⟨b,o,none⟩=false:=jk h;simp [go_sem,hc,hz]
theorem Br (ks:List aK) (i:Nat) (x:aK):(iI ks).setIfInBounds i (.string x)=iI (ks.set i x):=by
 unfold iI;rw [List.map_set];simp
theorem Cy {rest:List Oper} {b:Nat} {ks:List aK} (h:sF w b ks) (hl:ks.length=16) (hi:i<16) (s:aK)
  (hgd:o.guard=none) (x y:Operand) (ho:o.op = .store 9 x y) (hx:act.eval x = .pointer (some ⟨b,i,none⟩)) (hy:act.eval y = .string s)
  (hQ:∀ w',sF w' b (ks.set i s)->Rg.Upd w b w'->wpList prog ops Q rest (act.put o.dst undef) w'):wpList prog ops Q (o::rest) act w :=
 wpList_plain hgd λK hK=>by
  unfold Oper.wp execOp;simp only [ho,hx,hy,Sem.run_bind,Sem.run_pure,Result.andThen_ok,qO h (o:=i) (by rw [Es,hl]; exact hi) s];refine hK _ _ (hQ _ ?_ (bV _ _ _ _));have:=dO (o:=i) h (.string s);rwa [Br] at this
def iT (l:List aK) (j:Nat):List aK:=l.take j++List.replicate (16-j) eB
theorem uU {l:List aK} (hl:l.length=16) (hj:j<=16):(iT l j).length=16:=by
 unfold iT;rw [List.length_append,List.length_take,List.length_replicate,hl];omega
theorem Bt {l:List aK} (hl:l.length=16) (hj:j<16):(iT l j).set j (l.getD j eB)=iT l (j+1):=by
 unfold iT;have h1:(l.take j).length=j:=by rw [List.length_take,hl]; omega
 have h2:List.replicate (16-j) eB=eB::List.replicate (16-(j+1)) eB:=by
  rw [show 16-j=(16-(j+1))+1 by omega,List.replicate_succ]
 have h3:l.take (j+1)=l.take j++[l.getD j eB]:=by
  have e:l.getD j eB=l[j]'(by omega):=by simp [List.getD,hl,hj]
  rw [e,List.take_succ_eq_append_getElem (by omega)]
 rw [h2,h3,List.set_append_right _ _ (by omega),h1,Nat.sub_self,List.set_cons_zero,List.append_assoc];rfl
theorem Bn {l:List aK} (hl:l.length=16):iT l 16=l:=by
 unfold iT;rw [List.take_of_length_le (by omega)];simp
theorem yV (l:List aK):iT l 0=zks:=by
 unfold iT;simp [zks]
theorem dR.zy {M:Mp} {n:Nat} {w:World} (h:dR M n w) {b:Nat} (hb:w.heap.size<=b):M.at_ b=none:=by
 cases hm:M.at_ b with
 | none=>rfl
 | some t=>exact absurd (h.lt_ b (h.part_ b t hm).2.1) (by omega)
theorem zQ {M:Mp} {n:Nat} {b:Nat} (h:Rg.Own w b cs t) (f:FrN M n w w') (hb:M.at_ b=none):Rg.Own w' b cs t:=⟨aH h.1 f.size,(f.block b h.1 (Or.inl hb)).trans h.2⟩
theorem XT (M:Mp) (b:Nat) (ks:Fin 16->T) (hm:M.at_ b=some (.br ks)) (w:World) (hi:dR M (sz (.br ks)) w) (pa:aJ) (pn pc:Nat) (ka:aJ) (kn kc:Nat) (hB:Body M w b (.br ks) pa pn pc ka kn kc) (hT:Tab w) (hR:∀ i,mX (ks i)) :
  Calls prog 41 #[.agg #[.pointer (some ⟨b,0,none⟩)]] w (nG M (.br ks) w):=by
 obtain ⟨w2,hw2,b8,af,hb2,hs2⟩:=xE w (some ⟨b,0,none⟩);have hB2:=hB.below hb2;have hi2:=hi.below hb2;have h0:=aU (j:=0) b8 rfl;have hlb:=hi.lt_ b (hi.part_ b _ hm).2.1;have hkn:kn=16:=by rw [<-hB2.hk.len]; exact fK ks
 subst hkn;obtain ⟨kb,ko,p0,rfl,cA,el,hzz⟩:=hB2.hk.at' 0 (by omega);clear hzz;have vA:∀ j (hj:j<16),∃ p,w2.cell? ⟨kb,ko+j,none⟩=some (.pointer p)/\IsT M p (ks ⟨j,hj⟩):=λj hj=>by
  obtain ⟨b',o',p,e,_,_,hc,ht⟩:=hB2.hk.at' j hj;obtain ⟨rfl,rfl⟩:kb=b'/\ko=o':=by simpa using e
  refine ⟨p,hc,?_⟩;have:=kJ ks ⟨j,hj⟩;rw [this] at ht;exact ht
 have hkc:=hB2.hk.1;have hkm:=hB2.hk.2.1;unfold maxLen at hkm;have mf:=hi.lt_ kb el;have vy:=hT.pos;have il:=hT.below hb2 vy;have HK:=hid (nL b 3 w2 hB2.c0);obtain ⟨L,hL⟩:∃ L,(bU λi=>ref (ks i))=L:=⟨_,rfl⟩
 have C5:L.length=16:=by rw [<-hL]; exact mq _
 have L4:∀ j (hj:j<16),L.getD j eB=ref (ks ⟨j,hj⟩):=λj hj=>by
  rw [<-hL]; exact kP (λi=>ref (ks i)) ⟨j,hj⟩
 have hg1:M.at_ (w.heap.size+1)=none:=hi.zy (by omega);have HA:Hid (∀ w3,Below w2.heap.size w2 w3->(w3.cell? ⟨w.heap.size,0,none⟩=some (.pointer (some ⟨b,0,none⟩))/\w3.cell? ⟨b,3,none⟩=some (.slice (some ⟨kb,ko,none⟩) 16 kc))/\
   ((w3.alloc (.cells (iI zks) 54)).cell? ⟨w.heap.size,0,none⟩=some (.pointer (some ⟨b,0,none⟩))/\(w3.alloc (.cells (iI zks) 54)).cell? ⟨b,3,none⟩=some (.slice (some ⟨kb,ko,none⟩) 16 kc))/\
   M.at_ w3.heap.size=none/\w.heap.size+1<w3.heap.size/\sF (w3.alloc (.cells (iI zks) 54)) w3.heap.size (iT L 0)/\FrN M (sz (.br ks)) w2 (w3.alloc (.cells (iI zks) 54))/\dR M (sz (.br ks)) (w3.alloc (.cells (iI zks) 54))):=hid (λw3 hb3=>by
  have hb4:=bst hb3 (al1 w3 (.cells (iI zks) 54));have hsz:=hb3.size;refine ⟨⟨aV hb3 h0,aV hb3 hB2.c3⟩,⟨aV hb4 h0,aV hb4 hB2.c3⟩,hi2.zy (by omega),by omega,?_,FrN.below M _ hb4,hi2.below hb4⟩;rw [yV];exact Rg.Own.new _ _ _)
 have gS:Hid (∀ (bl:Nat) (wr:World),w2.heap.size<=bl->FrN M (sz (.br ks)) w2 wr->dR M (sz (.br ks)) wr->∀ j (hj:j<16),sF wr bl (iT L j)->∃ p,wr.cell? ⟨kb,ko+j,none⟩=some (.pointer p)/\
   ∀ w5,Below wr.heap.size wr w5->Calls prog 28 #[.agg #[.pointer p]] w5 (λe w'=>e = .returned (.string (L.getD j eB))/\FrN M (sz (.br ks)) w5 w'/\dR M (sz (.br ks)) w')/\
   ∀ w6,FrN M (sz (.br ks)) w5 w6->dR M (sz (.br ks)) w6->sF w6 bl (iT L j)/\
   ∀ w7,sF w7 bl ((iT L j).set j (L.getD j eB))->Rg.Upd w6 bl w7->sF w7 bl (iT L (j+1))/\FrN M (sz (.br ks)) w2 w7/\dR M (sz (.br ks)) w7):=hid (λbl wr hbl hf hir j hj rK=>by
  obtain ⟨p,hcp,htp⟩:=vA j hj;have we:=Yp ks ⟨j,hj⟩;refine ⟨p,hf.cell hcp (Or.inl (hi2.lT hcp)),λw5 hb5=>?_⟩;have hi5:=hir.below hb5;have hTr:=xq hi2 hf il;have hZ:=hTr.below hb5 hTr.pos;refine ⟨(hR ⟨j,hj⟩ M w5 p (hi5.mono we) htp hZ).mono ?_,λw6 de lv=>?_⟩
  .rintro e w' ⟨rfl,hfe,hie⟩;exact ⟨by rw [L4 j hj],hfe.mono we,hi5.after hfe hie⟩
  .have E0:sF w6 bl (iT L j):=zQ (rK.below hb5) de (hi2.zy hbl);refine ⟨E0,λw7 eL hu=>⟨by rw [<-Bt C5 hj]; exact eL,((hf.trans (FrN.below M _ hb5)).trans de).upd hu hbl,lv.upd hu (λe=>by have:=hi2.lt_ _ e; omega)⟩⟩)
 have ae:Hid (∀ (bl:Nat) (wr:World),FrN M (sz (.br ks)) w2 wr->dR M (sz (.br ks)) wr->sF wr bl (iT L 16)->sF wr bl L/\∀ w6,Below wr.heap.size wr w6->∀ a6 n6 c6,BsF wr.heap.size w6 a6 n6 c6 []->dJ w6 (w.heap.size+1) nd0 none 0 0/\
   ∀ ap,Rg.Upd w6 (w.heap.size+1) ap->nG M (.br ks) w (.returned (.agg (ndC ⟨3,[],eB,L⟩ a6 n6 c6))) ap):=hid (λbl wr hf hir rK=>by
  rw [Bn C5] at rK;refine ⟨rK,λw6 hb6 a6 n6 c6 hx=>?_⟩;have cI:=(zQ af hf hg1).below hb6;refine ⟨cI,λap hu=>⟨a6,n6,c6,by rw [<-hL]; rfl,⟨wW hx.1 (eu cI (FV _ _ _ _)) hu,λad e=>Nat.le_trans (Nat.le_trans hb2.size hf.size) (hx.2 ad e)⟩,?_,(hir.below hb6).upd hu (λe=>by have:=hi.lt_ _ e; omega)⟩⟩;exact (((FrN.below M _ hb2).trans hf).trans (FrN.below M _ hb6)).upd hu (by omega))
 have qv:=hid C5;have H0:=hid b8;have E3:=hs2;obtain ⟨N,hN⟩:=av (sz (.br ks))
 rw [hN] at HA gS ae;clear b8 af hb2 hB hB2 h0 hi hi2 hm hT hR vy il vA el cA hL L4 hg1 hN C5 hs2;have HW2:Hid (_=_):=hid hw2;clear hw2;go_enter func41,ntmps41;have E6:=H0;rw [HW2.out] at E6;go_wp2_with (first | (refine ay (aY _ _ _ (w.heap.size+1) (by simp) rfl) ?_) | (refine ay (aT (aU (j:=0) E6.out rfl) ⟨_,rfl,rfl⟩) ?_))
 rw [<-HW2.out];refine HK.out.mono ?_;rintro e w3 ⟨rfl,hb3⟩;obtain ⟨⟨d0,d3⟩,⟨e0,e3⟩,hnb,S1,rK,rL,hi4⟩:=HA.out w3 hb3;have L5:=hid rK;have qS:=hid rL;have HI4:=hid hi4;have hsz2:=hb3.size;clear hb3 HA HK H0 E6 HW2 rK rL hi4;go_wp2_with (refine ay (wH _ _ _ w3.heap.size rfl rfl) ?_)
 clear d0 d3 e0 e3;go_loopw [45] (λi wr=>∃ j:Nat,j<=16/\i = .int .i64 j/\Hid (sF wr w3.heap.size (iT L j))/\Hid (FrN M N w2 wr)/\Hid (dR M N wr)) (λi _=>16-(intOf i).toNat)
 case atStart=>exact ⟨0,Nat.zero_le _,rfl,L5,qS,HI4⟩
 case round =>
  obtain ⟨j,hj,rfl,HO,HF,HI⟩:=hrel;clear L5 qS HI4;by_cases hlt:j<16
  .obtain ⟨p,hkp,H5⟩:=gS.out w3.heap.size wr hsz2 HF.out HI.out j hlt HO.out;replace H5:=hid H5;have hNew:=Rg.Own.new wr #[.pointer none] 31;have HN:=hid hNew;obtain ⟨R,hR⟩:=av (L.getD j eB)
   rw [hR] at H5;clear hNew HO HF HI gS ae hR;go_wp2_with (first
    | (refine ay (aT hkp ⟨_,rfl,rfl⟩) ?_)
    | (refine ay (aW _ _ _ wr.heap.size rfl rfl) ?_)
    | (refine aX HN.out (by decide) p rfl _ _ rfl rfl rfl ?_; intro w5 aE ax; have cd:=hid aE; have ag:Hid (Below wr.heap.size wr w5):=hid (ax.below (al1 _ _) aF); clear aE ax)
    | (refine ay (aT (aU (j:=0) cd.out rfl) ⟨_,rfl,rfl⟩) ?_))
   obtain ⟨HC,H6⟩:=H5.out w5 ag.out;replace HC:=hid HC;replace H6:=hid H6;clear H5 ag cd HN hkp;refine HC.out.mono ?_;rintro e w6 ⟨rfl,de,lv⟩;obtain ⟨cI,H7⟩:=H6.out w6 de lv;replace H7:=hid H7;have cM:=hid cI;clear de lv H6 HC cI;have hji:(j:Int)<16:=by omega
   go_wp2_with (refine Cy cM.out (uU qv.out (by omega)) hlt R rfl _ _ rfl rfl rfl ?_; intro w7 eL df; obtain ⟨g1,g2,g3⟩:=H7.out w7 eL df; have G1:=hid g1; have G2:=hid g2; have G3:=hid g3; clear g1 g2 g3 eL df)
   go_roundw
   case rel=>exact ⟨j+1,by omega,by go_num,G1,G2,G3⟩
   case measure=>simp [intOf]; omega
  .obtain rfl:j=16:=by omega
   obtain ⟨L6,H6⟩:=ae.out w3.heap.size wr HF.out HI.out HO.out;have HOL:=hid L6;replace H6:=hid H6;have mr:=hid (No.jV L qv.out wr);clear HO HF HI gS ae L6;go_wp2_with (refine ay (nX HOL.out qv.out ⟨_,rfl,rfl⟩) ?_)
   refine mr.out.mono ?_;rintro e w6 ⟨a6,n6,c6,rfl,cL,qu,hb6⟩;obtain ⟨cI,g9⟩:=H6.out w6 hb6 a6 n6 c6 cL;have cM:=hid cI;replace g9:=hid g9;clear cL qu hb6 cI H6 mr HOL;go_wp2_with (refine bD cM.out jl ⟨3,[],eB,L⟩ a6 n6 c6 qv.out rfl _ _ rfl rfl rfl rfl ?_)
   exact bodyPost_ret (uZ rfl _ rfl (dz cM.out) qv.out) rfl (g9.out _ (Rg.Upd.set _ _ _))
end Tm
end
end Go.Proofs.YtlcplcgigjagpaaGreatDoor
