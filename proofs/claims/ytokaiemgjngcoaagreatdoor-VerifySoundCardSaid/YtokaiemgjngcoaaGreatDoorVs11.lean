/-
 Contracts of cut, lifted, turned: trees made of a part's pieces.
-/
import Derived.Test.YtokaiemgjngcoaaGreatDoorVs10
import Derived.Lib.ConvBytes
open Go.Lib (hid)
open Go.Proofs.Tryz
set_option linter.unusedSimpArgs false
set_option linter.unusedVariables false
set_option maxHeartbeats 40000000
set_option maxRecDepth 100000
namespace Go.Proofs.YtokaiemgjngcoaaGreatDoor
variable {w w' w0 w1 w2:World} {B b2 c g i j m n off:Nat} {e t ty:TypeId} {a:aL} {S p:Nat->Prop} {o:Oper} {K:Act->World->Prop} {Q:Exit->Act->World->Prop} {ops:Array Oper} {ev:Operand->Value} {v:Value} {P:Program} {r x x0:aM} {act:Act} {k:aN} {d:Int}
section
open Go.RowKit
namespace Tm
open Tr Ni Pk
theorem Fr.upd {M M':Mp} (f:Fr M M' w w1) (hu:Rg.Upd w1 g w') (hg:w.heap.size<=g):Fr M M' w w' :=
 ⟨hu.os.trans f.os,hu.tape.trans f.tape,hu.output.trans f.output,by rw [hu.size]; exact f.size,λk hk hm=>(hu.block k (by omega)).trans (f.block k hk hm),f.mono,f.fresh,f.grow,f.foot⟩
theorem finish {M M1:Mp} {w3 w4:World} {t:T} {e:Ending} {cs:aO} (hi:Inv M w) (f3:Fr M M1 w w3) (b3:Below w.heap.size w w3) (hG:dz M1 w3 t e w4)
  (hO3:Rg.Own w3 g cs ty) (hne:∀ (j:Nat) (x:Int),cs[j]? ≠ some (Value.int .u8 x)) (hg:w.heap.size<=g) (hg1:¬ M1.ft g) :
  ∃ p,e = .returned (tv p)/\Rg.Own w4 g cs ty/\∀ w5,Rg.Upd w4 g w5->dz M w t (.returned (tv p)) w5:=by
 obtain ⟨p,M',he,ht,f,i,b⟩:=hG;have hbw:=b3.trans (b.mono b3.size);exact ⟨p,he,hO3.below b,λw5 hu=>⟨p,M',rfl,ht,(f3.trans hi f).upd hu hg,i.upd hu (f.box hg1 hO3.1 (fO hO3 hne)),hu.below hbw hg⟩⟩
theorem jZ {M:Mp} {b:Nat} {t:T} (hi:Inv M w) (hm:M.at_ b=some t):IsT M (some ⟨b,0,none⟩) t:=⟨b,rfl,hm,(hi.part_ b t hm).1⟩
theorem Um (M:Mp) (b:Nat) (q:Pa) (u:aM) (hm:M.at_ b=some (.leaf q u)) (k:Nat) (hk:k<=q.length) (w:World) (hi:Inv M w) :
  Calls prog 161 #[.agg #[.pointer (some ⟨b,0,none⟩)],.int .i64 k] w (dz M w (.leaf (q.drop k) u)):=by
 obtain ⟨w2,hw2,ap,am,hb2,hs2⟩:=mV w (some ⟨b,0,none⟩);have hi2:=hi.below hb2;obtain ⟨pa,pn,pc,c1,hP⟩:=hi2.path hm;have c2:=hi2.val hm;have hl:q.length=pn:=hP.1.len;have hcap:=hP.1.1;have hmx:=hP.1.2.1;unfold maxLen at hmx;rw [hl] at hk;have HK:=hid (dV M _ _ w2 hi2 (jZ hi2 hm));have HL:Hid (∀ w3,Below w2.heap.size w2 w3->Calls prog 87 #[.slice (eP pa pc k) (pn-k) (pc-k),.string u] w3 (dz M w3 (.leaf (q.drop k) u))):=hid (λw3 hb3 =>
  nQ M _ _ _ _ _ w3 (hi2.below hb3) ((hP.fr hi2 (Fr.below M hb3)).from' k hk))
 have H0:=hid ap;have HF:Hid (∀ w3,Below w2.heap.size w2 w3->∀ e w4,dz M w3 (.leaf (q.drop k) u) e w4->∃ p,e = .returned (tv p)/\Rg.Own w4 (w.heap.size+1) #[.pointer none] 46/\∀ w5,Rg.Upd w4 (w.heap.size+1) w5->dz M w (.leaf (q.drop k) u) (.returned (tv p)) w5):=hid (λw3 hb3 e w4 hG =>
  finish hi (Fr.below M (bst hb2 hb3)) (bst hb2 hb3) hG (am.below hb3) (jv _) (by omega) (hi.free (by omega)))
 have c2':w2.cell? ⟨b,2,none⟩=some (.string u):=c2;have h0:=aV (j:=0) ap rfl;have HC:Hid (∀ w3,Below w2.heap.size w2 w3->w3.cell? ⟨w.heap.size,0,none⟩=some (.pointer (some ⟨b,0,none⟩))/\w3.cell? ⟨b,2,none⟩=some (.string u)):=hid (λw3 hb3=>⟨aX hb3 h0,aX hb3 c2'⟩);clear ap am hb2 hs2 hi hi2 hP c2 c2' hl;subst hw2;go_enter func161,ntmps161;go_wp2_with (first
  | (refine aB (bA _ _ _ (w.heap.size+1) (by simp) rfl) ?_)
  | (refine aB (jP fZ iL hk ⟨_,_,rfl,rfl,rfl⟩) ?_)
  | (refine aB (aW (aV (j:=0) H0.out rfl) ⟨_,rfl,rfl⟩) ?_))
 refine HK.out.mono ?_;rintro e w3 ⟨rfl,hb3⟩;obtain ⟨d0,d2⟩:=HC.out w3 hb3;have df:=hid (HL.out w3 hb3);have kB:=hid (HF.out w3 hb3);clear hb3 HC HL HF h0 c1;unfold fB;go_wp2_with fail
 refine df.out.mono ?_;intro e w4 hG;obtain ⟨p,rfl,hO4,hE⟩:=kB.out e w4 hG;have cC:=hid hO4;have HE:=hid hE;clear hG hO4 hE kB df;go_wp2_with (refine bL cC.out (by decide) p rfl _ _ rfl rfl rfl ?_; intro w5 bo bd; have cf:=hid bo; have px:=hid bd; clear bo bd)
 exact bodyPost_ret (gB rfl _ rfl cf.out) rfl (HE.out w5 px.out)
theorem VQ (M:Mp) (b:Nat) (q:Pa) (s:T) (hm:M.at_ b=some (.ext q s)) (k:Nat) (hk:k<=q.length) (w:World) (hi:Inv M w) :
  Calls prog 161 #[.agg #[.pointer (some ⟨b,0,none⟩)],.int .i64 k] w (dz M w (wrap (q.drop k) s)):=by
 obtain ⟨w2,hw2,ap,am,hb2,hs2⟩:=mV w (some ⟨b,0,none⟩);have hi2:=hi.below hb2;obtain ⟨pa,pn,pc,c1,hP⟩:=hi2.path hm;obtain ⟨ka,kn,kc,c3,hK⟩:=hi2.kids hm;obtain ⟨kb,ko,p0,rfl,cL,gw,hk0,hT0⟩:=hK.at' 0 (by rw [<-hK.len]; exact Nat.one_pos);have hkn:kn=1:=hK.len.symm;have hkc:=hK.1;have hkm:=hK.2.1;unfold maxLen at hkm;rw [Nat.add_zero] at hk0;have cg:IsT M p0 s:=hT0;have hl:q.length=pn:=hP.1.len;have hcap:=hP.1.1;have hmx:=hP.1.2.1;unfold maxLen at hmx;rw [hl] at hk;have HK:=hid (dV M _ _ w2 hi2 (jZ hi2 hm));have h0:=aV (j:=0) ap rfl
 have H3:Hid (∀ w3,Below w2.heap.size w2 w3->Calls prog 129 #[.slice (eP pa pc k) (pn-k) (pc-k),.agg #[.pointer p0]] w3 (dz M w3 (wrap (q.drop k) s))/\(∀ e w9,dz M w3 (wrap (q.drop k) s) e w9->∃ p,e = .returned (tv p)/\Rg.Own w9 (w.heap.size+1) #[.pointer none] 46/\∀ ag,Rg.Upd w9 (w.heap.size+1) ag->dz M w (wrap (q.drop k) s) (.returned (tv p)) ag)/\
   w3.cell? ⟨w.heap.size,0,none⟩=some (.pointer (some ⟨b,0,none⟩))/\w3.cell? ⟨b,3,none⟩=some (.slice (some ⟨kb,ko,none⟩) kn kc)/\w3.cell? ⟨kb,ko,none⟩=some (.pointer p0)):=hid (λw3 hb3 =>
  ⟨uG M _ _ _ _ _ _ w3 (hi2.below hb3) ((hP.fr hi2 (Fr.below M hb3)).from' k hk) cg,
   λe w9 hG=>finish hi (Fr.below M (bst hb2 hb3)) (bst hb2 hb3) hG (am.below hb3) (jv _) (by omega) (hi.free (by omega)),
   aX hb3 h0,aX hb3 c3,aX hb3 hk0⟩)
 have H0:=hid ap;clear ap am hb2 hs2 hi hi2 hP hl hK hT0 cg c3 hk0 h0;subst hw2;go_enter func161,ntmps161;go_wp2_with (first
  | (refine aB (bA _ _ _ (w.heap.size+1) (by simp) rfl) ?_)
  | (refine aB (jP fZ iL hk ⟨_,_,rfl,rfl,rfl⟩) ?_)
  | (refine aB (aW (aV (j:=0) H0.out rfl) ⟨_,rfl,rfl⟩) ?_))
 refine HK.out.mono ?_;rintro e w3 ⟨rfl,hb3⟩;obtain ⟨HB,HF,d0,d3,e0⟩:=H3.out w3 hb3;replace HB:=hid HB;replace HF:=hid HF;clear hb3 H3 c1;unfold fB;go_wp2_with (refine aB (aW e0 ⟨_,rfl,rfl⟩) ?_)
 refine HB.out.mono ?_;intro e w9 hG;obtain ⟨p9,rfl,aw,hE⟩:=HF.out e w9 hG;have cl:=hid aw;have HE:=hid hE;clear hG aw hE;go_wp2_with (refine bL cl.out (by decide) p9 rfl _ _ rfl rfl rfl ?_; intro ag ai al; have cq:=hid ai; have ej:=hid al; clear ai al)
 exact bodyPost_ret (gB rfl _ rfl cq.out) rfl (HE.out ag ej.out)
theorem fQ (ks:Fin 16->T):(ji (.br ks)).length=16:=by simp [ji]
theorem kP (ks:Fin 16->T) (i:Fin 16):(ji (.br ks)).getD i.val .nil=ks i:=by
 have hi:=i.isLt;show ((List.finRange 16).map ks).getD i.val .nil=ks i;rw [List.getD_eq_getElem?_getD,List.getElem?_map,List.getElem?_eq_getElem (by simp)];simp
theorem xA (ks:Fin 16->T) (i:Fin 16) (t:T):(ji (.br ks)).set i.val t=ji (.br λj=>if j=i then t else ks j):=by
 apply List.ext_getElem?;intro j;by_cases hj:j<16
 .have h1:=kP (λj=>if j=i then t else ks j) ⟨j,hj⟩;have h2:=kP ks ⟨j,hj⟩;have hl1:j<(ji (.br ks)).length:=by rw [fQ]; exact hj
  have hl2:j<(ji (.br λj=>if j=i then t else ks j)).length:=by rw [fQ]; exact hj
  rw [List.getD_eq_getElem?_getD,List.getElem?_eq_getElem hl2] at h1;rw [List.getD_eq_getElem?_getD,List.getElem?_eq_getElem hl1] at h2;rw [List.getElem?_eq_getElem hl2];by_cases e:i.val=j
  .subst e;rw [List.getElem?_set_self hl1];simp only [Option.getD_some] at h1;rw [h1]; simp
  .rw [List.getElem?_set_ne e,List.getElem?_eq_getElem hl1];have:(⟨j,hj⟩:Fin 16)≠i:=λh=>e (by rw [<-h]);simp only [Option.getD_some] at h1 h2;rw [h1,h2,if_neg this]
 .rw [List.getElem?_eq_none (by rw [List.length_set,fQ]; omega),List.getElem?_eq_none (by rw [fQ]; omega)]
theorem Xw (w:World) (p q:aL):∃ w2,w2=((w.alloc (.cells #[.pointer p] 46)).alloc (.cells #[.pointer q] 46)).alloc (.cells #[.pointer none] 46)/\Rg.Own w2 w.heap.size #[.pointer p] 46/\Rg.Own w2 (w.heap.size+1) #[.pointer q] 46/\Rg.Own w2 (w.heap.size+2) #[.pointer none] 46/\Below w.heap.size w w2/\w2.heap.size=w.heap.size+3:=by
 have h2:=Rg.Own.new (w.alloc (.cells #[.pointer p] 46)) #[.pointer q] 46;have h3:=Rg.Own.new ((w.alloc (.cells #[.pointer p] 46)).alloc (.cells #[.pointer q] 46)) #[.pointer none] 46;rw [show (w.alloc (.cells #[.pointer p] 46)).heap.size=w.heap.size+1 by simp] at h2;rw [show ((w.alloc (.cells #[.pointer p] 46)).alloc (.cells #[.pointer q] 46)).heap.size=w.heap.size+2 by simp] at h3
 exact ⟨_,rfl,((Rg.Own.new _ _ _).below (al1 _ _)).below (al1 _ _),h2.below (al1 _ _),h3,(al2 _ _ _).alloc (by simp; omega) _,by simp⟩
theorem Lv (M:Mp) (b:Nat) (ks:Fin 16->T) (hm:M.at_ b=some (.br ks)) (i:Fin 16) (p:aL) (t:T) (ht:IsT M p t) (w:World) (hi:Inv M w) :
  Calls prog 85 #[.agg #[.pointer (some ⟨b,0,none⟩)],.int .u8 i.val,.agg #[.pointer p]] w (dz M w (.br λj=>if j=i then t else ks j)):=by
 obtain ⟨w2,hw2,ap,am,hO2,hb2,hs2⟩:=Xw w (some ⟨b,0,none⟩) p;have hi2:=hi.below hb2;obtain ⟨ka,kn,kc,c3,hK⟩:=hi2.kids hm;have hkn:kn=16:=by rw [<-hK.len]; exact fQ ks
 subst hkn;obtain ⟨ps,IO,m6⟩:=hK.ptrs;obtain ⟨kb,ko,p0,rfl,_⟩:=hK.at' 0 (by omega);have hpl:ps.length=16:=IO.2.2.1;have HC:Hid (Calls prog 125 #[.slice (some ⟨kb,ko,none⟩) 16 kc] w2 λe w'=>∃ g cap,e = .returned (.slice (some ⟨g,0,none⟩) 16 cap)/\w2.heap.size<=g/\RowK w' g cap ps/\Below w2.heap.size w2 w'):=hid (by
  have:=Cg ⟨kb,ko,none⟩ 16 kc ps w2 IO (by omega);refine this.mono ?_;rintro e w' ⟨g,cap,rfl,h1,h2,h3⟩;exact ⟨g,cap,by rw [hpl],h1,h2,h3⟩)
 have hlt:=i.isLt;have hiv:((dG i).toNat:Nat)=i.val:=mO i;obtain ⟨k,hk⟩:=aA i.val
 have H3:Hid (∀ g cap w4,w2.heap.size<=g->RowK w4 g cap ps->Below w2.heap.size w2 w4->Rg.Own w4 (w.heap.size+1) #[.pointer p] 46/\16<=cap/\cap<=maxLen/\∀ w5,RowK w5 g cap (ps.set k p)->Rg.Upd w4 g w5->∃ M5,
   Calls prog 126 #[.slice (some ⟨g,0,none⟩) 16 cap] w5 (dz M5 w5 (.br λj=>if j=i then t else ks j))/\
   ∀ e w9,dz M5 w5 (.br λj=>if j=i then t else ks j) e w9->∃ p,e = .returned (tv p)/\Rg.Own w9 (w.heap.size+2) #[.pointer none] 46/\∀ ag,Rg.Upd w9 (w.heap.size+2) ag->dz M w (.br λj=>if j=i then t else ks j) (.returned (tv p)) ag):=hid (λg cap w4 hg hR hb4=>by
  refine ⟨am.below hb4,by have:=hR.ptrs.1; omega,hR.ptrs.2.1,λw5 oR hu=>?_⟩;have hbw:=hu.below (bst hb2 hb4) (show w.heap.size<=g by omega);have hi5:Inv (plus M (λk=>k=g)) w5:=(hi.below hbw).plus (λk hk=>by rw [hk]; exact oR.lt);have xt:Ks (plus M (λk=>k=g)) w5 (some ⟨g,0,none⟩) 16 cap (ji (.br λj=>if j=i then t else ks j)):=by
   have h1:=oR.ptrs;rw [List.length_set,hpl] at h1;rw [<-xA,hk];exact h1.ks ((m6.set k ht).mono λ_ _ h=>h) (λad e _=>by
    obtain rfl:=Option.some.inj e;exact Or.inr rfl)
  have bo:=(hO2.below hb4).upd hu (by omega);exact ⟨plus M (λk=>k=g),jT _ _ _ _ _ w5 hi5 xt,λe w9 hG=>finish hi ((Fr.below M hbw).plus (λk hk=>Or.inl (by omega))) hbw hG bo (jv _) (by omega) (λh=>h.elim (hi.free (by omega)) (λh=>by omega))⟩)
 rw [hk] at hlt ⊢;have h0:=aV (j:=0) ap rfl;have py:=hid hpl;clear ap am hO2 hb2 hs2 hi hi2 hK IO m6 ht hpl hiv hk hm;obtain ⟨R,hRr⟩:=aA (T.br λj=>if j=i then t else ks j)
 rw [hRr] at H3 ⊢;clear hRr;subst hw2;go_enter func85,ntmps85;go_wp2_with (refine aB (bA _ _ _ (w.heap.size+2) (by simp) rfl) ?_)
 refine HC.out.mono ?_;rintro e w4 ⟨g,cap,rfl,hg,hR,hb4⟩;obtain ⟨hO4,hcap,hcm,H5⟩:=H3.out g cap w4 hg hR hb4;unfold maxLen at hcm;replace H5:=hid H5;have cC:=hid hO4;have HR4:=hid hR;clear H3 HC hg hR hb4 hO4 c3 h0;go_wp2_with (first
  | (refine aB (aW (aV (j:=0) cC.out rfl) ⟨_,rfl,rfl⟩) ?_)
  | (refine tQ HR4.out (i:=k) (by rw [py.out]; exact hlt) p rfl _ _ rfl rfl rfl ?_; intro w5 oR bd; have dt:=hid oR; have px:=hid bd; clear oR bd))
 obtain ⟨M5,HB,HF⟩:=H5.out w5 dt.out px.out;replace HB:=hid HB;replace HF:=hid HF;clear H5 cC HR4 dt px;refine HB.out.mono ?_;intro e w9 hG;obtain ⟨p9,rfl,aw,hE⟩:=HF.out e w9 hG;have cl:=hid aw;have HE:=hid hE;clear hG aw hE;go_wp2_with (refine bL cl.out (by decide) p9 rfl _ _ rfl rfl rfl ?_; intro ag ai al; have cq:=hid ai; have ej:=hid al; clear ai al)
 exact bodyPost_ret (gB rfl _ rfl cq.out) rfl (HE.out ag ej.out)
structure St (M:Mp) (w:World) (M':Mp) (w':World):Prop where
 f:Fr M M' w w'
 i:Inv M' w'
 b:Below w.heap.size w w'
 i0:Inv M w
theorem St.refl {M:Mp} {w:World} (hi:Inv M w):St M w M w:=⟨Fr.refl _ _,hi,aI,hi⟩
theorem St.below {M M1:Mp} {w w1 w2:World} (s:St M w M1 w1) (h:Below w1.heap.size w1 w2):St M w M1 w2:=⟨s.f.trans s.i0 (Fr.below M1 h),s.i.below h,bst s.b h,s.i0⟩
theorem St.got {M M1:Mp} {t:T} {e:Ending} (s:St M w M1 w1) (h:dz M1 w1 t e w2):∃ p M2,e = .returned (tv p)/\IsT M2 p t/\St M w M2 w2/\Fr M1 M2 w1 w2/\Below w1.heap.size w1 w2:=by
 obtain ⟨p,M2,he,ht,f,i,b⟩:=h;exact ⟨p,M2,he,ht,⟨s.f.trans s.i0 f,i,bst s.b b,s.i0⟩,f,b⟩
theorem St.upd {M M1:Mp} {w w1 w2:World} {g:Nat} (s:St M w M1 w1) (hu:Rg.Upd w1 g w2) (hg:w.heap.size<=g) (hf:¬ M1.ft g):St M w M1 w2:=⟨s.f.upd hu hg,s.i.upd hu hf,hu.below s.b hg,s.i0⟩
theorem St.plus {M M1:Mp} {w w1:World} (s:St M w M1 w1) {S:Nat->Prop} (hS:∀ k,S k->(w.heap.size<=k\/iX w k)/\k<w1.heap.size):St M w (Tm.plus M1 S) w1:=⟨s.f.plus λk hk=>(hS k hk).1,s.i.plus λk hk=>(hS k hk).2,s.b,s.i0⟩
theorem St.bytes {M M1:Mp} (s:St M w M1 w1) {l:aN} (h:bf w1 a n c l):St M w (Tm.plus M1 (inS a n)) w1:=s.plus λk hk=>⟨by
  obtain ⟨⟨j,x,hc⟩,_⟩:=wE h hk;exact iX.below ⟨j,x,hc⟩ s.b,(wE h hk).2⟩
structure Bx (M:Mp) (w:World) (g:Nat) (cs:aO) (t:TypeId):Prop where
 o:Rg.Own w g cs t
 n:¬ M.ft g
 h:∀ (j:Nat) (x:Int),cs[j]? ≠ some (Value.int .u8 x)
theorem Bx.got {M M':Mp} {cs:aO} (h:Bx M w g cs t) (f:Fr M M' w w') (b:Below w.heap.size w w'):Bx M' w' g cs t:=⟨h.o.below b,f.box h.n h.o.1 (fO h.o h.h),h.h⟩
theorem Bx.upd {M:Mp} {w w':World} {g b:Nat} {cs:aO} {t:TypeId} (h:Bx M w g cs t) (hu:Rg.Upd w b w') (hne:g≠b):Bx M w' g cs t:=⟨h.o.upd hu hne,h.n,h.h⟩
theorem Bx.below {M:Mp} {w w':World} {g:Nat} {cs:aO} {t:TypeId} (h:Bx M w g cs t) (b:Below w.heap.size w w'):Bx M w' g cs t:=⟨h.o.below b,h.n,h.h⟩
theorem Bx.plus {M:Mp} {cs:aO} (h:Bx M w g cs t) (hS:¬ S g):Bx (Tm.plus M S) w g cs t:=⟨h.o,λe=>e.elim h.n hS,h.h⟩
structure Rx (M:Mp) (w:World) (g:Nat) (ps:List (aL)):Prop where
 o:Rg.Own w g (uJ ps) 46
 n:¬ M.ft g
 m:ps.length<=maxLen
theorem XQ (ps:List (aL)):∀ (j:Nat) (x:Int),(uJ ps)[j]? ≠ some (Value.int .u8 x):=λj x h=>by
 simp [uJ] at h
theorem Rx.got {M M':Mp} {ps:List (aL)} (h:Rx M w g ps) (f:Fr M M' w w') (b:Below w.heap.size w w'):Rx M' w' g ps:=⟨h.o.below b,f.box h.n h.o.1 (fO h.o (XQ ps)),h.m⟩
theorem Rx.below {M:Mp} {w w':World} {g:Nat} {ps:List (aL)} (h:Rx M w g ps) (b:Below w.heap.size w w'):Rx M w' g ps:=⟨h.o.below b,h.n,h.m⟩
theorem TM (ps:List (aL)) (i:Nat) (p:aL):(uJ ps).setIfInBounds i (.pointer p)=uJ (ps.set i p):=by
 unfold uJ;rw [List.map_set];simp
theorem Rx.ks {M:Mp} {ps:List (aL)} {l:List T} (h:Rx M w g ps) (ha:Are M ps l):Ks (Tm.plus M (λk=>k=g)) w (some ⟨g,0,none⟩) ps.length ps.length l:=by
 refine ⟨aH,h.m,ha.1.symm,λe=>(by cases e),λj hj=>⟨g,0,_,rfl,h.o.1,Or.inr rfl,?_,Ba (ha.2 j hj)⟩⟩;rw [Nat.zero_add,cell_of_row w g _ _ _ _ h.o.2];simp [uJ,List.getD,hj]
theorem tZ {a:Act} {M:Mp} (hw:Region.wanted o (yielded ops a.tmps)=true) {ps:List (aL)} (h:Rx M w g ps) (hof:i<ps.length) (p:aL)
  (ho:∃ x y,o.op = .store 46 x y/\a.eval x = .pointer (some ⟨g,i,none⟩)/\a.eval y=tv p)
  (hQ:∀ w',Rx M w' g (ps.set i p)->Rg.Upd w g w'->K (a.put o.dst undef) w'):if Region.wanted o (yielded ops a.tmps)=true then Oper.wp prog o a w K Q else K (a.put o.dst undef) w :=
 iO hw h.o (off:=i) (by simpa [uJ] using hof) p ho (λw' z8 hu=>hQ w' ⟨by rw [<-TM]; exact z8,h.n,by simpa using h.m⟩ hu)
def wO:List (aL):=List.replicate 16 none
theorem oM:wO.length=16:=rfl
theorem Pf (b:Nat) (hb:b=w.heap.size) (ho:∃ x y,o.op = .makeSlice 136 x y/\ev x = .int .i64 16/\ev y = .int .i64 16) :
  (execOp ev o).run prog w = .ok (.value (.slice (some ⟨b,0,none⟩) 16 16)) (w.alloc (.cells (uJ wO) 46)):=by
 obtain ⟨x,y,ho,hx,hy⟩:=ho;subst hb;unfold execOp;rw [ho];dsimp only;rw [hx,hy];kernel_rfl
theorem NY (j:Nat):wO.getD j none=none:=by
 unfold wO;rw [List.getD_eq_getElem?_getD,List.getElem?_replicate];split <;> rfl
theorem Kv (j:Nat):(List.replicate 16 T.nil).getD j T.nil=T.nil:=by
 rw [List.getD_eq_getElem?_getD,List.getElem?_replicate];split <;> rfl
theorem Uf (M:Mp):Are M wO (List.replicate 16 .nil):=⟨rfl,λj hj=>by rw [NY,Kv]; exact rfl⟩
theorem Xc (i j:Fin 16) (a b:T) (hij:i≠j):((List.replicate 16 T.nil).set i.val a).set j.val b=ji (two i j a b):=by
 have e:List.replicate 16 T.nil=ji (.br λ_=>.nil):=by
  show List.replicate 16 T.nil=(List.finRange 16).map (λ_=>T.nil);rfl
 rw [e,xA,xA];unfold two;congr 2;funext k;by_cases h1:k=j
 .subst h1;rw [if_pos rfl,if_neg (λe=>hij e.symm),if_pos rfl]
 .rw [if_neg h1,if_neg h1]
structure Bo (g:Nat) (w w':World):Prop where
 size:w.heap.size<=w'.heap.size
 block:∀ k,k<w.heap.size->k≠g->w'.heap[k]? = w.heap[k]?
 os:w'.os=w.os
 tape:w'.tape=w.tape
 output:w'.output=w.output
theorem Bo.of (h:Below w.heap.size w w'):Bo g w w':=⟨h.size,λk hk _=>h.block k hk,h.os,h.tape,h.output⟩
theorem Bo.then (h:Bo g w w1) (hb:Below w1.heap.size w1 w2):Bo g w w2:=⟨Nat.le_trans h.size hb.size,λk hk hg=>(hb.block k (aJ hk h.size)).trans (h.block k hk hg),hb.os.trans h.os,hb.tape.trans h.tape,hb.output.trans h.output⟩
theorem Bo.upd (h:Bo g w w1) (hu:Rg.Upd w1 g w2):Bo g w w2:=⟨by rw [hu.size]; exact h.size,λk hk hg=>(hu.block k hg).trans (h.block k hk hg),hu.os.trans h.os,hu.tape.trans h.tape,hu.output.trans h.output⟩
theorem Bo.below (h:Bo g w w') (hb:Below B w0 w) (hB:B<=w.heap.size) (hg:B<=g):Below B w0 w':=⟨h.os.trans hb.os,h.tape.trans hb.tape,h.output.trans hb.output,Nat.le_trans hb.size h.size,λk hk=>(h.block k (by omega) (by omega)).trans (hb.block k hk)⟩
theorem gF (h:Bo g w w') {b o:Nat} (hne:b≠g) (hc:w.cell? ⟨b,o,none⟩=some v):w'.cell? ⟨b,o,none⟩=some v:=by
 rw [<-hc];exact World.cell?_of_block (w:=w) (h.block b (World.block_lt_of_cell? w _ hc) hne)
end Tm
end
section
open Go.RowKit
namespace Ky
open Ni
def kc (k:aN):aO:=(k.map λb=>Value.int .u8 b.toNat).toArray
theorem jy (k:aN):(kc k).size=k.length:=by simp [kc]
theorem GZ:(prog.info? 24).map (·.size)=some 32:=by kernel_rfl
theorem jR (k:aN) (h:k.length=32):(prog.info? 24).map (·.size)=some (kc k).size:=by rw [jy,h]; exact GZ
def bG (k:aN):aN:=Ni.gW ⟨k.toArray⟩
theorem vM (k:aN) (hk:k.length=32) (w:World) :
  Calls prog 42 #[.agg (kc k)] w (UK w (bG k)):=by
 have h0:bf (w.alloc (.cells (kc k) 24)) (some ⟨w.heap.size,0,none⟩) k.length k.length k:=bf.new w k (by unfold maxLen; omega) _ _ rfl;rw [hk] at h0;have hcv:=lF h0;obtain ⟨s,hs⟩:=aA (⟨k.toArray⟩:aM)
 have hsz:s.size=32:=by rw [<-hs]; show k.toArray.size=32; simp [hk]
 have HP:Hid (bG k=Ni.gW s):=hid (by unfold bG; rw [hs]);have IR:=hid (λwx=>Ni.Bw s (by omega) wx);rw [hs] at hcv;obtain ⟨C,hC⟩:=aA (kc k)
 rw [hC] at hcv ⊢;clear h0 hs hC hsz hk;go_enter func42,ntmps42;go_wp2_with fail
 refine (IR.out _).mono ?_;rintro e w1 ⟨a,n,cap,rfl,hx,hb⟩;go_wp2;go_ret;exact ⟨a,n,cap,rfl,by rw [HP.out]; exact hx,((Below.refl w.heap.size w).alloc aH _).trans (hb.mono (by simp))⟩
def zk:aN:=List.replicate 32 0
theorem fV {rest:List Oper} {a:Act} (hgd:o.guard=none) (v:Value) (w':World)
  (hr:(execOp a.eval o).run P w = .ok (.value v) w') (h:wpList P ops Q rest (a.put o.dst v) w'):wpList P ops Q (o::rest) a w :=
 wpList_plain hgd λK hK=>by
  unfold Oper.wp;rw [hr];exact hK _ _ h
theorem CS (ev:Operand->Value) (o:Oper) (ho:o.op = .alloc 24) (w:World) :
  (execOp ev o).run prog w = .ok (.value (.pointer (some ⟨w.heap.size,0,none⟩))) (w.alloc (.cells (kc zk) 24)):=by
 unfold execOp;rw [ho];kernel_rfl
theorem Xe:(kc zk).size=32:=by rw [jy]; rfl
theorem fM (k:aN) (hk:k.length=32):(bG k).length=64:=by
 unfold bG;rw [gK];show 2*k.toArray.size=64;simp [hk]
def pc (k:aN) (j:Nat):List Value:=((bG k).take j).map λx=>Value.int .u8 x.toNat
theorem WH (k:aN) (hk:k.length=32) (j:Nat) (hj:j<64) (V:Int) (hV:V=(dR ⟨k.toArray⟩ j:Nat)):pc k (j+1)=pc k j++[.int .u8 V]:=by
 unfold pc;rw [qZ _ _ (by rw [fM k hk]; exact hj),List.map_append,List.map_cons,List.map_nil];have:((bG k).getD j 0).toNat=dR ⟨k.toArray⟩ j:=lV _ _ (by show j<2*k.toArray.size; simp [hk]; omega);rw [this,hV]
theorem TQ (k:aN) (j:Nat) (h:j%2=0):dR ⟨k.toArray⟩ j=(k.getD (j/2) 0).toNat/16:=by unfold dR; rw [if_pos h]
theorem Vx (k:aN) (j:Nat) (h:¬ j%2=0):dR ⟨k.toArray⟩ j=(k.getD (j/2) 0).toNat%16:=by unfold dR; rw [if_neg h]
theorem Dk (k:aN) (i:Nat) (hi:i<k.length) (w:World):(part 5 (kc k) i).run prog w = .ok (.int .u8 (k.getD i 0).toNat) w:=by
 have hagg:(isAgg 5).run prog w = .ok false w:=by
  unfold isAgg;rw [Sem.run_bind,run_underlying underlying5 w];simp
 have hg:(kc k)[i]? = some (.int .u8 (k.getD i 0).toNat):=by simp [kc,List.getD,hi]
 unfold part;rw [Sem.run_bind,hagg];simp [hg]
theorem Jw:prog.cellsOf 5=1:=by kernel_rfl
theorem DJ:prog.eqGuardType prog.depth 24=false:=by kernel_rfl
theorem zQ (k:aN):dh (bG k)=true:=sG _
theorem Jh (ev:Operand->Value) (o:Oper) (x:Operand) (w:World) (g:Nat) (l:aN) (ho:o.op = .load 24 x) (hx:ev x = .pointer (some ⟨g,0,none⟩)) (hr:(loadVar 24 ⟨g,0,none⟩).run prog w = .ok (.agg (kc l)) w) :
  (execOp ev o).run prog w = .ok (.value (.agg (kc l))) w:=by
 unfold execOp;simp only [ho,hx,Instr.loadAt,Instr.sureAddr,Sem.run_bind,Sem.run_pure,Result.andThen_ok,hr]
theorem Li (w:World) (g:Nat) (l:aN) (hl:l.length=32) (hg:w.heap[g]? = some (.cells (kc l) 24 (0,0))):(loadVar 24 ⟨g,0,none⟩).run prog w = .ok (.agg (kc l)) w :=
 run_loadVar_row (P:=prog) w g 24 24 (kc l) (0,0) _ hg underlying24 rfl (jR l hl)
end Ky
end
section
open Go.RowKit
namespace Tm
open Tr Ni Pk
theorem DL {b:Nat} (h:Rg.Own w b #[.string x] t) (s:aM):(Instr.storeAt 9 (.pointer (some ⟨b,0,none⟩)) (.string s)).run prog w = .ok () (w.setCell ⟨b,0,none⟩ (.string s)):=by
 have hc:w.cell? ⟨b,0,none⟩=some (.string x):=aV (j:=0) h rfl;have hz:w.frozen? ⟨b,0,none⟩=false:=fJ h;simp [go_sem,hc,hz]
theorem zP {a:Act} (hw:Region.wanted o (yielded ops a.tmps)=true) {b:Nat} {x:aM} (hg:Rg.Own w b #[.string x] t) (s:aM)
  (ho:∃ x y,o.op = .store 9 x y/\a.eval x = .pointer (some ⟨b,0,none⟩)/\a.eval y = .string s)
  (h:∀ w',Rg.Own w' b #[.string s] t->Rg.Upd w b w'->K (a.put o.dst undef) w'):if Region.wanted o (yielded ops a.tmps)=true then Oper.wp prog o a w K Q else K (a.put o.dst undef) w:=by
 obtain ⟨x,y,ho,hx,hy⟩:=ho;refine Rg.want hw ?_;unfold Oper.wp execOp;simp only [ho,hx,hy,Sem.run_bind,Sem.run_pure,Result.andThen_ok,DL hg s];exact h _ (bZ hg _) (bM _ _ _ _)
theorem CZ {rest:List Oper} {b:Nat} (h:Rg.Own w b #[.string x0] t) (s:aM)
  (hgd:o.guard=none) (x y:Operand) (ho:o.op = .store 9 x y) (hx:act.eval x = .pointer (some ⟨b,0,none⟩)) (hy:act.eval y = .string s)
  (hQ:∀ w',Rg.Own w' b #[.string s] t->Rg.Upd w b w'->wpList prog ops Q rest (act.put o.dst undef) w'):wpList prog ops Q (o::rest) act w :=
 wpList_plain hgd λK hK=>by
  unfold Oper.wp execOp;simp only [ho,hx,hy,Sem.run_bind,Sem.run_pure,Result.andThen_ok,DL h s];exact hK _ _ (hQ _ (bZ h _) (bM _ _ _ _))
theorem FY {b:Nat} {o:Nat} (h:w.cell? ⟨b,o,none⟩=some (.string x)):(Instr.loadAt 9 (.pointer (some ⟨b,o,none⟩))).run prog w = .ok (.string x) w:=by
 simp [go_sem,h]
theorem eH {b:Nat} {s:aM} (hc:w.cell? ⟨b,off,none⟩=some (.string s)) (ho:∃ x,o.op = .load 9 x/\ev x = .pointer (some ⟨b,off,none⟩)) :
  (execOp ev o).run prog w = .ok (.value (.string s)) w:=by
 obtain ⟨x,ho,hx⟩:=ho;unfold execOp;simp only [ho,hx,Sem.run_bind,Sem.run_pure,Result.andThen_ok,FY hc]
theorem bJ (hk:k.length=32) (hg:w.heap[g]? = some (.cells (Ky.kc k) 24 (0,0))) (ho:∃ x,o.op = .load 24 x/\ev x = .pointer (some ⟨g,0,none⟩)) :
  (execOp ev o).run prog w = .ok (.value (.agg (Ky.kc k))) w:=by
 obtain ⟨x,ho,hx⟩:=ho;exact Ky.Jh ev o x w g k ho hx (Ky.Li w g k hk hg)
theorem nX {b:Nat} {cs:aO} (h:Bo g w w') (hO:Rg.Own w b cs t) (hne:b≠g):Rg.Own w' b cs t:=⟨aJ hO.1 h.size,(h.block b hO.1 hne).trans hO.2⟩
theorem Te {fn:Func} {q u:Tmp} (hf:fn.results = #[.cell q 9,.tmp u]) (tmps:aO) {b:Nat} (hp:tmps.getD q undef = .pointer (some ⟨b,0,none⟩)) (h:Rg.Own w b #[.string x] 9) :
  (results fn tmps).run prog w = .ok (.tuple #[.string x,tmps.getD u undef]) w:=by
 have hp':tmps[q]?.getD undef = .pointer (some ⟨b,0,none⟩):=by simpa using hp
 have hc:w.cell? ⟨b,0,none⟩=some (.string x):=aV (j:=0) h rfl;have hagg:(isAgg 9).run prog w = .ok false w:=by kernel_rfl
 have hl:(loadVar 9 ⟨b,0,none⟩).run prog w = .ok (.string x) w:=by
  have:=FY (b:=b) (o:=0) hc;simpa only [Instr.loadAt,Instr.sureAddr,Sem.run_bind,Sem.run_pure,Result.andThen_ok] using this
 simp [results,hf,hp',asAddr,hl]
open Ky
def iF (x:Tr.Pair):List Value:=(x.1.map λb=>Value.int .u8 b.toNat)++[.string x.2]
def dN (x:Tr.Pair):aO:=(iF x).toArray
theorem fD {x:Tr.Pair} (h:x.1.length=32):(iF x).length=33:=by simp [iF,h]
theorem nJ (x:Tr.Pair):∀ u∈iF x,u.oneCell'=true:=λu hu=>by
 unfold iF at hu;rw [List.mem_append] at hu;rcases hu with hu | hu
 .obtain ⟨b,_,rfl⟩:=List.mem_map.1 hu;rfl
 .obtain rfl:=List.mem_singleton.1 hu;rfl
theorem xU:(prog.info? 60).map (λi=>(i.size,i.bytes))=some (33,48):=by kernel_rfl
theorem AP:((prog.info? 60).bind (·.zero)).isSome=true:=by kernel_rfl
theorem yZ:((prog.info? 60).bind (·.zero)).map (·.cells.size)=some 33:=by kernel_rfl
theorem qP:∃ i z,prog.info? 60=some i/\i.zero=some z/\i.size=33/\i.bytes=48/\z.cells.size=33:=by
 have h1:=xU;have h2:=AP;have h3:=yZ;cases hi:prog.info? 60 with
 | none=>rw [hi] at h1; simp at h1
 | some i =>
  rw [hi] at h1 h2 h3;simp at h1 h2 h3;cases hz:i.zero with
  | none=>rw [hz] at h2; simp at h2
  | some z =>
   rw [hz] at h3;simp at h3;exact ⟨i,z,rfl,hz,h1.1,h1.2,h3⟩
def cK (w:World) (b o:Nat) (x:Tr.Pair):Prop:=w.rangeAt b o (iF x)
theorem cK.below {b o:Nat} {x:Tr.Pair} (h:cK w b o x) (hb:Below w.heap.size w w'):cK w' b o x:=λj v hv=>aX hb (h j v hv)
theorem cK.key {b o:Nat} {x:Tr.Pair} (h:cK w b o x):w.rangeAt b o (x.1.map λb=>Value.int .u8 b.toNat):=λj v hv=>h j v (by
 unfold iF;have:=(List.getElem?_eq_some_iff.1 hv).1;rw [List.getElem?_append_left this]; exact hv)
theorem cK.val {b o:Nat} {x:Tr.Pair} (h:cK w b o x) (hk:x.1.length=32):w.cell? ⟨b,o+32,none⟩=some (.string x.2):=h 32 _ (by
 unfold iF;rw [List.getElem?_append_right (by simp [hk])];simp [hk])
theorem cK.own {b:Nat} {x:Tr.Pair} (h:Rg.Own w b (dN x) t):cK w b 0 x:=λj v hv=>by
 rw [Nat.zero_add];exact aV h (by unfold dN; simpa using hv)
theorem dU {ev:Operand->Value} {o:Oper} {w:World} {b off:Nat} {x:Tr.Pair} (hk:x.1.length=32) (h:cK w b off x) (ho:∃ y,o.op = .load 60 y/\ev y = .pointer (some ⟨b,off,none⟩)) :
  (execOp ev o).run prog w = .ok (.value (.agg (dN x))) w:=by
 obtain ⟨y,ho,hx⟩:=ho;have hl:=run_loadAt_mid (P:=prog) w b off 60 (iF x) _ h underlying60 rfl (by
  have:=xU;rw [fD hk];cases hi:prog.info? 60 with
  | none=>rw [hi] at this; simp at this
  | some i=>rw [hi] at this; simp at this; simp [this.1])
 unfold execOp;simp only [ho,hx,Sem.run_bind,Sem.run_pure,Result.andThen_ok,hl];rfl
theorem bH {b:Nat} (hk:k.length=32) (h:w.rangeAt b off (k.map λb=>Value.int .u8 b.toNat)) (ho:∃ y,o.op = .load 24 y/\ev y = .pointer (some ⟨b,off,none⟩)) :
  (execOp ev o).run prog w = .ok (.value (.agg (kc k))) w:=by
 obtain ⟨y,ho,hx⟩:=ho;have hl:=run_loadAt_mid (P:=prog) w b off 24 (k.map λb=>Value.int .u8 b.toNat) _ h underlying24 rfl (by rw [GZ]; simp [hk]);unfold execOp;simp only [ho,hx,Sem.run_bind,Sem.run_pure,Result.andThen_ok,hl];rfl
theorem sO {α:Type} (l:List α) (h:l.length=32):∃ a0 a1 a2 a3 a4 a5 a6 a7 b0 b1 b2 b3 b4 b5 b6 b7 c0 c1 c2 c3 c4 c5 c6 c7 d0 d1 d2 d3 d4 d5 d6 d7,l=[a0,a1,a2,a3,a4,a5,a6,a7,b0,b1,b2,b3,b4,b5,b6,b7,c0,c1,c2,c3,c4,c5,c6,c7,d0,d1,d2,d3,d4,d5,d6,d7]:=by
 match l,h with
 | [a0,a1,a2,a3,a4,a5,a6,a7,b0,b1,b2,b3,b4,b5,b6,b7,c0,c1,c2,c3,c4,c5,c6,c7,d0,d1,d2,d3,d4,d5,d6,d7],_=>exact ⟨_,_,_,_,_,_,_,_,_,_,_,_,_,_,_,_,_,_,_,_,_,_,_,_,_,_,_,_,_,_,_,_,rfl⟩
theorem oC (k:aN) (v:aM) (h:k.length=32):prog.built 60 [(0,.agg (kc k)),(1,.string v)]=some (dN (k,v)):=by
 obtain ⟨a0,a1,a2,a3,a4,a5,a6,a7,b0,b1,b2,b3,b4,b5,b6,b7,c0,c1,c2,c3,c4,c5,c6,c7,d0,d1,d2,d3,d4,d5,d6,d7,rfl⟩:=sO k h;kernel_rfl
theorem jh {x:Tr.Pair} (hk:x.1.length=32) (b:Nat) (hb:b=w.heap.size) (ho:∃ y,o.op = .buildSlice 42 1 #[(0,y)]/\ev y = .agg (dN x)) :
  (execOp ev o).run prog w = .ok (.value (.slice (some ⟨b,0,none⟩) 1 1)) (w.alloc (.cells (dN x) 60)):=by
 obtain ⟨y,ho,hx⟩:=ho;obtain ⟨k,v⟩:=x;subst hb;unfold execOp;simp only [ho,List.map_toArray,List.map_cons,List.map_nil,hx];obtain ⟨a0,a1,a2,a3,a4,a5,a6,a7,b0,b1,b2,b3,b4,b5,b6,b7,c0,c1,c2,c3,c4,c5,c6,c7,d0,d1,d2,d3,d4,d5,d6,d7,rfl⟩:=sO k hk;kernel_rfl
def fT (w:World) (a:aL) (n c:Nat) (l:List Tr.Pair):Prop :=
 n<=c/\c<=maxLen/\l.length=n/\(a=none->c=0)/\(∀ x∈l,x.1.length=32)/\∀ j,j<n->∃ b off,a=some ⟨b,off,none⟩/\b<w.heap.size/\cK w b (off+j*33) (l.getD j ([],eB))
theorem fT.len {l:List Tr.Pair} (h:fT w a n c l):l.length=n:=h.2.2.1
theorem fT.keys {l:List Tr.Pair} (h:fT w a n c l):∀ x∈l,x.1.length=32:=h.2.2.2.2.1
theorem fT.at' {l:List Tr.Pair} (h:fT w a n c l) (j:Nat) (hj:j<n):∃ b off,a=some ⟨b,off,none⟩/\b<w.heap.size/\cK w b (off+j*33) (l.getD j ([],eB))/\(l.getD j ([],eB)).1.length=32:=by
 obtain ⟨b,off,e,hlt,hp⟩:=h.2.2.2.2.2 j hj;refine ⟨b,off,e,hlt,hp,h.keys _ ?_⟩;have hl:=h.len;rw [List.getD_eq_getElem?_getD,List.getElem?_eq_getElem (by omega)];exact List.getElem_mem _
theorem fT.below {w w':World} {a:aL} {n c:Nat} {l:List Tr.Pair} (h:fT w a n c l) (hb:Below w.heap.size w w'):fT w' a n c l :=
 ⟨h.1,h.2.1,h.2.2.1,h.2.2.2.1,h.2.2.2.2.1,λj hj=>by
  obtain ⟨b,off,e,hlt,hp⟩:=h.2.2.2.2.2 j hj;exact ⟨b,off,e,aJ hlt hb.size,hp.below hb⟩⟩
theorem fT.nil (w:World):fT w none 0 0 []:=⟨aH,Nat.zero_le _,rfl,λ_=>rfl,λ_ h=>(by cases h),λ_ h=>absurd h (Nat.not_lt_zero _)⟩
def rowP (l:List Tr.Pair):List Value:=l.flatMap iF
theorem sI (l:List Tr.Pair) (x:Tr.Pair):rowP (l++[x])=rowP l++iF x:=by simp [rowP]
theorem zX:∀ (l:List Tr.Pair),(∀ x∈l,x.1.length=32)->(rowP l).length=l.length*33
 | [],_=>rfl
 | x::l,h=>by
  show (iF x++rowP l).length=_;rw [List.length_append,fD (h x List.mem_cons_self),zX l (λy hy=>h y (List.mem_cons_of_mem _ hy)),List.length_cons];omega
theorem zn:∀ (l:List Tr.Pair),(∀ x∈l,x.1.length=32)->∀ j i,j<l.length->i<33->(rowP l)[j*33+i]? = (iF (l.getD j ([],eB)))[i]?
 | [],_,_,_,h,_=>absurd h (Nat.not_lt_zero _)
 | x::l,h,0,i,_,hi=>by
  show (iF x++rowP l)[0*33+i]? = _;rw [Nat.zero_mul,Nat.zero_add,List.getElem?_append_left (by rw [fD (h x List.mem_cons_self)]; exact hi)];rfl
 | x::l,h,j+1,i,hj,hi=>by
  show (iF x++rowP l)[(j+1)*33+i]? = _;have hx:=fD (h x List.mem_cons_self);rw [List.getElem?_append_right (by omega),hx,show (j+1)*33+i-33=j*33+i by omega,zn l (λy hy=>h y (List.mem_cons_of_mem _ hy)) j i (by simpa using hj) hi];rfl
theorem fT.ny {l:List Tr.Pair} (hk:∀ x∈l,x.1.length=32) (hl:l.length=n) (h:w.ownsRow B 60 33 v n (rowP l)):∃ a cap,v = .slice a n cap/\fT w a n cap l:=by
 rcases h.2 with ⟨rfl,hz⟩ | ⟨g,cap,cur,rfl,hbg,hg,hnc,hcm,hcs,htake⟩
 .subst hz;obtain rfl:l=[]:=List.eq_nil_of_length_eq_zero hl;exact ⟨none,0,rfl,fT.nil w⟩
 .refine ⟨_,_,rfl,hnc,hcm,hl,λe=>(by cases e),hk,λj hj=>⟨g,0,rfl,(Array.getElem?_eq_some_iff.1 hg).1,λi u hu=>?_⟩⟩;have hkj:(l.getD j ([],eB)).1.length=32:=hk _ (by
   rw [List.getD_eq_getElem?_getD,List.getElem?_eq_getElem (by omega)];exact List.getElem_mem _)
  have hi:i<33:=by
   have:=(List.getElem?_eq_some_iff.1 hu).1;rwa [fD hkj] at this
  have:=h.cells (g:=g) rfl (j*33+i) u (by rw [zn l hk j i (by omega) hi]; exact hu);rw [Addr.add_mid] at this;rw [Nat.add_assoc];exact this
theorem Td (l:List Tr.Pair):∀ u∈rowP l,u.oneCell'=true:=λu hu=>by
 obtain ⟨x,_,h⟩:=List.mem_flatMap.1 hu;exact nJ x u h
def Ua (w:World) (l:List Tr.Pair) (e:Ending) (w':World):Prop:=∃ a n c,e = .returned (.slice a n c)/\fT w' a n c l/\Below w.heap.size w w'
theorem lI (ev:Operand->Value) (o:Oper) (w:World) (b:Nat) (hb:b=w.heap.size) (ho:o.op = .alloc 60) :
  (execOp ev o).run prog w = .ok (.value (.pointer (some ⟨b,0,none⟩))) (w.alloc (.cells (dN (List.replicate 32 0,eB)) 60)):=by
 subst hb;unfold execOp;rw [ho];kernel_rfl
theorem ku {x:Tr.Pair} (h:x.1.length=32):(dN x).size=33:=by simp [dN,fD h]
theorem wS (x:Tr.Pair):(dN x).all (·.oneCell')=true:=by
 unfold dN;exact all_oneCell_toArray (nJ x)
theorem uH {x:Tr.Pair} (h:x.1.length=32):(prog.info? 60).map (·.size)=some (dN x).size:=by
 rw [ku h];have:=xU;cases hi:prog.info? 60 with
 | none=>rw [hi] at this; simp at this
 | some i=>rw [hi] at this; simp at this; simp [this.1]
theorem jq {rest:List Oper} {b:Nat} {x:Tr.Pair} (h:Rg.Own w b (dN x) 60) (hx:x.1.length=32) (y:Tr.Pair) (hy:y.1.length=32)
  (hgd:o.guard=none) (p q:Operand) (ho:o.op = .store 60 p q) (hp:act.eval p = .pointer (some ⟨b,0,none⟩)) (hq:act.eval q = .agg (dN y)) (hd:o.dst=none)
  (hQ:∀ w',Rg.Own w' b (dN y) 60->Rg.Upd w b w'->wpList prog ops Q rest act w'):wpList prog ops Q (o::rest) act w :=
 wpList_store_rowTo hgd 60 p q ho hd b _ hp hq 60 _ h.2 (uH hy) (by rw [ku hx,ku hy]) (wS _) (hQ _ ⟨by simp; exact h.1,setRow_heap _ _ _ _ _ _ h.2⟩ (Rg.Upd.set _ _ _))
theorem xK (k l:aN) (w:World) (d:Nat):∀ is:List Nat,(∀ i∈is,i<k.length/\i<l.length)->(Op.eqItems (d+1) 5 1 (kc k) (kc l) is).run prog w = .ok (is.all λi=>decide (k.getD i 0=l.getD i 0)) w
 | [],_=>by simp [Op.eqItems]
 | i::is,h=>by
  have ih:=xK k l w d is (λj hj=>h j (List.mem_cons_of_mem _ hj));have hp:=Dk k i (h i (List.mem_cons_self ..)).1 w;have hq:=Dk l i (h i (List.mem_cons_self ..)).2 w;unfold Op.eqItems;rw [Nat.mul_one];simp only [Sem.run_bind,hp,hq,Result.andThen_ok,run_equalIn_int w d 5 .u8 .u8 _ _ underlying5];by_cases e:k.getD i 0=l.getD i 0
  .rw [List.all_cons,aK e,Bool.true_and,e];simp only [beq_self_eq_true,Bool.not_true,Bool.false_eq_true,if_false];exact ih
  .have hne:(((k.getD i 0).toNat:Int)==((l.getD i 0).toNat:Int))=false:=by
    simp only [beq_eq_false_iff_ne,ne_eq];intro h;exact e (UInt8.toNat_inj.1 (by omega))
   rw [List.all_cons,decide_eq_false e,Bool.false_and,hne];simp
theorem GV {l:aN} (hk:k.length=32) (hl:l.length=32):((List.range 32).all λi=>decide (k.getD i 0=l.getD i 0))=decide (k=l):=by
 rw [Bool.eq_iff_iff,List.all_eq_true,decide_eq_true_iff];constructor
 .intro h;apply List.ext_getElem (by omega);intro i h1 h2;have:=of_decide_eq_true (h i (List.mem_range.2 (by omega)));simpa [List.getD,h1,h2] using this
 .rintro rfl i _;exact aK rfl
theorem BZ {l:aN} (hk:k.length=32) (hl:l.length=32) (w:World):(Op.equalIn 10000 24 (.agg (kc k)) (.agg (kc l))).run prog w = .ok (decide (k=l)) w:=by
 obtain ⟨i0,hi,_⟩:=info_parts Cc.lC;rw [show (10000:Nat)=9999+1 from rfl,run_equalIn_array w 9999 (kc k) (kc l) underlying24 hi,Jw,xK k l w 9998 (List.range 32) (λi h=>by rw [hk,hl]; have:=List.mem_range.1 h; omega),GV hk hl]
theorem Uv {l:aN} (hk:k.length=32) (hl:l.length=32) (w:World):(binOp .eql 24 (.agg (kc k)) (.agg (kc l))).run prog w = .ok (.bool (decide (k=l))) w:=by
 rw [run_eql_struct,BZ hk hl w];rfl
theorem Ub {l:aN} (hk:k.length=32) (hl:l.length=32) (w:World):(binOp .neq 24 (.agg (kc k)) (.agg (kc l))).run prog w = .ok (.bool (!decide (k=l))) w:=by
 rw [run_neq_struct,BZ hk hl w];rfl
theorem oV {l:aN} (hk:k.length=32) (hl:l.length=32) (ho:∃ x y tt,o.op = .binOp .eql 24 x y tt/\ev x = .agg (kc k)/\ev y = .agg (kc l)) :
  (execOp ev o).run prog w = .ok (.value (.bool (decide (k=l)))) w:=by
 obtain ⟨x,y,tt,ho,hx,hy⟩:=ho;unfold execOp;have hg:=DJ;simp [ho,hx,hy,run_eqGuard_agg,hg,Uv hk hl,Result.andThen]
theorem Jc {l:aN} (hk:k.length=32) (hl:l.length=32) (ho:∃ x y tt,o.op = .binOp .neq 24 x y tt/\ev x = .agg (kc k)/\ev y = .agg (kc l)) :
  (execOp ev o).run prog w = .ok (.value (.bool (!decide (k=l)))) w:=by
 obtain ⟨x,y,tt,ho,hx,hy⟩:=ho;unfold execOp;have hg:=DJ;simp [ho,hx,hy,run_eqGuard_agg,hg,Ub hk hl,Result.andThen]
end Tm
end
section
open Go.RowKit
namespace Tm
open Tr Ni Pk
open Ky
theorem jL {l:List Tr.Pair} (h:j<l.length):l.getD j ([],eB)∈l:=by
 rw [List.getD_eq_getElem?_getD,List.getElem?_eq_getElem h];exact List.getElem_mem _
theorem drop_at {l:List Tr.Pair} (h:j<l.length):l.drop j=l.getD j ([],eB)::l.drop (j+1):=by
 have e:l.getD j ([],eB)=l[j]:=by simp [List.getD,h]
 rw [e];exact (List.getElem_cons_drop h).symm
theorem take_at {l:List Tr.Pair} (h:j<l.length):l.take (j+1)=l.take j++[l.getD j ([],eB)]:=by
 have e:l.getD j ([],eB)=l[j]:=by simp [List.getD,h]
 rw [e,List.take_succ_eq_append_getElem h]
def QS:Option aM->Value
 | none=>.tuple #[.string eB,.bool false]
 | some v=>.tuple #[.string v,.bool true]
theorem Xv (w:World) (k:aN):∃ w1,w1=w.alloc (.cells (kc k) 24)/\Rg.Own w1 w.heap.size (kc k) 24/\Below w.heap.size w w1/\w1.heap.size=w.heap.size+1:=⟨_,rfl,Rg.Own.new _ _ _,al1 _ _,by simp⟩
theorem OV (l:List Tr.Pair) (a:aL) (n c:Nat) (k:aN) (hk:k.length=32) (w:World) (h:fT w a n c l) (hn:n<=1000000) :
  Calls prog 18 #[.slice a n c,.agg (kc k)] w λe w'=>e = .returned (QS (dD l k))/\Below w.heap.size w w':=by
 obtain ⟨w1,hw1,am,hb1,hs1⟩:=Xv w k;have HH:=hid (h.below hb1);have HL:=hid h.len;have HO:=hid am;have HK:=hid hk;have HB1:=hid hb1;have HW:Hid (_=_):=hid hw1;have hcap:=h.1;have hmx:=h.2.1;unfold maxLen at hmx;obtain ⟨C,hC⟩:=aA (kc k)
 have HC:=hid hC;rw [hC] at HW ⊢;clear h am hk hb1 hw1 hC;go_enter func18,ntmps18;go_wp2_with fail
 rw [<-HW.out];clear HW;go_loopw [6] (λi wr=>∃ j:Nat,j<=n/\i = .int .i64 j/\Hid (dD l k=dD (l.drop j) k)/\Hid (Below w1.heap.size w1 wr)) (λi _=>n-(intOf i).toNat)
 case atStart=>exact ⟨0,Nat.zero_le _,rfl,hid rfl,hid aI⟩
 case round =>
  obtain ⟨j,hj,rfl,HF,HB⟩:=hrel;by_cases hlt:j<n
  .obtain ⟨b,off,rfl,hblt,hpa,hkx⟩:=HH.out.at' j hlt;have hji:(j:Int)<n:=by omega
   have HD:Hid (l.drop j=l.getD j ([],eB)::l.drop (j+1)):=hid (drop_at (by rw [HL.out]; exact hlt));have m7:=hid (hpa.below HB.out);have lw:=hid (HO.out.below HB.out);obtain ⟨x,hx⟩:=aA (l.getD j ([],eB))
   rw [hx] at m7 HD hkx;have bi:=hid hkx;clear hpa hx hkx;by_cases he:x.1=k
   .have HR:Hid (dD l k=some x.2):=hid (by rw [HF.out,HD.out]; unfold dD; rw [if_pos he]);have tp:=hid (aK he);have hv:=m7.out.val bi.out;obtain ⟨v,hvv⟩:=aA x.2
    rw [hvv] at hv HR;clear he hvv HD HF;go_wp2_with fail
    refine aD (S:=λw'=>Below wr.heap.size wr w') ((below_drewN aI 1)) λhld=>?_;refine aj 0 ?_;try simp only [Act.put,au]
    refine aj 1 ?_;try simp only [Act.put,au]
    refine aj 2 ?_ (hy:=by intro wz hSw; (have q0:=hji; have q1:=hlt; go_simp <;> with_reducible rfl));try simp only [Act.put,au]
    refine aj 3 ?_;try simp only [Act.put,au]
    refine aj 4 ?_ (hy:=by intro wz hSw; (refine bH bi.out (m7.out.below hSw).key ?_; exact ⟨_,rfl,rfl⟩));try simp only [Act.put,au]
    refine aj 5 ?_ (hy:=by intro wz hSw; (refine bJ HK.out (lw.out.below hSw).2 ?_; exact ⟨_,rfl,rfl⟩));try simp only [Act.put,au]
    refine aj 6 ?_ (hy:=by intro wz hSw; (refine oV bi.out HK.out ?_; exact ⟨_,_,_,rfl,rfl,rfl⟩));try simp only [Act.put,au]
    refine aC ?_;have ae:Hid (Below w1.heap.size w1 wr.drew):=hid (HB.out.drew);clear hld;rw [tp.out];have hv':wr.drew.cell? ⟨b,off+j*33+32,none⟩=some (.string v):=hv;clear hv;go_wp2;exact bodyPost_ret (results_tmp2 rfl _ _ _) rfl ⟨by rw [HR.out]; rfl,bst HB1.out ae.out⟩
   .have z9:Hid (dD l k=dD (l.drop (j+1)) k):=hid (by rw [HF.out,HD.out,dD,if_neg he]);have tp:=hid (decide_eq_false he);clear he HD HF;go_wp2_with fail
    refine aD (S:=λw'=>Below wr.heap.size wr w') ((below_drewN aI 1)) λhld=>?_;refine aj 0 ?_;try simp only [Act.put,au]
    refine aj 1 ?_;try simp only [Act.put,au]
    refine aj 2 ?_ (hy:=by intro wz hSw; (have q0:=hji; have q1:=hlt; go_simp <;> with_reducible rfl));try simp only [Act.put,au]
    refine aj 3 ?_;try simp only [Act.put,au]
    refine aj 4 ?_ (hy:=by intro wz hSw; (refine bH bi.out (m7.out.below hSw).key ?_; exact ⟨_,rfl,rfl⟩));try simp only [Act.put,au]
    refine aj 5 ?_ (hy:=by intro wz hSw; (refine bJ HK.out (lw.out.below hSw).2 ?_; exact ⟨_,rfl,rfl⟩));try simp only [Act.put,au]
    refine aj 6 ?_ (hy:=by intro wz hSw; (refine oV bi.out HK.out ?_; exact ⟨_,_,_,rfl,rfl,rfl⟩));try simp only [Act.put,au]
    refine aC ?_;have ae:Hid (Below w1.heap.size w1 wr.drew):=hid (HB.out.drew);clear hld;rw [tp.out];go_wp2;go_roundw
    case rel=>exact ⟨j+1,by omega,by go_num,z9,ae⟩
    case measure=>simp [intOf]; omega
  .obtain rfl:j=n:=by omega
   have HR:Hid (dD l k=none):=hid (by rw [HF.out,List.drop_of_length_le (by rw [HL.out]; exact aH)]; rfl);go_wp2;exact bodyPost_ret (results_tmp2 rfl _ _ _) rfl ⟨by rw [HR.out]; rfl,bst HB1.out HB.out⟩
def wB (w:World) (l:List Tr.Pair) (e:Ending) (w':World):Prop:=∃ v,e = .returned v/\w'.ownsRow w.heap.size 60 33 v l.length (rowP l)/\Below w.heap.size w w'
theorem wB.ps {l:List Tr.Pair} {e:Ending} (hk:∀ x∈l,x.1.length=32) (h:wB w l e w'):Ua w l e w':=by
 obtain ⟨v,rfl,ho,hb⟩:=h;obtain ⟨a,cap,rfl,hp⟩:=fT.ny hk rfl ho;exact ⟨a,_,cap,rfl,hp,hb⟩
theorem iE {sz:Nat} {xs:List Value} (h:w.ownsRow B e sz v n xs) (hb:Below w.heap.size w w'):w'.ownsRow B e sz v n xs:=h.kept (Bu.gN hb) (by cases v.ownBlock <;> simp)
theorem AL {B' sz:Nat} {xs:List Value} (h:w.ownsRow B e sz v n xs) (hb:B'<=B):w.ownsRow B' e sz v n xs:=by
 refine ⟨h.1,?_⟩;rcases h.2 with h | ⟨g,cap,cur,h1,h2,h3⟩
 .exact .inl h
 .exact .inr ⟨g,cap,cur,h1,Nat.le_trans hb h2,h3⟩
abbrev Hdl:Type:=aL × Nat × Nat
def inC (x:Tr.In) (h:Hdl):List Value:=[.slice h.1 h.2.1 h.2.2,.string x.2]
def inA (x:Tr.In) (h:Hdl):aO:=#[.slice h.1 h.2.1 h.2.2,.string x.2]
theorem Fe:(prog.info? 86).map (λi=>(i.zero,i.size,i.bytes))=some (some (.agg #[.slice none 0 0,.string ⟨#[]⟩]),2,40):=by kernel_rfl
theorem CJ:∃ i z,prog.info? 86=some i/\i.zero=some z/\i.size=2/\i.bytes=40/\z.cells.size=2:=by
 obtain ⟨i0,hi,hz,hs,hby⟩:=info_parts Fe;exact ⟨i0,_,hi,hz,hs,hby,rfl⟩
def BsP (p:Nat->Prop) (w:World) (h:Hdl) (l:aN):Prop:=bf w h.1 h.2.1 h.2.2 l/\∀ ad,h.1=some ad->0<h.2.1->p ad.block
theorem BsP.kept {h:Hdl} {l:aN} (g:BsP p w h l) (hs:w.heap.size<=w'.heap.size) (hk:∀ b,p b->b<w.heap.size->w'.heap[b]? = w.heap[b]?):BsP p w' h l:=by
 refine ⟨⟨g.1.1,g.1.2.1,g.1.2.2.1,g.1.2.2.2.1,λj hj=>?_⟩,g.2⟩;obtain ⟨b,off,e,hlt,hc⟩:=g.1.at' j hj;exact ⟨b,off,e,aJ hlt hs,by rw [World.cell?_of_block (a:=⟨b,off+j,none⟩) (hk b (g.2 _ e (by omega)) hlt)]; exact hc⟩
theorem BsP.to {q:Nat->Prop} {h:Hdl} {l:aN} (g:BsP p w h l) (hp:∀ b,b<w.heap.size->p b->q b):BsP q w h l:=by
 refine ⟨g.1,λad e hn=>hp _ ?_ (g.2 ad e hn)⟩;obtain ⟨b,off,e2,hlt,_⟩:=g.1.at' 0 hn;rw [e] at e2;cases e2;exact hlt
theorem BsP.old {h:Hdl} {l:aN} (g:bf w h.1 h.2.1 h.2.2 l):BsP (λb=>b<w.heap.size) w h l:=by
 refine ⟨g,λad e hn=>?_⟩;obtain ⟨b,off,e2,hlt,_⟩:=g.at' 0 hn;rw [e] at e2;cases e2;exact hlt
def NP (w:World) (b o:Nat) (x:Tr.In) (h:Hdl):Prop:=w.cell? ⟨b,o,none⟩=some (.slice h.1 h.2.1 h.2.2)/\w.cell? ⟨b,o+1,none⟩=some (.string x.2)
theorem NP.below {b o:Nat} {x:Tr.In} {h:Hdl} (g:NP w b o x h) (hb:Below w.heap.size w w'):NP w' b o x h:=⟨aX hb g.1,aX hb g.2⟩
def gV (w:World) (a:aL) (n c:Nat) (l:List Tr.In):Prop :=
 n<=c/\c<=maxLen/\l.length=n/\(a=none->c=0)/\∀ j,j<n->∃ b off h,a=some ⟨b,off,none⟩/\b<w.heap.size/\NP w b (off+j*2) (l.getD j ([],eB)) h/\bf w h.1 h.2.1 h.2.2 (l.getD j ([],eB)).1
theorem gV.len {l:List Tr.In} (h:gV w a n c l):l.length=n:=h.2.2.1
theorem gV.at' {l:List Tr.In} (h:gV w a n c l) (j:Nat) (hj:j<n):∃ b off h,a=some ⟨b,off,none⟩/\b<w.heap.size/\NP w b (off+j*2) (l.getD j ([],eB)) h/\bf w h.1 h.2.1 h.2.2 (l.getD j ([],eB)).1:=h.2.2.2.2 j hj
theorem gV.below {w w':World} {a:aL} {n c:Nat} {l:List Tr.In} (h:gV w a n c l) (hb:Below w.heap.size w w'):gV w' a n c l :=
 ⟨h.1,h.2.1,h.2.2.1,h.2.2.2.1,λj hj=>by
  obtain ⟨b,off,g,e,hlt,hp,hi⟩:=h.2.2.2.2 j hj;exact ⟨b,off,g,e,aJ hlt hb.size,hp.below hb,hi.below hb⟩⟩
theorem gV.nil (w:World):gV w none 0 0 []:=⟨aH,Nat.zero_le _,rfl,λ_=>rfl,λ_ h=>absurd h (Nat.not_lt_zero _)⟩
def pz:List Tr.In->List Hdl->List Value
 | x::xs,h::hs=>.slice h.1 h.2.1 h.2.2 :: .string x.2::pz xs hs
 | _,_=>[]
theorem yI:∀ (xs:List Tr.In) (hs:List Hdl) (x:Tr.In) (h:Hdl),hs.length=xs.length->pz (xs++[x]) (hs++[h])=pz xs hs++inC x h
 | [],[],_,_,_=>rfl
 | y::xs,g::hs,x,h,e=>by
  have:=yI xs hs x h (by simpa using e);simp [pz,this]
theorem DC:∀ (xs:List Tr.In) (hs:List Hdl) (j:Nat) (x:Tr.In) (h:Hdl),xs[j]? = some x->hs[j]? = some h->
  (pz xs hs)[j*2]? = some (.slice h.1 h.2.1 h.2.2)/\(pz xs hs)[j*2+1]? = some (.string x.2)
 | [],_,_,_,_,hx,_=>by simp at hx
 | _::_,[],_,_,_,_,hh=>by simp at hh
 | y::xs,g::hs,0,x,h,hx,hh=>by
  simp at hx hh;subst hx hh;simp [pz]
 | y::xs,g::hs,j+1,x,h,hx,hh=>by
  have:=DC xs hs j x h (by simpa using hx) (by simpa using hh);rw [show (j+1)*2=j*2+2 by omega];simp only [pz,List.getElem?_cons_succ];exact this
def iR (B:Nat) (w:World) (v:Value) (xs:List Tr.In):Prop :=
 ∃ hs:List Hdl,hs.length=xs.length/\w.ownsRow B 86 2 v xs.length (pz xs hs)/\∀ (j:Nat) (x:Tr.In) (h:Hdl),xs[j]? = some x->hs[j]? = some h->BsP (λb=>v.ownBlock≠some b) w h x.1
theorem iR.nil (B:Nat) (w:World):iR B w (.slice none 0 0) []:=⟨[],rfl,World.ownsRow_nil _ _ _ _,λ_ _ _ hx _=>by simp at hx⟩
theorem iR.lt {B:Nat} {w:World} {v:Value} {xs:List Tr.In} (h:iR B w v xs):∀ k,v.ownBlock=some k->B<=k/\k<w.heap.size:=by
 obtain ⟨hs,_,ho,_⟩:=h;exact ho.lt
theorem iR.below {xs:List Tr.In} (h:iR B w v xs) (hb:Below w.heap.size w w'):iR B w' v xs:=by
 obtain ⟨hs,hlen,ho,hi⟩:=h;exact ⟨hs,hlen,ho.kept (Bu.gN hb) (by cases v.ownBlock <;> simp),λj x h hx hh=>(hi j x h hx hh).kept hb.size λb _ hlt=>hb.block b hlt⟩
theorem iR.push {v':Value} {xs:List Tr.In} {x:Tr.In} {h:Hdl} {hs:List Hdl} (hlen:hs.length=xs.length) (hi:∀ (j:Nat) (x:Tr.In) (h:Hdl),xs[j]? = some x->hs[j]? = some h->BsP (λb=>v.ownBlock≠some b) w h x.1)
  (hI:BsP (λb=>v.ownBlock≠some b) w h x.1) (ho:w'.ownsRow B 86 2 v' (xs.length+1) (pz xs hs++inC x h))
  (hg:w.grownBy w' v.ownBlock) (hat:v'.ownBlock=v.ownBlock\/v'.ownBlock=some w.heap.size):iR B w' v' (xs++[x]):=by
 have keep:∀ {l:aN} {h:Hdl},BsP (λb=>v.ownBlock≠some b) w h l->BsP (λb=>v'.ownBlock≠some b) w' h l:=λ{l h} hh=>by
  have h1:=hh.to (q:=λb=>v'.ownBlock≠some b/\v.ownBlock≠some b) λb hlt hb=>⟨λe=>by
   rcases hat with h2 | h2
   .exact hb (h2 ▸ e)
   .rw [h2] at e;have:=Option.some.inj e;omega,hb⟩
  have h2:=h1.kept (w':=w') hg.size λb hb hlt=>hg.block b hlt (λe=>hb.2 e.symm);exact h2.to λb _ hb=>hb.1
 refine ⟨hs++[h],by simp [hlen],?_,λj y g hy hh=>?_⟩
 .rw [List.length_append,yI xs hs x h hlen];exact ho
 .by_cases hj:j<xs.length
  .rw [List.getElem?_append_left hj] at hy;rw [List.getElem?_append_left (by omega)] at hh;exact keep (hi j y g hy hh)
  .have hj2:j=xs.length:=by
    have:=(List.getElem?_eq_some_iff.1 hy).1;simp at this;omega
   subst hj2;rw [List.getElem?_append_right aH,Nat.sub_self] at hy;rw [List.getElem?_append_right (by omega),hlen,Nat.sub_self] at hh;simp at hy hh;subst hy hh;exact keep hI
theorem iR.done {xs:List Tr.In} (h:iR B w v xs):∃ a n cap,v = .slice a n cap/\gV w a n cap xs:=by
 obtain ⟨hs,hlen,ho,hi⟩:=h;rcases ho.2 with ⟨rfl,hz⟩ | ⟨g,cap,cur,rfl,hbg,hg,hnc,hcm,hcs,htake⟩
 .have:xs=[]:=List.eq_nil_of_length_eq_zero hz;subst this;exact ⟨none,0,0,rfl,gV.nil _⟩
 .refine ⟨_,_,_,rfl,hnc,hcm,rfl,λe=>(by cases e),λj hj=>?_⟩;have hx:xs[j]? = some (xs.getD j ([],eB)):=by simp [hj]
  have hh:hs[j]? = some (hs.getD j (none,0,0)):=by simp [show j<hs.length by omega]
  obtain ⟨f0,f1⟩:=DC xs hs j _ _ hx hh;have e:∀ i,(⟨g,0,none⟩:Addr).add i=⟨g,0+i,none⟩:=λi=>Addr.add_mid g 0 i;refine ⟨g,0,hs.getD j (none,0,0),rfl,(Array.getElem?_eq_some_iff.1 hg).1,⟨?_,?_⟩,(hi j _ _ hx hh).1⟩
  .have:=ho.cells (g:=g) rfl _ _ f0;rw [e] at this;exact this
  .have:=ho.cells (g:=g) rfl _ _ f1;rw [e,<-Nat.add_assoc] at this;exact this
def AA (w:World) (l:List Tr.In) (e:Ending) (w':World):Prop:=∃ a n c,e = .returned (.slice a n c)/\gV w' a n c l/\Below w.heap.size w w'
theorem yV {a:Act} {x:Tr.In} {h:Hdl} (hw:Region.wanted o (yielded ops a.tmps)=true)
  (ho:∃ y,o.op = .buildSlice 55 1 #[(0,y)]/\a.eval y = .agg (inA x h))
  (H:∀ w' b,b=w.heap.size->Rg.Own w' b (inA x h) 86->Below w.heap.size w w'->K (a.put o.dst (.slice (some ⟨b,0,none⟩) 1 1)) w'):if Region.wanted o (yielded ops a.tmps)=true then Oper.wp prog o a w K Q else K (a.put o.dst undef) w:=by
 obtain ⟨y,ho,hy⟩:=ho;obtain ⟨i0,hi,hz,hs,hby⟩:=info_parts Fe;refine Rg.want hw (wp_buildSlice 55 86 1 _ ho (inA x h) i0 _ underlying55 hi hz (by rw [hs]; decide) (by rw [hs]; decide) ?_ (H _ _ rfl (Rg.Own.new _ _ _) (al1 _ _)));simp only [List.map_toArray,List.map_cons,List.map_nil,hy,hs];kernel_rfl
theorem yQ {xs:List Tr.In} {x:Tr.In} {h:Hdl} (hR:iR B w v xs) (h2:Rg.Own w b2 (inA x h) 86) (hI:BsP (λb=>v.ownBlock≠some b) w h x.1) (hn:xs.length<=1000000) (hB:B<=w.heap.size) :
  ∃ v' w',(Builtin.append_ #[55,55] ty #[v,.slice (some ⟨b2,0,none⟩) 1 1]).run prog w = .ok v' w'/\iR B w' v' (xs++[x])/\w.grownBy w' v.ownBlock:=by
 obtain ⟨i0,z0,hi,hz,hsz,hby,hzc⟩:=CJ;obtain ⟨hs',hlen,hown,hi'⟩:=hR;obtain ⟨v',w',hr,h3,h4,_,h5⟩:=run_append_own_at (P:=prog) w B 55 ty 86 i0 z0 2 40 underlying55 hi hz hsz hby hzc (by decide) v xs.length _ hown ⟨b2,0,none⟩ 1 1 (inC x h) rfl
  (λj u hu=>by
   rw [Addr.add_mid,Nat.zero_add,cell_of_row w b2 _ _ _ _ h2.2];unfold inA;simpa [inC] using hu)
  (λu hu=>by unfold inC at hu; simp at hu; rcases hu with rfl | rfl <;> rfl) (by unfold maxLen; omega) (by omega) hB
 exact ⟨v',w',hr,iR.push hlen hi' hI h3 h4 h5,h4⟩
theorem vL {a:Act} {xs:List Tr.In} {x:Tr.In} {h:Hdl} (hw:Region.wanted o (yielded ops a.tmps)=true)
  (ho:∃ s y,o.op = .call { callee:=.builtin .append,args:=#[s,y],argTypes:=#[55,55] }/\a.eval s=v/\a.eval y = .slice (some ⟨b2,0,none⟩) 1 1)
  (hR:iR B w v xs) (h2:Rg.Own w b2 (inA x h) 86) (hI:BsP (λb=>v.ownBlock≠some b) w h x.1) (hn:xs.length<=1000000) (hB:B<=w.heap.size)
  (H:∀ v' w',iR B w' v' (xs++[x])->w.grownBy w' v.ownBlock->K (a.put o.dst v') w'):if Region.wanted o (yielded ops a.tmps)=true then Oper.wp prog o a w K Q else K (a.put o.dst undef) w:=by
 obtain ⟨s,y,ho,hs,hy⟩:=ho;obtain ⟨v',w',hr,h3,h4⟩:=yQ (ty:=o.type) hR h2 hI hn hB;refine Rg.want hw ?_;unfold Oper.wp execOp;simp only [ho,resolve,invoke,builtin,Sem.run_bind,Sem.run_pure,Result.andThen_ok,List.map_toArray,List.map_cons,List.map_nil,hs,hy,hr];exact H v' w' h3 h4
theorem Jt {rest:List Oper} {a:Act} {xs:List Tr.In} {x:Tr.In} {h:Hdl} (hgd:o.guard=none)
  (ho:∃ s y,o.op = .call { callee:=.builtin .append,args:=#[s,y],argTypes:=#[55,55] }/\a.eval s=v/\a.eval y = .slice (some ⟨b2,0,none⟩) 1 1)
  (hR:iR B w v xs) (h2:Rg.Own w b2 (inA x h) 86) (hI:BsP (λb=>v.ownBlock≠some b) w h x.1) (hn:xs.length<=1000000) (hB:B<=w.heap.size)
  (H:∀ v' w',iR B w' v' (xs++[x])->w.grownBy w' v.ownBlock->wpList prog ops Q rest (a.put o.dst v') w'):wpList prog ops Q (o::rest) a w:=by
 obtain ⟨s,y,ho,hs,hy⟩:=ho;refine wpList_plain hgd λK hK=>?_;obtain ⟨v',w',hr,h3,h4⟩:=yQ (ty:=o.type) hR h2 hI hn hB;unfold Oper.wp execOp;simp only [ho,resolve,invoke,builtin,Sem.run_bind,Sem.run_pure,Result.andThen_ok,List.map_toArray,List.map_cons,List.map_nil,hs,hy,hr];exact hK _ _ (H v' w' h3 h4)
theorem rG {xs:List Tr.In} (hR:iR B w v xs) (hb:Below B w0 w) (hB:B<=w.heap.size) (hg:w.grownBy w' v.ownBlock):Below B w0 w':=hb.grown hg hB (λg hg=>(hR.lt g hg).1)
theorem BsP.apart {xs:List Tr.In} {h:Hdl} {l:aN} (hR:iR B w v xs) (g:bf w0 h.1 h.2.1 h.2.2 l) (hb:Below w0.heap.size w0 w) (hB:w0.heap.size<=B):BsP (λb=>v.ownBlock≠some b) w h l:=by
 have h1:=(BsP.old g).kept hb.size λb hlt _=>hb.block b hlt;exact h1.to λb _ hlt e=>by have:=(hR.lt b e).1; omega
theorem Ls {ev:Operand->Value} {o:Oper} {w:World} {b off:Nat} {x:Tr.In} {h:Hdl} (g:NP w b off x h) (ho:∃ y,o.op = .load 86 y/\ev y = .pointer (some ⟨b,off,none⟩)) :
  (execOp ev o).run prog w = .ok (.value (.agg (inA x h))) w:=by
 obtain ⟨y,ho,hx⟩:=ho;have hl:=run_loadAt_mid (P:=prog) w b off 86 (inC x h) _ (λj u hu=>by
  match j,hu with
  | 0,hu=>cases hu; exact g.1
  | 1,hu=>cases hu; exact g.2) underlying86 rfl (by
  obtain ⟨i0,hi,hz,hs,hby⟩:=info_parts Fe;rw [hi];simp [hs,inC])
 unfold execOp;simp only [ho,hx,Sem.run_bind,Sem.run_pure,Result.andThen_ok,hl];rfl
theorem PG {l:List Tr.In} (h:j<l.length):l.getD j ([],eB)∈l/\l.take (j+1)=l.take j++[l.getD j ([],eB)]:=by
 have e:l.getD j ([],eB)=l[j]:=by simp [List.getD,h]
 rw [e];exact ⟨List.getElem_mem _,List.take_succ_eq_append_getElem h⟩
theorem Qa {l:List Tr.In} (h:j<l.length):bR (l.take (j+1)) m=bR (l.take j) m++[((l.getD j ([],eB)).1.drop m,(l.getD j ([],eB)).2)]:=by
 rw [(PG h).2];unfold bR;rw [List.map_append];rfl
theorem wF (l:List Tr.In) (a:aL) (n c m:Nat) (hm:∀ x∈l,m<=x.1.length) (w:World) (h:gV w a n c l) (hn:n<=1000000) :
  Calls prog 38 #[.slice a n c,.int .i64 m] w (AA w (bR l m)):=by
 have HH:=hid h;have HL:=hid h.len;have HM:=hid hm;have hcap:=h.1;have hmx:=h.2.1;unfold maxLen at hmx;clear h hm;go_enter func38,ntmps38;go_wp2_with fail
 go_loopw [5,6] (λv i wr=>∃ j:Nat,j<=n/\i = .int .i64 j/\Hid (iR w.heap.size wr v (bR (l.take j) m))/\Hid (Below w.heap.size w wr)) (λ_ i _=>n-(intOf i).toNat)
 case atStart=>exact ⟨0,Nat.zero_le _,rfl,hid (iR.nil _ _),hid aI⟩
 case round =>
  obtain ⟨j,hj,rfl,HR,HB⟩:=hrel;have pA:=HB.out.size;by_cases hlt:j<n
  .obtain ⟨b,off,hd,rfl,hblt,hin,hbs⟩:=HH.out.at' j hlt;have hji:(j:Int)<n:=by omega
   have hjl:j<l.length:=by rw [HL.out]; exact hlt
   have HS:=hid (Qa (m:=m) hjl);have m8:=HM.out _ (PG hjl).1;have hwl:(bR (l.take j) m).length<=j:=by unfold bR; rw [List.length_map,List.length_take]; exact Nat.min_le_left _ _
   obtain ⟨x,hx⟩:=aA (l.getD j ([],eB))
   rw [hx] at HS hin hbs m8;obtain ⟨p,v⟩:=x;obtain ⟨h0,h1,h2⟩:=hd;dsimp only at hbs m8 HS;rw [hbs.len] at m8;obtain ⟨W,zb⟩:=aA (bR (l.take j) m)
   rw [zb] at HR HS hwl;have iz:=hid hin;have tr:=hid (wm hbs m m8);clear hx hin hbs zb;go_wp2_with fail
   refine aD (S:=λw'=>Below w.heap.size w w') (below_drewN HB.out 1) λhld=>?_;refine aj 0 ?_;try simp only [Act.put,au]
   refine aj 1 ?_;try simp only [Act.put,au]
   refine aj 2 ?_;try simp only [Act.put,au]
   refine aj 3 ?_ (hy:=by intro wz hSw; have q0:=hji; have q1:=hlt; (try dsimp only at hSw); go_simp <;> with_reducible rfl);try simp only [Act.put,au]
   refine aj 4 ?_;try simp only [Act.put,au]
   refine aF 5 (λwz hSw=>aX hSw iz.out.1) ?_;try simp only [Act.put,au]
   refine aj 6 ?_;try simp only [Act.put,au]
   refine aj 7 ?_ (hy:=by intro wz hSw; (refine jP (a:=h0) (n:=h1) (c:=h2) (i:=m) fZ iL m8 ?_; exact ⟨_,_,rfl,rfl,rfl⟩));try simp only [Act.put,au]
   refine aj 8 ?_;try simp only [Act.put,au]
   refine aj 9 ?_;try simp only [Act.put,au]
   refine aj 10 ?_ (hy:=by intro wz hSw; have q0:=hji; have q1:=hlt; (try dsimp only at hSw); go_simp <;> with_reducible rfl);try simp only [Act.put,au]
   refine aj 11 ?_;try simp only [Act.put,au]
   refine aF 12 (λwz hSw=>aX hSw iz.out.2) ?_;try simp only [Act.put,au]
   refine aj 13 ?_;try simp only [Act.put,au]
   refine ak 14 λK hK=>?_;refine yV (x:=(p.drop m,v)) (h:=(eP h0 h2 m,h1-m,h2-m)) (by rfl) ⟨_,rfl,rfl⟩ ?_;intro w6 b6 hbe hN hb6;have HN:=hid hN;have ax:Hid (Below wr.heap.size wr w6):=hid (Below.trans (show Below wr.heap.size wr wr.drew from below_drewN aI 1) hb6);clear hN hb6 hbe;refine hK.out _ _ (HB.out.trans (ax.out.mono HB.out.size)) λhld=>?_;clear hK K;try simp only [Act.put,au]
   refine ak 15 λK hK=>?_;refine vL (by rfl) ⟨_,_,rfl,rfl,rfl⟩ (iR.below HR.out ax.out) HN.out (h:=(eP h0 h2 m,h1-m,h2-m)) (x:=(p.drop m,v)) (BsP.apart (iR.below HR.out ax.out) tr.out hld aH) (by omega) (Below.size hld) ?_;intro v7 w7 gx gA;have cA:Hid (Below w.heap.size w w7):=hid (rG (iR.below HR.out ax.out) hld (Below.size hld) gA);have gC:=hid gx;clear gx gA;refine hK.out _ _ (cA.out) λhld=>?_;clear hK K;try simp only [Act.put,au]
   refine aj 16 ?_;try simp only [Act.put,au]
   refine aC ?_;go_wp2;go_roundw
   case rel=>exact ⟨j+1,by omega,by go_num,hid (by rw [HS.out]; exact gC.out),cA⟩
   case measure=>simp [intOf]; omega
  .obtain rfl:j=n:=by omega
   have HR':=HR.out;rw [List.take_of_length_le (by rw [HL.out]; exact aH)] at HR';obtain ⟨a',n',c',rfl,hd⟩:=HR'.done;have HD:=hid hd;clear HR' hd HR;go_wp2;go_ret;exact ⟨_,_,_,rfl,HD.out,HB.out⟩
theorem Lp {l:List Tr.In} {d:Fin 16} (h:j<l.length):bK (l.take (j+1)) d=bK (l.take j) d++if ((l.getD j ([],eB)).1.getD 0 0).toNat=d.val then [l.getD j ([],eB)] else []:=by
 rw [(PG h).2];unfold bK;rw [List.filter_append];congr 1;generalize l.getD j ([],eB)=x;by_cases e:(x.1.getD 0 0).toNat=d.val
 .rw [if_pos e]; simp only [List.filter,e,decide_true]
 .rw [if_neg e]; simp only [List.filter,e,decide_false]
theorem DF (l:List Tr.In) (d:Fin 16) (j:Nat):(bK (l.take j) d).length<=j:=by
 unfold bK;exact Nat.le_trans (List.length_filter_le _ _) (by rw [List.length_take]; exact Nat.min_le_left _ _)
theorem Qj {x:Tr.In} {h:Hdl} (b:Nat) (hb:b=w.heap.size) (ho:∃ y,o.op = .buildSlice 55 1 #[(0,y)]/\ev y = .agg (inA x h)) :
  (execOp ev o).run prog w = .ok (.value (.slice (some ⟨b,0,none⟩) 1 1)) (w.alloc (.cells (inA x h) 86)):=by
 obtain ⟨y,ho,hx⟩:=ho;subst hb;unfold execOp;simp only [ho,List.map_toArray,List.map_cons,List.map_nil,hx];kernel_rfl
theorem DW (l:List Tr.In) (a:aL) (n c:Nat) (d:Fin 16) (hm:∀ x∈l,0<x.1.length) (w:World) (h:gV w a n c l) (hn:n<=1000000) :
  Calls prog 39 #[.slice a n c,.int .i64 d.val] w (AA w (bK l d)):=by
 have HH:=hid h;have HL:=hid h.len;have HM:=hid hm;have hcap:=h.1;have hmx:=h.2.1;unfold maxLen at hmx;obtain ⟨D,hD⟩:∃ D:Nat,d.val=D:=⟨_,rfl⟩
 have HD:=hid hD;rw [hD];clear h hm hD;go_enter func39,ntmps39;go_wp2_with fail
 go_loopw [5,6] (λv i wr=>∃ j:Nat,j<=n/\i = .int .i64 j/\Hid (iR w.heap.size wr v (bK (l.take j) d))/\Hid (Below w.heap.size w wr)) (λ_ i _=>n-(intOf i).toNat)
 case atStart=>exact ⟨0,Nat.zero_le _,rfl,hid (iR.nil _ _),hid aI⟩
 case round =>
  obtain ⟨j,hj,rfl,HR,HB⟩:=hrel;have pA:=HB.out.size;by_cases hlt:j<n
  .obtain ⟨b,off,hd,rfl,hblt,hin,hbs⟩:=HH.out.at' j hlt;have hji:(j:Int)<n:=by omega
   have hjl:j<l.length:=by rw [HL.out]; exact hlt
   have HS:=hid (Lp (d:=d) hjl);have hp0:=HM.out _ (PG hjl).1;have hwl:=DF l d j;obtain ⟨x,hx⟩:=aA (l.getD j ([],eB))
   rw [hx] at HS hin hbs hp0;obtain ⟨p,v⟩:=x;obtain ⟨h0,h1,h2⟩:=hd;dsimp only at hbs hp0 HS;rw [hbs.len] at hp0;obtain ⟨W,zb⟩:=aA (bK (l.take j) d)
   rw [zb] at HR HS hwl;have hin':=hin.below HB.out;have iz:=hid hin';have YP:=hid (BsP.apart HR.out (h:=(h0,h1,h2)) hbs HB.out aH);obtain ⟨b',off',rfl,rv,hc0⟩:=(hbs.below HB.out).at' 0 hp0;have hcs:=hin'.1;dsimp only at hcs;obtain ⟨u,hu⟩:=aA ((p.getD 0 0).toNat)
   have zc:=UInt8.toNat_lt (p.getD 0 0);rw [hu,HD.out] at HS;rw [hu] at hc0 zc;simp only [Nat.add_zero] at hc0;have YQ:(0:Int)<h1:=by omega
   clear hx hin hbs zb hin' hu;by_cases he:u=D
   .have fh:Hid (bK (l.take (j+1)) d=W++[(p,v)]):=hid (by rw [HS.out,if_pos he]);have hd:decide ((u:Int)=(D:Int))=true:=aK (by omega);have hbq:((u:Int)==(D:Int))=true:=by simp; omega
    clear he HS;go_wp2_with (first
     | (refine aB (Ls iz.out ⟨_,rfl,rfl⟩) ?_)
     | (refine aB (Qj wr.heap.size (by simp) ⟨_,rfl,rfl⟩) ?_)
     | (refine Jt rfl ⟨_,_,rfl,rfl,rfl⟩ (iR.below HR.out (al1 _ _)) (Rg.Own.new _ _ _) (h:=(some ⟨b',off',none⟩,h1,h2)) (x:=(p,v)) (BsP.kept YP.out (by simp) (λb _ hlt=>(al1 _ _).block b hlt)) ?d1 ?d2 ?_))
    case d1=>omega
    case d2=>simp; omega
    intro v7 w7 gx gA;have cA:Hid (Below w.heap.size w w7):=hid (rG (iR.below HR.out (al1 _ _)) (HB.out.trans ((al1 _ _).mono pA)) (by simp; omega) gA);have gC:=hid gx;clear gx gA;go_wp2;go_roundw
    case rel=>exact ⟨j+1,by omega,by go_num,hid (by rw [fh.out]; exact gC.out),cA⟩
    case measure=>simp [intOf]; omega
   .have fh:Hid (bK (l.take (j+1)) d=W):=hid (by rw [HS.out,if_neg he,List.append_nil]);have hd:decide ((u:Int)=(D:Int))=false:=decide_eq_false (by omega);have hbq:((u:Int)==(D:Int))=false:=by simp; omega
    clear he HS;go_wp2_with fail
    go_roundw
    case rel=>exact ⟨j+1,by omega,by go_num,hid (by rw [fh.out]; exact HR.out),HB⟩
    case measure=>simp [intOf]; omega
  .obtain rfl:j=n:=by omega
   have HR':=HR.out;rw [List.take_of_length_le (by rw [HL.out]; exact aH)] at HR';obtain ⟨a',n',c',rfl,hd⟩:=HR'.done;have HD:=hid hd;clear HR' hd HR;go_wp2;go_ret;exact ⟨_,_,_,rfl,HD.out,HB.out⟩
theorem IW:∀ {l:List Tr.In} {k:Nat},1<=k->k<l.length->bE (l.take (k+1))=min (bE (l.take k)) (cp (l.getD 0 ([],eB)).1 (l.getD k ([],eB)).1)
 | [],_,_,h=>absurd h (Nat.not_lt_zero _)
 | _::_,0,h,_=>absurd h (by omega)
 | x::r,k+1,_,h=>by
  have hk:k<r.length:=by simpa using h
  rw [List.take_succ_cons,List.take_succ_cons,List.take_succ_eq_append_getElem hk];have e:(x::r).getD (k+1) ([],eB)=r[k]:=by simp [List.getD,hk]
  rw [e];show List.foldl _ _ (r.take k++[r[k]])=_;rw [List.foldl_append];rfl
theorem qL (l:List Tr.In) (a:aL) (n c:Nat) (hm:∀ x∈l,x.1.length<=1000000) (h1:1<=n) (w:World) (h:gV w a n c l) (hn:n<=1000000) :
  Calls prog 64 #[.slice a n c] w λe w'=>e = .returned (.int .i64 (bE l:Nat))/\Below w.heap.size w w':=by
 have HH:=hid h;have HL:=hid h.len;have HM:=hid hm;have hcap:=h.1;have hmx:=h.2.1;unfold maxLen at hmx;obtain ⟨b,off,hd0,rfl,hblt,m9,ma⟩:=h.at' 0 (by omega);have HF:Hid (bE (l.take 1)=(l.getD 0 ([],eB)).1.length):=hid (by
  match l,h.len,h1 with
  | [],e,h1=>simp at e; omega
  | x::r,_,_=>rfl)
 have zd:=HM.out _ (PG (l:=l) (j:=0) (by rw [HL.out]; omega)).1;obtain ⟨x0,hx0⟩:=aA (l.getD 0 ([],eB))
 rw [hx0] at m9 ma HF zd;have HX0:=hid hx0;obtain ⟨p,v0⟩:=x0;obtain ⟨g0,g1,g2⟩:=hd0;dsimp only at ma HF zd;rw [ma.len] at HF zd;have G4:=zd;simp only [Nat.zero_mul,Nat.add_zero] at m9;have hc0:=m9.1;dsimp only at hc0;have HI0:=hid m9;have HG:=hid ma;have hn0:(0:Int)<n:=by omega
 have pB:0<n:=h1;clear h hm hx0 m9 ma zd;go_enter func64,ntmps64;go_wp2_with fail
 go_loopw [3,4] (λv i wr=>∃ j:Nat,1<=j/\j<=n/\i = .int .i64 j/\v = .int .i64 (bE (l.take j):Nat)/\Hid (Below w.heap.size w wr)) (λ_ i _=>n-(intOf i).toNat)
 case atStart=>exact ⟨1,aH,h1,rfl,by rw [HF.out],hid aI⟩
 case round =>
  obtain ⟨j,hj1,hj,rfl,rfl,HB⟩:=hrel;have pA:=HB.out.size;by_cases hlt:j<n
  .obtain ⟨b',off',hd,hbe,rv,hin,hbs⟩:=HH.out.at' j hlt;cases hbe;have hji:(j:Int)<n:=by omega
   have hjl:j<l.length:=by rw [HL.out]; exact hlt
   have HS:=hid (IW hj1 hjl);have G5:=HM.out _ (PG hjl).1;rw [HX0.out] at HS;obtain ⟨x,hx⟩:=aA (l.getD j ([],eB))
   rw [hx] at HS hin hbs G5;obtain ⟨q,v⟩:=x;obtain ⟨h0,h1,h2⟩:=hd;dsimp only at hbs G5 HS;rw [hbs.len] at G5;obtain ⟨Kn,hK⟩:=aA (bE (l.take j))
   obtain ⟨C,hC⟩:=aA (cp p q)
   rw [hK,hC] at HS;rw [hK];have HC:=hid hC;have hmin:((min Kn C:Nat):Int)=if (Kn:Int)<(C:Int) then (Kn:Int) else (C:Int):=by split <;> omega
   have iz:=hid hin;have tr:=hid hbs;clear hx hin hbs hK hC;go_wp2_with fail
   refine aD (S:=λw'=>Below w.heap.size w w') (below_drewN HB.out 1) λhld=>?_;refine aj 0 ?_;try simp only [Act.put,au]
   refine aj 1 ?_;try simp only [Act.put,au]
   refine aj 2 ?_ (hy:=by intro wz hSw; have q0:=hn0; have q1:=pB; (try dsimp only at hSw); go_simp <;> with_reducible rfl);try simp only [Act.put,au]
   refine aj 3 ?_;try simp only [Act.put,au]
   refine aF 4 (λwz hSw=>aX hSw HI0.out.1) ?_;try simp only [Act.put,au]
   refine aj 5 ?_;try simp only [Act.put,au]
   refine aj 6 ?_;try simp only [Act.put,au]
   refine aj 7 ?_ (hy:=by intro wz hSw; have q0:=hji; have q1:=hlt; (try dsimp only at hSw); go_simp <;> with_reducible rfl);try simp only [Act.put,au]
   refine aj 8 ?_;try simp only [Act.put,au]
   refine aF 9 (λwz hSw=>aX hSw iz.out.1) ?_;try simp only [Act.put,au]
   refine ak 10 λK hK=>?_;go_simp;go_at_call 26
   (with_reducible refine (Ni.IK g0 h0 g1 h1 g2 h2 p q G4 G5 _ (HG.out.below hld) (tr.out.below hld)).mono ?_)
   rintro e w5 ⟨rfl,q5,rfl⟩;rw [xB,HC.out];have ae:Hid (Below w.heap.size w (wr.drewN (1+q5))):=hid (below_drewN HB.out (1+q5));refine hK.out _ _ ?_ (λhld=>?_)
   .first | exact ae.out | exact below_drewN (below_drewN HB.out 1) q5
   clear hK K;try simp only [Act.put,au]
   refine ak 11 λK hK=>?_;go_simp;go_at_call 113
   (with_reducible refine (Lh.oF (Kn:Int) (C:Int) _).mono ?_)
   rintro e w6 ⟨rfl,rfl⟩;refine hK.out _ _ ?_ (λhld=>?_)
   .first | exact ae.out | exact below_drewN (below_drewN HB.out 1) q5
   clear hK K;try simp only [Act.put,au]
   refine aj 12 ?_;try simp only [Act.put,au]
   refine aC ?_;go_wp2;go_roundw
   case rel=>exact ⟨j+1,by omega,by omega,by go_num,by rw [HS.out]; congr 1; split <;> omega,ae⟩
   case measure=>simp [intOf]; omega
  .obtain rfl:j=n:=by omega
   rw [List.take_of_length_le (by rw [HL.out]; exact aH)];go_wp2;go_ret;exact ⟨rfl,HB.out⟩
open No
theorem Qy (k:aN) (hk:k.length=32) (w:World) :
  Calls prog 10 #[.agg (kc k)] w (QX w (bG k)):=by
 obtain ⟨i0,hi,hz0,hz1,hz2⟩:=info_parts Cc.lC;have HI:Hid (_/\_/\_/\_):=hid ⟨hi,hz0,hz1,hz2⟩;have hcell:∀ q,q<32->(w.alloc (.cells (kc k) 24)).cell? ⟨w.heap.size,q,none⟩=some (.int .u8 (k.getD q 0).toNat):=λq hq=>by
  rw [World.cell?_alloc_mark];simp [kc,List.getD,hk,hq]
 have HC:=hid hcell;have Rd:=hid (λj hj V hV=>WH k hk j hj V hV);have YR:=hid (fM k hk);obtain ⟨C,hC⟩:=aA (kc k)
 rw [hC] at HC ⊢;clear hcell hi hz0 hz1 hz2 hC hk;go_enter func10,ntmps10;go_wp2;go_loopw [3,4] (λv i wr=>∃ j:Nat,j<=64/\i = .int .i64 j/\Hid (wr.ownsRow (w.heap.size+1) 5 1 v j (pc k j))/\Below (w.heap.size+1) (w.alloc (.cells C 24)) wr) (λ_ i _=>64-(intOf i).toNat)
 case atStart=>exact ⟨0,Nat.zero_le _,rfl,hid (World.ownsRow_nil _ _ _ _),aI⟩
 case round =>
  obtain ⟨j,hj,rfl,HO,hB⟩:=hrel;by_cases hlt:j<64
  .have hc0:=HC.out (j/2) (by omega);have hc:∀ o:Obj,wr.cell? ⟨w.heap.size,j/2,none⟩=some (.int .u8 (k.getD (j/2) 0).toNat):=λ_=>by
    rw [hB.cell (p:=⟨w.heap.size,j/2,none⟩) (by simp)]; exact hc0
   have hc:=hc (.cells #[] 0);have hx:=UInt8.toNat_lt (k.getD (j/2) 0);have hsz:w.heap.size+1<=wr.heap.size:=by have:=hB.size; simp at this; omega
   by_cases hp:j%2=0
   .have HV:=hid (TQ k j hp);obtain ⟨x,hxe⟩:=aA ((k.getD (j/2) 0).toNat)
    rw [hxe] at hc hx HV;have HS:=hid (Rd.out j hlt ((x:Int)/16%16) (by rw [HV.out]; omega));have hp2:((j:Int)%2==0)=true:=by simp; omega
    clear hc0 hxe hp;go_wp2_with (at_builtin; refine wpList_append_own _ rfl _ _ 35 rfl (w.heap.size+1) 5 i0 (.int .u8 0) 1 1 underlying35 HI.out.1 HI.out.2.1 HI.out.2.2.1 HI.out.2.2.2 rfl (by decide) _ _ _ rfl (HO.out.alloc _) ⟨wr.heap.size,0,none⟩ 1 1 [.int .u8 ((x:Int)/16%16)] rfl rfl ?c1 ?c2 ?c3 ?c4 ?c5 ?_)
    case c1=>exact Bu.cell_one_new' _ _ _ _
    case c2=>intro u hu; simp at hu; subst hu; rfl
    case c3=>unfold maxLen; omega
    case c4=>omega
    case c5=>simp; omega
    intro v' w2 hown2 hgrow _;have hlt':=HO.out.lt;go_wp2;go_roundw
    case rel=>exact ⟨j+1,by omega,by go_num,hid (by rw [HS.out]; exact hown2),(hB.alloc hsz _).grown hgrow (by simp; omega) (λg hg=>(hlt' g hg).1)⟩
    case measure=>simp [intOf]; omega
   .have HV:=hid (Vx k j hp);obtain ⟨x,hxe⟩:=aA ((k.getD (j/2) 0).toNat)
    rw [hxe] at hc hx HV;have HS:=hid (Rd.out j hlt ((x:Int)%16) (by rw [HV.out]; omega));have hp2:((j:Int)%2==0)=false:=by simp; omega
    clear hc0 hxe hp;go_wp2_with (at_builtin; refine wpList_append_own _ rfl _ _ 35 rfl (w.heap.size+1) 5 i0 (.int .u8 0) 1 1 underlying35 HI.out.1 HI.out.2.1 HI.out.2.2.1 HI.out.2.2.2 rfl (by decide) _ _ _ rfl (HO.out.alloc _) ⟨wr.heap.size,0,none⟩ 1 1 [.int .u8 ((x:Int)%16)] rfl rfl ?d1 ?d2 ?d3 ?d4 ?d5 ?_)
    case d1=>exact Bu.cell_one_new' _ _ _ _
    case d2=>intro u hu; simp at hu; subst hu; rfl
    case d3=>unfold maxLen; omega
    case d4=>omega
    case d5=>simp; omega
    intro v' w2 hown2 hgrow _;have hlt':=HO.out.lt;go_wp2;go_roundw
    case rel=>exact ⟨j+1,by omega,by go_num,hid (by rw [HS.out]; exact hown2),(hB.alloc hsz _).grown hgrow (by simp; omega) (λg hg=>(hlt' g hg).1)⟩
    case measure=>simp [intOf]; omega
  .obtain rfl:j=64:=by omega
   have hO:=HO.out;have e:pc k 64=(bG k).map λx=>Value.int .u8 x.toNat:=by
    unfold pc; rw [List.take_of_length_le (by rw [YR.out]; exact aH)]
   rw [e] at hO;obtain ⟨a,cap,rfl,hb⟩:=Si hO;have HB:=hid hb;have fR:Hid (Below w.heap.size w wr):=hid (((Below.refl w.heap.size w).alloc aH _).trans (hB.mono (by omega)));clear hO e hb;go_wp2;go_ret;exact ⟨a,_,cap,rfl,HB.out.weak (by omega),fR.out⟩
theorem Wq (l:List Tr.Pair) (a:aL) (n c:Nat) (w:World) (h:fT w a n c l) (hn:n<=1000000) :
  Calls prog 21 #[.slice a n c] w λe w'=>∃ v,e = .returned v/\iR w.heap.size w' v (kV l)/\Below w.heap.size w w':=by
 have HH:=hid h;have HL:=hid h.len;have hcap:=h.1;have hmx:=h.2.1;unfold maxLen at hmx;clear h;go_enter func21,ntmps21;go_wp2_with fail
 go_loopw [3,4] (λv i wr=>∃ (j:Nat) (O:List Tr.In),j<=n/\i = .int .i64 j/\Hid (iR w.heap.size wr v O)/\Hid (kV l=O++kV (l.drop j))/\O.length<=j/\Hid (Below w.heap.size w wr)) (λ_ i _=>n-(intOf i).toNat)
 case atStart=>exact ⟨0,[],Nat.zero_le _,rfl,hid (iR.nil _ _),hid rfl,aH,hid aI⟩
 case round =>
  obtain ⟨wo,hwo⟩:=ay wr
  subst hwo;obtain ⟨j,O,hj,rfl,HR,HI,hO,HB⟩:=hrel;by_cases hlt:j<n
  .obtain ⟨b,off,rfl,hblt,IS,hkj⟩:=HH.out.at' j hlt;have hji:(j:Int)<n:=by omega
   have IT:Hid (l.drop j=l.getD j ([],eB)::l.drop (j+1)):=hid (drop_at (by rw [HL.out]; exact hlt));obtain ⟨x,hx⟩:=aA (l.getD j ([],eB))
   rw [hx] at IS hkj IT;have J0:=hid IS;have zg:=hid hkj;obtain ⟨T,hT⟩:∃ T,(l.drop (j+1)).any (λy=>decide (y.1=x.1))=T:=⟨_,rfl⟩
   have HT:=hid hT;clear hx IS hkj hT;go_wp2_with fail
   go_loopw [5,6] (λf i wi=>∃ (k:Nat) (f':Bool),j+1<=k/\k<=n/\i = .int .i64 k/\f = .bool f'/\Hid ((f' && !((l.drop k).any (λy=>decide (y.1=x.1)))) = !T)/\Hid (Below wo.heap.size wo wi)) (λ_ i _=>n-(intOf i).toNat)
   case atStart=>exact ⟨j+1,true,aH,by omega,by go_num,rfl,hid (by rw [HT.out,Bool.true_and]),hid aI⟩
   case round =>
    obtain ⟨wi,hwi⟩:=ay wr
    subst hwi;obtain ⟨k,f',hjk,hk,rfl,rfl,HF,jx⟩:=hrel;have xv:Hid (Below w.heap.size w wi):=hid (HB.out.trans (jx.out.mono HB.out.size));by_cases cL:k<n
    .obtain ⟨b',off',hbe,rv,hpk,hkk⟩:=HH.out.at' k cL;cases hbe;have hki:(k:Int)<n:=by omega
     have Re:Hid (l.drop k=l.getD k ([],eB)::l.drop (k+1)):=hid (drop_at (by rw [HL.out]; exact cL));obtain ⟨y,hy⟩:=aA (l.getD k ([],eB))
     rw [hy] at hpk hkk Re;have fk:=hid hpk;have rx:=hid hkk;clear hy hpk hkk;cases f'
     .have z9:Hid ((false && !((l.drop (k+1)).any (λy=>decide (y.1=x.1)))) = !T):=hid (by rw [<-HF.out]; rfl);clear HF;go_wp2_with fail
      refine aD (S:=λw'=>Below w.heap.size w w') (below_drewN xv.out 1) λhld=>?_;refine aj 0 ?_;try simp only [Act.put,au]
      refine aj 1 ?_;try simp only [Act.put,au]
      refine Rg.takeL (i:=2) (v:=undef) rfl (by kernel_rfl) (by kernel_rfl) (by kernel_rfl) (λ_ _ _ h=>h) (Or.inr ⟨by rfl,rfl⟩) (by assumption) ?_;try simp only [Act.put,au]
      refine Rg.takeL (i:=3) (v:=undef) rfl (by kernel_rfl) (by kernel_rfl) (by kernel_rfl) (λ_ _ _ h=>h) (Or.inr ⟨by rfl,rfl⟩) (by assumption) ?_;try simp only [Act.put,au]
      refine Rg.takeL (i:=4) (v:=undef) rfl (by kernel_rfl) (by kernel_rfl) (by kernel_rfl) (λ_ _ _ h=>h) (Or.inr ⟨by rfl,rfl⟩) (by assumption) ?_;try simp only [Act.put,au]
      refine Rg.takeL (i:=5) (v:=undef) rfl (by kernel_rfl) (by kernel_rfl) (by kernel_rfl) (λ_ _ _ h=>h) (Or.inr ⟨by rfl,rfl⟩) (by assumption) ?_;try simp only [Act.put,au]
      refine Rg.takeL (i:=6) (v:=undef) rfl (by kernel_rfl) (by kernel_rfl) (by kernel_rfl) (λ_ _ _ h=>h) (Or.inr ⟨by rfl,rfl⟩) (by assumption) ?_;try simp only [Act.put,au]
      refine Rg.takeL (i:=7) (v:=undef) rfl (by kernel_rfl) (by kernel_rfl) (by kernel_rfl) (λ_ _ _ h=>h) (Or.inr ⟨by rfl,rfl⟩) (by assumption) ?_;try simp only [Act.put,au]
      refine Rg.takeL (i:=8) (v:=undef) rfl (by kernel_rfl) (by kernel_rfl) (by kernel_rfl) (λ_ _ _ h=>h) (Or.inr ⟨by rfl,rfl⟩) (by assumption) ?_;try simp only [Act.put,au]
      refine Rg.takeL (i:=9) (v:=undef) rfl (by kernel_rfl) (by kernel_rfl) (by kernel_rfl) (λ_ _ _ h=>h) (Or.inr ⟨by rfl,rfl⟩) (by assumption) ?_;try simp only [Act.put,au]
      refine Rg.takeL (i:=10) (v:=undef) rfl (by kernel_rfl) (by kernel_rfl) (by kernel_rfl) (λ_ _ _ h=>h) (Or.inr ⟨by rfl,rfl⟩) (by assumption) ?_;try simp only [Act.put,au]
      refine Rg.takeL (i:=11) (v:=undef) rfl (by kernel_rfl) (by kernel_rfl) (by kernel_rfl) (λ_ _ _ h=>h) (Or.inr ⟨by rfl,rfl⟩) (by assumption) ?_;try simp only [Act.put,au]
      refine Rg.takeL (i:=12) (v:=undef) rfl (by kernel_rfl) (by kernel_rfl) (by kernel_rfl) (λ_ _ _ h=>h) (Or.inr ⟨by rfl,rfl⟩) (by assumption) ?_;try simp only [Act.put,au]
      refine aj 13 ?_;try simp only [Act.put,au]
      refine aj 14 ?_;try simp only [Act.put,au]
      refine aC ?_;go_wp2;go_roundw
      case rel=>exact ⟨k+1,_,by omega,by omega,by go_num,rfl,z9,hid (jx.out.trans (below_drewN aI 1))⟩
      case measure=>simp [intOf]; omega
     .go_wp2_with fail
      refine aD (S:=λw'=>Below w.heap.size w w') (below_drewN xv.out 1) λhld=>?_;refine aj 0 ?_;try simp only [Act.put,au]
      refine aj 1 ?_;try simp only [Act.put,au]
      refine aj 2 ?_;try simp only [Act.put,au]
      refine aj 3 ?_;try simp only [Act.put,au]
      refine aj 4 ?_ (hy:=by intro wz hSw; have q0:=hki; have q1:=cL; have q2:=hji; have q3:=hlt; (try dsimp only at hSw); go_simp <;> with_reducible rfl);try simp only [Act.put,au]
      refine aj 5 ?_;try simp only [Act.put,au]
      refine aj 6 ?_ (hy:=by intro wz hSw; (refine bH rx.out (cK.below fk.out hSw).key ?_; exact ⟨_,rfl,rfl⟩));try simp only [Act.put,au]
      refine aj 7 ?_;try simp only [Act.put,au]
      refine aj 8 ?_;try simp only [Act.put,au]
      refine aj 9 ?_ (hy:=by intro wz hSw; have q0:=hki; have q1:=cL; have q2:=hji; have q3:=hlt; (try dsimp only at hSw); go_simp <;> with_reducible rfl);try simp only [Act.put,au]
      refine aj 10 ?_;try simp only [Act.put,au]
      refine aj 11 ?_ (hy:=by intro wz hSw; (refine bH zg.out (cK.below J0.out hSw).key ?_; exact ⟨_,rfl,rfl⟩));try simp only [Act.put,au]
      refine aj 12 ?_ (hy:=by intro wz hSw; (refine Jc rx.out zg.out ?_; exact ⟨_,_,_,rfl,rfl,rfl⟩));try simp only [Act.put,au]
      refine aj 13 ?_;try simp only [Act.put,au]
      refine aj 14 ?_;try simp only [Act.put,au]
      refine aC ?_;go_wp2;go_roundw
      case rel=>exact ⟨k+1,_,by omega,by omega,by go_num,rfl,hid (by rw [<-HF.out,Re.out,List.any_cons,Bool.true_and]; cases decide (y.1=x.1) <;> rfl),hid (jx.out.trans (below_drewN aI 1))⟩
      case measure=>simp [intOf]; omega
    .obtain rfl:k=n:=by omega
     have hT':f' = !T:=by
      have:=HF.out;rw [List.drop_of_length_le (by rw [HL.out]; exact aH)] at this;simpa using this
     subst hT';have pC:Hid (iR w.heap.size wi u3 O):=hid (HR.out.below jx.out);clear HF;cases T
     .go_wp2_with fail
      refine aD (S:=λw'=>Below w.heap.size w w') (below_drewN xv.out 1) λhld=>?_;refine aj 0 ?_;try simp only [Act.put,au]
      refine aj 1 ?_;try simp only [Act.put,au]
      refine aj 2 ?_;try simp only [Act.put,au]
      refine aj 3 ?_ (hy:=by intro wz hSw; have q2:=hji; have q3:=hlt; (try dsimp only at hSw); go_simp <;> with_reducible rfl);try simp only [Act.put,au]
      refine aj 4 ?_;try simp only [Act.put,au]
      refine aj 5 ?_ (hy:=by intro wz hSw; (refine bH zg.out (cK.below J0.out hSw).key ?_; exact ⟨_,rfl,rfl⟩));try simp only [Act.put,au]
      refine aj 7 ?_;try simp only [Act.put,au]
      refine aj 8 ?_;try simp only [Act.put,au]
      refine aj 9 ?_ (hy:=by intro wz hSw; have q2:=hji; have q3:=hlt; (try dsimp only at hSw); go_simp <;> with_reducible rfl);try simp only [Act.put,au]
      refine aj 10 ?_;try simp only [Act.put,au]
      refine aF 11 (λwz hSw=>(cK.below J0.out hSw).val zg.out) ?_;try simp only [Act.put,au]
      refine ak 6 λK hK=>?_;go_simp;go_at_call 10
      (with_reducible refine (Qy x.1 zg.out _).mono ?_)
      rintro e w5 ⟨pa,pn,pc,rfl,hpb,hb5⟩;have ae:Hid (Below wi.heap.size wi w5):=hid (bst (show Below wi.heap.size wi wi.drew from below_drewN aI 1) hb5);have eW:=hid hpb;clear hpb hb5;refine hK.out _ _ (xv.out.trans (ae.out.mono xv.out.size)) λhld=>?_;clear hK K;try simp only [Act.put,au]
      refine aj 12 ?_;try simp only [Act.put,au]
      refine ak 13 λK hK=>?_;refine yV (x:=(bG x.1,x.2)) (h:=(pa,pn,pc)) (by rfl) ⟨_,rfl,rfl⟩ ?_;intro w6 b6 hbe hN hb6;have HN:=hid hN;have ax:Hid (Below w5.heap.size w5 w6):=hid hb6;clear hN hb6 hbe;refine hK.out _ _ (Below.trans hld (ax.out.mono (Below.size hld))) λhld=>?_;clear hK K;try simp only [Act.put,au]
      refine ak 14 λK hK=>?_;refine vL (by rfl) ⟨_,_,rfl,rfl,rfl⟩ (iR.below (iR.below pC.out ae.out) ax.out) HN.out (h:=(pa,pn,pc)) (x:=(bG x.1,x.2)) (BsP.kept (p:=λb=>u3.ownBlock≠some b) (w:=w5) ⟨eW.out.1,λad e _ he=>by have h1:=(pC.out.lt _ he).2; have h2:=eW.out.2 ad e; have h3:wi.heap.size<=ad.block:=h2; omega⟩ ax.out.size (λb _ hlt=>ax.out.block b hlt)) (by omega) (Below.size hld) ?_;intro v7 w7 gx gA;have cA:Hid (Below w.heap.size w w7):=hid (rG (iR.below (iR.below pC.out ae.out) ax.out) hld (Below.size hld) gA)
      have gC:=hid gx;clear gx gA;refine hK.out _ _ (cA.out) λhld=>?_;clear hK K;try simp only [Act.put,au]
      refine aj 15 ?_;try simp only [Act.put,au]
      refine aC ?_;go_wp2;go_roundw
      case rel=>exact ⟨j+1,O++[(bG x.1,x.2)],by omega,by go_num,gC,hid (by rw [HI.out,IT.out,kV,if_neg (by rw [HT.out]; exact Bool.false_ne_true),List.append_assoc]; rfl),by rw [List.length_append,List.length_singleton]; omega,cA⟩
      case measure=>simp [intOf]; omega
     .go_wp2_with fail
      go_roundw
      case rel=>exact ⟨j+1,O,by omega,by go_num,pC,hid (by rw [HI.out,IT.out,kV,if_pos HT.out]),by omega,xv⟩
      case measure=>simp [intOf]; omega
  .obtain rfl:j=n:=by omega
   have HR':=HR.out;have hi:=HI.out;rw [List.drop_of_length_le (by rw [HL.out]; exact aH)] at hi;have hi':kV l=O:=by rw [hi]; exact List.append_nil _
   obtain ⟨a',n',c',rfl,hd⟩:=HR'.done;have HD:=hid HR';have HE:=hid hi';clear HR' hd HR hi hi' HI;go_wp2;go_ret;exact ⟨_,rfl,by rw [HE.out]; exact HD.out,HB.out⟩
end Tm
end
section
open Go.RowKit
namespace Tm
open Tr Ni Pk Sm
def sz:T->Nat
 | .nil=>0
 | .leaf _ _=>1
 | .ext _ t=>sz t+1
 | .br ks=>((List.finRange 16).map λi=>sz (ks i)).sum+1
 | .stub _=>1
theorem Fu:∀ (l:List Nat) (x:Nat),x∈l->x<=l.sum
 | [],_,h=>by cases h
 | y::l,x,h=>by
  rw [List.sum_cons];rcases List.mem_cons.1 h with rfl | h
  .omega
  .have:=Fu l x h;omega
theorem XV (ks:Fin 16->T) (i:Fin 16):sz (ks i)<sz (.br ks):=by
 have h:=Fu ((List.finRange 16).map λi=>sz (ks i)) (sz (ks i)) (List.mem_map.2 ⟨i,List.mem_finRange i,rfl⟩);show _<_+1;omega
def FM (w:World) (b:Nat):Prop:=(∀ j v,w.cell? ⟨b,j,none⟩=some v->(∀ x,v ≠ .int .u8 x)/\∀ p,v ≠ .pointer p)/\w.cell? ⟨b,8,none⟩=none
structure dM (M:Mp) (n:Nat) (w:World):Prop where
 lt_:∀ k,M.ft k->k<w.heap.size
 part_:∀ b t,M.at_ b=some t->t ≠ .nil/\M.ft b/\FM w b/\(sz t<n->qK M w b t)
structure FrN (M:Mp) (n:Nat) (w w':World):Prop where
 os:w'.os=w.os
 tape:w'.tape=w.tape
 output:w'.output=w.output
 size:w.heap.size<=w'.heap.size
 block:∀ k,k<w.heap.size->(M.at_ k=none\/∃ t,M.at_ k=some t/\n<=sz t)->w'.heap[k]? = w.heap[k]?
theorem Er {b:Nat} {t:T} {ka:aL} {kn kc:Nat} (h:w.heap[b]? = some (.cells (lq t a n c ka kn kc d r) 150 (0,0))):FM w b:=by
 refine ⟨λj v hc=>Fw (pI h hc),?_⟩;rw [World.cell?,h];rfl
theorem Inv.toN {M:Mp} (h:Inv M w) (n:Nat):dM M n w:=⟨h.lt_,λb t hm=>by
 obtain ⟨h1,h2,h3⟩:=h.part_ b t hm;obtain ⟨a,n,c,ka,kn,kc,d,r,hb,hr⟩:=h3;exact ⟨h1,h2,Er hb,λ_=>⟨a,n,c,ka,kn,kc,d,r,hb,hr⟩⟩⟩
theorem dM.mono {M:Mp} (h:dM M n w) (hm:m<=n):dM M m w:=⟨h.lt_,λb t e=>by
 obtain ⟨h1,h2,h3,h4⟩:=h.part_ b t e;exact ⟨h1,h2,h3,λhl=>h4 (by omega)⟩⟩
theorem dM.fO {M:Mp} {n:Nat} {w:World} (h:dM M n w) {b j:Nat} {x:Int} (hc:w.cell? ⟨b,j,none⟩=some (.int .u8 x)):M.at_ b=none:=by
 cases hm:M.at_ b with
 | none=>rfl
 | some t=>exact absurd rfl (((h.part_ b t hm).2.2.1.1 _ _ hc).1 x)
theorem dM.qy {M:Mp} {n:Nat} {w:World} (h:dM M n w) {b j:Nat} {p:aL} (hc:w.cell? ⟨b,j,none⟩=some (.pointer p)):M.at_ b=none:=by
 cases hm:M.at_ b with
 | none=>rfl
 | some t=>exact absurd rfl (((h.part_ b t hm).2.2.1.1 _ _ hc).2 p)
theorem FrN.below (M:Mp) (n:Nat) (h:Below w.heap.size w w'):FrN M n w w':=⟨h.os,h.tape,h.output,h.size,λk hk _=>h.block k hk⟩
theorem FrN.trans {M:Mp} {n:Nat} {w w1 w2:World} (h:FrN M n w w1) (g:FrN M n w1 w2):FrN M n w w2:=⟨g.os.trans h.os,g.tape.trans h.tape,g.output.trans h.output,Nat.le_trans h.size g.size,λk hk hc=>(g.block k (aJ hk h.size) hc).trans (h.block k hk hc)⟩
theorem FrN.mono {M:Mp} (h:FrN M n w w') (hm:n<=m):FrN M m w w':=⟨h.os,h.tape,h.output,h.size,λk hk hc=>h.block k hk (hc.imp id (λ⟨t,e,hl⟩=>⟨t,e,by omega⟩))⟩
theorem FrN.cell {M:Mp} (h:FrN M n w w') {b o:Nat} (hc:w.cell? ⟨b,o,none⟩=some v) (hb:M.at_ b=none\/∃ t,M.at_ b=some t/\n<=sz t):w'.cell? ⟨b,o,none⟩=some v:=by
 rw [<-hc];exact World.cell?_of_block (w:=w) (h.block b (World.block_lt_of_cell? w _ hc) hb)
theorem FrN.upd {M:Mp} (h:FrN M n w w1) (hu:Rg.Upd w1 g w') (hg:w.heap.size<=g):FrN M n w w':=⟨hu.os.trans h.os,hu.tape.trans h.tape,hu.output.trans h.output,by rw [hu.size]; exact h.size,λk hk hc=>(hu.block k (by omega)).trans (h.block k hk hc)⟩
theorem FrN.fr {M:Mp} (h:FrN M n w w'):Fr M M w w':=⟨h.os,h.tape,h.output,h.size,λk hk hm=>h.block k hk (Or.inl hm),λ_ _ h=>h,λ_ _ h=>h,λ_ h=>h,λ_ h=>Or.inl h⟩
theorem qK.keep {M:Mp} {b:Nat} {t:T} (h:qK M w b t) (hs:w.heap.size<=w'.heap.size) (hb:w'.heap[b]? = w.heap[b]?)
  (hk:∀ k j v,k<w.heap.size->w.cell? ⟨k,j,none⟩=some v->((∃ x,v = .int .u8 x)\/∃ p,v = .pointer p)->w'.heap[k]? = w.heap[k]?):qK M w' b t:=by
 obtain ⟨a,n,c,ka,kn,kc,d,r,h1,hB,hK,hd⟩:=h;refine ⟨a,n,c,ka,kn,kc,d,r,hb.trans h1,⟨⟨hB.1.1,hB.1.2.1,hB.1.2.2.1,hB.1.2.2.2.1,λj hj=>?_⟩,hB.2⟩,⟨hK.1,hK.2.1,hK.2.2.1,hK.2.2.2.1,λj hj=>?_⟩,hd⟩
 .obtain ⟨b',off,e,hlt,hc⟩:=hB.1.2.2.2.2 j hj;exact ⟨b',off,e,aJ hlt hs,by rw [World.cell?_of_block (hk b' _ _ hlt hc (Or.inl ⟨_,rfl⟩))]; exact hc⟩
 .obtain ⟨b',off,p,e,hlt,hf,hc,ht⟩:=hK.at' j hj;exact ⟨b',off,p,e,aJ hlt hs,hf,by rw [World.cell?_of_block (hk b' _ _ hlt hc (Or.inr ⟨_,rfl⟩))]; exact hc,ht⟩
theorem FM.keep {b:Nat} (h:FM w b) (hb:w'.heap[b]? = w.heap[b]?):FM w' b:=by
 have hc:∀ j,w'.cell? ⟨b,j,none⟩=w.cell? ⟨b,j,none⟩:=λj=>World.cell?_of_block hb;exact ⟨λj v h1=>h.1 j v (by rw [<-hc j]; exact h1),by rw [hc 8]; exact h.2⟩
theorem dM.after {M:Mp} (h:dM M n w) (f:FrN M m w w') (g:dM M m w'):dM M n w':=by
 refine ⟨λk hk=>aJ (h.lt_ k hk) f.size,λb t hm=>?_⟩;obtain ⟨h1,h2,h3,h4⟩:=h.part_ b t hm;obtain ⟨_,_,g3,g4⟩:=g.part_ b t hm;refine ⟨h1,h2,g3,λhl=>?_⟩;by_cases e:sz t<m
 .exact g4 e
 .refine (h4 hl).keep f.size (f.block b (h.lt_ b h2) (Or.inr ⟨t,hm,by omega⟩)) (λk j v hlt hc hv=>f.block k hlt (Or.inl ?_));rcases hv with ⟨x,rfl⟩ | ⟨p,rfl⟩
  .exact h.fO hc
  .exact h.qy hc
theorem dM.below {M:Mp} (h:dM M n w) (hb:Below w.heap.size w w'):dM M n w':=by
 refine ⟨λk hk=>aJ (h.lt_ k hk) hb.size,λb t hm=>?_⟩;obtain ⟨h1,h2,h3,h4⟩:=h.part_ b t hm;have hlt:=h.lt_ b h2;exact ⟨h1,h2,h3.keep (hb.block b hlt),λhl=>(h4 hl).keep hb.size (hb.block b hlt) (λk j v hk _ _=>hb.block k hk)⟩
theorem dM.upd {M:Mp} (h:dM M n w) (hu:Rg.Upd w g w') (hg:¬ M.ft g):dM M n w':=by
 refine ⟨λk hk=>by rw [hu.size]; exact h.lt_ k hk,λb t hm=>?_⟩;obtain ⟨h1,h2,h3,h4⟩:=h.part_ b t hm;have hne:∀ k,M.ft k->k≠g:=λk hk e=>hg (by rw [<-e]; exact hk);refine ⟨h1,h2,h3.keep (hu.block b (hne b h2)),λhl=>?_⟩;obtain ⟨a,n,c,ka,kn,kc,d,r,hb,hB,hK,hd⟩:=h4 hl;refine ⟨a,n,c,ka,kn,kc,d,r,(hu.block b (hne b h2)).trans hb,⟨⟨hB.1.1,hB.1.2.1,hB.1.2.2.1,hB.1.2.2.2.1,λj hj=>?_⟩,hB.2⟩,⟨hK.1,hK.2.1,hK.2.2.1,hK.2.2.2.1,λj hj=>?_⟩,hd⟩
 .obtain ⟨b',off,e,hlt,hc⟩:=hB.1.2.2.2.2 j hj;exact ⟨b',off,e,by rw [hu.size]; exact hlt,by rw [World.cell?_of_block (hu.block b' (hne b' (hB.2 _ e (by omega))))]; exact hc⟩
 .obtain ⟨b',off,p,e,hlt,hf,hc,ht⟩:=hK.at' j hj;exact ⟨b',off,p,e,by rw [hu.size]; exact hlt,hf,by rw [World.cell?_of_block (hu.block b' (hne b' hf))]; exact hc,ht⟩
theorem Jk {M:Mp} {n:Nat} {w:World} (h:dM M n w) (hT:Tab w):M.at_ 0=none:=by
 cases hm:M.at_ 0 with
 | none=>rfl
 | some t =>
  have h8:=(h.part_ 0 t hm).2.2.1.2;rw [hT 8 (by omega)] at h8;cases h8
theorem zx {M:Mp} (h:dM M n w) (f:FrN M n w w') (hT:Tab w):Tab w':=λi hi=>f.cell (hT i hi) (Or.inl (Jk h hT))
theorem GJ {M:Mp} {k:Nat} {l:aN} (hi:dM M n w) (h:bf w a k c l) (f:FrN M n w w'):bf w' a k c l:=by
 refine ⟨h.1,h.2.1,h.2.2.1,h.2.2.2.1,λj hj=>?_⟩;obtain ⟨b,off,e,hlt,hc⟩:=h.2.2.2.2 j hj;exact ⟨b,off,e,aJ hlt f.size,f.cell hc (Or.inl (hi.fO hc))⟩
structure Body (M:Mp) (w:World) (b:Nat) (t:T) (a:aL) (n c:Nat) (ka:aL) (kn kc:Nat):Prop where
 c0:w.cell? ⟨b,0,none⟩=some (.int .i64 (fB t))
 c1:w.cell? ⟨b,1,none⟩=some (.slice a n c)
 c2:w.cell? ⟨b,2,none⟩=some (.string (RP t))
 c3:w.cell? ⟨b,3,none⟩=some (.slice ka kn kc)
 hb:bf w a n c (bY t)
 hk:Ks M w ka kn kc (ji t)
theorem qK.body {M:Mp} {b:Nat} {t:T} (h:qK M w b t):∃ a n c ka kn kc,Body M w b t a n c ka kn kc:=by
 obtain ⟨a,n,c,ka,kn,kc,d,r,hb,hB,hK,_⟩:=h;obtain ⟨⟨c0,c1,c2,c3⟩,_⟩:=jY hb;exact ⟨a,n,c,ka,kn,kc,c0,c1,c2,c3,hB.1,hK⟩
theorem Ks.frN {M:Mp} {l:List T} (hi:dM M m w) (h:Ks M w a n c l) (f:FrN M m w w'):Ks M w' a n c l:=by
 refine ⟨h.1,h.2.1,h.2.2.1,h.2.2.2.1,λj hj=>?_⟩;obtain ⟨b,off,p,e,hlt,hm,hc,ht⟩:=h.at' j hj;exact ⟨b,off,p,e,aJ hlt f.size,hm,f.cell hc (Or.inl (hi.qy hc)),ht⟩
theorem Body.frN {M:Mp} {m:Nat} {w w':World} {b:Nat} {t:T} {a:aL} {n c:Nat} {ka:aL} {kn kc:Nat} (h:Body M w b t a n c ka kn kc) (hi:dM M m w) (f:FrN M m w w') (hm:M.at_ b=some t) (hl:m<=sz t):Body M w' b t a n c ka kn kc :=
 have e:=Or.inr ⟨t,hm,hl⟩
 ⟨f.cell h.c0 e,f.cell h.c1 e,f.cell h.c2 e,f.cell h.c3 e,GJ hi h.hb f,h.hk.frN hi f⟩
theorem Body.below {M:Mp} {w w':World} {b:Nat} {t:T} {a:aL} {n c:Nat} {ka:aL} {kn kc:Nat} (h:Body M w b t a n c ka kn kc) (hb:Below w.heap.size w w'):Body M w' b t a n c ka kn kc:=by
 refine ⟨aX hb h.c0,aX hb h.c1,aX hb h.c2,aX hb h.c3,h.hb.below hb,h.hk.1,h.hk.2.1,h.hk.2.2.1,h.hk.2.2.2.1,λj hj=>?_⟩;obtain ⟨b',off,p,e,hlt,hm,hc,ht⟩:=h.hk.at' j hj;exact ⟨b',off,p,e,aJ hlt hb.size,hm,aX hb hc,ht⟩
theorem nL (b:Nat) (k:Int) (w:World) (hc:w.cell? ⟨b,0,none⟩=some (.int .i64 k)) :
  Calls prog 83 #[.agg #[.pointer (some ⟨b,0,none⟩)]] w λe w'=>e = .returned (.int .i64 k)/\Below w.heap.size w w':=by
 have h0:=fK w (some ⟨b,0,none⟩);have HE:=hid (lQ (some ⟨b,0,none⟩) (w.alloc (.cells #[.pointer (some ⟨b,0,none⟩)] 46)));have hk:=Ng (o':=.cells #[.pointer (some ⟨b,0,none⟩)] 46) hc;clear hc;go_enter func83,ntmps83;go_wp2_with fail
 refine HE.out.mono ?_;rintro e w2 ⟨rfl,hb⟩;have h1:=aX hb h0;have h2:=aX hb hk;clear h0 hk;go_wp2;go_ret;exact ⟨rfl,bst (al1 _ _) hb⟩
open Rf
open Rl
open No
def nA (M:Mp) (t:T) (w:World) (e:Ending) (w':World):Prop:=∃ a n c,e = .returned (.agg (ndC (bg t) a n c))/\BsF w.heap.size w' a n c (bg t).p/\FrN M (sz t) w w'/\dM M (sz t) w'
def mZ (t:T):Prop:=∀ (M:Mp) (w:World) (p:aL),dM M (sz t+1) w->IsT M p t->Tab w->Calls prog 111 #[.agg #[.pointer p]] w λe w'=>e = .returned (.string (ref t))/\FrN M (sz t+1) w w'/\dM M (sz t+1) w'
theorem LK (N:Nd) (a:aL) (n c:Nat):∀ (j:Nat) (x:Int),(ndC N a n c)[j]? ≠ some (Value.int .u8 x):=λj x h=>by
 unfold ndC at h
 match j,h with
 | 0,h=>simp at h
 | 1,h=>simp at h
 | 2,h=>simp at h
 | j+3,h=>simp at h
theorem xX (w:World) (p:aL):∃ w2,w2=(w.alloc (.cells #[.pointer p] 46)).alloc (.cells (ndC nd0 none 0 0) 67)/\Rg.Own w2 w.heap.size #[.pointer p] 46/\dZ w2 (w.heap.size+1) nd0 none 0 0/\Below w.heap.size w w2/\w2.heap.size=w.heap.size+2:=by
 refine ⟨_,rfl,(Rg.Own.new _ _ _).below (al1 _ _),?_,al2 _ _ _,by simp⟩;have:=Rg.Own.new (w.alloc (.cells #[.pointer p] 46)) (ndC nd0 none 0 0) 67;simpa using this
theorem RS (M:Mp) (b:Nat) (q:Pa) (v:aM) (hm:M.at_ b=some (.leaf q v)) (w:World) (hi:dM M 1 w) (pa:aL) (pn pc:Nat) (ka:aL) (kn kc:Nat) (hB:Body M w b (.leaf q v) pa pn pc ka kn kc) (hq:q.length<=64) :
  Calls prog 63 #[.agg #[.pointer (some ⟨b,0,none⟩)]] w (nA M (.leaf q v) w):=by
 obtain ⟨w2,hw2,ap,am,hb2,hs2⟩:=xX w (some ⟨b,0,none⟩);have hB2:=hB.below hb2;have h0:=aV (j:=0) ap rfl;have hlb:=hi.lt_ b (hi.part_ b _ hm).2.1;have hpn:q.length=pn:=hB.hb.len;have HK:=hid (nL b 1 w2 hB2.c0);have zj:Hid (∀ w3,Below w2.heap.size w2 w3->(w3.cell? ⟨w.heap.size,0,none⟩=some (.pointer (some ⟨b,0,none⟩))/\w3.cell? ⟨b,1,none⟩=some (.slice pa pn pc)/\w3.cell? ⟨b,2,none⟩=some (.string v))/\
   (∀ wx,Below w3.heap.size w3 wx->Calls prog 109 #[.slice pa pn pc,.string v] wx (Hq wx ⟨1,q,v,zks⟩))/\
   (∀ w6,Below w3.heap.size w3 w6->∀ a6 n6 c6,BsF w3.heap.size w6 a6 n6 c6 q->dZ w6 (w.heap.size+1) nd0 none 0 0/\∀ ag,Rg.Upd w6 (w.heap.size+1) ag->nA M (.leaf q v) w (.returned (.agg (ndC ⟨1,q,v,zks⟩ a6 n6 c6))) ag)):=hid (λw3 hb3 =>
  ⟨⟨aX hb3 h0,aX hb3 hB2.c1,aX hb3 hB2.c2⟩,λwx hbx=>No.nQ pa pn pc q (by omega) v wx (hB2.hb.below (bst hb3 hbx)),λw6 hb6 a6 n6 c6 hx=>by
   have bj:=am.below (bst hb3 hb6);have hbw:=bst hb2 (bst hb3 hb6);refine ⟨bj,λag hu=>⟨a6,n6,c6,rfl,⟨wH hx.1 (fO bj (LK _ _ _ _)) hu,λad e=>Nat.le_trans (Nat.le_trans hb2.size hb3.size) (hx.2 ad e)⟩,(FrN.below M _ hbw).upd hu (by omega),(hi.below hbw).upd hu (λe=>by have:=hi.lt_ _ e; omega)⟩⟩⟩)
 have H0:=hid ap;clear ap am hb2 hs2 hB hB2 h0 hi hm hpn hq;subst hw2;go_enter func63,ntmps63;go_wp2_with (first | (refine aB (aY _ _ _ (w.heap.size+1) (by simp) rfl) ?_) | (refine aB (aW (aV (j:=0) H0.out rfl) ⟨_,rfl,rfl⟩) ?_))
 refine HK.out.mono ?_;rintro e w3 ⟨rfl,hb3⟩;obtain ⟨⟨d0,d1,d2⟩,HC,HF⟩:=zj.out w3 hb3;replace HC:=hid HC;replace HF:=hid HF;clear hb3 zj HK H0;go_wp2_with fail
 refine aD (S:=λw'=>Bo (w.heap.size+1) w3 w') (Bo.of (below_drewN aI 1)) λhld=>?_;refine aj 0 ?_;try simp only [Act.put,au]
 refine aF 1 (λwz hSw=>gF hSw (by omega) d0) ?_;try simp only [Act.put,au]
 refine aj 2 ?_;try simp only [Act.put,au]
 refine aj 3 ?_;try simp only [Act.put,au]
 refine aF 4 (λwz hSw=>gF hSw (by omega) d1) ?_;try simp only [Act.put,au]
 refine aj 5 ?_;try simp only [Act.put,au]
 refine aF 6 (λwz hSw=>gF hSw (by omega) d0) ?_;try simp only [Act.put,au]
 refine aj 7 ?_;try simp only [Act.put,au]
 refine aj 8 ?_;try simp only [Act.put,au]
 refine aF 9 (λwz hSw=>gF hSw (by omega) d2) ?_;try simp only [Act.put,au]
 refine ak 10 λK hK=>?_;go_simp;go_at_call 109
 (with_reducible refine (HC.out w3.drew (below_drewN aI 1)).mono ?_)
 intro e w6 hG;obtain ⟨a6,n6,c6,rfl,cG,ry,hb6⟩:=hG;have tw:=hid ry;have H6:=hid (HF.out w6 (bst (below_drewN aI 1) hb6) a6 n6 c6 cG);have zp:Below w3.heap.size w3 w6:=bst (below_drewN aI 1) hb6;have cF:=hid H6.out.1;clear ry hb6 cG;refine hK.out _ _ (Bo.of zp) λhld=>?_;clear hK K;try simp only [Act.put,au]
 refine ak 11 λK hK=>?_;refine Rg.meetStore (by rfl) cF.out 67 (ndC ⟨1,q,v,zks⟩ a6 n6 c6) ⟨_,_,rfl,rfl,rfl⟩ (kY _ _ _ _ tw.out) (by rw [eO _ _ _ _ cB,eO _ _ _ _ tw.out]) (oZ _ _ _ _) ?_;intro ag ai al;have cq:=hid ai;have gE:=hid (H6.out.2 ag al);clear ai;refine hK.out _ _ ((Bo.of zp).upd al) λhld=>?_;clear hK K;try simp only [Act.put,au]
 refine aC ?_;go_wp2;exact bodyPost_ret (ug rfl _ rfl cq.out tw.out) rfl gE.out
theorem Wn (M:Mp) (b:Nat) (q:Pa) (s:T) (hm:M.at_ b=some (.ext q s)) (w:World) (hi:dM M (sz s+1) w) (pa:aL) (pn pc:Nat) (ka:aL) (kn kc:Nat) (hB:Body M w b (.ext q s) pa pn pc ka kn kc) (hq:q.length<=64) (hT:Tab w) (hR:mZ s) :
  Calls prog 63 #[.agg #[.pointer (some ⟨b,0,none⟩)]] w (nA M (.ext q s) w):=by
 obtain ⟨w2,hw2,ap,am,hb2,hs2⟩:=xX w (some ⟨b,0,none⟩);have hB2:=hB.below hb2;have hi2:=hi.below hb2;have h0:=aV (j:=0) ap rfl;have hlb:=hi.lt_ b (hi.part_ b _ hm).2.1;have hpn:q.length=pn:=hB.hb.len;obtain ⟨kb,ko,p0,rfl,cL,gw,hk0,hT0⟩:=hB2.hk.at' 0 (by rw [<-hB2.hk.len]; exact Nat.one_pos);have hkn:kn=1:=hB2.hk.len.symm;have hkc:=hB2.hk.1;have hkm:=hB2.hk.2.1;unfold maxLen at hkm;rw [Nat.add_zero] at hk0;have cg:IsT M p0 s:=hT0;have mb:=hi.lt_ kb gw;have HK:=hid (nL b 2 w2 hB2.c0);have zr:=hT.pos
 have zj:Hid (∀ w3,Below w2.heap.size w2 w3->(w3.cell? ⟨w.heap.size,0,none⟩=some (.pointer (some ⟨b,0,none⟩))/\w3.cell? ⟨b,1,none⟩=some (.slice pa pn pc)/\w3.cell? ⟨b,3,none⟩=some (.slice (some ⟨kb,ko,none⟩) kn kc)/\w3.cell? ⟨kb,ko,none⟩=some (.pointer p0))/\
   Calls prog 111 #[.agg #[.pointer p0]] w3.drew (λe w'=>e = .returned (.string (ref s))/\FrN M (sz s+1) w3.drew w'/\dM M (sz s+1) w')/\
   ∀ w5,FrN M (sz s+1) w3.drew w5->dM M (sz s+1) w5->(((w5.cell? ⟨w.heap.size,0,none⟩=some (.pointer (some ⟨b,0,none⟩))/\w5.cell? ⟨b,1,none⟩=some (.slice pa pn pc))/\w5.cell? ⟨b,3,none⟩=some (.slice (some ⟨kb,ko,none⟩) kn kc))/\w5.cell? ⟨kb,ko,none⟩=some (.pointer p0))/\
    Calls prog 110 #[.slice pa pn pc,.string (ref s)] w5 (Hq w5 ⟨2,q,eB,ref s::List.replicate 15 eB⟩)/\
    ∀ w6,Below w5.heap.size w5 w6->∀ a6 n6 c6,BsF w5.heap.size w6 a6 n6 c6 q->(((w6.cell? ⟨w.heap.size,0,none⟩=some (.pointer (some ⟨b,0,none⟩))/\w6.cell? ⟨b,1,none⟩=some (.slice pa pn pc))/\w6.cell? ⟨b,3,none⟩=some (.slice (some ⟨kb,ko,none⟩) kn kc))/\w6.cell? ⟨kb,ko,none⟩=some (.pointer p0))/\dZ w6 (w.heap.size+1) nd0 none 0 0/\
     ∀ ag,Rg.Upd w6 (w.heap.size+1) ag->(((ag.cell? ⟨w.heap.size,0,none⟩=some (.pointer (some ⟨b,0,none⟩))/\ag.cell? ⟨b,1,none⟩=some (.slice pa pn pc))/\ag.cell? ⟨b,3,none⟩=some (.slice (some ⟨kb,ko,none⟩) kn kc))/\ag.cell? ⟨kb,ko,none⟩=some (.pointer p0))/\nA M (.ext q s) w (.returned (.agg (ndC ⟨2,q,eB,iJ (ref s)⟩ a6 n6 c6))) ag):=hid (λw3 hb3=>by
  have du:Below w2.heap.size w2 w3.drew:=hb3.drew;have hi3:dM M (sz s+1) w3.drew:=hi2.below du;have e0:=aX du h0;have e1:=aX du hB2.c1;have e3:=aX du hB2.c3;have ek:=aX du hk0;have ne:M.at_ b=none\/∃ t,M.at_ b=some t/\sz s+1<=sz t:=Or.inr ⟨_,hm,aH⟩;have tx:Tab w3.drew:=hT.below (bst hb2 du) zr;refine ⟨⟨e0,e1,e3,ek⟩,hR M _ p0 hi3 cg tx,λw5 dg hi5=>?_⟩;have g0:=dg.cell e0 (Or.inl (hi3.qy e0));have g1:=dg.cell e1 ne;have g3:=dg.cell e3 ne;have gk:=dg.cell ek (Or.inl (hi3.qy ek));have YS:=GJ hi3 (hB2.hb.below du) dg
  have hg1:M.at_ (w.heap.size+1)=none:=by
   cases hmm:M.at_ (w.heap.size+1) with
   | none=>rfl
   | some t=>exact absurd (hi.lt_ _ (hi.part_ _ t hmm).2.1) (by omega)
  have bo:dZ w5 (w.heap.size+1) nd0 none 0 0:=⟨aJ (am.below du).1 dg.size,(dg.block _ (am.below du).1 (Or.inl hg1)).trans (am.below du).2⟩
  refine ⟨⟨⟨⟨g0,g1⟩,g3⟩,gk⟩,No.Nb pa pn pc q (by omega) (ref s) w5 YS,λw6 hb6 a6 n6 c6 hx=>?_⟩;have bj:=bo.below hb6;refine ⟨⟨⟨⟨aX hb6 g0,aX hb6 g1⟩,aX hb6 g3⟩,aX hb6 gk⟩,bj,λag hu=>?_⟩;have hc:∀ (b' o:Nat) (v:Value),b'≠w.heap.size+1->w6.cell? ⟨b',o,none⟩=some v->ag.cell? ⟨b',o,none⟩=some v:=λb' o v hne h=>by
   rw [<-h]; exact World.cell?_of_block (w:=w6) (hu.block b' hne)
  have hfw:FrN M (sz s+1) w w6:=((FrN.below M _ (bst hb2 du)).trans dg).trans (FrN.below M _ hb6);exact ⟨⟨⟨⟨hc _ _ _ (by omega) (aX hb6 g0),hc _ _ _ (by omega) (aX hb6 g1)⟩,hc _ _ _ (by omega) (aX hb6 g3)⟩,hc _ _ _ (by omega) (aX hb6 gk)⟩,
   a6,n6,c6,rfl,⟨wH hx.1 (fO bj (LK _ _ _ _)) hu,λad e=>Nat.le_trans (Nat.le_trans (Nat.le_trans hb2.size du.size) dg.size) (hx.2 ad e)⟩,hfw.upd hu (by omega),(hi5.below hb6).upd hu (λe=>by have:=hi.lt_ _ e; omega)⟩)
 have H0:=hid ap;clear ap am hb2 hs2 hB hB2 h0 hi hi2 hm hpn hq hT hR zr hk0 hT0 cg gw cL;subst hw2;go_enter func63,ntmps63;go_wp2_with (first | (refine aB (aY _ _ _ (w.heap.size+1) (by simp) rfl) ?_) | (refine aB (aW (aV (j:=0) H0.out rfl) ⟨_,rfl,rfl⟩) ?_))
 refine HK.out.mono ?_;rintro e w3 ⟨rfl,hb3⟩;obtain ⟨⟨d0,d1,d3,dk⟩,HC,HF⟩:=zj.out w3 hb3;replace HC:=hid HC;replace HF:=hid HF;clear hb3 zj HK H0;go_wp2_with fail
 refine aD (S:=λw'=>((w'.cell? ⟨w.heap.size,0,none⟩=some (.pointer (some ⟨b,0,none⟩))/\w'.cell? ⟨b,1,none⟩=some (.slice pa pn pc))/\w'.cell? ⟨b,3,none⟩=some (.slice (some ⟨kb,ko,none⟩) kn kc))/\w'.cell? ⟨kb,ko,none⟩=some (.pointer p0)) (⟨⟨⟨d0,d1⟩,d3⟩,dk⟩) λhld=>?_;refine aj 0 ?_;try simp only [Act.put,au]
 refine aF 1 (λwz hSw=>hSw.1.1.1) ?_;try simp only [Act.put,au]
 refine aj 2 ?_;try simp only [Act.put,au]
 refine aj 3 ?_;try simp only [Act.put,au]
 refine aF 4 (λwz hSw=>hSw.1.1.2) ?_;try simp only [Act.put,au]
 refine aj 5 ?_;try simp only [Act.put,au]
 refine aF 6 (λwz hSw=>hSw.1.1.1) ?_;try simp only [Act.put,au]
 refine aj 7 ?_;try simp only [Act.put,au]
 refine aj 8 ?_;try simp only [Act.put,au]
 refine aF 9 (λwz hSw=>hSw.1.2) ?_;try simp only [Act.put,au]
 refine aj 10 ?_;try simp only [Act.put,au]
 refine aj 11 ?_ (hy:=by intro wz hSw; (refine aW hSw.2 ?_; exact ⟨_,rfl,rfl⟩));try simp only [Act.put,au]
 refine ak 12 λK hK=>?_;go_simp;go_at_call 111
 (with_reducible refine HC.out.mono ?_)
 rintro e w5 ⟨rfl,dg,hi5⟩;obtain ⟨hS5,H5⟩:=HF.out w5 dg hi5;replace H5:=hid H5;clear dg hi5;refine hK.out _ _ (hS5) λhld=>?_;clear hK K;try simp only [Act.put,au]
 refine ak 13 λK hK=>?_;go_simp;go_at_call 110
 (with_reducible refine (H5.out.1).mono ?_)
 intro e w6 hG;obtain ⟨a6,n6,c6,rfl,cG,ry,hb6⟩:=hG;have tw:=hid ry;obtain ⟨iS,bj,zs⟩:=H5.out.2 w6 hb6 a6 n6 c6 cG;have H6:=hid zs;have cF:=hid bj;clear ry hb6 cG zs bj;refine hK.out _ _ (iS) λhld=>?_;clear hK K;try simp only [Act.put,au]
 refine ak 14 λK hK=>?_;refine Rg.meetStore (by rfl) cF.out 67 (ndC ⟨2,q,eB,ref s::List.replicate 15 eB⟩ a6 n6 c6) ⟨_,_,rfl,rfl,rfl⟩ (kY _ _ _ _ tw.out) (by rw [eO _ _ _ _ cB,eO _ _ _ _ tw.out]) (oZ _ _ _ _) ?_;intro ag ai al;have cq:=hid ai;obtain ⟨cM,mc⟩:=H6.out ag al;have gE:=hid mc;clear ai mc;refine hK.out _ _ (cM) λhld=>?_;clear hK K;try simp only [Act.put,au]
 refine aC ?_;go_wp2;exact bodyPost_ret (ug rfl _ rfl cq.out tw.out) rfl gE.out
theorem Hw (p:aL) (k:Int) (h1:k≠1) (h2:k≠2) (h3:k≠3) (w:World)
  (hK:∀ wx,Below w.heap.size w wx->Calls prog 83 #[.agg #[.pointer p]] wx λe w'=>e = .returned (.int .i64 k)/\Below wx.heap.size wx w') :
  Calls prog 63 #[.agg #[.pointer p]] w λe w'=>e = .returned (.agg (ndC nd0 none 0 0))/\Below w.heap.size w w':=by
 obtain ⟨w2,hw2,ap,am,hb2,hs2⟩:=xX w p;have HK:=hid (hK w2 hb2);have H3:Hid (∀ w3,Below w2.heap.size w2 w3->dZ w3 (w.heap.size+1) nd0 none 0 0/\Below w.heap.size w w3):=hid (λw3 hb3=>⟨am.below hb3,bst hb2 hb3⟩);have H0:=hid ap;have e1:(k==1)=false:=by simp [h1]
 have e2:(k==2)=false:=by simp [h2]
 have e3:(k==3)=false:=by simp [h3]
 clear ap am hb2 hs2 hK h1 h2 h3;subst hw2;go_enter func63,ntmps63;go_wp2_with (first | (refine aB (aY _ _ _ (w.heap.size+1) (by simp) rfl) ?_) | (refine aB (aW (aV (j:=0) H0.out rfl) ⟨_,rfl,rfl⟩) ?_))
 refine HK.out.mono ?_;rintro e w3 ⟨rfl,hb3⟩;obtain ⟨hO3,hB3⟩:=H3.out w3 hb3;have ce:=hid hO3;have HB3:=hid hB3;clear hb3 H3 HK H0 hO3 hB3;go_wp2_with (first
  | (refine aB (bQ qG ⟨_,rfl,rfl⟩) ?_)
  | (refine bN ce.out cB nd0 none 0 0 cB rfl _ _ rfl rfl rfl rfl ?_))
 exact bodyPost_ret (ug rfl _ rfl (dO ce.out) cB) rfl ⟨rfl,cO HB3.out (by omega) _⟩
theorem qo {b o:Nat} {cs:aO} (h:Rg.Own w b cs t) (ho:o<cs.size) (s:aM):(Instr.storeAt 9 (.pointer (some ⟨b,o,none⟩)) (.string s)).run prog w = .ok () (w.setCell ⟨b,o,none⟩ (.string s)):=by
 have hc:w.cell? ⟨b,o,none⟩=some cs[o]:=aV h (Array.getElem?_eq_getElem ho);have hz:w.frozen? ⟨b,o,none⟩=false:=fJ h;simp [go_sem,hc,hz]
theorem Ak (ks:List aM) (i:Nat) (x:aM):(iB ks).setIfInBounds i (.string x)=iB (ks.set i x):=by
 unfold iB;rw [List.map_set];simp
theorem CK {rest:List Oper} {b:Nat} {ks:List aM} (h:rT w b ks) (hl:ks.length=16) (hi:i<16) (s:aM)
  (hgd:o.guard=none) (x y:Operand) (ho:o.op = .store 9 x y) (hx:act.eval x = .pointer (some ⟨b,i,none⟩)) (hy:act.eval y = .string s)
  (hQ:∀ w',rT w' b (ks.set i s)->Rg.Upd w b w'->wpList prog ops Q rest (act.put o.dst undef) w'):wpList prog ops Q (o::rest) act w :=
 wpList_plain hgd λK hK=>by
  unfold Oper.wp execOp;simp only [ho,hx,hy,Sem.run_bind,Sem.run_pure,Result.andThen_ok,qo h (o:=i) (by rw [DZ,hl]; exact hi) s];refine hK _ _ (hQ _ ?_ (bM _ _ _ _));have:=bZ (o:=i) h (.string s);rwa [Ak] at this
def iM (l:List aM) (j:Nat):List aM:=l.take j++List.replicate (16-j) eB
theorem tY {l:List aM} (hl:l.length=16) (hj:j<=16):(iM l j).length=16:=by
 unfold iM;rw [List.length_append,List.length_take,List.length_replicate,hl];omega
theorem AO {l:List aM} (hl:l.length=16) (hj:j<16):(iM l j).set j (l.getD j eB)=iM l (j+1):=by
 unfold iM;have h1:(l.take j).length=j:=by rw [List.length_take,hl]; omega
 have h2:List.replicate (16-j) eB=eB::List.replicate (16-(j+1)) eB:=by
  rw [show 16-j=(16-(j+1))+1 by omega,List.replicate_succ]
 have h3:l.take (j+1)=l.take j++[l.getD j eB]:=by
  have e:l.getD j eB=l[j]'(by omega):=by simp [List.getD,hl,hj]
  rw [e,List.take_succ_eq_append_getElem (by omega)]
 rw [h2,h3,List.set_append_right _ _ (by omega),h1,Nat.sub_self,List.set_cons_zero,List.append_assoc];rfl
theorem BD {l:List aM} (hl:l.length=16):iM l 16=l:=by
 unfold iM;rw [List.take_of_length_le (by omega)];simp
theorem yM (l:List aM):iM l 0=zks:=by
 unfold iM;simp [zks]
theorem dM.zC {M:Mp} {n:Nat} {w:World} (h:dM M n w) {b:Nat} (hb:w.heap.size<=b):M.at_ b=none:=by
 cases hm:M.at_ b with
 | none=>rfl
 | some t=>exact absurd (h.lt_ b (h.part_ b t hm).2.1) (by omega)
theorem zB {M:Mp} {b:Nat} {cs:aO} (h:Rg.Own w b cs t) (f:FrN M n w w') (hb:M.at_ b=none):Rg.Own w' b cs t:=⟨aJ h.1 f.size,(f.block b h.1 (Or.inl hb)).trans h.2⟩
theorem Xy (M:Mp) (b:Nat) (ks:Fin 16->T) (hm:M.at_ b=some (.br ks)) (w:World) (hi:dM M (sz (.br ks)) w) (pa:aL) (pn pc:Nat) (ka:aL) (kn kc:Nat) (hB:Body M w b (.br ks) pa pn pc ka kn kc) (hT:Tab w) (hR:∀ i,mZ (ks i)) :
  Calls prog 63 #[.agg #[.pointer (some ⟨b,0,none⟩)]] w (nA M (.br ks) w):=by
 obtain ⟨w2,hw2,ap,am,hb2,hs2⟩:=xX w (some ⟨b,0,none⟩);have hB2:=hB.below hb2;have hi2:=hi.below hb2;have h0:=aV (j:=0) ap rfl;have hlb:=hi.lt_ b (hi.part_ b _ hm).2.1;have hkn:kn=16:=by rw [<-hB2.hk.len]; exact fQ ks
 subst hkn;obtain ⟨kb,ko,p0,rfl,cL,gw,hzz⟩:=hB2.hk.at' 0 (by omega);clear hzz;have eV:∀ j (hj:j<16),∃ p,w2.cell? ⟨kb,ko+j,none⟩=some (.pointer p)/\IsT M p (ks ⟨j,hj⟩):=λj hj=>by
  obtain ⟨b',o',p,e,_,_,hc,ht⟩:=hB2.hk.at' j hj;obtain ⟨rfl,rfl⟩:kb=b'/\ko=o':=by simpa using e
  refine ⟨p,hc,?_⟩;have:=kP ks ⟨j,hj⟩;rw [this] at ht;exact ht
 have hkc:=hB2.hk.1;have hkm:=hB2.hk.2.1;unfold maxLen at hkm;have mb:=hi.lt_ kb gw;have zr:=hT.pos;have eL:=hT.below hb2 zr;have HK:=hid (nL b 3 w2 hB2.c0);obtain ⟨L,hL⟩:∃ L,(gq λi=>ref (ks i))=L:=⟨_,rfl⟩
 have G6:L.length=16:=by rw [<-hL]; exact mG _
 have Rr:∀ j (hj:j<16),L.getD j eB=ref (ks ⟨j,hj⟩):=λj hj=>by
  rw [<-hL]; exact mJ (λi=>ref (ks i)) ⟨j,hj⟩
 have hg1:M.at_ (w.heap.size+1)=none:=hi.zC (by omega);have HA:Hid (∀ w3,Below w2.heap.size w2 w3->(w3.cell? ⟨w.heap.size,0,none⟩=some (.pointer (some ⟨b,0,none⟩))/\w3.cell? ⟨b,3,none⟩=some (.slice (some ⟨kb,ko,none⟩) 16 kc))/\
   ((w3.alloc (.cells (iB zks) 65)).cell? ⟨w.heap.size,0,none⟩=some (.pointer (some ⟨b,0,none⟩))/\(w3.alloc (.cells (iB zks) 65)).cell? ⟨b,3,none⟩=some (.slice (some ⟨kb,ko,none⟩) 16 kc))/\
   M.at_ w3.heap.size=none/\w.heap.size+1<w3.heap.size/\rT (w3.alloc (.cells (iB zks) 65)) w3.heap.size (iM L 0)/\FrN M (sz (.br ks)) w2 (w3.alloc (.cells (iB zks) 65))/\dM M (sz (.br ks)) (w3.alloc (.cells (iB zks) 65))):=hid (λw3 hb3=>by
  have hb4:=bst hb3 (al1 w3 (.cells (iB zks) 65));have hsz:=hb3.size;refine ⟨⟨aX hb3 h0,aX hb3 hB2.c3⟩,⟨aX hb4 h0,aX hb4 hB2.c3⟩,hi2.zC (by omega),by omega,?_,FrN.below M _ hb4,hi2.below hb4⟩;rw [yM];exact Rg.Own.new _ _ _)
 have kz:Hid (∀ (bl:Nat) (wr:World),w2.heap.size<=bl->FrN M (sz (.br ks)) w2 wr->dM M (sz (.br ks)) wr->∀ j (hj:j<16),rT wr bl (iM L j)->∃ p,wr.cell? ⟨kb,ko+j,none⟩=some (.pointer p)/\
   ∀ w5,Below wr.heap.size wr w5->Calls prog 111 #[.agg #[.pointer p]] w5 (λe w'=>e = .returned (.string (L.getD j eB))/\FrN M (sz (.br ks)) w5 w'/\dM M (sz (.br ks)) w')/\
   ∀ w6,FrN M (sz (.br ks)) w5 w6->dM M (sz (.br ks)) w6->rT w6 bl (iM L j)/\
   ∀ w7,rT w7 bl ((iM L j).set j (L.getD j eB))->Rg.Upd w6 bl w7->rT w7 bl (iM L (j+1))/\FrN M (sz (.br ks)) w2 w7/\dM M (sz (.br ks)) w7):=hid (λbl wr hbl hf hir j hj tz=>by
  obtain ⟨p,hcp,htp⟩:=eV j hj;have zt:=XV ks ⟨j,hj⟩;refine ⟨p,hf.cell hcp (Or.inl (hi2.qy hcp)),λw5 hb5=>?_⟩;have hi5:=hir.below hb5;have hTr:=zx hi2 hf eL;have ip:=hTr.below hb5 hTr.pos;refine ⟨(hR ⟨j,hj⟩ M w5 p (hi5.mono zt) htp ip).mono ?_,λw6 e8 pD=>?_⟩
  .rintro e w' ⟨rfl,hfe,hie⟩;exact ⟨by rw [Rr j hj],hfe.mono zt,hi5.after hfe hie⟩
  .have J2:rT w6 bl (iM L j):=zB (tz.below hb5) e8 (hi2.zC hbl);refine ⟨J2,λw7 lx hu=>⟨by rw [<-AO G6 hj]; exact lx,((hf.trans (FrN.below M _ hb5)).trans e8).upd hu hbl,pD.upd hu (λe=>by have:=hi2.lt_ _ e; omega)⟩⟩)
 have cN:Hid (∀ (bl:Nat) (wr:World),FrN M (sz (.br ks)) w2 wr->dM M (sz (.br ks)) wr->rT wr bl (iM L 16)->rT wr bl L/\∀ w6,Below wr.heap.size wr w6->∀ a6 n6 c6,BsF wr.heap.size w6 a6 n6 c6 []->dZ w6 (w.heap.size+1) nd0 none 0 0/\
   ∀ ag,Rg.Upd w6 (w.heap.size+1) ag->nA M (.br ks) w (.returned (.agg (ndC ⟨3,[],eB,L⟩ a6 n6 c6))) ag):=hid (λbl wr hf hir tz=>by
  rw [BD G6] at tz;refine ⟨tz,λw6 hb6 a6 n6 c6 hx=>?_⟩;have bj:=(zB am hf hg1).below hb6;refine ⟨bj,λag hu=>⟨a6,n6,c6,by rw [<-hL]; rfl,⟨wH hx.1 (fO bj (LK _ _ _ _)) hu,λad e=>Nat.le_trans (Nat.le_trans hb2.size hf.size) (hx.2 ad e)⟩,?_,(hir.below hb6).upd hu (λe=>by have:=hi.lt_ _ e; omega)⟩⟩;exact (((FrN.below M _ hb2).trans hf).trans (FrN.below M _ hb6)).upd hu (by omega))
 have zv:=hid G6;have H0:=hid ap;have J3:=hs2;obtain ⟨N,hN⟩:=aA (sz (.br ks))
 rw [hN] at HA kz cN;clear ap am hb2 hB hB2 h0 hi hi2 hm hT hR zr eL eV gw cL hL Rr hg1 hN G6 hs2;have HW2:Hid (_=_):=hid hw2;clear hw2;go_enter func63,ntmps63;have J4:=H0;rw [HW2.out] at J4;go_wp2_with (first | (refine aB (aY _ _ _ (w.heap.size+1) (by simp) rfl) ?_) | (refine aB (aW (aV (j:=0) J4.out rfl) ⟨_,rfl,rfl⟩) ?_))
 rw [<-HW2.out];refine HK.out.mono ?_;rintro e w3 ⟨rfl,hb3⟩;obtain ⟨⟨d0,d3⟩,⟨e0,e3⟩,hnb,YT,tz,pH,hi4⟩:=HA.out w3 hb3;have RC:=hid tz;have xw:=hid pH;have HI4:=hid hi4;have hsz2:=hb3.size;clear hb3 HA HK H0 J4 HW2 tz pH hi4;go_wp2_with (refine aB (vB _ _ _ w3.heap.size rfl rfl) ?_)
 clear d0 d3 e0 e3;go_loopw [45] (λi wr=>∃ j:Nat,j<=16/\i = .int .i64 j/\Hid (rT wr w3.heap.size (iM L j))/\Hid (FrN M N w2 wr)/\Hid (dM M N wr)) (λi _=>16-(intOf i).toNat)
 case atStart=>exact ⟨0,Nat.zero_le _,rfl,RC,xw,HI4⟩
 case round =>
  obtain ⟨j,hj,rfl,HO,HF,HI⟩:=hrel;clear RC xw HI4;by_cases hlt:j<16
  .obtain ⟨p,hkp,H5⟩:=kz.out w3.heap.size wr hsz2 HF.out HI.out j hlt HO.out;replace H5:=hid H5;have hNew:=Rg.Own.new wr #[.pointer none] 46;have HN:=hid hNew;obtain ⟨R,hR⟩:=aA (L.getD j eB)
   rw [hR] at H5;clear hNew HO HF HI kz cN hR;go_wp2_with (first
    | (refine aB (aW hkp ⟨_,rfl,rfl⟩) ?_)
    | (refine aB (bA _ _ _ wr.heap.size rfl rfl) ?_)
    | (refine bL HN.out (by decide) p rfl _ _ rfl rfl rfl ?_; intro w5 bo bd; have cf:=hid bo; have ae:Hid (Below wr.heap.size wr w5):=hid (bd.below (al1 _ _) aH); clear bo bd)
    | (refine aB (aW (aV (j:=0) cf.out rfl) ⟨_,rfl,rfl⟩) ?_))
   obtain ⟨HC,H6⟩:=H5.out w5 ae.out;replace HC:=hid HC;replace H6:=hid H6;clear H5 ae cf HN hkp;refine HC.out.mono ?_;rintro e w6 ⟨rfl,e8,pD⟩;obtain ⟨bj,H7⟩:=H6.out w6 e8 pD;replace H7:=hid H7;have cF:=hid bj;clear e8 pD H6 HC bj;have hji:(j:Int)<16:=by omega
   go_wp2_with (refine CK cF.out (tY zv.out (by omega)) hlt R rfl _ _ rfl rfl rfl ?_; intro w7 lx e9; obtain ⟨g1,g2,g3⟩:=H7.out w7 lx e9; have G1:=hid g1; have G2:=hid g2; have G3:=hid g3; clear g1 g2 g3 lx e9)
   go_roundw
   case rel=>exact ⟨j+1,by omega,by go_num,G1,G2,G3⟩
   case measure=>simp [intOf]; omega
  .obtain rfl:j=16:=by omega
   obtain ⟨RE,H6⟩:=cN.out w3.heap.size wr HF.out HI.out HO.out;have HOL:=hid RE;replace H6:=hid H6;have rB:=hid (No.jT L zv.out wr);clear HO HF HI kz cN RE;go_wp2_with (refine aB (oh HOL.out zv.out ⟨_,rfl,rfl⟩) ?_)
   refine rB.out.mono ?_;rintro e w6 ⟨a6,n6,c6,rfl,cG,ry,hb6⟩;obtain ⟨bj,gE⟩:=H6.out w6 hb6 a6 n6 c6 cG;have cF:=hid bj;replace gE:=hid gE;clear cG ry hb6 bj H6 rB HOL;go_wp2_with (refine bN cF.out cB ⟨3,[],eB,L⟩ a6 n6 c6 zv.out rfl _ _ rfl rfl rfl rfl ?_)
   exact bodyPost_ret (ug rfl _ rfl (dO cF.out) zv.out) rfl (gE.out _ (Rg.Upd.set _ _ _))
end Tm
end
end Go.Proofs.YtokaiemgjngcoaaGreatDoor
