/-
 The contract of Open.
-/
import Derived.Test.YtoipgepkhomfgaaGreatDoorPo10
open Go.Lib (hid)
open Go.Proofs.Tryz
set_option linter.unusedSimpArgs false
set_option linter.unusedVariables false
set_option maxHeartbeats 40000000
set_option maxRecDepth 100000
namespace Go.Proofs.YtoipgepkhomfgaaGreatDoor
variable {B g:Nat} {w w':World} {a p:aK} {c:Int} {v:Value} {T' t:TypeId}
section
open Go.RowKit
namespace Tm
open Tr Ni Pk Ky No Rf Rl Sm
def uZ (B:Nat) (w:World) (v:Value) (ps:List (aK)):Prop:=(v = .slice none 0 0/\ps=[])\/∃ g cap,v = .slice (some ⟨g,0,none⟩) ps.length cap/\B<=g/\RowK w g cap ps
theorem uZ.ptrs {B:Nat} {w:World} {v:Value} {ps:List (aK)} (h:uZ B w v ps):∃ a c,v = .slice a ps.length c/\jX w a ps.length c ps/\∀ ad,a=some ad->B<=ad.block:=by
 rcases h with ⟨rfl,rfl⟩ | ⟨g,cap,rfl,hB,hR⟩
 .exact ⟨none,0,rfl,⟨aG,Nat.zero_le _,rfl,λ_=>rfl,λ_ h=>absurd h (Nat.not_lt_zero _)⟩,λ_ e=>by cases e⟩
 .exact ⟨_,cap,rfl,hR.ptrs,λad e=>by cases e; exact hB⟩
theorem tL (a:aK) (n cap:Nat) (ps:List (aK)) (w:World) (h:jX w a n cap ps) (hn:n<=1000000) :
  Calls prog 130 #[.slice a n cap] w λe w'=>∃ v,e = .returned v/\uZ w.heap.size w' v ps/\Below w.heap.size w w':=by
 cases a with
 | none =>
  have hc:cap=0:=h.2.2.2.1 rfl;have h1:=h.1;obtain rfl:n=0:=by omega
  subst hc;have hp:ps=[]:=List.eq_nil_of_length_eq_zero h.2.2.1;refine (JR w).mono ?_;rintro e w' ⟨rfl,rfl⟩;exact ⟨_,rfl,Or.inl ⟨rfl,hp⟩,aH⟩
 | some ad =>
  refine (Bj ad n cap ps w h hn).mono ?_;rintro e w' ⟨g,c,rfl,hg,hR,hb⟩;exact ⟨_,rfl,Or.inr ⟨g,c,rfl,hg,hR⟩,hb⟩
theorem JG (w:World):Calls prog 129 #[.slice none 0 0,.func (Fn.func 112) #[] #[]] w λe w'=>e = .returned (.slice none 0 0)/\Below w.heap.size w w':=by
 have HX:=hid (BL [] none 0 0 w ⟨aG,Nat.zero_le _,rfl,λ_=>rfl,λ_ h=>absurd h (Nat.not_lt_zero _)⟩ (by omega));go_enter func129,ntmps129;go_wp2_with fail
 refine HX.out.mono ?_;rintro e w1 ⟨r,rfl,hb1,hr⟩;rcases hr with ⟨rfl,_⟩ | ⟨i,rfl,hi,_⟩
 .have HB1:=hid hb1;clear hb1;go_wp2;go_ret;exact ⟨rfl,HB1.out⟩
 .omega
theorem Lb (ps:List (aK)) (v:Value) (w:World) (h:uZ B w v ps) (hB:B<=w.heap.size) (hn:ps.length<=1000000) :
  Calls prog 129 #[v,.func (Fn.func 112) #[] #[]] w λe w'=>∃ v',e = .returned v'/\uZ B w' v' (lJ ps)/\Below B w w':=by
 rcases h with ⟨rfl,rfl⟩ | ⟨g,cap,rfl,hg,hR⟩
 .refine (JG w).mono ?_;rintro e w' ⟨rfl,hb⟩;exact ⟨_,rfl,Or.inl ⟨rfl,rfl⟩,hb.mono hB⟩
 .refine (Ic ps g cap w hR hn).mono ?_;rintro e w' ⟨rfl,hR',Wb⟩;exact ⟨_,rfl,Or.inr ⟨g,cap,rfl,hg,hR'⟩,Wb.below aH hB hg⟩
theorem jX.upd {n c:Nat} {ps:List (aK)} (h:jX w a n c ps) (hu:Rg.Upd w g w') (hne:∀ ad,a=some ad->ad.block≠g):jX w' a n c ps:=by
 refine ⟨h.1,h.2.1,h.2.2.1,h.2.2.2.1,λj hj=>?_⟩;obtain ⟨b,off,e,hlt,hc⟩:=h.2.2.2.2 j hj;exact ⟨b,off,e,by rw [hu.size]; exact hlt,by rw [World.cell?_of_block (hu.block b (hne _ e))]; exact hc⟩
theorem Are.nil (M:Mp):Are M [] []:=⟨rfl,λ_ h=>absurd h (Nat.not_lt_zero _)⟩
theorem Gv {M:Mp} {p:aK} {t:T} {ps:List (aK)} {l:List T}:Are M (p::ps) (t::l)↔IsT M p t/\Are M ps l:=by
 constructor
 .rintro ⟨h1,h2⟩;refine ⟨h2 0 (by simp),by simpa using h1,λj hj=>?_⟩;have:=h2 (j+1) (by simpa using hj);simpa using this
 .rintro ⟨h1,h2,h3⟩;refine ⟨by simp [h2],λj hj=>?_⟩;cases j with
  | zero=>exact h1
  | succ j =>
   have:=h3 j (by simpa using hj);simpa using this
theorem Are.keep {M:Mp}:∀ {ps:List (aK)} {l:List T},Are M ps l->Are M (lJ ps) (l.filter λt=>!isNil t)
 | [],[],_=>Are.nil M
 | [],_::_,h=>absurd h.1 (by simp)
 | _::_,[],h=>absurd h.1 (by simp)
 | p::ps,t::l,h=>by
  obtain ⟨h1,h2⟩:=Gv.1 h;have ih:=Are.keep h2;have hn:=h1.pO;cases p with
  | none =>
   obtain rfl:t = .nil:=hn.1 rfl;exact ih
  | some ad =>
   have ht:isNil t=false:=by
    cases t with
    | nil=>exact absurd (hn.2 rfl) (by simp)
    | _=>rfl
   have e1:lJ (some ad::ps)=some ad::lJ ps:=rfl;rw [e1,List.filter_cons_of_pos (by rw [ht]; rfl)];exact Gv.2 ⟨h1,ih⟩
theorem Kr {t:T} {L:Nat} (g:Tr.Good t L):(fU t).filter (λt=>!isNil t)=bZ t:=by
 cases t with
 | nil=>rfl
 | leaf q v=>rfl
 | stub r=>rfl
 | ext q s =>
  have hs:isNil s=false:=by
   have:=g.2.2.2.1;cases s with
   | nil=>exact absurd rfl (jZ this)
   | _=>rfl
  show List.filter _ [s]=[s]
  rw [List.filter_cons_of_pos (by rw [hs]; rfl)];rfl
 | br ks =>
  show List.filter _ ((List.finRange 16).map ks)=(dG ks).map ks;rw [List.filter_map];rfl
def Jg (M:Mp) (w:World) (t:T) (e:Ending) (w':World):Prop:=∃ a n c ka kc ps,e = .returned (.tuple #[.agg (ndC (bC t) a n c),.slice ka ps.length kc])/\uZ w.heap.size w' (.slice ka ps.length kc) ps/\BsF w.heap.size w' a n c (bC t).p/\jX w' ka ps.length kc ps/\Are M ps (bZ t)/\
 (∀ ad,ka=some ad->w.heap.size<=ad.block)/\Fr M M w w'/\Inv M w'/\Tab w'
theorem uZ.late {B':Nat} {ps:List (aK)} (h:uZ B w v ps) (hB:B'<=B) (hu:Rg.Upd w g w') (hg:g<B):uZ B' w' v ps:=by
 rcases h with h | ⟨k,cap,e,hk,hR⟩
 .exact .inl h
 .exact .inr ⟨k,cap,e,Nat.le_trans hB hk,hR.upd hu (by omega)⟩
theorem Ul (M:Mp) (w:World) (hi:Inv M w) (hT:Tab w):Calls prog 86 #[tv none] w (Jg M w .nil):=by
 obtain ⟨w2,hw2,am,af,hb2,hs2⟩:=wV w none;have HE:=hid (lQ none w2);have HO:=hid am;have du:=hid af;have HB:=hid hb2;have HI:=hid hi;have HT:=hid hT;clear am af hb2 hi hT;subst hw2;have hgo:Calls prog 86 #[.agg #[.pointer none]] w (Jg M w .nil):=by
  go_enter func86,ntmps86;go_wp2_with (first
   | (refine aA (aY _ _ _ (w.heap.size+1) (by simp) rfl) ?_)
   | (refine aA (aU (aV (j:=0) HO.out rfl) ⟨_,rfl,rfl⟩) ?_))
  refine HE.out.mono ?_;rintro e w3 ⟨rfl,hb3⟩;have HB3:=hid (bst HB.out hb3);have aq:=hid (du.out.below hb3);clear hb3 HE;go_wp2_with (first
   | (refine aA (bV qW ?_) ?_; · exact ⟨_,rfl,rfl⟩)
   | (refine bK aq.out rfl nd0 none 0 0 rfl rfl _ _ rfl rfl rfl rfl ?_))
  have ef:=hid (cO HB3.out (show w.heap.size<=w.heap.size+1 by omega) (ndC nd0 none 0 0));exact bodyPost_ret (fu (p:=2) (u:=3) rfl _ rfl (dV aq.out) rfl) rfl ⟨none,0,0,none,0,[],rfl,.inl ⟨rfl,rfl⟩,BsF.nil _ _,⟨aG,Nat.zero_le _,rfl,λ_=>rfl,λ_ h=>absurd h (Nat.not_lt_zero _)⟩,Are.nil M,λ_ e=>(by cases e),Fr.below M ef.out,HI.out.below ef.out,HT.out.below ef.out HT.out.pos⟩
 exact hgo
theorem Xm (M:Mp) (b:Nat) (t:T) (hm:M.at_ b=some t) (hn:t ≠ .nil) {L:Nat} (g:Tr.Good t L) (hL:L<=64) (w:World) (hi:dS M (sz t) w) {pa:aK} {pn pc:Nat} {ka:aK} {kn kc:Nat} (hB:Body M w b t pa pn pc ka kn kc) (hT:Tab w)
  (g8:∀ q s,t = .ext q s->nD s) (hR2:∀ ks,t = .br ks->∀ i,nD (ks i)) :
  Calls prog 39 #[.agg #[.pointer (some ⟨b,0,none⟩)]] w (nQ M t w):=by
 by_cases hs:eP t
 .obtain ⟨r,rfl⟩:∃ r,t = .stub r:=by
   cases t with
   | stub r=>exact ⟨r,rfl⟩
   | _=>exact hs.elim
  refine (Jj (some ⟨b,0,none⟩) (-1) (by decide) (by decide) (by decide) w (λwx hbx=>nZ b (-1) wx (aW hbx hB.c0))).mono ?_;rintro e w' ⟨rfl,hb⟩;exact ⟨none,0,0,rfl,BsF.nil _ _,FrN.below M _ hb,hi.below hb⟩
 .exact MW M b t hm hs hn g hL w hi hB hT g8 hR2
theorem Ut (M:Mp) (p:aK) (t:T) (L:Nat) (g:Tr.Good t L) (hL:L<=64) (f:Fine t) (w:World) (hi:Inv M w) (ht:IsT M p t) (hT:Tab w) :
  Calls prog 86 #[tv p] w (Jg M w t):=by
 by_cases hne:t = .nil
 .subst hne;have:p=none:=ht.pO.2 rfl;subst this;exact Ul M w hi hT
 obtain ⟨b,rfl,hm⟩:=ht.at_ hne;obtain ⟨pa,pn,pc,ka,kn,kc,hB⟩:=(hi.part hm).body;obtain ⟨w2,hw2,am,af,hb2,hs2⟩:=wV w (some ⟨b,0,none⟩);have hlb:=hi.lt hm;have hB2:=hB.below hb2;have hi2:=hi.below hb2;have db:=hT.below hb2 hT.pos;have hkn:kn<=16:=by
  rw [<-hB.hk.len];cases t with
  | br ks=>rw [show fU (.br ks)=(List.finRange 16).map ks from rfl]; simp
  | ext q s=>show 1<=16; omega
  | _=>exact Nat.zero_le _
 have HE:Hid (∀ w3,Below w2.heap.size w2 w3->(w3.cell? ⟨w.heap.size,0,none⟩=some (.pointer (some ⟨b,0,none⟩))/\w3.cell? ⟨b,3,none⟩=some (.slice ka kn kc))/\
   Calls prog 39 #[.agg #[.pointer (some ⟨b,0,none⟩)]] w3.drew (nQ M t w3.drew)/\
   ∀ w6 a6 n6 c6,BsF w3.heap.size w6 a6 n6 c6 (bC t).p->FrN M (sz t) w3.drew w6->dS M (sz t) w6->(w6.cell? ⟨w.heap.size,0,none⟩=some (.pointer (some ⟨b,0,none⟩))/\w6.cell? ⟨b,3,none⟩=some (.slice ka kn kc))/\
   ∃ ps,(Calls prog 130 #[.slice ka kn kc] w6 λe w'=>∃ v,e = .returned v/\uZ w6.heap.size w' v ps/\Below w6.heap.size w6 w')/\
   ∀ w7 v7,uZ w6.heap.size w7 v7 ps->Below w6.heap.size w6 w7->(w7.cell? ⟨w.heap.size,0,none⟩=some (.pointer (some ⟨b,0,none⟩))/\w7.cell? ⟨b,3,none⟩=some (.slice ka kn kc))/\
   (Calls prog 129 #[v7,.func (Fn.func 112) #[] #[]] w7 λe w'=>∃ v',e = .returned v'/\uZ w6.heap.size w' v' (lJ ps)/\Below w6.heap.size w7 w')/\
   ∀ w8 v8,uZ w6.heap.size w8 v8 (lJ ps)->Below w6.heap.size w7 w8->(w8.cell? ⟨w.heap.size,0,none⟩=some (.pointer (some ⟨b,0,none⟩))/\w8.cell? ⟨b,3,none⟩=some (.slice ka kn kc))/\dI w8 (w.heap.size+1) nd0 none 0 0/\
   ∀ w9,Rg.Upd w8 (w.heap.size+1) w9->(w9.cell? ⟨w.heap.size,0,none⟩=some (.pointer (some ⟨b,0,none⟩))/\w9.cell? ⟨b,3,none⟩=some (.slice ka kn kc))/\Jg M w t (.returned (.tuple #[.agg (ndC (bC t) a6 n6 c6),v8])) w9):=hid (λw3 hb3=>by
  have ej:Below w2.heap.size w2 w3.drew:=below_drewN hb3 1;have hi3:=hi2.below ej;have hB3:=hB2.below ej;have xx:=am.below ej;have ll:=af.below ej;have lj:=db.below ej db.pos;have hg0:M.at_ w.heap.size=none:=hi.out aG;have hg1:M.at_ (w.heap.size+1)=none:=hi.out (by omega);have hs3:=ej.size;refine ⟨⟨aV (j:=0) xx rfl,hB3.c3⟩,Xm M b t hm hne g hL w3.drew (hi3.toN _) hB3 lj (λq s e=>by
   subst e;exact lD s _ g.2.2.2.2 (by have:=g.2.2.1; omega) f) (λks e i=>by
   subst e;exact lD (ks i) _ (g.2.2 i) (by omega) (f i)),λw6 a6 n6 c6 un dd kB=>?_⟩
  have sh:=zy xx dd hg0;have xy:=zy ll dd hg1;have cA:=hB3.frN (hi3.toN (sz t)) dd hm aG;have nl:=hi3.after dd kB;have nt:=wJ (hi3.toN (sz t)) dd lj;obtain ⟨ps,hps,har⟩:=cA.hk.ptrs;have hpl:ps.length=kn:=hps.2.2.1;have hs6:=dd.size;refine ⟨⟨aV (j:=0) sh rfl,cA.c3⟩,ps,tL ka kn kc ps w6 hps (by omega),λw7 v7 hv7 cL=>?_⟩;have GB:=sh.below cL;have GC:=aW cL cA.c3;refine ⟨⟨aV (j:=0) GB rfl,GC⟩,Lb ps v7 w7 hv7 cL.size (by omega),λw8 v8 xz eQ=>?_⟩;have gj:Below w6.heap.size w6 w8:=cL.trans eQ;have xF:=sh.below gj
  have xT:=xy.below gj;have hc38:=aW gj cA.c3;refine ⟨⟨aV (j:=0) xF rfl,hc38⟩,xT,λw9 cg=>?_⟩;have hne1:w.heap.size≠w.heap.size+1:=by omega
  have Wc:=nl.below gj;have hnf:¬ M.ft (w.heap.size+1):=hi.free (by omega);have hrow:=xz;obtain ⟨k8,We,rfl,Wf,O4⟩:=xz.ptrs;have qr:=gj.size;have h06:w.heap.size+1<w6.heap.size:=xy.1;have GE:=nt.below gj nt.pos;have Wg:∀ ad,k8=some ad->ad.block≠w.heap.size+1:=λad e=>by have:=O4 ad e; omega
  refine ⟨⟨aV (j:=0) (xF.upd cg hne1) rfl,by rw [World.cell?_of_block (cg.block b (by omega))]; exact hc38⟩,a6,n6,c6,k8,We,lJ ps,rfl,hrow.late (by omega) cg (by omega),⟨vI (un.1.below gj) (dH xT (Nb _ _ _ _)) cg,λad e=>Nat.le_trans (Nat.le_trans hb2.size hb3.size) (un.2 ad e)⟩,Wf.upd cg Wg,by rw [<-Kr g]; exact har.keep,λad e=>by have:=O4 ad e; omega,?_,Wc.upd cg hnf,λi hi=>by rw [World.cell?_of_block (cg.block 0 (by have:=hT.pos; omega))]; exact GE i hi⟩
  exact ((((Fr.below M hb2).trans hi (Fr.below M ej)).trans hi dd.fr).trans hi (Fr.below M gj)).upd cg (by omega))
 have HL:=hid (cu t);obtain ⟨N,hN⟩:=ay (bC t)
 rw [hN] at HL HE;have HN:=hid hN;have xi:=hid am;have O5:=hid (lQ (some ⟨b,0,none⟩) w2);have HW:Hid (_=_):=hid hw2;clear am af hb2 hB hB2 hi2 db hi hT hm hN g f hne ht hkn hw2;have hgo:Calls prog 86 #[.agg #[.pointer (some ⟨b,0,none⟩)]] w (Jg M w t):=by
  have si:=xi;rw [HW.out] at si;go_enter func86,ntmps86;go_wp2_with (first
   | (refine aA (aY _ _ _ (w.heap.size+1) (by simp) rfl) ?_)
   | (refine aA (aU (aV (j:=0) si.out rfl) ⟨_,rfl,rfl⟩) ?_))
  rw [<-HW.out];refine O5.out.mono ?_;rintro e w3 ⟨rfl,hb3⟩;obtain ⟨hS0,sk,HF⟩:=HE.out w3 hb3;replace sk:=hid sk;replace HF:=hid HF;clear hb3 HE HW xi si O5;go_wp2_with fail
  refine aC (S:=λw'=>w'.cell? ⟨w.heap.size,0,none⟩=some (.pointer (some ⟨b,0,none⟩))/\w'.cell? ⟨b,3,none⟩=some (.slice ka kn kc)) (hS0) λhld=>?_;refine ah 0 ?_ (hy:=by intro wz hSw; (refine aU hSw.1 ?_; exact ⟨_,rfl,rfl⟩));try simp only [Act.put,ak]
  refine ah 2 ?_;try simp only [Act.put,ak]
  refine ah 3 ?_ (hy:=by intro wz hSw; (obtain ⟨hcc,hcd⟩:=hSw; go_simp <;> with_reducible rfl));try simp only [Act.put,ak]
  refine ah 4 ?_;try simp only [Act.put,ak]
  refine ah 5 ?_;try simp only [Act.put,ak]
  refine ah 6 ?_ (hy:=by intro wz hSw; (obtain ⟨hcc,hcd⟩:=hSw; go_simp <;> with_reducible rfl));try simp only [Act.put,ak]
  refine aj 1 λK hK=>?_;go_simp;go_at_call 39
  (with_reducible refine sk.out.mono ?_)
  rintro e w6 ⟨a6,n6,c6,rfl,un,dd,kB⟩;rw [HN.out] at un ⊢;obtain ⟨ii,hH6⟩:=HF.out w6 a6 n6 c6 un dd kB;have H6:=hid hH6;clear un dd kB hH6;refine hK.out _ _ (ii) λhld=>?_;clear hK K;try simp only [Act.put,ak]
  refine aj 7 λK hK=>?_;go_simp;go_at_call 130
  obtain ⟨ps,O6,hD7⟩:=H6.out;have HD7:=hid hD7
  (with_reducible refine O6.mono ?_)
  rintro e w7 ⟨v7,rfl,hv7,cL⟩;obtain ⟨y0,y6,y7⟩:=HD7.out w7 v7 hv7 cL;have H7:=hid y7;have Wk:=hid y6;clear hv7 cL y6 y7 hD7 O6;refine hK.out _ _ (y0) λhld=>?_;clear hK K;try simp only [Act.put,ak]
  refine aj 8 λK hK=>?_;go_simp;go_at_call 129
  (with_reducible refine Wk.out.mono ?_)
  rintro e w8 ⟨v8,rfl,xz,eQ⟩;obtain ⟨ov,eh,O7⟩:=H7.out w8 v8 xz eQ;have H8:=hid O7;have kz:=hid eh;clear xz eQ O7 eh;refine hK.out _ _ (ov) λhld=>?_;clear hK K;try simp only [Act.put,ak]
  refine aj 9 λK hK=>?_;refine Rg.meetStore (by rfl) kz.out 69 (ndC N a6 n6 c6) ⟨_,_,rfl,rfl,rfl⟩ (kU _ _ _ _ HL.out) (by rw [eF _ _ _ _ gq,eF _ _ _ _ HL.out]) (oV _ _ _ _) ?_;intro w9 ce cg;have cW:=hid ce;obtain ⟨sl,O8⟩:=H8.out w9 cg;have H9:=hid O8;clear ce cg O8;refine hK.out _ _ (sl) λhld=>?_;clear hK K;try simp only [Act.put,ak]
  refine ah 10 ?_;try simp only [Act.put,ak]
  refine aB ?_;go_wp2;exact bodyPost_ret (fu (p:=2) (u:=3) rfl _ rfl cW.out HL.out) rfl H9.out
 exact hgo
end Tm
end
section
open Go.RowKit
namespace Tm
open Tr Ni Pk
theorem OP (M:Mp) (b:Nat) (t:T) (hm:M.at_ b=some t) (k:Nat) (A:T) (hkl:k<(bW t).length) (jx:(bW t).length<=1000) (hn:Nib (bW t)) (w:World) (hi:Inv M w)
  (hcut:∀ wx M',Inv M' wx->M'.at_ b=some t->Calls prog 172 #[.agg #[.pointer (some ⟨b,0,none⟩)],.int .i64 (k+1:Nat)] wx (dF M' wx A))
  (wa:aK) (wn wc:Nat) (way:Pa) (v:aL) (hW:Bs M w wa wn wc way) (O9:k<way.length) (hwn:Nib way) (hw64:way.length<=1000) (hne:(bW t).getD k 0≠way.getD k 0) :
  Calls prog 150 #[.agg #[.pointer (some ⟨b,0,none⟩)],.int .i64 k,.slice wa wn wc,.string v] w (dF M w (wrap (way.take k) (two (nb ((bW t).getD k 0)) (nb (way.getD k 0)) A (.leaf (way.drop (k+1)) v)))):=by
 obtain ⟨w2,hw2,am,af,hb2,hs2⟩:=nG w (some ⟨b,0,none⟩);have hi2:=hi.below hb2;have hS2:St M w M w2:=⟨Fr.below M hb2,hi2,hb2,hi⟩
 have hX2:Bx M w2 (w.heap.size+1) #[.pointer none] 35:=⟨af,hi.free (by omega),iY _⟩
 obtain ⟨pa,pn,pc,c1,hP⟩:=hi2.path hm;have hpn:(bW t).length=pn:=hP.1.len;have hwl:way.length=wn:=hW.1.len;rw [hpn] at hkl jx;rw [hwl] at O9 hw64;obtain ⟨pb,po,rfl,_,cx⟩:=hP.1.at' k hkl;have hW2:=hW.fr hi (Fr.below M hb2);obtain ⟨wb,wo,rfl,_,cy⟩:=hW2.1.at' k O9;have hx:((bW t).getD k 0).toNat<16:=by
  have:=hn ((bW t).getD k 0) (by rw [List.getD_eq_getElem?_getD,List.getElem?_eq_getElem (by omega)]; exact List.getElem_mem _);exact this
 have hy:(way.getD k 0).toNat<16:=by
  have:=hwn (way.getD k 0) (by rw [List.getD_eq_getElem?_getD,List.getElem?_eq_getElem (by omega)]; exact List.getElem_mem _);exact this
 have hnx:((nb ((bW t).getD k 0)).val:Nat)=((bW t).getD k 0).toNat:=Nat.mod_eq_of_lt hx;have hny:((nb (way.getD k 0)).val:Nat)=(way.getD k 0).toNat:=Nat.mod_eq_of_lt hy;have hnn:nb ((bW t).getD k 0)≠nb (way.getD k 0):=λe=>hne (rR hx hy e);obtain ⟨X,hX⟩:=ay (nb ((bW t).getD k 0))
 obtain ⟨Y,hY⟩:=ay (nb (way.getD k 0))
 rw [hX] at hnx hnn ⊢;rw [hY] at hny hnn ⊢;obtain ⟨x,hxe⟩:=ay (((bW t).getD k 0).toNat)
 obtain ⟨y,hye⟩:=ay ((way.getD k 0).toNat)
 rw [hxe] at hx cx hnx;rw [hye] at hy cy hny;obtain ⟨w3,hw3⟩:=au (w2.alloc (.cells (ou uw) 35))
 have hb3:Below w2.heap.size w2 w3:=by rw [hw3]; exact al1 _ _
 have ur:Rx M w3 w2.heap.size uw:=⟨by rw [hw3]; exact Rg.Own.new _ _ _,hi2.free aG,by rw [pJ]; simp [maxLen]⟩
 have hxi:(x:Int)<16:=by omega
 have hyi:(y:Int)<16:=by omega
 have j3:=hP.1.1;have hpm:=hP.1.2.1;have j4:=hW.1.1;have ox:=hW.1.2.1;unfold maxLen at hpm ox;have HAdd:Hid (IntKind.i64.wrap ((k:Int)+1)=((k+1:Nat):Int)):=hid (by simp only [IntKind.wrap_i64,wrap64]; omega);have GF:Hid (∀ wx,Below w2.heap.size w2 wx->Calls prog 172 #[.agg #[.pointer (some ⟨b,0,none⟩)],.int .i64 ((k:Int)+1)] wx (dF M wx A)):=hid (λwx hb=>hcut wx M (hi2.below hb) hm);obtain ⟨g,hg⟩:=ay w2.heap.size
 rw [hg] at ur;have y8:Hid (∀ wx e w4,Below w3.heap.size w3 wx->Below w2.heap.size w2 wx->dF M wx A e w4->∃ p4 M4,e = .returned (tv p4)/\Below w2.heap.size w2 w4/\Rx M4 w4 g uw/\
   ∀ w5,Rx M4 w5 g (uw.set x p4)->Rg.Upd w4 g w5->Below w2.heap.size w2 w5/\Calls prog 103 #[.slice (dY (some ⟨wb,wo,none⟩) wc (k+1)) (wn-(k+1)) (wc-(k+1)),.string v] w5.drew (dF M4 w5.drew (.leaf (way.drop (k+1)) v))/\
   ∀ e w6,dF M4 w5.drew (.leaf (way.drop (k+1)) v) e w6->∃ p6 M6,e = .returned (tv p6)/\Below w2.heap.size w2 w6/\Rx M6 w6 g (uw.set x p4)/\
   ∀ w7,Rx M6 w7 g ((uw.set x p4).set y p6)->Rg.Upd w6 g w7->∃ M7,Below w2.heap.size w2 w7/\Calls prog 149 #[.slice (some ⟨g,0,none⟩) 16 16] w7.drew (dF M7 w7.drew (two X Y A (.leaf (way.drop (k+1)) v)))/\
   ∀ e w8,dF M7 w7.drew (two X Y A (.leaf (way.drop (k+1)) v)) e w8->∃ p8 M8,e = .returned (tv p8)/\Below w2.heap.size w2 w8/\Calls prog 151 #[.slice (some ⟨wb,wo,none⟩) k wc,.agg #[.pointer p8]] w8 (dF M8 w8 (wrap (way.take k) (two X Y A (.leaf (way.drop (k+1)) v))))/\
   ∀ e w9,dF M8 w8 (wrap (way.take k) (two X Y A (.leaf (way.drop (k+1)) v))) e w9->∃ p9,e = .returned (tv p9)/\Below w2.heap.size w2 w9/\Rg.Own w9 (w.heap.size+1) #[.pointer none] 35/\
   ∀ ag,Rg.Upd w9 (w.heap.size+1) ag->Below w.heap.size w ag/\dF M w (wrap (way.take k) (two X Y A (.leaf (way.drop (k+1)) v))) (.returned (tv p9)) ag):=hid (by
  intro wx e w4 h3x h2x hG;have hsx:St M w M wx:=hS2.below h2x;obtain ⟨p4,M4,rfl,DA,us,sm,hb4⟩:=hsx.got hG;have OF:=(ur.below h3x).got sm hb4;have Wl:=(hX2.below h2x).got sm hb4;have fm:=bst h2x hb4;refine ⟨p4,M4,rfl,fm,OF,λw5 nv bd=>?_⟩;have hlo:w.heap.size<=g:=by omega
  have hS5:St M w M4 w5:=us.upd bd hlo OF.n;have y9:=Wl.upd bd (by omega);have ya:=bd.below fm (by omega);have hW5:Bs M4 w5 (some ⟨wb,wo,none⟩) wn wc way:=hW.fr hi hS5.f;have sn:=hS5.below (below_drewN aH 1);refine ⟨ya,oI M4 _ _ _ _ _ _ sn.i (hW.fr hi sn.f |>.from' (k+1) (by omega)),λe w6 Wr=>?_⟩;obtain ⟨p6,M6,rfl,nt,ii,dd,hb6⟩:=sn.got Wr;have yb:=(nv.below (below_drewN aH 1)).got dd hb6;have WD:=(y9.below (below_drewN aH 1)).got dd hb6;have yd:Below w2.heap.size w2 w6:=bst (ya.drew) hb6
  refine ⟨p6,M6,rfl,yd,yb,λw7 fc dc=>?_⟩;have y0:St M w M6 w7:=ii.upd dc hlo yb.n;have WF:=WD.upd dc (by omega);have ye:=dc.below yd (by omega);have yf:=(y0.below (below_drewN aH 1)).plus (S:=λk=>k=g) (λk hk=>⟨Or.inl (by omega),by rw [hk]; exact fc.o.1⟩);have lm:Are M6 ((uw.set x p4).set y p6) (((List.replicate 16 T.nil).set x A).set y (.leaf (way.drop (k+1)) v)):=((Tw M6).set x (DA.mono dd.mono)).set y nt;rw [<-hnx,<-hny,Xq X Y _ _ hnn] at lm;have ut:=(fc.below (below_drewN aH 1)).ks (by rw [<-hnx,<-hny]; exact lm)
  have hlen:((uw.set x p4).set y p6).length=16:=by simp [pJ]
  rw [hlen] at ut;have GG:=(WF.below (below_drewN (Below.refl w7.heap.size w7) 1)).plus (S:=λk=>k=g) (by omega);refine ⟨_,ye,kF _ _ _ _ _ _ yf.i ut,λe w8 WN=>?_⟩;obtain ⟨p8,M8,rfl,GE,ov,WP,eQ⟩:=yf.got WN;have X0:=GG.got WP eQ;have yh:Below w2.heap.size w2 w8:=bst (ye.drew) eQ;refine ⟨p8,M8,rfl,yh,vg M8 _ _ _ _ _ _ w8 ov.i ((hW.fr hi ov.f).upto k (by omega)) GE,λe w9 yi=>?_⟩;obtain ⟨p9,M9,rfl,hT9,sl,yk,cF⟩:=ov.got yi;have qt:=X0.got yk cF;refine ⟨p9,rfl,bst yh cF,qt.o,λag hu=>?_⟩;have cH:=sl.upd hu (by omega) qt.n
  exact ⟨cH.b,p9,M9,rfl,hT9,cH.f,cH.i,cH.b⟩)
 have h0:=aV (j:=0) am rfl;have hkp:k<pn:=hkl;have hkc:k<=wc:=by omega
 have GM:k+1<=wn:=by omega
 have HB3:=hid hb3;obtain ⟨RR,hRR⟩:=ay (wrap (way.take k) (two X Y A (.leaf (way.drop (k+1)) v)))
 rw [hRR] at y8 ⊢;have GO:w2.heap.size=w.heap.size+2:=hs2;have yl:=am;clear am af hb2 hs2 hi hi2 hP hW hW2 hS2 hX2 hcut hm hn hwn hne hnx hny hnn hX hY hxe hye ur hb3 hRR hpn hwl;obtain rfl:g=w.heap.size+2:=by omega
 have GP:=hid (λe w4 (h:Below w2.heap.size w2 w3.drew)=>y8.out w3.drew e w4 (below_drewN aH 1) h);have HW2:Hid (_=_):=hid hw2;have HW3:Hid (_=_):=hid hw3;have da:Hid (Rg.Own w2 w.heap.size #[.pointer (some ⟨b,0,none⟩)] 35):=hid yl;clear y8 hw2 hw3 yl;go_enter func150,ntmps150;go_wp2_with (first
  | (refine aA (aX _ _ _ (w.heap.size+1) (by simp) rfl) ?_)
  | (refine aA (EB (w.heap.size+2) (by simp) ⟨_,_,rfl,rfl,rfl⟩) ?_))
 rw [<-HW2.out,<-HW3.out];refine aC (S:=λw'=>Below w2.heap.size w2 w') (HB3.out.drew) λhld=>?_;refine ah 0 ?_;try simp only [Act.put,ak]
 refine ah 1 ?_;try simp only [Act.put,ak]
 refine aD 2 (λwz hSw=>aW hSw h0) ?_;try simp only [Act.put,ak]
 refine ah 3 ?_;try simp only [Act.put,ak]
 refine ah 4 ?_;try simp only [Act.put,ak]
 refine aD 5 (λwz hSw=>aW hSw c1) ?_;try simp only [Act.put,ak]
 refine ah 6 ?_;try simp only [Act.put,ak]
 refine ah 7 ?_;try simp only [Act.put,ak]
 refine aD 8 (λwz hSw=>aW hSw cx) ?_;try simp only [Act.put,ak]
 refine ah 9 ?_ (hy:=by intro wz hSw; (refine aU (aW hSw h0) ?_; exact ⟨_,rfl,rfl⟩));try simp only [Act.put,ak]
 refine ah 10 ?_;try simp only [Act.put,ak]
 refine ah 11 ?_ (hy:=by intro wz hSw; (have q0:=HAdd.out; go_simp <;> with_reducible rfl));try simp only [Act.put,ak]
 refine aj 12 λK hK=>?_;go_simp;go_at_call 172
 (with_reducible refine (GF.out _ hld).mono ?_)
 intro e w4 hG;obtain ⟨p4,M4,rfl,H4⟩:=GP.out e w4 hld hG;replace H4:=hid H4;clear hG;have hB4:=H4.out.1;refine hK.out _ _ (hB4) λhld=>?_;clear hK K;try simp only [Act.put,ak]
 refine ah 13 ?_;try simp only [Act.put,ak]
 refine aj 14 λK hK=>?_;refine uL (by rfl) H4.out.2.1 (i:=x) (by simpa [pJ] using hx) p4 ⟨_,_,rfl,rfl,rfl⟩ ?_;intro w5 nv bd;have H5:=hid (H4.out.2.2 w5 nv bd);clear nv bd;refine hK.out _ _ (H5.out.1) λhld=>?_;clear hK K;try simp only [Act.put,ak]
 refine aB ?_;go_wp2_with fail
 refine aC (S:=λw'=>Below w2.heap.size w2 w') (H5.out.1.drew) λhld=>?_;refine ah 0 ?_;try simp only [Act.put,ak]
 refine ah 1 ?_;try simp only [Act.put,ak]
 refine ah 2 ?_;try simp only [Act.put,ak]
 refine ah 3 ?_;try simp only [Act.put,ak]
 refine aD 4 (λwz hSw=>aW hSw cy) ?_;try simp only [Act.put,ak]
 refine ah 5 ?_;try simp only [Act.put,ak]
 refine ah 6 ?_;try simp only [Act.put,ak]
 refine ah 7 ?_ (hy:=by intro wz hSw; (have q0:=HAdd.out; go_simp <;> with_reducible rfl));try simp only [Act.put,ak]
 refine ah 8 ?_ (hy:=by intro wz hSw; (refine jL (a:=some ⟨wb,wo,none⟩) (n:=wn) (c:=wc) (i:=k+1) gI jv GM ?_; exact ⟨_,_,rfl,rfl,rfl⟩));try simp only [Act.put,ak]
 refine ah 9 ?_;try simp only [Act.put,ak]
 refine aj 10 λK hK=>?_;go_simp;go_at_call 103
 (with_reducible refine (H5.out.2.1).mono ?_)
 intro e w6 hG;obtain ⟨p6,M6,rfl,H6⟩:=H5.out.2.2 e w6 hG;replace H6:=hid H6;clear hG;have cA:=H6.out.1;refine hK.out _ _ (cA) λhld=>?_;clear hK K;try simp only [Act.put,ak]
 refine ah 11 ?_;try simp only [Act.put,ak]
 refine aj 12 λK hK=>?_;refine uL (by rfl) H6.out.2.1 (i:=y) (by simpa [pJ] using hy) p6 ⟨_,_,rfl,rfl,rfl⟩ ?_;intro w7 fc dc;obtain ⟨M7,H7⟩:=H6.out.2.2 w7 fc dc;replace H7:=hid H7;clear fc dc;refine hK.out _ _ (H7.out.1) λhld=>?_;clear hK K;try simp only [Act.put,ak]
 refine aB ?_;go_wp2_with fail
 refine aC (S:=λ_=>True) (trivial) λhld=>?_;refine ah 0 ?_;try simp only [Act.put,ak]
 refine ah 1 ?_;try simp only [Act.put,ak]
 refine ah 2 ?_ (hy:=by intro wz hSw; (refine qR (a:=some ⟨wb,wo,none⟩) (n:=wn) (c:=wc) (j:=k) gI jv hkc ?_; exact ⟨_,_,rfl,rfl,rfl⟩));try simp only [Act.put,ak]
 refine ah 3 ?_;try simp only [Act.put,ak]
 refine aj 4 λK hK=>?_;go_simp;go_at_call 149
 (with_reducible refine (H7.out.2.1).mono ?_)
 intro e w8 hG;obtain ⟨p8,M8,rfl,H8⟩:=H7.out.2.2 e w8 hG;replace H8:=hid H8;clear hG;have hB8:=H8.out.1;refine hK.out _ _ ?_ (λhld=>?_)
 .trivial
 clear hK K;try simp only [Act.put,ak]
 refine aj 5 λK hK=>?_;go_simp;go_at_call 151
 (with_reducible refine (H8.out.2.1).mono ?_)
 intro e w9 hG;obtain ⟨p9,rfl,H9⟩:=H8.out.2.2 e w9 hG;replace H9:=hid H9;clear hG;have uu:=H9.out.1;refine hK.out _ _ ?_ (λhld=>?_)
 .trivial
 clear hK K;try simp only [Act.put,ak]
 refine aj 6 λK hK=>?_;refine fD (by rfl) H9.out.2.1 (off:=0) (by decide) p9 ⟨_,_,rfl,rfl,rfl⟩ ?_;intro ag ai al;have bu:=hid ai;have g9:=hid (H9.out.2.2 ag al);clear ai al;refine hK.out _ _ ?_ (λhld=>?_)
 .trivial
 clear hK K;try simp only [Act.put,ak]
 refine aB ?_;go_wp2;exact bodyPost_ret (eY rfl _ rfl bu.out) rfl g9.out.2
theorem parted {q p:Pa} (hl:q.length<=p.length) (h:¬ q<+:p):cp q p<q.length/\q.getD (cp q p) 0≠p.getD (cp q p) 0:=by
 refine ⟨Am h,?_⟩;have h2:¬ p<+:q:=λg=>h (by rw [g.eq_of_length (Nat.le_antisymm g.length_le hl)]; exact List.prefix_rfl);obtain ⟨s,a,b,q',p',e1,e2,hab,hc⟩:=qj q p h h2;rw [hc,e1,e2];have hg:∀ (x:UInt8) (r:Pa),(s++x::r).getD s.length 0=x:=λx r=>by simp [List.getD]
 rw [hg,hg];exact hab
structure Ahead (M:Mp) (w w2:World) (b:Nat) (t:T) (pa:aK) (pn pc:Nat):Prop where
 b2:Below w.heap.size w w2
 i2:Inv M w2
 x2:Bx M w2 (w.heap.size+1) #[.pointer none] 35
 c0:w2.cell? ⟨w.heap.size,0,none⟩=some (.pointer (some ⟨b,0,none⟩))
 c1:w2.cell? ⟨b,1,none⟩=some (.slice pa pn pc)
 p:Bs M w2 pa pn pc (bW t)
theorem ahead (M:Mp) (b:Nat) (t:T) (hm:M.at_ b=some t) (w:World) (hi:Inv M w):∃ w2 pa pn pc,w2=(w.alloc (.cells #[.pointer (some ⟨b,0,none⟩)] 35)).alloc (.cells #[.pointer none] 35)/\Ahead M w w2 b t pa pn pc/\w2.heap.size=w.heap.size+2:=by
 obtain ⟨w2,hw2,am,af,hb2,hs2⟩:=nG w (some ⟨b,0,none⟩);have hi2:=hi.below hb2;obtain ⟨pa,pn,pc,c1,hP⟩:=hi2.path hm;exact ⟨w2,pa,pn,pc,hw2,⟨hb2,hi2,⟨af,hi.free (by omega),iY _⟩,aV (j:=0) am rfl,c1,hP⟩,hs2⟩
theorem yX (M:Mp) (b:Nat) (t:T) (hm:M.at_ b=some (t)) (w:World) (hi:Inv M w) (wa:aK) (wn wc:Nat) (way:Pa) (v:aL) (hW:Bs M w wa wn wc way) (hw64:way.length<=64) (hle:(bW (t)).length<=way.length) (h:¬ bW t<+:way) (hn:Nib (bW t)) (hwn:Nib way) (A:T)
  (hcut:∀ wx M',Inv M' wx->M'.at_ b=some t->Calls prog 172 #[.agg #[.pointer (some ⟨b,0,none⟩)],.int .i64 (cp (bW t) way+1:Nat)] wx (dF M' wx A)) :
  Calls prog 102 #[.agg #[.pointer (some ⟨b,0,none⟩)],.slice wa wn wc,.string v] w (dF M w (wrap (way.take (cp (bW t) way)) (two (nb ((bW t).getD (cp (bW t) way) 0)) (nb (way.getD (cp (bW t) way) 0)) A (.leaf (way.drop (cp (bW t) way+1)) v)))):=by
 obtain ⟨w2,pa,pn,pc,hw2,hA,hs2⟩:=ahead M b _ hm w hi;have hpn:=hA.p.1.len;have hwl:way.length=wn:=hW.1.len;have j3:=hA.p.1.1;have hpm:=hA.p.1.2.1;have j4:=hW.1.1;have ox:=hW.1.2.1;unfold maxLen at hpm ox;obtain ⟨hk1,hk2⟩:=parted hle h;have cT:=hid (pX pa wa pn wn pc wc (bW t) way (by omega) (by omega) (by omega) w2 hA.p.1 (oQ hi hW.1 (Fr.below M hA.b2)));obtain ⟨R,hR⟩:=ay (wrap (way.take (cp (bW t) way)) (two (nb ((bW t).getD (cp (bW t) way) 0)) (nb (way.getD (cp (bW t) way) 0)) A (.leaf (way.drop (cp (bW t) way+1)) v)))
 rw [hR];have HS:Hid (∀ w3,Below w2.heap.size w2 w3->w3.cell? ⟨w.heap.size,0,none⟩=some (.pointer (some ⟨b,0,none⟩))/\Calls prog 150 #[.agg #[.pointer (some ⟨b,0,none⟩)],.int .i64 (cp (bW t) way:Nat),.slice wa wn wc,.string v] w3 (dF M w3 R)/\
   ∀ e w9,dF M w3 R e w9->∃ p,e = .returned (tv p)/\Rg.Own w9 (w.heap.size+1) #[.pointer none] 35/\∀ ag,Rg.Upd w9 (w.heap.size+1) ag->dF M w R (.returned (tv p)) ag):=hid (λw3 hb3 =>
  ⟨aW hb3 hA.c0,by rw [<-hR]; exact OP M b t hm (cp (bW t) way) A hk1 (by omega) hn w3 (hA.i2.below hb3) hcut wa wn wc way v (hW.fr hi (Fr.below M (bst hA.b2 hb3))) (by omega) hwn (by omega) hk2,
   λe w9 hG=>finish hi (Fr.below M (bst hA.b2 hb3)) (bst hA.b2 hb3) hG (hA.x2.o.below hb3) (iY _) (by omega) hA.x2.n⟩)
 have hlt:decide (((cp (bW t) way:Nat):Int)<(pn:Int))=true:=by simp; omega
 obtain ⟨k,hk⟩:=ay (cp (bW t) way)
 rw [hk] at cT HS hlt;have hlt2:(k:Int)<(pn:Int):=by have:=of_decide_eq_true hlt; exact this
 have hlt3:k<pn:=by omega
 have h0:=hA.c0;have c1:=hA.c1;clear hR hk hA hW hi hm hle h hn hwn hcut hk1 hk2 hpn hwl;subst hw2;go_enter func102,ntmps102;go_wp2_with (refine aA (aX _ _ _ (w.heap.size+1) (by simp) rfl) ?_)
 refine cT.out.mono ?_;rintro e w3 ⟨rfl,hb3⟩;obtain ⟨d0,HC,HF⟩:=HS.out w3 hb3;replace HC:=hid HC;replace HF:=hid HF;clear hb3 HS cT h0 c1;go_wp2_with (refine aA (aU d0 ⟨_,rfl,rfl⟩) ?_)
 refine HC.out.mono ?_;intro e w9 hG;obtain ⟨p9,rfl,ce,hE⟩:=HF.out e w9 hG;have cW:=hid ce;have HE:=hid hE;clear hG ce hE;go_wp2_with (refine bg cW.out (by decide) p9 rfl _ _ rfl rfl rfl ?_; intro ag ai al; have bu:=hid ai; have em:=hid al; clear ai al)
 exact bodyPost_ret (eY rfl _ rfl bu.out) rfl (HE.out ag em.out)
theorem Le (M:Mp) (b:Nat) (u:aL) (q:Pa) (hm:M.at_ b=some (.leaf q u)) (w:World) (hi:Inv M w) (wa:aK) (wn wc:Nat) (way:Pa) (v:aL) (hW:Bs M w wa wn wc way) (hw64:way.length<=64) (hle:(bW (.leaf q u)).length<=way.length) (h:q=way) :
  Calls prog 102 #[.agg #[.pointer (some ⟨b,0,none⟩)],.slice wa wn wc,.string v] w (dF M w (.leaf q v)):=by
 obtain ⟨w2,pa,pn,pc,hw2,hA,hs2⟩:=ahead M b _ hm w hi;have hpn:=hA.p.1.len;have hwl:way.length=wn:=hW.1.len;have j3:=hA.p.1.1;have hpm:=hA.p.1.2.1;have j4:=hW.1.1;have ox:=hW.1.2.1;unfold maxLen at hpm ox;have dv:q.length=pn:=hpn;subst h;obtain rfl:pn=wn:=by omega
 have cT:=hid (pX pa wa pn pn pc wc q q (by omega) (by omega) (by omega) w2 hA.p.1 (oQ hi hW.1 (Fr.below M hA.b2)));rw [Bq (List.prefix_rfl),dv] at cT;have HS:Hid (∀ w3,Below w2.heap.size w2 w3->w3.cell? ⟨w.heap.size,0,none⟩=some (.pointer (some ⟨b,0,none⟩))/\Calls prog 67 #[.agg #[.pointer (some ⟨b,0,none⟩)]] w3 (λe w'=>e = .returned (.int .i64 1)/\Below w3.heap.size w3 w')/\
   ∀ w4,Below w3.heap.size w3 w4->Calls prog 103 #[.slice pa pn pc,.string v] w4 (dF M w4 (.leaf q v))/\
   ∀ e w9,dF M w4 (.leaf q v) e w9->∃ p,e = .returned (tv p)/\Rg.Own w9 (w.heap.size+1) #[.pointer none] 35/\∀ ag,Rg.Upd w9 (w.heap.size+1) ag->dF M w (.leaf q v) (.returned (tv p)) ag):=hid (λw3 hb3 =>
  ⟨aW hb3 hA.c0,dN M _ _ w3 (hA.i2.below hb3) (kG (hA.i2.below hb3) hm),λw4 hb4=>⟨oI M _ _ _ _ _ w4 (hA.i2.below (bst hb3 hb4)) (hA.p.fr hA.i2 (Fr.below M (bst hb3 hb4))),
   λe w9 hG=>finish hi (Fr.below M (bst hA.b2 (bst hb3 hb4))) (bst hA.b2 (bst hb3 hb4)) hG (hA.x2.o.below (bst hb3 hb4)) (iY _) (by omega) hA.x2.n⟩⟩)
 have hlt:decide ((pn:Int)<(pn:Int))=false:=by simp
 have h0:=hA.c0;have c1:=hA.c1;clear hA hW hi hm hle hpn dv hwl;subst hw2;go_enter func102,ntmps102;go_wp2_with (refine aA (aX _ _ _ (w.heap.size+1) (by simp) rfl) ?_)
 refine cT.out.mono ?_;rintro e w3 ⟨rfl,hb3⟩;obtain ⟨d0,HK,H4⟩:=HS.out w3 hb3;replace HK:=hid HK;replace H4:=hid H4;clear hb3 HS cT h0 c1;go_wp2_with (refine aA (aU d0 ⟨_,rfl,rfl⟩) ?_)
 refine HK.out.mono ?_;rintro e w4 ⟨rfl,hb4⟩;obtain ⟨HC,HF⟩:=H4.out w4 hb4;replace HC:=hid HC;replace HF:=hid HF;clear hb4 H4 HK;go_wp2_with fail
 refine HC.out.mono ?_;intro e w9 hG;obtain ⟨p9,rfl,ce,hE⟩:=HF.out e w9 hG;have cW:=hid ce;have HE:=hid hE;clear hG ce hE;go_wp2_with (refine bg cW.out (by decide) p9 rfl _ _ rfl rfl rfl ?_; intro ag ai al; have bu:=hid ai; have em:=hid al; clear ai al)
 exact bodyPost_ret (eY rfl _ rfl bu.out) rfl (HE.out ag em.out)
theorem Qu (M:Mp) (b:Nat) (q:Pa) (s:T) (hm:M.at_ b=some (.ext q s)) (w:World) (hi:Inv M w) (wa:aK) (wn wc:Nat) (way:Pa) (v:aL) (hW:Bs M w wa wn wc way) (hw64:way.length<=64) (hle:(bW (.ext q s)).length<=way.length) (h:q<+:way) (hq:q≠[]) (hg:Tr.get s (way.drop q.length)≠none)
  (hS:∀ M' w' p a n c,Inv M' w'->IsT M' p s->Bs M' w' a n c (way.drop q.length)->Calls prog 54 #[.agg #[.pointer p],.slice a n c,.string v] w' (dF M' w' (put s (way.drop q.length) v))) :
  Calls prog 102 #[.agg #[.pointer (some ⟨b,0,none⟩)],.slice wa wn wc,.string v] w (dF M w (.ext q (put s (way.drop q.length) v))):=by
 obtain ⟨w2,pa,pn,pc,hw2,hA,hs2⟩:=ahead M b _ hm w hi;have hpn:=hA.p.1.len;have hwl:way.length=wn:=hW.1.len;have j3:=hA.p.1.1;have hpm:=hA.p.1.2.1;have j4:=hW.1.1;have ox:=hW.1.2.1;unfold maxLen at hpm ox;have dv:q.length=pn:=hpn;have cT:=hid (pX pa wa pn wn pc wc q way (by omega) (by omega) (by omega) w2 hA.p.1 (oQ hi hW.1 (Fr.below M hA.b2)));rw [Bq h,dv] at cT;have hpw:pn<=wn:=by rw [<-dv,<-hwl]; exact hle
 rw [dv] at hS ⊢;obtain ⟨ka,kn,kc,c3,hK⟩:=hA.i2.kids hm;obtain ⟨kb,ko,p0,rfl,cI,gm,hk0,hT0⟩:=hK.at' 0 (by rw [<-hK.len]; exact Nat.one_pos);have hkn:kn=1:=hK.len.symm;have hkc:=hK.1;have hkm:=hK.2.1;unfold maxLen at hkm;rw [Nat.add_zero] at hk0;have bi:IsT M p0 s:=hT0;have hbl:=hi.lt hm;have lr:=hi.lt_ kb gm
 have HS:Hid (∀ w3,Below w2.heap.size w2 w3->w3.cell? ⟨w.heap.size,0,none⟩=some (.pointer (some ⟨b,0,none⟩))/\Calls prog 67 #[.agg #[.pointer (some ⟨b,0,none⟩)]] w3 (λe w'=>e = .returned (.int .i64 2)/\Below w3.heap.size w3 w')/\
   ∀ w4,Below w3.heap.size w3 w4->(w4.cell? ⟨w.heap.size,0,none⟩=some (.pointer (some ⟨b,0,none⟩))/\w4.cell? ⟨b,3,none⟩=some (.slice (some ⟨kb,ko,none⟩) kn kc)/\w4.cell? ⟨kb,ko,none⟩=some (.pointer p0))/\
   (∀ wx,Below w4.heap.size w4 wx->Calls prog 54 #[.agg #[.pointer p0],.slice (dY wa wc pn) (wn-pn) (wc-pn),.string v] wx (dF M wx (put s (way.drop pn) v)))/\∀ wx,Below w4.heap.size w4 wx->∀ e w5,dF M wx (put s (way.drop pn) v) e w5->∃ p5 M5,e = .returned (tv p5)/\Below w4.heap.size w4 w5/\Calls prog 151 #[.slice pa pn pc,.agg #[.pointer p5]] w5 (dF M5 w5 (.ext q (put s (way.drop pn) v)))/\
    ∀ e w9,dF M5 w5 (.ext q (put s (way.drop pn) v)) e w9->∃ p9,e = .returned (tv p9)/\Below w4.heap.size w4 w9/\Rg.Own w9 (w.heap.size+1) #[.pointer none] 35/\∀ ag,Rg.Upd w9 (w.heap.size+1) ag->True/\dF M w (.ext q (put s (way.drop pn) v)) (.returned (tv p9)) ag):=hid (λw3 hb3 =>
  ⟨aW hb3 hA.c0,dN M _ _ w3 (hA.i2.below hb3) (kG (hA.i2.below hb3) hm),λw4 hb4=>⟨⟨aW hb4 (aW hb3 hA.c0),aW hb4 (aW hb3 c3),aW hb4 (aW hb3 hk0)⟩,λwx hbx=>by
   have hB:=bst hA.b2 (bst (bst hb3 hb4) hbx);refine hS M wx p0 _ _ _ (hi.below hB) bi ?_;have:=(hW.fr hi (Fr.below M hB)).from' pn hpw;exact this,λwx hbx e w5 hG=>by
   have hB:=bst (bst hb3 hb4) hbx;have sp:St M w M wx:=⟨Fr.below M (bst hA.b2 hB),hi.below (bst hA.b2 hB),bst hA.b2 hB,hi⟩
   obtain ⟨p5,M5,rfl,fl,hS5,cG,hb5⟩:=sp.got hG;have y9:=(hA.x2.below hB).got cG hb5;have hwr:wrap q (put s (way.drop pn) v) = .ext q (put s (way.drop pn) v):=if_neg hq;have hbe:=vg M5 pa pn pc q p5 (put s (way.drop pn) v) w5 hS5.i ((hA.p.fr hA.i2 (Fr.below M hB)).fr (hA.i2.below hB) cG) fl;rw [hwr] at hbe;refine ⟨p5,M5,rfl,bst hbx hb5,hbe,λe w9 yi=>?_⟩;obtain ⟨p9,M9,rfl,hT9,sl,yk,cF⟩:=hS5.got yi;have qt:=y9.got yk cF;refine ⟨p9,rfl,bst (bst hbx hb5) cF,qt.o,λag hu=>?_⟩;have cH:=sl.upd hu (by omega) qt.n
   exact ⟨trivial,p9,M9,rfl,hT9,cH.f,cH.i,cH.b⟩⟩⟩)
 have hlt:decide ((pn:Int)<(pn:Int))=false:=by simp
 have h0:=hA.c0;have c1:=hA.c1;clear hA hW hi hm hle hpn dv hwl hK hT0 bi c3 hk0 hS;subst hw2;go_enter func102,ntmps102;go_wp2_with (refine aA (aX _ _ _ (w.heap.size+1) (by simp) rfl) ?_)
 refine cT.out.mono ?_;rintro e w3 ⟨rfl,hb3⟩;obtain ⟨d0',HK,H4⟩:=HS.out w3 hb3;replace HK:=hid HK;replace H4:=hid H4;clear hb3 HS cT h0 c1;go_wp2_with (refine aA (aU d0' ⟨_,rfl,rfl⟩) ?_)
 refine HK.out.mono ?_;rintro e w4 ⟨rfl,hb4⟩;obtain ⟨⟨d0,d3,dk⟩,HC,HF⟩:=H4.out w4 hb4;replace HC:=hid HC;replace HF:=hid HF;clear hb4 H4 HK d0';go_wp2_with fail
 refine aC (S:=λw'=>Bo (w.heap.size+1) w4 w') (Bo.of (below_drewN aH 1)) λhld=>?_;refine ah 0 ?_;try simp only [Act.put,ak]
 refine ah 1 ?_;try simp only [Act.put,ak]
 refine aD 2 (λwz hSw=>gy hSw (by omega) d0) ?_;try simp only [Act.put,ak]
 refine ah 3 ?_;try simp only [Act.put,ak]
 refine ah 4 ?_;try simp only [Act.put,ak]
 refine aD 5 (λwz hSw=>gy hSw (by omega) d3) ?_;try simp only [Act.put,ak]
 refine ah 6 ?_;try simp only [Act.put,ak]
 refine ah 7 ?_ (hy:=by intro wz hSw; (refine aU (gy hSw (by omega) dk) ?_; exact ⟨_,rfl,rfl⟩));try simp only [Act.put,ak]
 refine ah 8 ?_;try simp only [Act.put,ak]
 refine ah 9 ?_;try simp only [Act.put,ak]
 refine ah 10 ?_ (hy:=by intro wz hSw; (refine jL (a:=wa) (n:=wn) (c:=wc) (i:=pn) gI jv hpw ?_; exact ⟨_,_,rfl,rfl,rfl⟩));try simp only [Act.put,ak]
 refine ah 11 ?_;try simp only [Act.put,ak]
 refine aj 12 λK hK=>?_;go_simp;go_at_call 54
 (with_reducible refine (HC.out w4.drew (below_drewN aH 1)).mono ?_)
 intro e w5 hG;obtain ⟨p5,M5,rfl,ed,H5⟩:=HF.out w4.drew (below_drewN aH 1) e w5 hG;replace H5:=hid H5;clear hG;refine hK.out _ _ (Bo.of ed) λhld=>?_;clear hK K;try simp only [Act.put,ak]
 refine aj 13 λK hK=>?_;go_simp;go_at_call 151
 (with_reducible refine (H5.out.1).mono ?_)
 intro e w9 hG;obtain ⟨p9,rfl,uu,H9⟩:=H5.out.2 e w9 hG;replace H9:=hid H9;clear hG;refine hK.out _ _ (Bo.of uu) λhld=>?_;clear hK K;try simp only [Act.put,ak]
 refine aj 14 λK hK=>?_;refine fD (by rfl) H9.out.1 (off:=0) (by decide) p9 ⟨_,_,rfl,rfl,rfl⟩ ?_;intro ag ai al;have bu:=hid ai;have g9:=hid (H9.out.2 ag al);clear ai;refine hK.out _ _ ((Bo.of uu).upd al) λhld=>?_;clear hK K;try simp only [Act.put,ak]
 refine aB ?_;go_wp2;exact bodyPost_ret (eY rfl _ rfl bu.out) rfl g9.out.2
theorem KA (M:Mp) (b:Nat) (q:Pa) (s:T) (hm:M.at_ b=some (.ext q s)) (w:World) (hi:Inv M w) (wa:aK) (wn wc:Nat) (way:Pa) (v:aL) (hW:Bs M w wa wn wc way) (hw64:way.length<=64) (hle:(bW (.ext q s)).length<=way.length) (h:q<+:way)
  (hS:∀ M' w' p a n c,Inv M' w'->IsT M' p s->Bs M' w' a n c (way.drop q.length)->Calls prog 54 #[.agg #[.pointer p],.slice a n c,.string v] w' λe w''=>e = .panicked [fI 8]/\Below w'.heap.size w' w'') :
  Calls prog 102 #[.agg #[.pointer (some ⟨b,0,none⟩)],.slice wa wn wc,.string v] w (λe w'=>e = .panicked [fI 8]/\Below w.heap.size w w'):=by
 obtain ⟨w2,pa,pn,pc,hw2,hA,hs2⟩:=ahead M b _ hm w hi;have hpn:=hA.p.1.len;have hwl:way.length=wn:=hW.1.len;have j3:=hA.p.1.1;have hpm:=hA.p.1.2.1;have j4:=hW.1.1;have ox:=hW.1.2.1;unfold maxLen at hpm ox;have dv:q.length=pn:=hpn;have cT:=hid (pX pa wa pn wn pc wc q way (by omega) (by omega) (by omega) w2 hA.p.1 (oQ hi hW.1 (Fr.below M hA.b2)));rw [Bq h,dv] at cT;have hpw:pn<=wn:=by rw [<-dv,<-hwl]; exact hle
 rw [dv] at hS ;obtain ⟨ka,kn,kc,c3,hK⟩:=hA.i2.kids hm;obtain ⟨kb,ko,p0,rfl,cI,gm,hk0,hT0⟩:=hK.at' 0 (by rw [<-hK.len]; exact Nat.one_pos);have hkn:kn=1:=hK.len.symm;have hkc:=hK.1;have hkm:=hK.2.1;unfold maxLen at hkm;rw [Nat.add_zero] at hk0;have bi:IsT M p0 s:=hT0;have hbl:=hi.lt hm;have lr:=hi.lt_ kb gm
 have HS:Hid (∀ w3,Below w2.heap.size w2 w3->w3.cell? ⟨w.heap.size,0,none⟩=some (.pointer (some ⟨b,0,none⟩))/\Calls prog 67 #[.agg #[.pointer (some ⟨b,0,none⟩)]] w3 (λe w'=>e = .returned (.int .i64 2)/\Below w3.heap.size w3 w')/\
   ∀ w4,Below w3.heap.size w3 w4->(w4.cell? ⟨w.heap.size,0,none⟩=some (.pointer (some ⟨b,0,none⟩))/\w4.cell? ⟨b,3,none⟩=some (.slice (some ⟨kb,ko,none⟩) kn kc)/\w4.cell? ⟨kb,ko,none⟩=some (.pointer p0))/\
   (∀ wx,Below w4.heap.size w4 wx->Calls prog 54 #[.agg #[.pointer p0],.slice (dY wa wc pn) (wn-pn) (wc-pn),.string v] wx (λe w''=>e = .panicked [fI 8]/\Below wx.heap.size wx w''))/\∀ wx,Below w4.heap.size w4 wx->Below w.heap.size w wx):=hid (λw3 hb3 =>
  ⟨aW hb3 hA.c0,dN M _ _ w3 (hA.i2.below hb3) (kG (hA.i2.below hb3) hm),λw4 hb4=>⟨⟨aW hb4 (aW hb3 hA.c0),aW hb4 (aW hb3 c3),aW hb4 (aW hb3 hk0)⟩,λwx hbx=>by
   have hB:=bst hA.b2 (bst (bst hb3 hb4) hbx);refine hS M wx p0 _ _ _ (hi.below hB) bi ?_;have:=(hW.fr hi (Fr.below M hB)).from' pn hpw;exact this,λwx hbx=>bst hA.b2 (bst (bst hb3 hb4) hbx)⟩⟩)
 have hlt:decide ((pn:Int)<(pn:Int))=false:=by simp
 have h0:=hA.c0;have c1:=hA.c1;clear hA hW hi hm hle hpn dv hwl hK hT0 bi c3 hk0 hS;subst hw2;go_enter func102,ntmps102;go_wp2_with (refine aA (aX _ _ _ (w.heap.size+1) (by simp) rfl) ?_)
 refine cT.out.mono ?_;rintro e w3 ⟨rfl,hb3⟩;obtain ⟨d0',HK,H4⟩:=HS.out w3 hb3;replace HK:=hid HK;replace H4:=hid H4;clear hb3 HS cT h0 c1;go_wp2_with (refine aA (aU d0' ⟨_,rfl,rfl⟩) ?_)
 refine HK.out.mono ?_;rintro e w4 ⟨rfl,hb4⟩;obtain ⟨⟨d0,d3,dk⟩,HC,HF⟩:=H4.out w4 hb4;replace HC:=hid HC;replace HF:=hid HF;clear hb4 H4 HK d0';go_wp2_with fail
 refine wp_region_held_drew (S:=λw'=>Bo (w.heap.size+1) w4 w') (by kernel_rfl) (Bo.of (below_drewN aH 1)) (λhld=>?_);refine ah 0 ?_;try simp only [Act.put,ak]
 refine ah 1 ?_;try simp only [Act.put,ak]
 refine aD 2 (λwz hSw=>gy hSw (by omega) d0) ?_;try simp only [Act.put,ak]
 refine ah 3 ?_;try simp only [Act.put,ak]
 refine ah 4 ?_;try simp only [Act.put,ak]
 refine aD 5 (λwz hSw=>gy hSw (by omega) d3) ?_;try simp only [Act.put,ak]
 refine ah 6 ?_;try simp only [Act.put,ak]
 refine ah 7 ?_ (hy:=by intro wz hSw; (refine aU (gy hSw (by omega) dk) ?_; exact ⟨_,rfl,rfl⟩));try simp only [Act.put,ak]
 refine ah 8 ?_;try simp only [Act.put,ak]
 refine ah 9 ?_;try simp only [Act.put,ak]
 refine ah 10 ?_ (hy:=by intro wz hSw; (refine jL (a:=wa) (n:=wn) (c:=wc) (i:=pn) gI jv hpw ?_; exact ⟨_,_,rfl,rfl,rfl⟩));try simp only [Act.put,ak]
 refine ah 11 ?_;try simp only [Act.put,ak]
 refine aj 12 λK hK=>?_;go_simp;go_at_call 54
 (with_reducible refine (HC.out w4.drew (below_drewN aH 1)).mono ?_)
 rintro e w5 ⟨rfl,hb5⟩;simp +zetaDelta [bodyPost,Exit.then];exact bst (HF.out w4.drew (below_drewN aH 1)) hb5
theorem WC (ks:Fin 16->T) (M:Mp) (b:Nat) (hm:M.at_ b=some (.br ks)) (w:World) (hi:Inv M w) (wa:aK) (wn wc:Nat) (c0:UInt8) (r:Pa) (v:aL) (hW:Bs M w wa wn wc (c0::r)) (hc0:c0.toNat<16) (hlen:(c0::r).length<=64)
  (ih:∀ M' w' p a n c,Inv M' w'->IsT M' p (ks (nb c0))->Bs M' w' a n c r->Calls prog 54 #[.agg #[.pointer p],.slice a n c,.string v] w' (dF M' w' (put (ks (nb c0)) r v))) :
  Calls prog 54 #[.agg #[.pointer (some ⟨b,0,none⟩)],.slice wa wn wc,.string v] w (dF M w (.br λj=>if j=nb c0 then put (ks (nb c0)) r v else ks j)):=by
  obtain ⟨w2,hw2,am,af,hb2,hs2⟩:=nG w (some ⟨b,0,none⟩);have hi2:=hi.below hb2;have hX2:Bx M w2 (w.heap.size+1) #[.pointer none] 35:=⟨af,hi.free (by omega),iY _⟩
  have hwl:(c0::r).length=wn:=hW.1.len;have ym:r.length+1=wn:=by rw [<-hwl]; rfl
  have h0:=aV (j:=0) am rfl;have HK:=hid (dN M _ _ w2 hi2 (kG hi2 hm));obtain ⟨ka,kn,kc,c3,hKs⟩:=hi2.kids hm;have hkn:kn=16:=by rw [<-hKs.len]; exact fK ks
  subst hkn;have hnx:((nb c0).val:Nat)=c0.toNat:=Nat.mod_eq_of_lt hc0;obtain ⟨kb,ko,p0,rfl,cI,gm,hk0,hT0⟩:=hKs.at' c0.toNat hc0;have bi:IsT M p0 (ks (nb c0)):=by
   rw [<-hnx,kL] at hT0;exact hT0
  have hbl:=hi.lt hm;have lr:=hi.lt_ kb gm;have hkc:=hKs.1;have hkm:=hKs.2.1;unfold maxLen at hkm;have hx16:c0.toNat<16:=hc0;have hxi:((c0.toNat:Nat):Int)<16:=by omega
  have HT:Hid (∀ w3,Below w2.heap.size w2 w3->w3.cell? ⟨w.heap.size,0,none⟩=some (.pointer (some ⟨b,0,none⟩))/\Calls prog 68 #[.slice wa wn wc] w3 (λe w'=>e = .returned (.tuple #[.int .u8 c0.toNat,.slice (dY wa wc 1) (wn-1) (wc-1)])/\Below w3.heap.size w3 w')/\
    ∀ w4,Below w3.heap.size w3 w4->(w4.cell? ⟨w.heap.size,0,none⟩=some (.pointer (some ⟨b,0,none⟩))/\w4.cell? ⟨b,3,none⟩=some (.slice (some ⟨kb,ko,none⟩) 16 kc)/\w4.cell? ⟨kb,ko+c0.toNat,none⟩=some (.pointer p0))/\
    (∀ wx,Below w4.heap.size w4 wx->Calls prog 54 #[.agg #[.pointer p0],.slice (dY wa wc 1) (wn-1) (wc-1),.string v] wx (dF M wx (put (ks (nb c0)) r v)))/\∀ wx,Below w4.heap.size w4 wx->∀ e w5,dF M wx (put (ks (nb c0)) r v) e w5->∃ p5 M5,e = .returned (tv p5)/\Below w4.heap.size w4 w5/\Calls prog 101 #[.agg #[.pointer (some ⟨b,0,none⟩)],.int .u8 c0.toNat,.agg #[.pointer p5]] w5 (dF M5 w5 (.br λj=>if j=nb c0 then put (ks (nb c0)) r v else ks j))/\
     ∀ e w9,dF M5 w5 (.br λj=>if j=nb c0 then put (ks (nb c0)) r v else ks j) e w9->∃ p9,e = .returned (tv p9)/\Below w4.heap.size w4 w9/\Rg.Own w9 (w.heap.size+1) #[.pointer none] 35/\∀ ag,Rg.Upd w9 (w.heap.size+1) ag->dF M w (.br λj=>if j=nb c0 then put (ks (nb c0)) r v else ks j) (.returned (tv p9)) ag):=hid (λw3 hb3 =>
   ⟨aW hb3 h0,kY wa wn wc (c0::r) (by omega) w3 (oQ hi hW.1 (Fr.below M (bst hb2 hb3))),λw4 hb4=>⟨⟨aW hb4 (aW hb3 h0),aW hb4 (aW hb3 c3),aW hb4 (aW hb3 hk0)⟩,λwx hbx=>by
    have hB:=bst hb2 (bst (bst hb3 hb4) hbx);refine ih M wx p0 _ _ _ (hi.below hB) bi ?_;exact (hW.fr hi (Fr.below M hB)).from' 1 (by omega),λwx hbx e w5 hG=>by
    have hB:=bst (bst hb3 hb4) hbx;have sp:St M w M wx:=⟨Fr.below M (bst hb2 hB),hi.below (bst hb2 hB),bst hb2 hB,hi⟩
    obtain ⟨p5,M5,rfl,fl,hS5,cG,hb5⟩:=sp.got hG;have y9:=(hX2.below hB).got cG hb5;have hbe:=Lg M5 b ks (cG.mono b _ hm) (nb c0) p5 _ fl w5 hS5.i;rw [hnx] at hbe;refine ⟨p5,M5,rfl,bst hbx hb5,hbe,λe w9 yi=>?_⟩;obtain ⟨p9,M9,rfl,hT9,sl,yk,cF⟩:=hS5.got yi;have qt:=y9.got yk cF;refine ⟨p9,rfl,bst (bst hbx hb5) cF,qt.o,λag hu=>?_⟩;have cH:=sl.upd hu (by omega) qt.n;exact ⟨p9,M9,rfl,hT9,cH.f,cH.i,cH.b⟩⟩⟩)
  have H0:=hid am;clear am af hb2 hi hi2 hm hW hX2 hwl hKs hT0 bi c3 hk0 ih h0;subst hw2;clear hs2;go_enter func54,ntmps54;go_wp2_with (first | (refine aA (aX _ _ _ (w.heap.size+1) (by simp) rfl) ?_) | (refine aA (aU (aV (j:=0) H0.out rfl) ⟨_,rfl,rfl⟩) ?_))
  refine HK.out.mono ?_;rintro e w3 ⟨rfl,hb3⟩;obtain ⟨d0',fo,H4⟩:=HT.out w3 hb3;replace fo:=hid fo;replace H4:=hid H4;clear hb3 HT HK H0 d0';unfold dO;go_wp2_with fail
  refine fo.out.mono ?_;rintro e w4 ⟨rfl,hb4⟩;obtain ⟨⟨d0,d3,dk⟩,HC,HF⟩:=H4.out w4 hb4;replace HC:=hid HC;replace HF:=hid HF;clear hb4 H4 fo;go_wp2_with fail
  refine aC (S:=λw'=>Bo (w.heap.size+1) w4 w') (Bo.of (below_drewN aH 1)) λhld=>?_;refine ah 0 ?_ (hy:=by intro wz hSw; (refine aU (gy hSw (by omega) d0) ?_; exact ⟨_,rfl,rfl⟩));try simp only [Act.put,ak]
  refine ah 1 ?_;try simp only [Act.put,ak]
  refine ah 2 ?_;try simp only [Act.put,ak]
  refine aD 3 (λwz hSw=>gy hSw (by omega) d0) ?_;try simp only [Act.put,ak]
  refine ah 4 ?_;try simp only [Act.put,ak]
  refine ah 5 ?_;try simp only [Act.put,ak]
  refine aD 6 (λwz hSw=>gy hSw (by omega) d3) ?_;try simp only [Act.put,ak]
  refine ah 7 ?_;try simp only [Act.put,ak]
  refine ah 8 ?_ (hy:=by intro wz hSw; (have q0:=hxi; have q1:=hx16; go_simp <;> with_reducible rfl));try simp only [Act.put,ak]
  refine ah 9 ?_ (hy:=by intro wz hSw; (refine aU (gy hSw (by omega) dk) ?_; exact ⟨_,rfl,rfl⟩));try simp only [Act.put,ak]
  refine ah 10 ?_;try simp only [Act.put,ak]
  refine ah 11 ?_;try simp only [Act.put,ak]
  refine aj 12 λK hK=>?_;go_simp;go_at_call 54
  (with_reducible refine (HC.out w4.drew (below_drewN aH 1)).mono ?_)
  intro e w5 hG;obtain ⟨p5,M5,rfl,ed,H5⟩:=HF.out w4.drew (below_drewN aH 1) e w5 hG;replace H5:=hid H5;clear hG;refine hK.out _ _ (Bo.of ed) λhld=>?_;clear hK K;try simp only [Act.put,ak]
  refine aj 13 λK hK=>?_;go_simp;go_at_call 101
  (with_reducible refine (H5.out.1).mono ?_)
  intro e w9 hG;obtain ⟨p9,rfl,uu,H9⟩:=H5.out.2 e w9 hG;replace H9:=hid H9;clear hG;refine hK.out _ _ (Bo.of uu) λhld=>?_;clear hK K;try simp only [Act.put,ak]
  refine aj 14 λK hK=>?_;refine fD (by rfl) H9.out.1 (off:=0) (by decide) p9 ⟨_,_,rfl,rfl,rfl⟩ ?_;intro ag ai al;have bu:=hid ai;have g9:=hid (H9.out.2 ag al);clear ai;refine hK.out _ _ ((Bo.of uu).upd al) λhld=>?_;clear hK K;try simp only [Act.put,ak]
  refine aB ?_;go_wp2;exact bodyPost_ret (eY rfl _ rfl bu.out) rfl g9.out
theorem FX (ks:Fin 16->T) (M:Mp) (b:Nat) (hm:M.at_ b=some (.br ks)) (w:World) (hi:Inv M w) (wa:aK) (wn wc:Nat) (c0:UInt8) (r:Pa) (v:aL) (hW:Bs M w wa wn wc (c0::r)) (hc0:c0.toNat<16) (hlen:(c0::r).length<=64)
  (ih:∀ M' w' p a n c,Inv M' w'->IsT M' p (ks (nb c0))->Bs M' w' a n c r->Calls prog 54 #[.agg #[.pointer p],.slice a n c,.string v] w' (λe w''=>e = .panicked [fI 8]/\Below w'.heap.size w' w'')) :
  Calls prog 54 #[.agg #[.pointer (some ⟨b,0,none⟩)],.slice wa wn wc,.string v] w (λe w''=>e = .panicked [fI 8]/\Below w.heap.size w w''):=by
  obtain ⟨w2,hw2,am,af,hb2,hs2⟩:=nG w (some ⟨b,0,none⟩);have hi2:=hi.below hb2;have hX2:Bx M w2 (w.heap.size+1) #[.pointer none] 35:=⟨af,hi.free (by omega),iY _⟩
  have hwl:(c0::r).length=wn:=hW.1.len;have ym:r.length+1=wn:=by rw [<-hwl]; rfl
  have h0:=aV (j:=0) am rfl;have HK:=hid (dN M _ _ w2 hi2 (kG hi2 hm));obtain ⟨ka,kn,kc,c3,hKs⟩:=hi2.kids hm;have hkn:kn=16:=by rw [<-hKs.len]; exact fK ks
  subst hkn;have hnx:((nb c0).val:Nat)=c0.toNat:=Nat.mod_eq_of_lt hc0;obtain ⟨kb,ko,p0,rfl,cI,gm,hk0,hT0⟩:=hKs.at' c0.toNat hc0;have bi:IsT M p0 (ks (nb c0)):=by
   rw [<-hnx,kL] at hT0;exact hT0
  have hbl:=hi.lt hm;have lr:=hi.lt_ kb gm;have hkc:=hKs.1;have hkm:=hKs.2.1;unfold maxLen at hkm;have hx16:c0.toNat<16:=hc0;have hxi:((c0.toNat:Nat):Int)<16:=by omega
  have HT:Hid (∀ w3,Below w2.heap.size w2 w3->w3.cell? ⟨w.heap.size,0,none⟩=some (.pointer (some ⟨b,0,none⟩))/\Calls prog 68 #[.slice wa wn wc] w3 (λe w'=>e = .returned (.tuple #[.int .u8 c0.toNat,.slice (dY wa wc 1) (wn-1) (wc-1)])/\Below w3.heap.size w3 w')/\
    ∀ w4,Below w3.heap.size w3 w4->(w4.cell? ⟨w.heap.size,0,none⟩=some (.pointer (some ⟨b,0,none⟩))/\w4.cell? ⟨b,3,none⟩=some (.slice (some ⟨kb,ko,none⟩) 16 kc)/\w4.cell? ⟨kb,ko+c0.toNat,none⟩=some (.pointer p0))/\
    (∀ wx,Below w4.heap.size w4 wx->Calls prog 54 #[.agg #[.pointer p0],.slice (dY wa wc 1) (wn-1) (wc-1),.string v] wx (λe w''=>e = .panicked [fI 8]/\Below wx.heap.size wx w''))/\∀ wx,Below w4.heap.size w4 wx->Below w.heap.size w wx):=hid (λw3 hb3 =>
   ⟨aW hb3 h0,kY wa wn wc (c0::r) (by omega) w3 (oQ hi hW.1 (Fr.below M (bst hb2 hb3))),λw4 hb4=>⟨⟨aW hb4 (aW hb3 h0),aW hb4 (aW hb3 c3),aW hb4 (aW hb3 hk0)⟩,λwx hbx=>by
    have hB:=bst hb2 (bst (bst hb3 hb4) hbx);refine ih M wx p0 _ _ _ (hi.below hB) bi ?_;exact (hW.fr hi (Fr.below M hB)).from' 1 (by omega),λwx hbx=>bst hb2 (bst (bst hb3 hb4) hbx)⟩⟩)
  have H0:=hid am;clear am af hb2 hi hi2 hm hW hX2 hwl hKs hT0 bi c3 hk0 ih h0;subst hw2;clear hs2;go_enter func54,ntmps54;go_wp2_with (first | (refine aA (aX _ _ _ (w.heap.size+1) (by simp) rfl) ?_) | (refine aA (aU (aV (j:=0) H0.out rfl) ⟨_,rfl,rfl⟩) ?_))
  refine HK.out.mono ?_;rintro e w3 ⟨rfl,hb3⟩;obtain ⟨d0',fo,H4⟩:=HT.out w3 hb3;replace fo:=hid fo;replace H4:=hid H4;clear hb3 HT HK H0 d0';unfold dO;go_wp2_with fail
  refine fo.out.mono ?_;rintro e w4 ⟨rfl,hb4⟩;obtain ⟨⟨d0,d3,dk⟩,HC,HF⟩:=H4.out w4 hb4;replace HC:=hid HC;replace HF:=hid HF;clear hb4 H4 fo;go_wp2_with fail
  refine wp_region_held_drew (S:=λw'=>Bo (w.heap.size+1) w4 w') (by kernel_rfl) (Bo.of (below_drewN aH 1)) (λhld=>?_);refine ah 0 ?_ (hy:=by intro wz hSw; (refine aU (gy hSw (by omega) d0) ?_; exact ⟨_,rfl,rfl⟩));try simp only [Act.put,ak]
  refine ah 1 ?_;try simp only [Act.put,ak]
  refine ah 2 ?_;try simp only [Act.put,ak]
  refine aD 3 (λwz hSw=>gy hSw (by omega) d0) ?_;try simp only [Act.put,ak]
  refine ah 4 ?_;try simp only [Act.put,ak]
  refine ah 5 ?_;try simp only [Act.put,ak]
  refine aD 6 (λwz hSw=>gy hSw (by omega) d3) ?_;try simp only [Act.put,ak]
  refine ah 7 ?_;try simp only [Act.put,ak]
  refine ah 8 ?_ (hy:=by intro wz hSw; (have q0:=hxi; have q1:=hx16; go_simp <;> with_reducible rfl));try simp only [Act.put,ak]
  refine ah 9 ?_ (hy:=by intro wz hSw; (refine aU (gy hSw (by omega) dk) ?_; exact ⟨_,rfl,rfl⟩));try simp only [Act.put,ak]
  refine ah 10 ?_;try simp only [Act.put,ak]
  refine ah 11 ?_;try simp only [Act.put,ak]
  refine aj 12 λK hK=>?_;go_simp;go_at_call 54
  (with_reducible refine (HC.out w4.drew (below_drewN aH 1)).mono ?_)
  rintro e w5 ⟨rfl,hb5⟩;simp +zetaDelta [bodyPost,Exit.then];exact bst (HF.out w4.drew (below_drewN aH 1)) hb5
theorem Um (M:Mp) (a:aK) (n c:Nat) (way:Pa) (v:aL) (w:World) (hi:Inv M w) (hW:Bs M w a n c way):Calls prog 54 #[.agg #[.pointer none],.slice a n c,.string v] w (dF M w (.leaf way v)):=by
 obtain ⟨w2,hw2,am,af,hb2,hs2⟩:=nG w none;have hi2:=hi.below hb2;have HK:=hid (dN M none .nil w2 hi2 rfl);have HT:Hid (∀ w3,Below w2.heap.size w2 w3->Calls prog 103 #[.slice a n c,.string v] w3 (dF M w3 (.leaf way v))/\∀ e w9,dF M w3 (.leaf way v) e w9->∃ p,e = .returned (tv p)/\Rg.Own w9 (w.heap.size+1) #[.pointer none] 35/\∀ ag,Rg.Upd w9 (w.heap.size+1) ag->dF M w (.leaf way v) (.returned (tv p)) ag):=hid (λw3 hb3 =>
  ⟨oI M _ _ _ _ _ w3 (hi2.below hb3) (hW.fr hi (Fr.below M (bst hb2 hb3))),λe w9 hG=>finish hi (Fr.below M (bst hb2 hb3)) (bst hb2 hb3) hG (af.below hb3) (iY _) (by omega) (hi.free (by omega))⟩)
 have H0:=hid am;clear am af hb2 hs2 hi hi2 hW;subst hw2;go_enter func54,ntmps54;go_wp2_with (first | (refine aA (aX _ _ _ (w.heap.size+1) (by simp) rfl) ?_) | (refine aA (aU (aV (j:=0) H0.out rfl) ⟨_,rfl,rfl⟩) ?_))
 refine HK.out.mono ?_;rintro e w3 ⟨rfl,hb3⟩;obtain ⟨HC,HF⟩:=HT.out w3 hb3;replace HC:=hid HC;replace HF:=hid HF;clear hb3 HT HK H0;unfold dO;go_wp2_with fail
 refine HC.out.mono ?_;intro e w9 hG;obtain ⟨p9,rfl,ce,hE⟩:=HF.out e w9 hG;have cW:=hid ce;have HE:=hid hE;clear hG ce hE;go_wp2_with (refine bg cW.out (by decide) p9 rfl _ _ rfl rfl rfl ?_; intro ag ai al; have bu:=hid ai; have em:=hid al; clear ai al)
 exact bodyPost_ret (eY rfl _ rfl bu.out) rfl (HE.out ag em.out)
theorem QA (M:Mp) (b:Nat) (r:aL) (hm:M.at_ b=some (.stub r)) (a:aK) (n c:Nat) (v:aL) (w:World) (hi:Inv M w):Calls prog 54 #[.agg #[.pointer (some ⟨b,0,none⟩)],.slice a n c,.string v] w (λe w'=>e = .panicked [fI 8]/\Below w.heap.size w w'):=by
 obtain ⟨w2,hw2,am,af,hb2,hs2⟩:=nG w (some ⟨b,0,none⟩);have hi2:=hi.below hb2;have HK:=hid (dN M _ _ w2 hi2 (kG hi2 hm));have H0:=hid am;have HB:Hid (∀ w3,Below w2.heap.size w2 w3->Below w.heap.size w w3):=hid (λw3 hb3=>bst hb2 hb3);clear am af hb2 hs2 hi hi2 hm;subst hw2;go_enter func54,ntmps54;go_wp2_with (first | (refine aA (aX _ _ _ (w.heap.size+1) (by simp) rfl) ?_) | (refine aA (aU (aV (j:=0) H0.out rfl) ⟨_,rfl,rfl⟩) ?_))
 refine HK.out.mono ?_;rintro e w3 ⟨rfl,hb3⟩;have HB3:=hid (HB.out w3 hb3);clear hb3 HB HK H0;unfold dO;go_wp2;simp +zetaDelta [bodyPost,Exit.then,fI];exact HB3.out
theorem uY (M:Mp) (b:Nat) (t:T) (hm:M.at_ b=some t) (hk:dO t=1\/dO t=2) (a:aK) (n c:Nat) (v:aL) (R:T) (w:World) (hi:Inv M w)
  (hal:∀ w3,Below w.heap.size w w3->Calls prog 102 #[.agg #[.pointer (some ⟨b,0,none⟩)],.slice a n c,.string v] w3 (dF M w3 R)) :
  Calls prog 54 #[.agg #[.pointer (some ⟨b,0,none⟩)],.slice a n c,.string v] w (dF M w R):=by
 obtain ⟨w2,hw2,am,af,hb2,hs2⟩:=nG w (some ⟨b,0,none⟩);have hi2:=hi.below hb2;have HK:=hid (dN M _ _ w2 hi2 (kG hi2 hm));have h0:=aV (j:=0) am rfl
 have HT:Hid (∀ w3,Below w2.heap.size w2 w3->w3.cell? ⟨w.heap.size,0,none⟩=some (.pointer (some ⟨b,0,none⟩))/\Calls prog 102 #[.agg #[.pointer (some ⟨b,0,none⟩)],.slice a n c,.string v] w3 (dF M w3 R)/\∀ e w9,dF M w3 R e w9->∃ p,e = .returned (tv p)/\Rg.Own w9 (w.heap.size+1) #[.pointer none] 35/\∀ ag,Rg.Upd w9 (w.heap.size+1) ag->dF M w R (.returned (tv p)) ag):=hid (λw3 hb3 =>
  ⟨aW hb3 h0,hal w3 (bst hb2 hb3),λe w9 hG=>finish hi (Fr.below M (bst hb2 hb3)) (bst hb2 hb3) hG (af.below hb3) (iY _) (by omega) (hi.free (by omega))⟩)
 have H0:=hid am;obtain ⟨k,hkk⟩:=ay (dO t)
 rw [hkk] at HK hk;clear am af hb2 hs2 hi hi2 hal hm hkk h0;subst hw2;rcases hk with rfl | rfl;all_goals
  go_enter func54,ntmps54;go_wp2_with (first | (refine aA (aX _ _ _ (w.heap.size+1) (by simp) rfl) ?_) | (refine aA (aU (aV (j:=0) H0.out rfl) ⟨_,rfl,rfl⟩) ?_))
  refine HK.out.mono ?_;rintro e w3 ⟨rfl,hb3⟩;obtain ⟨d0,HC,HF⟩:=HT.out w3 hb3;replace HC:=hid HC;replace HF:=hid HF;clear hb3 HT HK H0;go_wp2_with (refine aA (aU d0 ⟨_,rfl,rfl⟩) ?_)
  refine HC.out.mono ?_;intro e w9 hG;obtain ⟨p9,rfl,ce,hE⟩:=HF.out e w9 hG;have cW:=hid ce;have HE:=hid hE;clear hG ce hE;go_wp2_with (refine bg cW.out (by decide) p9 rfl _ _ rfl rfl rfl ?_; intro ag ai al; have bu:=hid ai; have em:=hid al; clear ai al)
  exact bodyPost_ret (eY rfl _ rfl bu.out) rfl (HE.out ag em.out)
theorem zq (M:Mp) (b:Nat) (t:T) (hm:M.at_ b=some t) (hk:dO t=2) (a:aK) (n c:Nat) (v:aL) (w:World) (hi:Inv M w)
  (hal:∀ w3,Below w.heap.size w w3->Calls prog 102 #[.agg #[.pointer (some ⟨b,0,none⟩)],.slice a n c,.string v] w3 (λe w'=>e = .panicked [fI 8]/\Below w3.heap.size w3 w')) :
  Calls prog 54 #[.agg #[.pointer (some ⟨b,0,none⟩)],.slice a n c,.string v] w (λe w'=>e = .panicked [fI 8]/\Below w.heap.size w w'):=by
 obtain ⟨w2,hw2,am,af,hb2,hs2⟩:=nG w (some ⟨b,0,none⟩);have hi2:=hi.below hb2;have HK:=hid (dN M _ _ w2 hi2 (kG hi2 hm));rw [hk] at HK;have h0:=aV (j:=0) am rfl;have HT:Hid (∀ w3,Below w2.heap.size w2 w3->w3.cell? ⟨w.heap.size,0,none⟩=some (.pointer (some ⟨b,0,none⟩))/\Calls prog 102 #[.agg #[.pointer (some ⟨b,0,none⟩)],.slice a n c,.string v] w3 (λe w'=>e = .panicked [fI 8]/\Below w3.heap.size w3 w')/\Below w.heap.size w w3):=hid (λw3 hb3 =>
  ⟨aW hb3 h0,hal w3 (bst hb2 hb3),bst hb2 hb3⟩)
 have H0:=hid am;clear am af hb2 hs2 hi hi2 hal hm hk h0;subst hw2;go_enter func54,ntmps54;go_wp2_with (first | (refine aA (aX _ _ _ (w.heap.size+1) (by simp) rfl) ?_) | (refine aA (aU (aV (j:=0) H0.out rfl) ⟨_,rfl,rfl⟩) ?_))
 refine HK.out.mono ?_;rintro e w3 ⟨rfl,hb3⟩;obtain ⟨d0,HC,HB⟩:=HT.out w3 hb3;replace HC:=hid HC;replace HB:=hid HB;clear hb3 HT HK H0;go_wp2_with (refine aA (aU d0 ⟨_,rfl,rfl⟩) ?_)
 refine HC.out.mono ?_;rintro e w9 ⟨rfl,cF⟩;have gR:=hid (bst HB.out cF);clear cF HB;go_wp2;simp +zetaDelta [bodyPost,Exit.then];exact gR.out
theorem NR (q way:Pa) (f:Pa->T) (v:aL):fork q f way v=wrap (way.take (cp q way)) (two (nb (q.getD (cp q way) 0)) (nb (way.getD (cp q way) 0)) (f (q.drop (cp q way+1))) (.leaf (way.drop (cp q way+1)) v)):=by
 unfold fork;rw [zI _ _ _ aG]
def Zc (t:T):Prop:=∀ (M:Mp) (w:World) (p:aK) (a:aK) (n c:Nat) (way:Pa) (v:aL),Inv M w->IsT M p t->Bs M w a n c way->Tr.Good t way.length->Nib way->way.length<=64->
 (Tr.get t way=none->Calls prog 54 #[.agg #[.pointer p],.slice a n c,.string v] w λe w'=>e = .panicked [fI 8]/\Below w.heap.size w w')/\
 (Tr.get t way≠none->Calls prog 54 #[.agg #[.pointer p],.slice a n c,.string v] w (dF M w (put t way v)))
theorem Jk (t:T):Zc t:=by
 induction t with
 | nil =>
  intro M w p a n c way v hi ht hW hg hn hl;refine ⟨λh=>(by cases h),λ_=>?_⟩;obtain rfl:p=none:=ht.pO.2 rfl;exact Um M a n c way v w hi hW
 | stub r =>
  intro M w p a n c way v hi ht hW hg hn hl;refine ⟨λ_=>?_,λh=>absurd rfl h⟩;obtain ⟨b,rfl,hm⟩:=ht.at_ (λe=>by cases e);exact QA M b r hm a n c v w hi
 | leaf q u =>
  intro M w p a n c way v hi ht hW hg hn hl;refine ⟨λh=>(by cases h),λ_=>?_⟩;obtain ⟨b,rfl,hm⟩:=ht.at_ (λe=>by cases e);refine uY M b _ hm (Or.inl rfl) a n c v _ w hi (λw3 hb3=>?_);have hi3:=hi.below hb3;have hW3:=hW.fr hi (Fr.below M hb3);by_cases e:q=way
  .have:put (.leaf q u) way v = .leaf q v:=by
    unfold put;rw [if_pos e,e]
   rw [this];exact Le M b u q hm w3 hi3 a n c way v hW3 hl (Nat.le_of_eq hg.1) e
  .have:put (.leaf q u) way v=fork q (λr=>.leaf r u) way v:=by
    unfold put;rw [if_neg e]
   rw [this,NR];have hpre:¬ q<+:way:=λh=>e (h.eq_of_length hg.1);exact yX M b _ hm w3 hi3 a n c way v hW3 hl (Nat.le_of_eq hg.1) hpre hg.2 hn _ (λwx M' hix hmx=>UJ M' b q u hmx _ (Nat.succ_le_of_lt (Am hpre)) wx hix)
 | ext q s ih =>
  intro M w p a n c way v hi ht hW hg hn hl;obtain ⟨b,rfl,hm⟩:=ht.at_ (λe=>by cases e);obtain ⟨g1,g2,g3,g4,g5⟩:=hg;by_cases e:q<+:way
  .have hgs:Tr.Good s (way.drop q.length).length:=by rw [List.length_drop]; exact g5
   have hget:Tr.get (.ext q s) way=Tr.get s (way.drop q.length):=by
    show (if q<+:way then Tr.get s (way.drop q.length) else some none)=_;rw [if_pos e]
   rw [hget];have hld:(way.drop q.length).length<=64:=by rw [List.length_drop]; omega
   refine ⟨λh=>?_,λh=>?_⟩
   .refine zq M b _ hm rfl a n c v w hi (λw3 hb3=>?_);exact KA M b q s hm w3 (hi.below hb3) a n c way v (hW.fr hi (Fr.below M hb3)) hl g3 e (λM' w' p' a' n' c' hi' ht' hW'=>(ih M' w' p' a' n' c' _ v hi' ht' hW' hgs (hn.drop _) hld).1 h)
   .have hput:put (.ext q s) way v = .ext q (put s (way.drop q.length) v):=by
     show (if q<+:way then _ else _)=_;rw [if_pos e]
    rw [hput];refine uY M b _ hm (Or.inr rfl) a n c v _ w hi (λw3 hb3=>?_);exact Qu M b q s hm w3 (hi.below hb3) a n c way v (hW.fr hi (Fr.below M hb3)) hl g3 e g1 h (λM' w' p' a' n' c' hi' ht' hW'=>(ih M' w' p' a' n' c' _ v hi' ht' hW' hgs (hn.drop _) hld).2 h)
  .have hget:Tr.get (.ext q s) way=some none:=by
    show (if q<+:way then Tr.get s (way.drop q.length) else some none)=_;rw [if_neg e]
   rw [hget];refine ⟨λh=>(by cases h),λ_=>?_⟩;have hput:put (.ext q s) way v=fork q (λr=>wrap r s) way v:=by
    show (if q<+:way then _ else _)=_;rw [if_neg e]
   rw [hput,NR];refine uY M b _ hm (Or.inr rfl) a n c v _ w hi (λw3 hb3=>?_);exact yX M b _ hm w3 (hi.below hb3) a n c way v (hW.fr hi (Fr.below M hb3)) hl g3 e g2 hn _ (λwx M' hix hmx=>XB M' b q s hmx _ (Nat.succ_le_of_lt (Am e)) wx hix)
 | br ks ih =>
  intro M w p a n c way v hi ht hW hg hn hl;obtain ⟨b,rfl,hm⟩:=ht.at_ (λe=>by cases e);cases way with
  | nil=>exact absurd hg.1 (Nat.lt_irrefl 0)
  | cons c0 r =>
   have hl':r.length<=64:=by simp at hl; omega
   have hgi:Tr.Good (ks (nb c0)) r.length:=hg.2.2 (nb c0);refine ⟨λh=>?_,λh=>?_⟩
   .exact FX ks M b hm w hi a n c c0 r v hW hn.head hl (λM' w' p' a' n' c' hi' ht' hW'=>(ih (nb c0) M' w' p' a' n' c' r v hi' ht' hW' hgi hn.tail hl').1 h)
   .have hput:put (.br ks) (c0::r) v = .br λj=>if j=nb c0 then put (ks (nb c0)) r v else ks j:=by
     show T.br _=T.br _;congr 1;funext j;by_cases e:j=nb c0
     .subst e; rfl
     .rw [if_neg e,if_neg e]
    rw [hput];exact WC ks M b hm w hi a n c c0 r v hW hn.head hl (λM' w' p' a' n' c' hi' ht' hW'=>(ih (nb c0) M' w' p' a' n' c' r v hi' ht' hW' hgi hn.tail hl').2 h)
def lq:Option (Option aL)->Ending
 | none=>.panicked [fI 8]
 | some none=>.panicked [fI 7]
 | some (some v)=>.returned (.string v)
def YR (t:T):Prop:=∀ (M:Mp) (w:World) (p:aK) (a:aK) (n c:Nat) (way:Pa),Inv M w->IsT M p t->aZ w a n c way->Tr.Good t way.length->Nib way->way.length<=64->
 Calls prog 37 #[.agg #[.pointer p],.slice a n c] w λe w'=>e=lq (Tr.get t way)/\Below w.heap.size w w'
theorem Vi (M:Mp) (a:aK) (n c:Nat) (w:World) (hi:Inv M w):Calls prog 37 #[.agg #[.pointer none],.slice a n c] w λe w'=>e = .panicked [fI 7]/\Below w.heap.size w w':=by
 have h0:=fG w none;have HK:=hid (dN M none .nil (w.alloc (.cells #[.pointer none] 35)) (hi.below (al1 _ _)) rfl);clear hi;go_enter func37,ntmps37;go_wp2_with (refine aA (aU h0 ⟨_,rfl,rfl⟩) ?_)
 refine HK.out.mono ?_;rintro e w3 ⟨rfl,hb3⟩;have HB:=hid (bst (al1 _ _) hb3);unfold dO;clear h0 hb3 HK;go_wp2;simp +zetaDelta [bodyPost,Exit.then,fI];exact HB.out
theorem Pv (M:Mp) (b:Nat) (r:aL) (hm:M.at_ b=some (.stub r)) (a:aK) (n c:Nat) (w:World) (hi:Inv M w):Calls prog 37 #[.agg #[.pointer (some ⟨b,0,none⟩)],.slice a n c] w λe w'=>e = .panicked [fI 8]/\Below w.heap.size w w':=by
 have h0:=fG w (some ⟨b,0,none⟩);have HK:=hid (dN M _ _ (w.alloc (.cells #[.pointer (some ⟨b,0,none⟩)] 35)) (hi.below (al1 _ _)) (kG (w:=w) hi hm));clear hi hm;go_enter func37,ntmps37;go_wp2_with (refine aA (aU h0 ⟨_,rfl,rfl⟩) ?_)
 refine HK.out.mono ?_;rintro e w3 ⟨rfl,hb3⟩;have HB:=hid (bst (al1 _ _) hb3);unfold dO;clear h0 hb3 HK;go_wp2;simp +zetaDelta [bodyPost,Exit.then,fI];exact HB.out
theorem Rh (M:Mp) (b:Nat) (q:Pa) (u:aL) (hm:M.at_ b=some (.leaf q u)) (a:aK) (n c:Nat) (way:Pa) (w:World) (hi:Inv M w) (hB:aZ w a n c way) (hl:q.length=way.length) (h64:way.length<=64) :
  Calls prog 37 #[.agg #[.pointer (some ⟨b,0,none⟩)],.slice a n c] w λe w'=>e=lq (Tr.get (.leaf q u) way)/\Below w.heap.size w w':=by
 have h0:=fG w (some ⟨b,0,none⟩);obtain ⟨w1,hw1⟩:=au (w.alloc (.cells #[.pointer (some ⟨b,0,none⟩)] 35))
 have hb1:Below w.heap.size w w1:=by rw [hw1]; exact al1 _ _
 have hi1:=hi.below hb1;have hn:=hB.len;rw [<-hw1] at h0;have HK:=hid (dN M _ _ w1 hi1 (kG hi1 hm));have c2:w1.cell? ⟨b,2,none⟩=some (.string u):=hi1.val hm;have H3:Hid (∀ w3,Below w1.heap.size w1 w3->w3.cell? ⟨w.heap.size,0,none⟩=some (.pointer (some ⟨b,0,none⟩))/\Calls prog 70 #[.agg #[.pointer (some ⟨b,0,none⟩)],.slice a n c] w3 (λe w'=>e=(if q=way then .returned (.tuple #[]) else .panicked [fI 7])/\Below w3.heap.size w3 w')/\
   ∀ w4,Below w3.heap.size w3 w4->w4.cell? ⟨w.heap.size,0,none⟩=some (.pointer (some ⟨b,0,none⟩))/\w4.cell? ⟨b,2,none⟩=some (.string u)/\Below w.heap.size w w4):=hid (λw3 hb3 =>
  ⟨aW hb3 h0,FJ M b _ hm a n c way w3 (hi1.below hb3) (hB.below (bst hb1 hb3)) (by rw [<-hn]; exact hl) (by omega),λw4 hb4=>⟨aW hb4 (aW hb3 h0),aW hb4 (aW hb3 c2),bst (bst hb1 hb3) hb4⟩⟩)
 have hg:Tr.get (.leaf q u) way=some (if q=way then some u else none):=rfl;rw [hg];clear hg hi hi1 hb1 hn c2 hl hm hB;subst hw1;by_cases e:q=way
 .simp only [if_pos e] at H3 ⊢;clear e;go_enter func37,ntmps37;go_wp2_with (refine aA (aU h0 ⟨_,rfl,rfl⟩) ?_)
  refine HK.out.mono ?_;rintro e w3 ⟨rfl,hb3⟩;obtain ⟨d0,HC,H4⟩:=H3.out w3 hb3;replace HC:=hid HC;replace H4:=hid H4;unfold dO;clear h0 hb3 HK H3;go_wp2_with (refine aA (aU d0 ⟨_,rfl,rfl⟩) ?_)
  refine HC.out.mono ?_;rintro e w4 ⟨rfl,hb4⟩;obtain ⟨e0,e2,HB⟩:=H4.out w4 hb4;replace HB:=hid HB;clear hb4 H4 d0 HC;go_wp2;go_ret;exact ⟨rfl,HB.out⟩
 .simp only [if_neg e] at H3 ⊢;clear e;go_enter func37,ntmps37;go_wp2_with (refine aA (aU h0 ⟨_,rfl,rfl⟩) ?_)
  refine HK.out.mono ?_;rintro e w3 ⟨rfl,hb3⟩;obtain ⟨d0,HC,H4⟩:=H3.out w3 hb3;replace HC:=hid HC;replace H4:=hid H4;unfold dO;clear h0 hb3 HK H3;go_wp2_with (refine aA (aU d0 ⟨_,rfl,rfl⟩) ?_)
  refine HC.out.mono ?_;rintro e w4 ⟨rfl,hb4⟩;obtain ⟨e0,e2,HB⟩:=H4.out w4 hb4;replace HB:=hid HB;clear hb4 H4 d0 HC;go_wp2;simp +zetaDelta [bodyPost,Exit.then,fI,lq];exact HB.out
theorem Wh (ks:Fin 16->T) (M:Mp) (b:Nat) (hm:M.at_ b=some (.br ks)) (w:World) (hi:Inv M w) (wa:aK) (wn wc:Nat) (c0:UInt8) (r:Pa) (hW:aZ w wa wn wc (c0::r)) (hc0:c0.toNat<16) (hlen:(c0::r).length<=64) (g:Option (Option aL))
  (ih:∀ w' p a n c,Inv M w'->IsT M p (ks (nb c0))->aZ w' a n c r->Calls prog 37 #[.agg #[.pointer p],.slice a n c] w' (λe w''=>e=lq g/\Below w'.heap.size w' w'')) :
  Calls prog 37 #[.agg #[.pointer (some ⟨b,0,none⟩)],.slice wa wn wc] w (λe w'=>e=lq g/\Below w.heap.size w w'):=by
 have h0:=fG w (some ⟨b,0,none⟩);obtain ⟨w1,hw1⟩:=au (w.alloc (.cells #[.pointer (some ⟨b,0,none⟩)] 35))
 have hb1:Below w.heap.size w w1:=by rw [hw1]; exact al1 _ _
 have hi1:=hi.below hb1;rw [<-hw1] at h0;have hwl:(c0::r).length=wn:=hW.len;have ym:r.length+1=wn:=by rw [<-hwl]; rfl
 have HK:=hid (dN M _ _ w1 hi1 (kG hi1 hm));obtain ⟨ka,kn,kc,c3,hKs⟩:=hi1.kids hm;have hkn:kn=16:=by rw [<-hKs.len]; exact fK ks
 subst hkn;have hnx:((nb c0).val:Nat)=c0.toNat:=Nat.mod_eq_of_lt hc0;obtain ⟨kb,ko,p0,rfl,cI,gm,hk0,hT0⟩:=hKs.at' c0.toNat hc0;have bi:IsT M p0 (ks (nb c0)):=by
  rw [<-hnx,kL] at hT0;exact hT0
 have hkc:=hKs.1;have hkm:=hKs.2.1;unfold maxLen at hkm;have hx16:c0.toNat<16:=hc0;have hxi:((c0.toNat:Nat):Int)<16:=by omega
 have HT:Hid (∀ w3,Below w1.heap.size w1 w3->w3.cell? ⟨w.heap.size,0,none⟩=some (.pointer (some ⟨b,0,none⟩))/\Calls prog 68 #[.slice wa wn wc] w3 (λe w'=>e = .returned (.tuple #[.int .u8 c0.toNat,.slice (dY wa wc 1) (wn-1) (wc-1)])/\Below w3.heap.size w3 w')/\
   ∀ w4,Below w3.heap.size w3 w4->(w4.cell? ⟨w.heap.size,0,none⟩=some (.pointer (some ⟨b,0,none⟩))/\w4.cell? ⟨b,3,none⟩=some (.slice (some ⟨kb,ko,none⟩) 16 kc)/\w4.cell? ⟨kb,ko+c0.toNat,none⟩=some (.pointer p0))/\
   Calls prog 37 #[.agg #[.pointer p0],.slice (dY wa wc 1) (wn-1) (wc-1)] w4 (λe w''=>e=lq g/\Below w4.heap.size w4 w'')/\∀ w5,Below w4.heap.size w4 w5->Below w.heap.size w w5):=hid (λw3 hb3 =>
  ⟨aW hb3 h0,kY wa wn wc (c0::r) (by omega) w3 (hW.below (bst hb1 hb3)),λw4 hb4=>⟨⟨aW hb4 (aW hb3 h0),aW hb4 (aW hb3 c3),aW hb4 (aW hb3 hk0)⟩,(by
   have hB:=bst hb1 (bst hb3 hb4);refine ih w4 p0 _ _ _ (hi.below hB) bi ?_;exact tN (hW.below hB) 1 (by omega)),λw5 hb5=>bst (bst (bst hb1 hb3) hb4) hb5⟩⟩)
 clear hi hi1 hb1 hm hW hwl hKs hT0 bi c3 hk0 ih;subst hw1
 match g with
 | none | some none =>
  go_enter func37,ntmps37;go_wp2_with (refine aA (aU h0 ⟨_,rfl,rfl⟩) ?_)
  refine HK.out.mono ?_;rintro e w3 ⟨rfl,hb3⟩;obtain ⟨d0',fo,H4⟩:=HT.out w3 hb3;replace fo:=hid fo;replace H4:=hid H4;unfold dO;clear hb3 HT HK h0 d0';go_wp2_with fail
  refine fo.out.mono ?_;rintro e w4 ⟨rfl,hb4⟩;obtain ⟨⟨d0,d3,dk⟩,HC,HB⟩:=H4.out w4 hb4;replace HC:=hid HC;replace HB:=hid HB;clear hb4 H4 fo;go_wp2_with (refine aA (aU dk ⟨_,rfl,rfl⟩) ?_)
  refine HC.out.mono ?_;rintro e w5 ⟨rfl,hb5⟩;have ae:=hid (HB.out w5 hb5);clear hb5 HB HC;unfold lq;go_wp2;simp +zetaDelta [bodyPost,Exit.then];exact ⟨rfl,ae.out⟩
 | some (some v) =>
  go_enter func37,ntmps37;go_wp2_with (refine aA (aU h0 ⟨_,rfl,rfl⟩) ?_)
  refine HK.out.mono ?_;rintro e w3 ⟨rfl,hb3⟩;obtain ⟨d0',fo,H4⟩:=HT.out w3 hb3;replace fo:=hid fo;replace H4:=hid H4;unfold dO;clear hb3 HT HK h0 d0';go_wp2_with fail
  refine fo.out.mono ?_;rintro e w4 ⟨rfl,hb4⟩;obtain ⟨⟨d0,d3,dk⟩,HC,HB⟩:=H4.out w4 hb4;replace HC:=hid HC;replace HB:=hid HB;clear hb4 H4 fo;go_wp2_with (refine aA (aU dk ⟨_,rfl,rfl⟩) ?_)
  refine HC.out.mono ?_;rintro e w5 ⟨rfl,hb5⟩;have ae:=hid (HB.out w5 hb5);clear hb5 HB HC;unfold lq;go_wp2;go_ret;exact ⟨rfl,ae.out⟩
theorem Vv (q:Pa) (s:T) (M:Mp) (b:Nat) (hm:M.at_ b=some (.ext q s)) (w:World) (hi:Inv M w) (wa:aK) (wn wc:Nat) (way:Pa) (hW:aZ w wa wn wc way) (hlen:way.length<=64) (hle:q.length<=way.length) (h:q<+:way) (g:Option (Option aL))
  (ih:∀ w' p a n c,Inv M w'->IsT M p s->aZ w' a n c (way.drop q.length)->Calls prog 37 #[.agg #[.pointer p],.slice a n c] w' (λe w''=>e=lq g/\Below w'.heap.size w' w'')) :
  Calls prog 37 #[.agg #[.pointer (some ⟨b,0,none⟩)],.slice wa wn wc] w (λe w'=>e=lq g/\Below w.heap.size w w'):=by
  have h0:=fG w (some ⟨b,0,none⟩);obtain ⟨w1,hw1⟩:=au (w.alloc (.cells #[.pointer (some ⟨b,0,none⟩)] 35))
  have hb1:Below w.heap.size w w1:=by rw [hw1]; exact al1 _ _
  have hi1:=hi.below hb1;rw [<-hw1] at h0;have hwl:way.length=wn:=hW.len;have HK:=hid (dN M _ _ w1 hi1 (kG hi1 hm));obtain ⟨ka,kn,kc,c3,hKs⟩:=hi1.kids hm;obtain ⟨kb,ko,p0,rfl,cI,gm,hk0,hT0⟩:=hKs.at' 0 (by rw [<-hKs.len]; exact Nat.one_pos);have hkn:kn=1:=hKs.len.symm;have hkc:=hKs.1;have hkm:=hKs.2.1;unfold maxLen at hkm;rw [Nat.add_zero] at hk0;have bi:IsT M p0 s:=hT0
  have HT:Hid (∀ w3,Below w1.heap.size w1 w3->(w3.cell? ⟨w.heap.size,0,none⟩=some (.pointer (some ⟨b,0,none⟩))/\w3.cell? ⟨b,3,none⟩=some (.slice (some ⟨kb,ko,none⟩) kn kc)/\w3.cell? ⟨kb,ko,none⟩=some (.pointer p0))/\
    (∀ wx,Below w3.heap.size w3 wx->Calls prog 69 #[.agg #[.pointer (some ⟨b,0,none⟩)],.slice wa wn wc] wx (λe w'=>e = .returned (.slice (dY wa wc q.length) (wn-q.length) (wc-q.length))/\Below wx.heap.size wx w'))/\(∀ wx,Below w3.heap.size w3 wx->Calls prog 37 #[.agg #[.pointer p0],.slice (dY wa wc q.length) (wn-q.length) (wc-q.length)] wx (λe w''=>e=lq g/\Below wx.heap.size wx w''))/\∀ wx,Below w3.heap.size w3 wx->Below w.heap.size w wx):=hid (λw3 hb3 =>
   ⟨⟨aW hb3 h0,aW hb3 c3,aW hb3 hk0⟩,λwx hbx=>(by
    have:=Cq M b _ hm wa wn wc way wx (hi1.below (bst hb3 hbx)) (hW.below (bst (bst hb1 hb3) hbx)) (by rw [<-hwl]; exact hle) (by omega);rw [show (bW (.ext q s))=q from rfl,if_pos h] at this;exact this),λwx hbx=>(by
     have hB:=bst (bst hb1 hb3) hbx;exact ih wx p0 _ _ _ (hi.below hB) bi (tN (hW.below hB) _ (by rw [<-hwl]; exact hle))),λwx hbx=>bst (bst hb1 hb3) hbx⟩)
  clear hi hi1 hb1 hm hW hwl hKs hT0 bi c3 hk0 ih;subst hw1
  match g with
  | none | some none =>
  go_enter func37,ntmps37;go_wp2_with (refine aA (aU h0 ⟨_,rfl,rfl⟩) ?_)
  refine HK.out.mono ?_;rintro e w3 ⟨rfl,hb3⟩;obtain ⟨⟨d0,d3,dk⟩,HP,im,dt⟩:=HT.out w3 hb3;replace HP:=hid HP;replace im:=hid im;replace dt:=hid dt;unfold dO;clear hb3 HT HK h0;go_wp2_with fail
  refine wp_region_held_drew (S:=λw'=>Below w3.heap.size w3 w') (by kernel_rfl) ((below_drewN aH 1)) (λhld=>?_);refine ah 0 ?_;try simp only [Act.put,ak]
  refine aD 1 (λwz hSw=>aW hSw d0) ?_;try simp only [Act.put,ak]
  refine ah 2 ?_;try simp only [Act.put,ak]
  refine ah 3 ?_;try simp only [Act.put,ak]
  refine aD 4 (λwz hSw=>aW hSw d3) ?_;try simp only [Act.put,ak]
  refine ah 5 ?_;try simp only [Act.put,ak]
  refine ah 6 ?_ (hy:=by intro wz hSw; (refine aU (aW hSw dk) ?_; exact ⟨_,rfl,rfl⟩));try simp only [Act.put,ak]
  refine ah 7 ?_ (hy:=by intro wz hSw; (refine aU (aW hSw d0) ?_; exact ⟨_,rfl,rfl⟩));try simp only [Act.put,ak]
  refine ah 8 ?_;try simp only [Act.put,ak]
  refine aj 9 λK hK=>?_;go_simp;go_at_call 69
  (with_reducible refine (HP.out w3.drew (below_drewN aH 1)).mono ?_)
  rintro e w5 ⟨rfl,hb5⟩;have ae:Hid (Below w3.heap.size w3 w5):=hid (bst (below_drewN aH 1) hb5);clear hb5;refine hK.out _ _ (ae.out) λhld=>?_;clear hK K;try simp only [Act.put,ak]
  refine aj 10 λK hK=>?_;go_simp;go_at_call 37
  (with_reducible refine (im.out w5 ae.out).mono ?_)
  rintro e w6 ⟨rfl,hb6⟩;have ap:Hid (Below w3.heap.size w3 w6):=hid (bst ae.out hb6);clear hb6;simp +zetaDelta [bodyPost,Exit.then,lq];exact dt.out w6 ap.out
  | some (some v) =>
  go_enter func37,ntmps37;go_wp2_with (refine aA (aU h0 ⟨_,rfl,rfl⟩) ?_)
  refine HK.out.mono ?_;rintro e w3 ⟨rfl,hb3⟩;obtain ⟨⟨d0,d3,dk⟩,HP,im,dt⟩:=HT.out w3 hb3;replace HP:=hid HP;replace im:=hid im;replace dt:=hid dt;unfold dO;clear hb3 HT HK h0;go_wp2_with fail
  refine aC (S:=λw'=>Below w3.heap.size w3 w') ((below_drewN aH 1)) λhld=>?_;refine ah 0 ?_;try simp only [Act.put,ak]
  refine aD 1 (λwz hSw=>aW hSw d0) ?_;try simp only [Act.put,ak]
  refine ah 2 ?_;try simp only [Act.put,ak]
  refine ah 3 ?_;try simp only [Act.put,ak]
  refine aD 4 (λwz hSw=>aW hSw d3) ?_;try simp only [Act.put,ak]
  refine ah 5 ?_;try simp only [Act.put,ak]
  refine ah 6 ?_ (hy:=by intro wz hSw; (refine aU (aW hSw dk) ?_; exact ⟨_,rfl,rfl⟩));try simp only [Act.put,ak]
  refine ah 7 ?_ (hy:=by intro wz hSw; (refine aU (aW hSw d0) ?_; exact ⟨_,rfl,rfl⟩));try simp only [Act.put,ak]
  refine ah 8 ?_;try simp only [Act.put,ak]
  refine aj 9 λK hK=>?_;go_simp;go_at_call 69
  (with_reducible refine (HP.out w3.drew (below_drewN aH 1)).mono ?_)
  rintro e w5 ⟨rfl,hb5⟩;have ae:Hid (Below w3.heap.size w3 w5):=hid (bst (below_drewN aH 1) hb5);clear hb5;refine hK.out _ _ (ae.out) λhld=>?_;clear hK K;try simp only [Act.put,ak]
  refine aj 10 λK hK=>?_;go_simp;go_at_call 37
  (with_reducible refine (im.out w5 ae.out).mono ?_)
  rintro e w6 ⟨rfl,hb6⟩;have ap:Hid (Below w3.heap.size w3 w6):=hid (bst ae.out hb6);clear hb6;refine hK.out _ _ (ap.out) λhld=>?_;clear hK K;try simp only [Act.put,ak]
  refine ah 11 ?_;try simp only [Act.put,ak]
  refine aB ?_;go_wp2;go_ret;exact ⟨rfl,dt.out w6 ap.out⟩
theorem Il (q:Pa) (s:T) (M:Mp) (b:Nat) (hm:M.at_ b=some (.ext q s)) (w:World) (hi:Inv M w) (wa:aK) (wn wc:Nat) (way:Pa) (hW:aZ w wa wn wc way) (hlen:way.length<=64) (hle:q.length<=way.length) (h:¬ q<+:way) :
  Calls prog 37 #[.agg #[.pointer (some ⟨b,0,none⟩)],.slice wa wn wc] w (λe w'=>e = .panicked [fI 7]/\Below w.heap.size w w'):=by
  have h0:=fG w (some ⟨b,0,none⟩);obtain ⟨w1,hw1⟩:=au (w.alloc (.cells #[.pointer (some ⟨b,0,none⟩)] 35))
  have hb1:Below w.heap.size w w1:=by rw [hw1]; exact al1 _ _
  have hi1:=hi.below hb1;rw [<-hw1] at h0;have hwl:way.length=wn:=hW.len;have HK:=hid (dN M _ _ w1 hi1 (kG hi1 hm));obtain ⟨ka,kn,kc,c3,hKs⟩:=hi1.kids hm;obtain ⟨kb,ko,p0,rfl,cI,gm,hk0,hT0⟩:=hKs.at' 0 (by rw [<-hKs.len]; exact Nat.one_pos);have hkn:kn=1:=hKs.len.symm;have hkc:=hKs.1;have hkm:=hKs.2.1;unfold maxLen at hkm;rw [Nat.add_zero] at hk0;have bi:IsT M p0 s:=hT0
  have HT:Hid (∀ w3,Below w1.heap.size w1 w3->(w3.cell? ⟨w.heap.size,0,none⟩=some (.pointer (some ⟨b,0,none⟩))/\w3.cell? ⟨b,3,none⟩=some (.slice (some ⟨kb,ko,none⟩) kn kc)/\w3.cell? ⟨kb,ko,none⟩=some (.pointer p0))/\
    (∀ wx,Below w3.heap.size w3 wx->Calls prog 69 #[.agg #[.pointer (some ⟨b,0,none⟩)],.slice wa wn wc] wx (λe w'=>e = .panicked [fI 7]/\Below wx.heap.size wx w'))/\(∀ wx,Below w3.heap.size w3 wx->True)/\∀ wx,Below w3.heap.size w3 wx->Below w.heap.size w wx):=hid (λw3 hb3 =>
   ⟨⟨aW hb3 h0,aW hb3 c3,aW hb3 hk0⟩,λwx hbx=>(by
    have:=Cq M b _ hm wa wn wc way wx (hi1.below (bst hb3 hbx)) (hW.below (bst (bst hb1 hb3) hbx)) (by rw [<-hwl]; exact hle) (by omega);rw [show (bW (.ext q s))=q from rfl,if_neg h] at this;exact this),λwx hbx=>trivial,λwx hbx=>bst (bst hb1 hb3) hbx⟩)
  clear hi hi1 hb1 hm hW hwl hKs hT0 bi c3 hk0 ;subst hw1;go_enter func37,ntmps37;go_wp2_with (refine aA (aU h0 ⟨_,rfl,rfl⟩) ?_)
  refine HK.out.mono ?_;rintro e w3 ⟨rfl,hb3⟩;obtain ⟨⟨d0,d3,dk⟩,HP,im,dt⟩:=HT.out w3 hb3;replace HP:=hid HP;replace im:=hid im;replace dt:=hid dt;unfold dO;clear hb3 HT HK h0;go_wp2_with fail
  refine wp_region_held_drew (S:=λw'=>Below w3.heap.size w3 w') (by kernel_rfl) ((below_drewN aH 1)) (λhld=>?_);refine ah 0 ?_;try simp only [Act.put,ak]
  refine aD 1 (λwz hSw=>aW hSw d0) ?_;try simp only [Act.put,ak]
  refine ah 2 ?_;try simp only [Act.put,ak]
  refine ah 3 ?_;try simp only [Act.put,ak]
  refine aD 4 (λwz hSw=>aW hSw d3) ?_;try simp only [Act.put,ak]
  refine ah 5 ?_;try simp only [Act.put,ak]
  refine ah 6 ?_ (hy:=by intro wz hSw; (refine aU (aW hSw dk) ?_; exact ⟨_,rfl,rfl⟩));try simp only [Act.put,ak]
  refine ah 7 ?_ (hy:=by intro wz hSw; (refine aU (aW hSw d0) ?_; exact ⟨_,rfl,rfl⟩));try simp only [Act.put,ak]
  refine ah 8 ?_;try simp only [Act.put,ak]
  refine aj 9 λK hK=>?_;go_simp;go_at_call 69
  (with_reducible refine (HP.out w3.drew (below_drewN aH 1)).mono ?_)
  rintro e w5 ⟨rfl,hb5⟩;have ae:Hid (Below w3.heap.size w3 w5):=hid (bst (below_drewN aH 1) hb5);clear hb5;simp +zetaDelta [bodyPost,Exit.then];exact dt.out w5 ae.out
theorem SL (t:T):YR t:=by
 induction t with
 | nil =>
  intro M w p a n c way hi ht hW hg hn hl;obtain rfl:p=none:=ht.pO.2 rfl;exact Vi M a n c w hi
 | stub r =>
  intro M w p a n c way hi ht hW hg hn hl;obtain ⟨b,rfl,hm⟩:=ht.at_ (λe=>by cases e);exact Pv M b r hm a n c w hi
 | leaf q u =>
  intro M w p a n c way hi ht hW hg hn hl;obtain ⟨b,rfl,hm⟩:=ht.at_ (λe=>by cases e);exact Rh M b q u hm a n c way w hi hW hg.1 hl
 | ext q s ih =>
  intro M w p a n c way hi ht hW hg hn hl;obtain ⟨b,rfl,hm⟩:=ht.at_ (λe=>by cases e);obtain ⟨g1,g2,g3,g4,g5⟩:=hg;by_cases e:q<+:way
  .have hgs:Tr.Good s (way.drop q.length).length:=by rw [List.length_drop]; exact g5
   have hget:Tr.get (.ext q s) way=Tr.get s (way.drop q.length):=by
    show (if q<+:way then Tr.get s (way.drop q.length) else some none)=_;rw [if_pos e]
   rw [hget];exact Vv q s M b hm w hi a n c way hW hl g3 e _ (λw' p' a' n' c' hi' ht' hW'=>ih M w' p' a' n' c' _ hi' ht' hW' hgs (hn.drop _) (by rw [List.length_drop]; omega))
  .have hget:Tr.get (.ext q s) way=some none:=by
    show (if q<+:way then Tr.get s (way.drop q.length) else some none)=_;rw [if_neg e]
   rw [hget];exact Il q s M b hm w hi a n c way hW hl g3 e
 | br ks ih =>
  intro M w p a n c way hi ht hW hg hn hl;obtain ⟨b,rfl,hm⟩:=ht.at_ (λe=>by cases e);cases way with
  | nil=>exact absurd hg.1 (Nat.lt_irrefl 0)
  | cons c0 r =>
   exact Wh ks M b hm w hi a n c c0 r hW hn.head hl _ (λw' p' a' n' c' hi' ht' hW'=>ih (nb c0) M w' p' a' n' c' r hi' ht' hW' (hg.2.2 (nb c0)) hn.tail (by simp at hl; omega))
end Tm
end
section
open Go.RowKit
namespace Tk
open Pk
theorem nI (p:Addr) (x c:Int) (older:List PanicEntry) (w:World) (hc:w.cell? p=some (.int .i64 x)) (hz:w.frozen? p=false) :
  CallsD prog 66 #[.pointer (some p)] (.panicking (fI c::older)) w λe u' w' =>
   e = .returned (.tuple #[])/\u' = .panicking ({ fI c with recovered:=true }::older)/\w'=w.setCell p (.int .i64 c):=by
 refine callsD_of_wpS func66 rfl λc₀ cs hu=>?_;apply wpS_seq;apply wpS_region;simp [wpOpsS,go_sem,recoverD,hu,fI,ntmps66,Exit.thenS];apply wpS_seq;apply wpS_region;simp [wpOpsS,go_sem,Exit.thenS];refine wpS_cond (t:=true) (by simp [Act.eval,Array.replicate]) ?_;simp only [if_true];apply wpS_region;have Fm:(Instr.typeAssert (.iface 30 (.int .i64 c)) 20 30 false).run prog w = .ok (.int .i64 c) w:=by kernel_rfl
 simp [wpOpsS,go_sem,Fm,hc,hz,bodyPostS,results,Tryz.results66]
theorem vo (p:Addr) (w:World) :
  CallsD prog 66 #[.pointer (some p)] .returning w λe u' w'=>e = .returned (.tuple #[])/\u' = .returning/\w'=w:=by
 refine callsD_of_wpS func66 rfl λc₀ cs hu=>?_;apply wpS_seq;apply wpS_region;simp [wpOpsS,go_sem,recoverD,hu,ntmps66,Exit.thenS];apply wpS_seq;apply wpS_region;simp [wpOpsS,go_sem,Exit.thenS];refine wpS_cond (t:=false) (by simp [Act.eval,Array.replicate]) ?_;simp only [Bool.false_eq_true,if_false];refine wpS_of_wp (wp_skip ?_);cases c₀
 simp_all [bodyPostS,results,Tryz.results66]
theorem qC (D:FuncId) (caps:aN) (hD:∀ w,(callFunc D caps).run prog w = .ok (.enter D caps) w) (w:World) (R:World->Prop)
  (h:Calls prog D caps (w.alloc (.cells #[.int .i64 0] 30)) λe w'=>e = .returned (.tuple #[])/\(w'.cell? ⟨w.heap.size,0,none⟩=some (.int .i64 0)/\w'.frozen? ⟨w.heap.size,0,none⟩=false)/\R w') :
  Calls prog 35 #[.func (.func D) #[] caps] w λe w'=>e = .returned (.int .i64 0)/\∃ w1,R w1/\w'=w1.setCell ⟨w.heap.size,0,none⟩ (.int .i64 0):=by
 have di:∀ (fn:Fn) (first cap:aN) (w:World),(Instr.makeFunc fn first cap).run prog w = .ok (.func fn first cap) w:=λ_ _ _ _=>rfl;have H:=hid h;clear h;go_enter_defers func35,ntmps35
 go_wp2_with fail
 refine H.out.mono ?_;rintro e w1 ⟨rfl,⟨hc,hz⟩,hR⟩;have HR:=hid hR;clear hR H;go_wp2;refine leaves_cons (f:=66) (args:=#[.pointer (some ⟨w.heap.size,0,none⟩)]) (by simp) (by simp [go_sem]) ?_;refine (vo ⟨w.heap.size,0,none⟩ _).mono ?_;rintro e u' w'' ⟨rfl,rfl,rfl⟩;simp [Leaves,settle,results,Tryz.results35,go_sem,hc];exact ⟨w1,HR.out,rfl⟩
theorem qM (D:FuncId) (caps:aN) (hD:∀ w,(callFunc D caps).run prog w = .ok (.enter D caps) w) (w:World) (c:Int) (R:World->Prop)
  (h:Calls prog D caps (w.alloc (.cells #[.int .i64 0] 30)) λe w'=>e = .panicked [fI c]/\(w'.cell? ⟨w.heap.size,0,none⟩=some (.int .i64 0)/\w'.frozen? ⟨w.heap.size,0,none⟩=false)/\R w') :
  Calls prog 35 #[.func (.func D) #[] caps] w λe w'=>e = .returned (.int .i64 c)/\∃ w1,R w1/\w'=w1.setCell ⟨w.heap.size,0,none⟩ (.int .i64 c):=by
 have di:∀ (fn:Fn) (first cap:aN) (w:World),(Instr.makeFunc fn first cap).run prog w = .ok (.func fn first cap) w:=λ_ _ _ _=>rfl;have H:=hid h;clear h;go_enter_defers func35,ntmps35
 go_wp2_with fail
 refine H.out.mono ?_;rintro e w1 ⟨rfl,⟨hc,hz⟩,hR⟩;have HR:=hid hR;clear hR H;go_wp2;refine leaves_cons (f:=66) (args:=#[.pointer (some ⟨w.heap.size,0,none⟩)]) (by simp) (by simp [go_sem]) ?_;refine (nI ⟨w.heap.size,0,none⟩ 0 c [] _ hc hz).mono ?_;rintro e u' w'' ⟨rfl,rfl,rfl⟩;simp [Leaves,settle,results,Tryz.results35,go_sem,hc];exact ⟨w1,HR.out,rfl⟩
end Tk
end
section
open Go.RowKit
namespace Tm
open Tr Ni Pk
theorem Xk (p:aK) (k:aM) (hk:k.length=32) (bt bk br:Nat) (v:aL) (w:World) (lw:Rg.Own w bt #[.pointer p] 35) (lx:Rg.Own w bk (Ky.kc k) 24) (h1:bt≠br) (h2:bk≠br)
  (hOr:Rg.Own w br #[.string eB] 9) (hC:∀ w5,Below w.heap.size w w5->∀ a5 n5 c5,aZ w5 a5 n5 c5 (Ky.cZ k)->Calls prog 37 #[.agg #[.pointer p],.slice a5 n5 c5] w5 (λe w'=>e = .returned (.string v)/\Below w5.heap.size w5 w')) :
  Calls prog 36 #[.pointer (some ⟨bt,0,none⟩),.pointer (some ⟨bk,0,none⟩),.pointer (some ⟨br,0,none⟩)] w (λe w'=>e = .returned (.tuple #[])/\Rg.Own w' br #[.string v] 9/\Bo br w w'):=by
 have eR:=hid (λwx=>Ky.wC k hk wx);have sq:=hid lw;have io:=hid lx;have HOr:=hid hOr;have HC:=hid hC;clear hOr hC;clear lw lx;go_enter func36,ntmps36;go_wp2_with fail
 refine aC (S:=λw'=>Bo br w w') (Bo.of (below_drewN aH 1)) λhld=>?_;refine ah 0 ?_ (hy:=by intro wz hSw; (refine aU (aV (j:=0) (oO hSw sq.out (by omega)) rfl) ?_; exact ⟨_,rfl,rfl⟩));try simp only [Act.put,ak]
 refine ah 1 ?_ (hy:=by intro wz hSw; (refine dL hk (oO hSw io.out (by omega)).2 ?_; exact ⟨_,rfl,rfl⟩));try simp only [Act.put,ak]
 refine aj 2 λK hK=>?_;go_simp;go_at_call 38
 (with_reducible refine (eR.out w.drew).mono ?_)
 rintro e w5 ⟨a5,n5,c5,rfl,hx5,hb5⟩;have ae:Hid (Below w.heap.size w w5):=hid (bst (below_drewN aH 1) hb5);have nw:=hid hx5;clear hb5 hx5;refine hK.out _ _ (Bo.of ae.out) λhld=>?_;clear hK K;try simp only [Act.put,ak]
 refine aj 3 λK hK=>?_;go_simp;go_at_call 37
 (with_reducible refine (HC.out w5 ae.out a5 n5 c5 nw.out).mono ?_)
 rintro e w6 ⟨rfl,hb6⟩;have cA:Below w.heap.size w w6:=bst ae.out hb6;have cf:=hid (HOr.out.below cA);refine hK.out _ _ (Bo.of cA) λhld=>?_;clear hK K;try simp only [Act.put,ak]
 refine aj 4 λK hK=>?_;refine Cv (by rfl) cf.out v ⟨_,_,rfl,rfl,rfl⟩ ?_;intro ag ai al;refine hK.out _ _ ((Bo.of cA).upd al) λhld=>?_;clear hK K;try simp only [Act.put,ak]
 refine aB ?_;go_wp2;go_end0;exact ⟨rfl,ai,(Bo.of cA).upd al⟩
theorem TL (p:aK) (k:aM) (hk:k.length=32) (bt bk br:Nat) (c:Int) (w:World) (lw:Rg.Own w bt #[.pointer p] 35) (lx:Rg.Own w bk (Ky.kc k) 24) (h1:bt≠br) (h2:bk≠br)
  (hC:∀ w5,Below w.heap.size w w5->∀ a5 n5 c5,aZ w5 a5 n5 c5 (Ky.cZ k)->Calls prog 37 #[.agg #[.pointer p],.slice a5 n5 c5] w5 (λe w'=>e = .panicked [fI c]/\Below w5.heap.size w5 w')) :
  Calls prog 36 #[.pointer (some ⟨bt,0,none⟩),.pointer (some ⟨bk,0,none⟩),.pointer (some ⟨br,0,none⟩)] w (λe w'=>e = .panicked [fI c]/\Below w.heap.size w w'):=by
 have eR:=hid (λwx=>Ky.wC k hk wx);have sq:=hid lw;have io:=hid lx;have HC:=hid hC;clear hC;clear lw lx;go_enter func36,ntmps36;go_wp2_with fail
 refine wp_region_held_drew (S:=λw'=>Bo br w w') (by kernel_rfl) (Bo.of (below_drewN aH 1)) (λhld=>?_);refine ah 0 ?_ (hy:=by intro wz hSw; (refine aU (aV (j:=0) (oO hSw sq.out (by omega)) rfl) ?_; exact ⟨_,rfl,rfl⟩));try simp only [Act.put,ak]
 refine ah 1 ?_ (hy:=by intro wz hSw; (refine dL hk (oO hSw io.out (by omega)).2 ?_; exact ⟨_,rfl,rfl⟩));try simp only [Act.put,ak]
 refine aj 2 λK hK=>?_;go_simp;go_at_call 38
 (with_reducible refine (eR.out w.drew).mono ?_)
 rintro e w5 ⟨a5,n5,c5,rfl,hx5,hb5⟩;have ae:Hid (Below w.heap.size w w5):=hid (bst (below_drewN aH 1) hb5);have nw:=hid hx5;clear hb5 hx5;refine hK.out _ _ (Bo.of ae.out) λhld=>?_;clear hK K;try simp only [Act.put,ak]
 refine aj 3 λK hK=>?_;go_simp;go_at_call 37
 (with_reducible refine (HC.out w5 ae.out a5 n5 c5 nw.out).mono ?_)
 rintro e w6 ⟨rfl,hb6⟩;simp +zetaDelta [bodyPost,Exit.then];exact bst ae.out hb6
theorem WS (p:aK) (k:aM) (hk:k.length=32) (bt bk br:Nat) (bs:Nat) (v:aL) (w:World) (lw:Rg.Own w bt #[.pointer p] 35) (lx:Rg.Own w bk (Ky.kc k) 24) (h1:bt≠br) (h2:bk≠br)
  (hOr:Rg.Own w br #[.pointer none] 35) (M:Mp) (hi:Inv M w) (R:T) (hC:∀ w5,Below w.heap.size w w5->∀ a5 n5 c5,aZ w5 a5 n5 c5 (Ky.cZ k)->Calls prog 54 #[.agg #[.pointer p],.slice a5 n5 c5,.string v] w5 (dF (plus M (inS a5 n5)) w5 R)) (yn:Rg.Own w bs #[.string v] 9) (h3:bs≠br) :
  Calls prog 53 #[.pointer (some ⟨bt,0,none⟩),.pointer (some ⟨bk,0,none⟩),.pointer (some ⟨bs,0,none⟩),.pointer (some ⟨br,0,none⟩)] w (λe w'=>e = .returned (.tuple #[])/\∃ p' M' w6,IsT M' p' R/\St M w M' w6/\Rg.Upd w6 br w'/\Rg.Own w' br #[.pointer p'] 35):=by
 have eR:=hid (λwx=>Ky.wC k hk wx);have sq:=hid lw;have io:=hid lx;have HF:Hid (∀ w5,Below w.heap.size w w5->∀ a5 n5 c5,aZ w5 a5 n5 c5 (Ky.cZ k)->∀ e w6,dF (plus M (inS a5 n5)) w5 R e w6->∃ p6,e = .returned (tv p6)/\Below w.heap.size w w6/\Rg.Own w6 br #[.pointer none] 35/\∀ ag,Rg.Own ag br #[.pointer p6] 35->Rg.Upd w6 br ag->∃ p' M' w6,IsT M' p' R/\St M w M' w6/\Rg.Upd w6 br ag/\Rg.Own ag br #[.pointer p'] 35):=hid (λw5 hb5 a5 n5 c5 hx e w6 hG=>by
  have hs:St M w (plus M (inS a5 n5)) w5:=((St.refl hi).below hb5).bytes hx;obtain ⟨p6,M6,he,hT,hS,_,hb6⟩:=hs.got hG;exact ⟨p6,he,hS.b,hOr.below hS.b,λag hO hu=>⟨p6,M6,w6,hT,hS,hu,hO⟩⟩)
 have HC:=hid hC;have GS:=hid yn;clear yn;clear hOr hC hi;clear lw lx;go_enter func53,ntmps53;go_wp2_with fail
 refine aC (S:=λw'=>Bo br w w') (Bo.of (below_drewN aH 1)) λhld=>?_;refine ah 0 ?_ (hy:=by intro wz hSw; (refine aU (aV (j:=0) (oO hSw sq.out (by omega)) rfl) ?_; exact ⟨_,rfl,rfl⟩));try simp only [Act.put,ak]
 refine ah 1 ?_ (hy:=by intro wz hSw; (refine dL hk (oO hSw io.out (by omega)).2 ?_; exact ⟨_,rfl,rfl⟩));try simp only [Act.put,ak]
 refine ah 3 ?_ (hy:=by intro wz hSw; (refine dW (aV (j:=0) (oO hSw GS.out (by omega)) rfl) ?_; exact ⟨_,rfl,rfl⟩));try simp only [Act.put,ak]
 refine aj 2 λK hK=>?_;go_simp;go_at_call 38
 (with_reducible refine (eR.out w.drew).mono ?_)
 rintro e w5 ⟨a5,n5,c5,rfl,hx5,hb5⟩;have ae:Hid (Below w.heap.size w w5):=hid (bst (below_drewN aH 1) hb5);have nw:=hid hx5;clear hb5 hx5;refine hK.out _ _ (Bo.of ae.out) λhld=>?_;clear hK K;try simp only [Act.put,ak]
 refine aj 4 λK hK=>?_;go_simp;go_at_call 54
 (with_reducible refine (HC.out w5 ae.out a5 n5 c5 nw.out).mono ?_)
 intro e w6 hG;obtain ⟨p6,rfl,cA,H6⟩:=HF.out w5 ae.out a5 n5 c5 nw.out e w6 hG;replace H6:=hid H6;clear hG;refine hK.out _ _ (Bo.of cA) λhld=>?_;clear hK K;try simp only [Act.put,ak]
 refine aj 5 λK hK=>?_;refine fD (by rfl) H6.out.1 (off:=0) (by decide) p6 ⟨_,_,rfl,rfl,rfl⟩ ?_;intro ag ai al;have g9:=hid (H6.out.2 ag ai al);clear ai;refine hK.out _ _ ((Bo.of cA).upd al) λhld=>?_;clear hK K;try simp only [Act.put,ak]
 refine aB ?_;go_wp2;go_end0;exact ⟨rfl,g9.out⟩
theorem UK (p:aK) (k:aM) (hk:k.length=32) (bt bk br:Nat) (bs:Nat) (v:aL) (c:Int) (w:World) (lw:Rg.Own w bt #[.pointer p] 35) (lx:Rg.Own w bk (Ky.kc k) 24) (h1:bt≠br) (h2:bk≠br)
  (yn:Rg.Own w bs #[.string v] 9) (h3:bs≠br) (hC:∀ w5,Below w.heap.size w w5->∀ a5 n5 c5,aZ w5 a5 n5 c5 (Ky.cZ k)->Calls prog 54 #[.agg #[.pointer p],.slice a5 n5 c5,.string v] w5 (λe w'=>e = .panicked [fI c]/\Below w5.heap.size w5 w')) :
  Calls prog 53 #[.pointer (some ⟨bt,0,none⟩),.pointer (some ⟨bk,0,none⟩),.pointer (some ⟨bs,0,none⟩),.pointer (some ⟨br,0,none⟩)] w (λe w'=>e = .panicked [fI c]/\Below w.heap.size w w'):=by
 have eR:=hid (λwx=>Ky.wC k hk wx);have sq:=hid lw;have io:=hid lx;have HC:=hid hC;have GS:=hid yn;clear hC yn;clear lw lx;go_enter func53,ntmps53;go_wp2_with fail
 refine wp_region_held_drew (S:=λw'=>Bo br w w') (by kernel_rfl) (Bo.of (below_drewN aH 1)) (λhld=>?_);refine ah 0 ?_ (hy:=by intro wz hSw; (refine aU (aV (j:=0) (oO hSw sq.out (by omega)) rfl) ?_; exact ⟨_,rfl,rfl⟩));try simp only [Act.put,ak]
 refine ah 1 ?_ (hy:=by intro wz hSw; (refine dL hk (oO hSw io.out (by omega)).2 ?_; exact ⟨_,rfl,rfl⟩));try simp only [Act.put,ak]
 refine ah 3 ?_ (hy:=by intro wz hSw; (refine dW (aV (j:=0) (oO hSw GS.out (by omega)) rfl) ?_; exact ⟨_,rfl,rfl⟩));try simp only [Act.put,ak]
 refine aj 2 λK hK=>?_;go_simp;go_at_call 38
 (with_reducible refine (eR.out w.drew).mono ?_)
 rintro e w5 ⟨a5,n5,c5,rfl,hx5,hb5⟩;have ae:Hid (Below w.heap.size w w5):=hid (bst (below_drewN aH 1) hb5);have nw:=hid hx5;clear hb5 hx5;refine hK.out _ _ (Bo.of ae.out) λhld=>?_;clear hK K;try simp only [Act.put,ak]
 refine aj 4 λK hK=>?_;go_simp;go_at_call 54
 (with_reducible refine (HC.out w5 ae.out a5 n5 c5 nw.out).mono ?_)
 rintro e w6 ⟨rfl,hb6⟩;simp +zetaDelta [bodyPost,Exit.then];exact bst ae.out hb6
open Ky
theorem Sy (w:World) (p:aK) (C:aN) (cs:aN) (T:TypeId):∃ w4,w4=((w.alloc (.cells #[.pointer p] 35)).alloc (.cells C 24)).alloc (.cells cs T)/\Rg.Own w4 w.heap.size #[.pointer p] 35/\Rg.Own w4 (w.heap.size+1) C 24/\Rg.Own w4 (w.heap.size+2) cs T/\Below w.heap.size w w4/\w4.heap.size=w.heap.size+3:=by
 have h2:=Rg.Own.new (w.alloc (.cells #[.pointer p] 35)) C 24;have h3:=Rg.Own.new ((w.alloc (.cells #[.pointer p] 35)).alloc (.cells C 24)) cs T;rw [show (w.alloc (.cells #[.pointer p] 35)).heap.size=w.heap.size+1 by simp] at h2;rw [show ((w.alloc (.cells #[.pointer p] 35)).alloc (.cells C 24)).heap.size=w.heap.size+2 by simp] at h3;exact ⟨_,rfl,((Rg.Own.new _ _ _).below (al1 _ _)).below (al1 _ _),h2.below (al1 _ _),h3,(al2 _ _ _).alloc (by simp; omega) _,by simp⟩
theorem VT (x:Int):∀ (j:Nat) (y:Int),(#[Value.int .i64 x]:aN)[j]? ≠ some (Value.int .u8 y):=λj y h=>by
 match j,h with
 | 0,h=>simp at h
 | j+1,h=>simp at h
theorem vG {b:Nat} (h:Rg.Own w b #[v] t):w.cell? ⟨b,0,none⟩=some v/\w.frozen? ⟨b,0,none⟩=false:=⟨aV (j:=0) h rfl,gV h⟩
def RJ:Option (Option aL)->Value
 | none=>.tuple #[.string eB,.int .i64 8]
 | some none=>.tuple #[.string eB,.int .i64 7]
 | some (some v)=>.tuple #[.string v,.int .i64 0]
theorem sN (p:aK) (k:aM) (x:aL) (c:Int) (w w4:World) (hw4:w4=((w.alloc (.cells #[.pointer p] 35)).alloc (.cells (kc k) 24)).alloc (.cells #[.string eB] 9))
  (h:Calls prog 35 #[.func (.func 36) #[] #[.pointer (some ⟨w.heap.size,0,none⟩),.pointer (some ⟨w.heap.size+1,0,none⟩),.pointer (some ⟨w.heap.size+2,0,none⟩)]] w4 λe w'=>e = .returned (.int .i64 c)/\Rg.Own w' (w.heap.size+2) #[.string x] 9/\Below w.heap.size w w') :
  Calls prog 19 #[.agg #[.pointer p],.agg (kc k)] w λe w'=>e = .returned (.tuple #[.string x,.int .i64 c])/\Below w.heap.size w w':=by
 have di:∀ (fn:Fn) (first cap:aN) (w:World),(Instr.makeFunc fn first cap).run prog w = .ok (.func fn first cap) w:=λ_ _ _ _=>rfl;obtain ⟨C,hC⟩:=ay (kc k)
 have HH:=hid h;have HW:=hid hw4;rw [hC] at HW ⊢;clear h hw4 hC;go_enter func19,ntmps19;go_wp2_with fail
 rw [<-HW.out];refine HH.out.mono ?_;rintro e w5 ⟨rfl,aE,ed⟩;have bh:=hid aE;have ae:=hid ed;clear aE ed HH HW di;go_wp2_with (first
  | (refine aA (dW (aV (j:=0) bh.out rfl) ⟨_,rfl,rfl⟩) ?_)
  | (refine CB bh.out x rfl _ _ rfl rfl rfl ?_; intro w6 cr d9; have cf:=hid cr; have ap:Hid (Below w.heap.size w w6):=hid (d9.below ae.out (by omega)); clear cr d9))
 exact bodyPost_ret (VH rfl _ rfl cf.out) rfl ⟨rfl,ap.out⟩
theorem zB (M:Mp) (p:aK) (t:T) (k:aM) (hk:k.length=32) (w:World) (hi:Inv M w) (ht:IsT M p t) (hg:Tr.Good t 64) :
  Calls prog 19 #[.agg #[.pointer p],.agg (kc k)] w λe w'=>e = .returned (RJ (Tr.get t (path k)))/\Below w.heap.size w w':=by
 obtain ⟨w4,hw4,am,af,hO2,hb4,hs4⟩:=Sy w p (kc k) #[.string eB] 9;have hE:Rg.Own (w4.alloc (.cells #[.int .i64 0] 30)) w4.heap.size #[.int .i64 0] 30:=Rg.Own.new _ _ _;have hA:=al1 w4 (.cells #[.int .i64 0] 30);obtain ⟨wc,hwc⟩:=ay (w4.alloc (.cells #[.int .i64 0] 30))
 rw [hwc] at hE hA;have hbc:=bst hb4 hA;have hic:=hi.below hbc;have hpl:(path k).length=64:=by rw [Tr.iQ,hk]
 have hfind:∀ w5,Below wc.heap.size wc w5->∀ a5 n5 c5,aZ w5 a5 n5 c5 (cZ k)->Calls prog 37 #[.agg #[.pointer p],.slice a5 n5 c5] w5 (λe w'=>e=lq (Tr.get t (path k))/\Below w5.heap.size w5 w'):=λw5 hb5 a5 n5 c5 hx =>
  SL t M w5 p a5 n5 c5 (path k) (hic.below hb5) ht hx (by rw [hpl]; exact hg) (mP k) (by omega)
 have hD:∀ wx,(callFunc 36 #[.pointer (some ⟨w.heap.size,0,none⟩),.pointer (some ⟨w.heap.size+1,0,none⟩),.pointer (some ⟨w.heap.size+2,0,none⟩)]).run prog wx = .ok (.enter 36 #[.pointer (some ⟨w.heap.size,0,none⟩),.pointer (some ⟨w.heap.size+1,0,none⟩),.pointer (some ⟨w.heap.size+2,0,none⟩)]) wx:=by intro wx; kernel_rfl
 have ly:∀ c:Int,lq (Tr.get t (path k)) = .panicked [fI c]->RJ (Tr.get t (path k)) = .tuple #[.string eB,.int .i64 c]->Calls prog 19 #[.agg #[.pointer p],.agg (kc k)] w λe w'=>e = .returned (RJ (Tr.get t (path k)))/\Below w.heap.size w w':=λc hc hv=>by
  rw [hv];refine sN p k eB c w w4 hw4 ((Tk.qM 36 _ hD w4 c (λw'=>Below wc.heap.size wc w') (by
   rw [hwc];refine (TL p k hk _ _ _ c wc (am.below hA) (af.below hA) (by omega) (by omega) (λw5 hb5 a5 n5 c5 hx=>by rw [<-hc]; exact hfind w5 hb5 a5 n5 c5 hx)).mono ?_;rintro e w' ⟨rfl,hb⟩;exact ⟨rfl,vG (hE.below hb),hb⟩)).mono ?_)
  rintro e w' ⟨rfl,w1,hb,rfl⟩;exact ⟨rfl,((hO2.below hA).below hb).upd (bO _ _ _ _) (by omega),(bO w1 w4.heap.size 0 (.int .i64 c)).below (bst hbc hb) (by omega)⟩
 match hget:Tr.get t (path k),hfind,ly with
 | none,_,ly=>exact ly 8 rfl rfl
 | some none,_,ly=>exact ly 7 rfl rfl
 | some (some v),hfind,_ =>
  refine sN p k v 0 w w4 hw4 ((Tk.qC 36 _ hD w4 (λw'=>Rg.Own w' (w.heap.size+2) #[.string v] 9/\Bo (w.heap.size+2) wc w'/\Below w.heap.size w w') (by
   rw [hwc];refine ((Xk p k hk w.heap.size (w.heap.size+1) (w.heap.size+2) v wc (am.below hA) (af.below hA) (by omega) (by omega) (hO2.below hA) (λw5 hb5 a5 n5 c5 hx=>hfind w5 hb5 a5 n5 c5 hx))).mono ?_;rintro e w' ⟨rfl,hO,hb⟩;have hbw:Below w.heap.size w w':=hb.below hbc (by have:=hbc.size; omega) (by omega);exact ⟨rfl,vG (oO hb hE (by omega)),hO,hb,hbw⟩)).mono ?_)
  rintro e w' ⟨rfl,w1,⟨hO,hb,hB⟩,rfl⟩;exact ⟨rfl,hO.upd (bO _ _ _ _) (by omega),(bO w1 w4.heap.size 0 (.int .i64 0)).below hB (by omega)⟩
def Jd (M:Mp) (w:World) (t:T) (c:Int) (e:Ending) (w':World):Prop:=∃ p M',e = .returned (.tuple #[tv p,.int .i64 c])/\IsT M' p t/\Fr M M' w w'/\Inv M' w'/\Below w.heap.size w w'
def Mi (M:Mp) (w:World) (br:Nat) (t:T) (w':World):Prop:=∃ p M',Rg.Own w' br #[.pointer p] 35/\IsT M' p t/\Fr M M' w w'/\Inv M' w'/\Below w.heap.size w w'/\¬ M'.ft br
theorem Mi.end_ {M:Mp} {w5 w6:World} {br:Nat} {t:T} (h:Mi M w br t w5) (hg:w.heap.size<=br):∃ p,Rg.Own w5 br #[.pointer p] 35/\∀ w6,Rg.Upd w5 br w6->Jd M w t c (.returned (.tuple #[tv p,.int .i64 c])) w6:=by
 obtain ⟨p,M',hO,hT,f,i,b,hn⟩:=h;exact ⟨p,hO,λw6 hu=>⟨p,M',rfl,hT,f.upd hu hg,i.upd hu hn,hu.below b hg⟩⟩
theorem Yx {M M':Mp} {wc w6 w1:World} {br be:Nat} {t:T} {cs:aN} {te:TypeId} (hi:Inv M w) (hbc:Below w.heap.size w wc) (hT:IsT M' p t) (hS:St M wc M' w6) (hu:Rg.Upd w6 br w1) (hO:Rg.Own w1 br #[.pointer p] T')
  (hOr:Rg.Own wc br #[.pointer none] 35) (ON:Rg.Own wc be cs te) (hne:∀ (j:Nat) (x:Int),cs[j]? ≠ some (Value.int .u8 x)) (hgr:w.heap.size<=br) (hge:w.heap.size<=be) (hre:br≠be) (qu:T'=35) (x:Value):Mi M w br t (w1.setCell ⟨be,0,none⟩ x):=by
 subst qu;have hu2:=bO w1 be 0 x;have nr:¬ M'.ft br:=hS.f.box (hi.free hgr) hOr.1 (dH hOr (iY _));have ne:¬ M'.ft be:=hS.f.box (hi.free hge) ON.1 (dH ON hne);have hf:=(((Fr.below M hbc).trans hi hS.f).upd hu hgr).upd hu2 hge;exact ⟨p,M',hO.upd hu2 hre,hT,hf,(hS.i.upd hu nr).upd hu2 ne,hu2.below (hu.below (bst hbc hS.b) hgr) hge,nr⟩
theorem Hl (M:Mp) (p:aK) (k:aM) (v:aL) (hv0:v.size≠0) (hv1:v.size<=65552) (R:T) (c:Int) (w w4:World) (hw4:w4=(((w.alloc (.cells #[.pointer p] 35)).alloc (.cells (kc k) 24)).alloc (.cells #[.string v] 9)).alloc (.cells #[.pointer none] 35))
  (h:Calls prog 35 #[.func (.func 53) #[] #[.pointer (some ⟨w.heap.size,0,none⟩),.pointer (some ⟨w.heap.size+1,0,none⟩),.pointer (some ⟨w.heap.size+2,0,none⟩),.pointer (some ⟨w.heap.size+3,0,none⟩)]] w4 λe w'=>e = .returned (.int .i64 c)/\Mi M w (w.heap.size+3) R w') :
  Calls prog 29 #[.agg #[.pointer p],.agg (kc k),.string v] w (Jd M w R c):=by
 have di:∀ (fn:Fn) (first cap:aN) (w:World),(Instr.makeFunc fn first cap).run prog w = .ok (.func fn first cap) w:=λ_ _ _ _=>rfl;have hne:=Ni.dJ (s:=v) (by omega);have hd:decide ((65552:Int)<(v.size:Int))=false:=by simp; omega
 obtain ⟨C,hC⟩:=ay (kc k)
 have HH:=hid h;have HW:=hid hw4;rw [hC] at HW ⊢;clear h hw4 hC;go_enter func29,ntmps29;go_wp2_with (first
  | (refine aA (aX _ _ _ (w.heap.size+3) (by simp) rfl) ?_)
  | (refine aA (dW (s:=v) (by simp) ⟨_,rfl,rfl⟩) ?_)
  | (refine Rg.runW (by rfl) _ _ (dW (s:=v) (by simp) ⟨_,rfl,rfl⟩) ?_))
 rw [<-HW.out];refine HH.out.mono ?_;rintro e w5 ⟨rfl,hB⟩;obtain ⟨p5,aE,OR⟩:=hB.end_ (w6:=w5) (c:=c) (by omega);have bh:=hid aE;have X1:=hid OR;clear hB aE OR HH HW di;go_wp2_with (first
  | (refine aA (aU (aV (j:=0) bh.out rfl) ⟨_,rfl,rfl⟩) ?_)
  | (refine bg bh.out (by simp) p5 rfl _ _ rfl rfl rfl ?_; intro w6 cr d9; have cf:=hid cr; have OS:=hid d9; clear cr d9))
 exact bodyPost_ret (lX (q:=6) (u:=7) rfl _ rfl cf.out) rfl (X1.out w6 OS.out)
theorem zx (M:Mp) (p:aK) (t:T) (k:aM) (hk:k.length=32) (v:aL) (hv0:v.size≠0) (hv1:v.size<=65552) (w:World) (hi:Inv M w) (ht:IsT M p t) (hg:Tr.Good t 64) :
  (Tr.get t (path k)=none->Calls prog 29 #[.agg #[.pointer p],.agg (kc k),.string v] w (Jd M w .nil 8))/\
  (Tr.get t (path k)≠none->Calls prog 29 #[.agg #[.pointer p],.agg (kc k),.string v] w (Jd M w (put t (path k) v) 0)):=by
 obtain ⟨w3,hw3,am,af,hO2,hb3,hs3⟩:=Sy w p (kc k) #[.string v] 9;obtain ⟨w4,hw4⟩:=au (w3.alloc (.cells #[.pointer none] 35))
 have oy:Below w3.heap.size w3 w4:=by rw [hw4]; exact al1 _ _
 have hOr:Rg.Own w4 (w.heap.size+3) #[.pointer none] 35:=by rw [hw4,<-hs3]; exact Rg.Own.new _ _ _
 have hs4:w4.heap.size=w.heap.size+4:=by rw [hw4]; simp [hs3]
 have hb4:=bst hb3 oy;replace am:=am.below oy;replace af:=af.below oy;replace hO2:=hO2.below oy;have sr:=hw4;rw [hw3] at sr;have hE:Rg.Own (w4.alloc (.cells #[.int .i64 0] 30)) w4.heap.size #[.int .i64 0] 30:=Rg.Own.new _ _ _;have hA:=al1 w4 (.cells #[.int .i64 0] 30);obtain ⟨wc,hwc⟩:=ay (w4.alloc (.cells #[.int .i64 0] 30))
 rw [hwc] at hE hA;have hbc:=bst hb4 hA;have hic:=hi.below hbc;have hpl:(path k).length=64:=by rw [Tr.iQ,hk]
 have hD:∀ wx,(callFunc 53 #[.pointer (some ⟨w.heap.size,0,none⟩),.pointer (some ⟨w.heap.size+1,0,none⟩),.pointer (some ⟨w.heap.size+2,0,none⟩),.pointer (some ⟨w.heap.size+3,0,none⟩)]).run prog wx = .ok (.enter 53 #[.pointer (some ⟨w.heap.size,0,none⟩),.pointer (some ⟨w.heap.size+1,0,none⟩),.pointer (some ⟨w.heap.size+2,0,none⟩),.pointer (some ⟨w.heap.size+3,0,none⟩)]) wx:=by intro wx; kernel_rfl
 refine ⟨λhget=>?_,λhget=>?_⟩
 .refine Hl M p k v hv0 hv1 .nil 8 w w4 sr ((Tk.qM 53 _ hD w4 8 (λw'=>Below wc.heap.size wc w') (by
   rw [hwc];refine (UK p k hk _ _ (w.heap.size+3) _ v 8 wc (am.below hA) (af.below hA) (by omega) (by omega) (hO2.below hA) (by omega) (λw5 hb5 a5 n5 c5 hx=>?_)).mono ?_
   .exact (Jk t (plus M (inS a5 n5)) w5 p a5 n5 c5 (path k) v ((hic.below hb5).plus (λk hk=>(wD hx hk).2)) (Af ht) (Bs.in_ hx) (by rw [hpl]; exact hg) (mP k) (by omega)).1 hget
   rintro e w' ⟨rfl,hb⟩;exact ⟨rfl,vG (hE.below hb),hb⟩)).mono ?_)
  rintro e w' ⟨rfl,w1,hb,rfl⟩;have hu2:=bO w1 w4.heap.size 0 (.int .i64 8);have hbw:=hu2.below (bst hbc hb) (by omega);exact ⟨rfl,none,M,((hOr.below hA).below hb).upd hu2 (by omega),rfl,Fr.below M hbw,hi.below hbw,hbw,hi.free (by omega)⟩
 .refine Hl M p k v hv0 hv1 (put t (path k) v) 0 w w4 sr ((Tk.qC 53 _ hD w4 (λw'=>∃ p' M' w6,IsT M' p' (put t (path k) v)/\St M wc M' w6/\Rg.Upd w6 (w.heap.size+3) w'/\Rg.Own w' (w.heap.size+3) #[.pointer p'] 35) (by
   rw [hwc];refine (WS p k hk _ _ (w.heap.size+3) _ v wc (am.below hA) (af.below hA) (by omega) (by omega) (hOr.below hA) M hic (put t (path k) v) (λw5 hb5 a5 n5 c5 hx=>?_) (hO2.below hA) (by omega)).mono ?_
   .exact (Jk t (plus M (inS a5 n5)) w5 p a5 n5 c5 (path k) v ((hic.below hb5).plus (λk hk=>(wD hx hk).2)) (Af ht) (Bs.in_ hx) (by rw [hpl]; exact hg) (mP k) (by omega)).2 hget
   rintro e w' ⟨rfl,p',M',w6,h1,h2,h3,h4⟩;exact ⟨rfl,vG ((hE.below h2.b).upd h3 (by omega)),p',M',w6,h1,h2,h3,h4⟩)).mono ?_)
  rintro e w' ⟨rfl,w1,⟨p',M',w6,h1,h2,h3,h4⟩,rfl⟩;exact ⟨rfl,Yx hi hbc h1 h2 h3 h4 (hOr.below hA) hE (VT _) (by omega) (by omega) (by omega) rfl _⟩
end Tm
end
end Go.Proofs.YtoipgepkhomfgaaGreatDoor
