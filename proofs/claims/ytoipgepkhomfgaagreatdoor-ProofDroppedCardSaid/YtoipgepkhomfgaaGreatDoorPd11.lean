/-
 The contract of Open.
-/
import Derived.Test.YtoipgepkhomfgaaGreatDoorPd10
open Go.Lib (hid)
open Go.Proofs.Tryz
set_option linter.unusedSimpArgs false
set_option linter.unusedVariables false
set_option maxHeartbeats 40000000
set_option maxRecDepth 100000
namespace Go.Proofs.YtoipgepkhomfgaaGreatDoor
variable {B g:Nat} {w w':World} {a p:aK} {c:Int} {v:Value} {T' t:TypeId}
section
open Go.RowKit
namespace Tm
open Tr Ni Pk Ky No Rf Rl Sm
def uM (B:Nat) (w:World) (v:Value) (ps:List (aK)):Prop:=(v = .slice none 0 0/\ps=[])\/∃ g cap,v = .slice (some ⟨g,0,none⟩) ps.length cap/\B<=g/\RowK w g cap ps
theorem uM.ptrs {B:Nat} {w:World} {v:Value} {ps:List (aK)} (h:uM B w v ps):∃ a c,v = .slice a ps.length c/\iQ w a ps.length c ps/\∀ ad,a=some ad->B<=ad.block:=by
 rcases h with ⟨rfl,rfl⟩ | ⟨g,cap,rfl,hB,hR⟩
 .exact ⟨none,0,rfl,⟨aG,Nat.zero_le _,rfl,λ_=>rfl,λ_ h=>absurd h (Nat.not_lt_zero _)⟩,λ_ e=>by cases e⟩
 .exact ⟨_,cap,rfl,hR.ptrs,λad e=>by cases e; exact hB⟩
theorem sI (a:aK) (n cap:Nat) (ps:List (aK)) (w:World) (h:iQ w a n cap ps) (hn:n<=1000000) :
  Calls prog 130 #[.slice a n cap] w λe w'=>∃ v,e = .returned v/\uM w.heap.size w' v ps/\Below w.heap.size w w':=by
 cases a with
 | none =>
  have hc:cap=0:=h.2.2.2.1 rfl;have h1:=h.1;obtain rfl:n=0:=by omega
  subst hc;have hp:ps=[]:=List.eq_nil_of_length_eq_zero h.2.2.1;refine (KA w).mono ?_;rintro e w' ⟨rfl,rfl⟩;exact ⟨_,rfl,Or.inl ⟨rfl,hp⟩,aH⟩
 | some ad =>
  refine (zM ad n cap ps w h hn).mono ?_;rintro e w' ⟨g,c,rfl,hg,hR,hb⟩;exact ⟨_,rfl,Or.inr ⟨g,c,rfl,hg,hR⟩,hb⟩
theorem Ia (w:World):Calls prog 129 #[.slice none 0 0,.func (Fn.func 112) #[] #[]] w λe w'=>e = .returned (.slice none 0 0)/\Below w.heap.size w w':=by
 have HX:=hid (Ah [] none 0 0 w ⟨aG,Nat.zero_le _,rfl,λ_=>rfl,λ_ h=>absurd h (Nat.not_lt_zero _)⟩ (by omega));go_enter func129,ntmps129;go_wp2_with fail
 refine HX.out.mono ?_;rintro e w1 ⟨r,rfl,hb1,hr⟩;rcases hr with ⟨rfl,_⟩ | ⟨i,rfl,hi,_⟩
 .have HB1:=hid hb1;clear hb1;go_wp2;go_ret;exact ⟨rfl,HB1.out⟩
 .omega
theorem KX (ps:List (aK)) (v:Value) (w:World) (h:uM B w v ps) (hB:B<=w.heap.size) (hn:ps.length<=1000000) :
  Calls prog 129 #[v,.func (Fn.func 112) #[] #[]] w λe w'=>∃ v',e = .returned v'/\uM B w' v' (kY ps)/\Below B w w':=by
 rcases h with ⟨rfl,rfl⟩ | ⟨g,cap,rfl,hg,hR⟩
 .refine (Ia w).mono ?_;rintro e w' ⟨rfl,hb⟩;exact ⟨_,rfl,Or.inl ⟨rfl,rfl⟩,hb.mono hB⟩
 .refine (JK ps g cap w hR hn).mono ?_;rintro e w' ⟨rfl,hR',V5⟩;exact ⟨_,rfl,Or.inr ⟨g,cap,rfl,hg,hR'⟩,V5.below aH hB hg⟩
theorem iQ.upd {n c:Nat} {ps:List (aK)} (h:iQ w a n c ps) (hu:Rg.Upd w g w') (hne:∀ ad,a=some ad->ad.block≠g):iQ w' a n c ps:=by
 refine ⟨h.1,h.2.1,h.2.2.1,h.2.2.2.1,λj hj=>?_⟩;obtain ⟨b,off,e,hlt,hc⟩:=h.2.2.2.2 j hj;exact ⟨b,off,e,by rw [hu.size]; exact hlt,by rw [World.cell?_of_block (hu.block b (hne _ e))]; exact hc⟩
theorem Are.nil (M:Mp):Are M [] []:=⟨rfl,λ_ h=>absurd h (Nat.not_lt_zero _)⟩
theorem Hu {M:Mp} {p:aK} {t:T} {ps:List (aK)} {l:List T}:Are M (p::ps) (t::l)↔IsT M p t/\Are M ps l:=by
 constructor
 .rintro ⟨h1,h2⟩;refine ⟨h2 0 (by simp),by simpa using h1,λj hj=>?_⟩;have:=h2 (j+1) (by simpa using hj);simpa using this
 .rintro ⟨h1,h2,h3⟩;refine ⟨by simp [h2],λj hj=>?_⟩;cases j with
  | zero=>exact h1
  | succ j =>
   have:=h3 j (by simpa using hj);simpa using this
theorem Are.keep {M:Mp}:∀ {ps:List (aK)} {l:List T},Are M ps l->Are M (kY ps) (l.filter λt=>!isNil t)
 | [],[],_=>Are.nil M
 | [],_::_,h=>absurd h.1 (by simp)
 | _::_,[],h=>absurd h.1 (by simp)
 | p::ps,t::l,h=>by
  obtain ⟨h1,h2⟩:=Hu.1 h;have ih:=Are.keep h2;have hn:=h1.oC;cases p with
  | none =>
   obtain rfl:t = .nil:=hn.1 rfl;exact ih
  | some ad =>
   have ht:isNil t=false:=by
    cases t with
    | nil=>exact absurd (hn.2 rfl) (by simp)
    | _=>rfl
   have e1:kY (some ad::ps)=some ad::kY ps:=rfl;rw [e1,List.filter_cons_of_pos (by rw [ht]; rfl)];exact Hu.2 ⟨h1,ih⟩
theorem Lj {t:T} {L:Nat} (g:Tr.Good t L):(fq t).filter (λt=>!isNil t)=aY t:=by
 cases t with
 | nil=>rfl
 | leaf q v=>rfl
 | stub r=>rfl
 | ext q s =>
  have hs:isNil s=false:=by
   have:=g.2.2.2.1;cases s with
   | nil=>exact absurd rfl (kM this)
   | _=>rfl
  show List.filter _ [s]=[s]
  rw [List.filter_cons_of_pos (by rw [hs]; rfl)];rfl
 | br ks =>
  show List.filter _ ((List.finRange 16).map ks)=(bI ks).map ks;rw [List.filter_map];rfl
def IZ (M:Mp) (w:World) (t:T) (e:Ending) (w':World):Prop:=∃ a n c ka kc ps,e = .returned (.tuple #[.agg (ndC (bg t) a n c),.slice ka ps.length kc])/\uM w.heap.size w' (.slice ka ps.length kc) ps/\BsF w.heap.size w' a n c (bg t).p/\iQ w' ka ps.length kc ps/\Are M ps (aY t)/\
 (∀ ad,ka=some ad->w.heap.size<=ad.block)/\Fr M M w w'/\Inv M w'/\Tab w'
theorem uM.late {B':Nat} {ps:List (aK)} (h:uM B w v ps) (hB:B'<=B) (hu:Rg.Upd w g w') (hg:g<B):uM B' w' v ps:=by
 rcases h with h | ⟨k,cap,e,hk,hR⟩
 .exact .inl h
 .exact .inr ⟨k,cap,e,Nat.le_trans hB hk,hR.upd hu (by omega)⟩
theorem Vd (M:Mp) (w:World) (hi:Inv M w) (hT:Tab w):Calls prog 86 #[tv none] w (IZ M w .nil):=by
 obtain ⟨w2,hw2,am,ab,hb2,hs2⟩:=wC w none;have HE:=hid (lH none w2);have HO:=hid am;have bd:=hid ab;have HB:=hid hb2;have HI:=hid hi;have HT:=hid hT;clear am ab hb2 hi hT;subst hw2;have hgo:Calls prog 86 #[.agg #[.pointer none]] w (IZ M w .nil):=by
  go_enter func86,ntmps86;go_wp2_with (first
   | (refine aA (bD _ _ _ (w.heap.size+1) (by simp) rfl) ?_)
   | (refine aA (aU (aV (j:=0) HO.out rfl) ⟨_,rfl,rfl⟩) ?_))
  refine HE.out.mono ?_;rintro e w3 ⟨rfl,hb3⟩;have HB3:=hid (bst HB.out hb3);have ag:=hid (bd.out.below hb3);clear hb3 HE;go_wp2_with (first
   | (refine aA (bL qH ?_) ?_; · exact ⟨_,rfl,rfl⟩)
   | (refine bH ag.out rfl nd0 none 0 0 rfl rfl _ _ rfl rfl rfl rfl ?_))
  have cH:=hid (bZ HB3.out (show w.heap.size<=w.heap.size+1 by omega) (ndC nd0 none 0 0));exact bodyPost_ret (ig (p:=2) (u:=3) rfl _ rfl (dM ag.out) rfl) rfl ⟨none,0,0,none,0,[],rfl,.inl ⟨rfl,rfl⟩,BsF.nil _ _,⟨aG,Nat.zero_le _,rfl,λ_=>rfl,λ_ h=>absurd h (Nat.not_lt_zero _)⟩,Are.nil M,λ_ e=>(by cases e),Fr.below M cH.out,HI.out.below cH.out,HT.out.below cH.out HT.out.pos⟩
 exact hgo
theorem XY (M:Mp) (b:Nat) (t:T) (hm:M.at_ b=some t) (hn:t ≠ .nil) {L:Nat} (g:Tr.Good t L) (hL:L<=64) (w:World) (hi:dS M (sz t) w) {pa:aK} {pn pc:Nat} {ka:aK} {kn kc:Nat} (hB:Body M w b t pa pn pc ka kn kc) (hT:Tab w)
  (ja:∀ q s,t = .ext q s->mK s) (hR2:∀ ks,t = .br ks->∀ i,mK (ks i)) :
  Calls prog 39 #[.agg #[.pointer (some ⟨b,0,none⟩)]] w (mQ M t w):=by
 by_cases hs:dQ t
 .obtain ⟨r,rfl⟩:∃ r,t = .stub r:=by
   cases t with
   | stub r=>exact ⟨r,rfl⟩
   | _=>exact hs.elim
  refine (Jy (some ⟨b,0,none⟩) (-1) (by decide) (by decide) (by decide) w (λwx hbx=>nE b (-1) wx (aW hbx hB.c0))).mono ?_;rintro e w' ⟨rfl,hb⟩;exact ⟨none,0,0,rfl,BsF.nil _ _,FrN.below M _ hb,hi.below hb⟩
 .exact Nc M b t hm hs hn g hL w hi hB hT ja hR2
theorem Ak (M:Mp) (p:aK) (t:T) (L:Nat) (g:Tr.Good t L) (hL:L<=64) (f:Fine t) (w:World) (hi:Inv M w) (ht:IsT M p t) (hT:Tab w) :
  Calls prog 86 #[tv p] w (IZ M w t):=by
 by_cases hne:t = .nil
 .subst hne;have:p=none:=ht.oC.2 rfl;subst this;exact Vd M w hi hT
 obtain ⟨b,rfl,hm⟩:=ht.at_ hne;obtain ⟨pa,pn,pc,ka,kn,kc,hB⟩:=(hi.part hm).body;obtain ⟨w2,hw2,am,ab,hb2,hs2⟩:=wC w (some ⟨b,0,none⟩);have hlb:=hi.lt hm;have hB2:=hB.below hb2;have hi2:=hi.below hb2;have eW:=hT.below hb2 hT.pos;have hkn:kn<=16:=by
  rw [<-hB.hk.len];cases t with
  | br ks=>rw [show fq (.br ks)=(List.finRange 16).map ks from rfl]; simp
  | ext q s=>show 1<=16; omega
  | _=>exact Nat.zero_le _
 have HE:Hid (∀ w3,Below w2.heap.size w2 w3->(w3.cell? ⟨w.heap.size,0,none⟩=some (.pointer (some ⟨b,0,none⟩))/\w3.cell? ⟨b,3,none⟩=some (.slice ka kn kc))/\
   Calls prog 39 #[.agg #[.pointer (some ⟨b,0,none⟩)]] w3.drew (mQ M t w3.drew)/\
   ∀ w6 a6 n6 c6,BsF w3.heap.size w6 a6 n6 c6 (bg t).p->FrN M (sz t) w3.drew w6->dS M (sz t) w6->(w6.cell? ⟨w.heap.size,0,none⟩=some (.pointer (some ⟨b,0,none⟩))/\w6.cell? ⟨b,3,none⟩=some (.slice ka kn kc))/\
   ∃ ps,(Calls prog 130 #[.slice ka kn kc] w6 λe w'=>∃ v,e = .returned v/\uM w6.heap.size w' v ps/\Below w6.heap.size w6 w')/\
   ∀ w7 v7,uM w6.heap.size w7 v7 ps->Below w6.heap.size w6 w7->(w7.cell? ⟨w.heap.size,0,none⟩=some (.pointer (some ⟨b,0,none⟩))/\w7.cell? ⟨b,3,none⟩=some (.slice ka kn kc))/\
   (Calls prog 129 #[v7,.func (Fn.func 112) #[] #[]] w7 λe w'=>∃ v',e = .returned v'/\uM w6.heap.size w' v' (kY ps)/\Below w6.heap.size w7 w')/\
   ∀ w8 v8,uM w6.heap.size w8 v8 (kY ps)->Below w6.heap.size w7 w8->(w8.cell? ⟨w.heap.size,0,none⟩=some (.pointer (some ⟨b,0,none⟩))/\w8.cell? ⟨b,3,none⟩=some (.slice ka kn kc))/\dZ w8 (w.heap.size+1) nd0 none 0 0/\
   ∀ w9,Rg.Upd w8 (w.heap.size+1) w9->(w9.cell? ⟨w.heap.size,0,none⟩=some (.pointer (some ⟨b,0,none⟩))/\w9.cell? ⟨b,3,none⟩=some (.slice ka kn kc))/\IZ M w t (.returned (.tuple #[.agg (ndC (bg t) a6 n6 c6),v8])) w9):=hid (λw3 hb3=>by
  have ej:Below w2.heap.size w2 w3.drew:=below_drewN hb3 1;have hi3:=hi2.below ej;have hB3:=hB2.below ej;have xi:=am.below ej;have m6:=ab.below ej;have io:=eW.below ej eW.pos;have hg0:M.at_ w.heap.size=none:=hi.out aG;have hg1:M.at_ (w.heap.size+1)=none:=hi.out (by omega);have hs3:=ej.size;refine ⟨⟨aV (j:=0) xi rfl,hB3.c3⟩,XY M b t hm hne g hL w3.drew (hi3.toN _) hB3 io (λq s e=>by
   subst e;exact kG s _ g.2.2.2.2 (by have:=g.2.2.1; omega) f) (λks e i=>by
   subst e;exact kG (ks i) _ (g.2.2 i) (by omega) (f i)),λw6 a6 n6 c6 ul dg li=>?_⟩
  have se:=yI xi dg hg0;have xj:=yI m6 dg hg1;have cI:=hB3.frN (hi3.toN (sz t)) dg hm aG;have De:=hi3.after dg li;have kv:=uS (hi3.toN (sz t)) dg io;obtain ⟨ps,hps,har⟩:=cI.hk.ptrs;have hpl:ps.length=kn:=hps.2.2.1;have hs6:=dg.size;refine ⟨⟨aV (j:=0) se rfl,cI.c3⟩,ps,sI ka kn kc ps w6 hps (by omega),λw7 v7 hv7 dv=>?_⟩;have G9:=se.below dv;have Ge:=aW dv cI.c3;refine ⟨⟨aV (j:=0) G9 rfl,Ge⟩,KX ps v7 w7 hv7 dv.size (by omega),λw8 v8 xl jn=>?_⟩;have gh:Below w6.heap.size w6 w8:=dv.trans jn;have xm:=se.below gh
  have xo:=xj.below gh;have hc38:=aW gh cI.c3;refine ⟨⟨aV (j:=0) xm rfl,hc38⟩,xo,λw9 aE=>?_⟩;have hne1:w.heap.size≠w.heap.size+1:=by omega
  have V6:=De.below gh;have hnf:¬ M.ft (w.heap.size+1):=hi.free (by omega);have hrow:=xl;obtain ⟨k8,V7,rfl,V8,NL⟩:=xl.ptrs;have m5:=gh.size;have h06:w.heap.size+1<w6.heap.size:=xj.1;have Gk:=kv.below gh kv.pos;have V9:∀ ad,k8=some ad->ad.block≠w.heap.size+1:=λad e=>by have:=NL ad e; omega
  refine ⟨⟨aV (j:=0) (xm.upd aE hne1) rfl,by rw [World.cell?_of_block (aE.block b (by omega))]; exact hc38⟩,a6,n6,c6,k8,V7,kY ps,rfl,hrow.late (by omega) aE (by omega),⟨vX (ul.1.below gh) (cZ xo (NP _ _ _ _)) aE,λad e=>Nat.le_trans (Nat.le_trans hb2.size hb3.size) (ul.2 ad e)⟩,V8.upd aE V9,by rw [<-Lj g]; exact har.keep,λad e=>by have:=NL ad e; omega,?_,V6.upd aE hnf,λi hi=>by rw [World.cell?_of_block (aE.block 0 (by have:=hT.pos; omega))]; exact Gk i hi⟩
  exact ((((Fr.below M hb2).trans hi (Fr.below M ej)).trans hi dg.fr).trans hi (Fr.below M gh)).upd aE (by omega))
 have HL:=hid (cK t);obtain ⟨N,hN⟩:=ay (bg t)
 rw [hN] at HL HE;have HN:=hid hN;have ww:=hid am;have NN:=hid (lH (some ⟨b,0,none⟩) w2);have HW:Hid (_=_):=hid hw2;clear am ab hb2 hB hB2 hi2 eW hi hT hm hN g f hne ht hkn hw2;have hgo:Calls prog 86 #[.agg #[.pointer (some ⟨b,0,none⟩)]] w (IZ M w t):=by
  have sf:=ww;rw [HW.out] at sf;go_enter func86,ntmps86;go_wp2_with (first
   | (refine aA (bD _ _ _ (w.heap.size+1) (by simp) rfl) ?_)
   | (refine aA (aU (aV (j:=0) sf.out rfl) ⟨_,rfl,rfl⟩) ?_))
  rw [<-HW.out];refine NN.out.mono ?_;rintro e w3 ⟨rfl,hb3⟩;obtain ⟨hS0,sg,HF⟩:=HE.out w3 hb3;replace sg:=hid sg;replace HF:=hid HF;clear hb3 HE HW ww sf NN;go_wp2_with fail
  refine aC (S:=λw'=>w'.cell? ⟨w.heap.size,0,none⟩=some (.pointer (some ⟨b,0,none⟩))/\w'.cell? ⟨b,3,none⟩=some (.slice ka kn kc)) (hS0) λhld=>?_;refine ah 0 ?_ (hy:=by intro wz hSw; (refine aU hSw.1 ?_; exact ⟨_,rfl,rfl⟩));try simp only [Act.put,ak]
  refine ah 2 ?_;try simp only [Act.put,ak]
  refine ah 3 ?_ (hy:=by intro wz hSw; (obtain ⟨hcc,hcd⟩:=hSw; go_simp <;> with_reducible rfl));try simp only [Act.put,ak]
  refine ah 4 ?_;try simp only [Act.put,ak]
  refine ah 5 ?_;try simp only [Act.put,ak]
  refine ah 6 ?_ (hy:=by intro wz hSw; (obtain ⟨hcc,hcd⟩:=hSw; go_simp <;> with_reducible rfl));try simp only [Act.put,ak]
  refine aj 1 λK hK=>?_;go_simp;go_at_call 39
  (with_reducible refine sg.out.mono ?_)
  rintro e w6 ⟨a6,n6,c6,rfl,ul,dg,li⟩;rw [HN.out] at ul ⊢;obtain ⟨im,hH6⟩:=HF.out w6 a6 n6 c6 ul dg li;have H6:=hid hH6;clear ul dg li hH6;refine hK.out _ _ (im) λhld=>?_;clear hK K;try simp only [Act.put,ak]
  refine aj 7 λK hK=>?_;go_simp;go_at_call 130
  obtain ⟨ps,NO,hD7⟩:=H6.out;have HD7:=hid hD7
  (with_reducible refine NO.mono ?_)
  rintro e w7 ⟨v7,rfl,hv7,dv⟩;obtain ⟨xp,xr,sh⟩:=HD7.out w7 v7 hv7 dv;have H7:=hid sh;have Vc:=hid xr;clear hv7 dv xr sh hD7 NO;refine hK.out _ _ (xp) λhld=>?_;clear hK K;try simp only [Act.put,ak]
  refine aj 8 λK hK=>?_;go_simp;go_at_call 129
  (with_reducible refine Vc.out.mono ?_)
  rintro e w8 ⟨v8,rfl,xl,jn⟩;obtain ⟨ph,ff,NX⟩:=H7.out w8 v8 xl jn;have H8:=hid NX;have oc:=hid ff;clear xl jn NX ff;refine hK.out _ _ (ph) λhld=>?_;clear hK K;try simp only [Act.put,ak]
  refine aj 9 λK hK=>?_;refine Rg.meetStore (by rfl) oc.out 69 (ndC N a6 n6 c6) ⟨_,_,rfl,rfl,rfl⟩ (mE _ _ _ _ HL.out) (by rw [fQ _ _ _ _ fZ,fQ _ _ _ _ HL.out]) (qw _ _ _ _) ?_;intro w9 ax aE;have ce:=hid ax;obtain ⟨si,O0⟩:=H8.out w9 aE;have H9:=hid O0;clear ax aE O0;refine hK.out _ _ (si) λhld=>?_;clear hK K;try simp only [Act.put,ak]
  refine ah 10 ?_;try simp only [Act.put,ak]
  refine aB ?_;go_wp2;exact bodyPost_ret (ig (p:=2) (u:=3) rfl _ rfl ce.out HL.out) rfl H9.out
 exact hgo
end Tm
end
section
open Go.RowKit
namespace Tm
open Tr Ni Pk
theorem Ry (M:Mp) (b:Nat) (t:T) (hm:M.at_ b=some t) (k:Nat) (A:T) (hkl:k<(bU t).length) (GB:(bU t).length<=1000) (hn:Nib (bU t)) (w:World) (hi:Inv M w)
  (hcut:∀ wx M',Inv M' wx->M'.at_ b=some t->Calls prog 172 #[.agg #[.pointer (some ⟨b,0,none⟩)],.int .i64 (k+1:Nat)] wx (dz M' wx A))
  (wa:aK) (wn wc:Nat) (way:Pa) (v:aL) (hW:Bs M w wa wn wc way) (O4:k<way.length) (hwn:Nib way) (hw64:way.length<=1000) (hne:(bU t).getD k 0≠way.getD k 0) :
  Calls prog 150 #[.agg #[.pointer (some ⟨b,0,none⟩)],.int .i64 k,.slice wa wn wc,.string v] w (dz M w (wrap (way.take k) (two (nb ((bU t).getD k 0)) (nb (way.getD k 0)) A (.leaf (way.drop (k+1)) v)))):=by
 obtain ⟨w2,hw2,am,ab,hb2,hs2⟩:=mI w (some ⟨b,0,none⟩);have hi2:=hi.below hb2;have hS2:St M w M w2:=⟨Fr.below M hb2,hi2,hb2,hi⟩
 have hX2:Bx M w2 (w.heap.size+1) #[.pointer none] 35:=⟨ab,hi.free (by omega),eH _⟩
 obtain ⟨pa,pn,pc,c1,hP⟩:=hi2.path hm;have hpn:(bU t).length=pn:=hP.1.len;have hwl:way.length=wn:=hW.1.len;rw [hpn] at hkl GB;rw [hwl] at O4 hw64;obtain ⟨pb,po,rfl,_,cx⟩:=hP.1.at' k hkl;have hW2:=hW.fr hi (Fr.below M hb2);obtain ⟨wb,wo,rfl,_,cy⟩:=hW2.1.at' k O4;have hx:((bU t).getD k 0).toNat<16:=by
  have:=hn ((bU t).getD k 0) (by rw [List.getD_eq_getElem?_getD,List.getElem?_eq_getElem (by omega)]; exact List.getElem_mem _);exact this
 have hy:(way.getD k 0).toNat<16:=by
  have:=hwn (way.getD k 0) (by rw [List.getD_eq_getElem?_getD,List.getElem?_eq_getElem (by omega)]; exact List.getElem_mem _);exact this
 have hnx:((nb ((bU t).getD k 0)).val:Nat)=((bU t).getD k 0).toNat:=Nat.mod_eq_of_lt hx;have hny:((nb (way.getD k 0)).val:Nat)=(way.getD k 0).toNat:=Nat.mod_eq_of_lt hy;have hnn:nb ((bU t).getD k 0)≠nb (way.getD k 0):=λe=>hne (rG hx hy e);obtain ⟨X,hX⟩:=ay (nb ((bU t).getD k 0))
 obtain ⟨Y,hY⟩:=ay (nb (way.getD k 0))
 rw [hX] at hnx hnn ⊢;rw [hY] at hny hnn ⊢;obtain ⟨x,hxe⟩:=ay (((bU t).getD k 0).toNat)
 obtain ⟨y,hye⟩:=ay ((way.getD k 0).toNat)
 rw [hxe] at hx cx hnx;rw [hye] at hy cy hny;obtain ⟨w3,hw3⟩:=au (w2.alloc (.cells (mD sQ) 35))
 have hb3:Below w2.heap.size w2 w3:=by rw [hw3]; exact al1 _ _
 have un:Rx M w3 w2.heap.size sQ:=⟨by rw [hw3]; exact Rg.Own.new _ _ _,hi2.free aG,by rw [oI]; simp [maxLen]⟩
 have hxi:(x:Int)<16:=by omega
 have hyi:(y:Int)<16:=by omega
 have jp:=hP.1.1;have hpm:=hP.1.2.1;have js:=hW.1.1;have pi:=hW.1.2.1;unfold maxLen at hpm pi;have HAdd:Hid (IntKind.i64.wrap ((k:Int)+1)=((k+1:Nat):Int)):=hid (by simp only [IntKind.wrap_i64,wrap64]; omega);have GC:Hid (∀ wx,Below w2.heap.size w2 wx->Calls prog 172 #[.agg #[.pointer (some ⟨b,0,none⟩)],.int .i64 ((k:Int)+1)] wx (dz M wx A)):=hid (λwx hb=>hcut wx M (hi2.below hb) hm);obtain ⟨g,hg⟩:=ay w2.heap.size
 rw [hg] at un;have r5:Hid (∀ wx e w4,Below w3.heap.size w3 wx->Below w2.heap.size w2 wx->dz M wx A e w4->∃ p4 M4,e = .returned (tv p4)/\Below w2.heap.size w2 w4/\Rx M4 w4 g sQ/\
   ∀ w5,Rx M4 w5 g (sQ.set x p4)->Rg.Upd w4 g w5->Below w2.heap.size w2 w5/\Calls prog 103 #[.slice (dL (some ⟨wb,wo,none⟩) wc (k+1)) (wn-(k+1)) (wc-(k+1)),.string v] w5.drew (dz M4 w5.drew (.leaf (way.drop (k+1)) v))/\
   ∀ e w6,dz M4 w5.drew (.leaf (way.drop (k+1)) v) e w6->∃ p6 M6,e = .returned (tv p6)/\Below w2.heap.size w2 w6/\Rx M6 w6 g (sQ.set x p4)/\
   ∀ w7,Rx M6 w7 g ((sQ.set x p4).set y p6)->Rg.Upd w6 g w7->∃ M7,Below w2.heap.size w2 w7/\Calls prog 149 #[.slice (some ⟨g,0,none⟩) 16 16] w7.drew (dz M7 w7.drew (two X Y A (.leaf (way.drop (k+1)) v)))/\
   ∀ e w8,dz M7 w7.drew (two X Y A (.leaf (way.drop (k+1)) v)) e w8->∃ p8 M8,e = .returned (tv p8)/\Below w2.heap.size w2 w8/\Calls prog 151 #[.slice (some ⟨wb,wo,none⟩) k wc,.agg #[.pointer p8]] w8 (dz M8 w8 (wrap (way.take k) (two X Y A (.leaf (way.drop (k+1)) v))))/\
   ∀ e w9,dz M8 w8 (wrap (way.take k) (two X Y A (.leaf (way.drop (k+1)) v))) e w9->∃ p9,e = .returned (tv p9)/\Below w2.heap.size w2 w9/\Rg.Own w9 (w.heap.size+1) #[.pointer none] 35/\
   ∀ af,Rg.Upd w9 (w.heap.size+1) af->Below w.heap.size w af/\dz M w (wrap (way.take k) (two X Y A (.leaf (way.drop (k+1)) v))) (.returned (tv p9)) af):=hid (by
  intro wx e w4 h3x h2x hG;have hsx:St M w M wx:=hS2.below h2x;obtain ⟨p4,M4,rfl,Dg,ur,sk,hb4⟩:=hsx.got hG;have O5:=(un.below h3x).got sk hb4;have pj:=(hX2.below h2x).got sk hb4;have fx:=bst h2x hb4;refine ⟨p4,M4,rfl,fx,O5,λw5 eN aq=>?_⟩;have hlo:w.heap.size<=g:=by omega
  have hS5:St M w M4 w5:=ur.upd aq hlo O5.n;have kw:=pj.upd aq (by omega);have xt:=aq.below fx (by omega);have hW5:Bs M4 w5 (some ⟨wb,wo,none⟩) wn wc way:=hW.fr hi hS5.f;have sl:=hS5.below (below_drewN aH 1);refine ⟨xt,nL M4 _ _ _ _ _ _ sl.i (hW.fr hi sl.f |>.from' (k+1) (by omega)),λe w6 VC=>?_⟩;obtain ⟨p6,M6,rfl,kv,im,dg,hb6⟩:=sl.got VC;have O6:=(eN.below (below_drewN aH 1)).got dg hb6;have VM:=(kw.below (below_drewN aH 1)).got dg hb6;have xv:Below w2.heap.size w2 w6:=bst (xt.drew) hb6
  refine ⟨p6,M6,rfl,xv,O6,λw7 m3 cQ=>?_⟩;have xp:St M w M6 w7:=im.upd cQ hlo O6.n;have VS:=VM.upd cQ (by omega);have xw:=cQ.below xv (by omega);have xx:=(xp.below (below_drewN aH 1)).plus (S:=λk=>k=g) (λk hk=>⟨Or.inl (by omega),by rw [hk]; exact m3.o.1⟩);have m7:Are M6 ((sQ.set x p4).set y p6) (((List.replicate 16 T.nil).set x A).set y (.leaf (way.drop (k+1)) v)):=((UH M6).set x (Dg.mono dg.mono)).set y kv;rw [<-hnx,<-hny,XG X Y _ _ hnn] at m7;have us:=(m3.below (below_drewN aH 1)).ks (by rw [<-hnx,<-hny]; exact m7)
  have hlen:((sQ.set x p4).set y p6).length=16:=by simp [oI]
  rw [hlen] at us;have GE:=(VS.below (below_drewN (Below.refl w7.heap.size w7) 1)).plus (S:=λk=>k=g) (by omega);refine ⟨_,xw,jK _ _ _ _ _ _ xx.i us,λe w8 VV=>?_⟩;obtain ⟨p8,M8,rfl,Gk,ph,W6,jn⟩:=xx.got VV;have W7:=GE.got W6 jn;have xy:Below w2.heap.size w2 w8:=bst (xw.drew) jn;refine ⟨p8,M8,rfl,xy,uq M8 _ _ _ _ _ _ w8 ph.i ((hW.fr hi ph.f).upto k (by omega)) Gk,λe w9 xz=>?_⟩;obtain ⟨p9,M9,rfl,hT9,si,xF,m8⟩:=ph.got xz;have r6:=W7.got xF m8;refine ⟨p9,rfl,bst xy m8,r6.o,λaf hu=>?_⟩;have cP:=si.upd hu (by omega) r6.n
  exact ⟨cP.b,p9,M9,rfl,hT9,cP.f,cP.i,cP.b⟩)
 have h0:=aV (j:=0) am rfl;have hkp:k<pn:=hkl;have hkc:k<=wc:=by omega
 have GF:k+1<=wn:=by omega
 have HB3:=hid hb3;obtain ⟨RR,hRR⟩:=ay (wrap (way.take k) (two X Y A (.leaf (way.drop (k+1)) v)))
 rw [hRR] at r5 ⊢;have GG:w2.heap.size=w.heap.size+2:=hs2;have xT:=am;clear am ab hb2 hs2 hi hi2 hP hW hW2 hS2 hX2 hcut hm hn hwn hne hnx hny hnn hX hY hxe hye un hb3 hRR hpn hwl;obtain rfl:g=w.heap.size+2:=by omega
 have GM:=hid (λe w4 (h:Below w2.heap.size w2 w3.drew)=>r5.out w3.drew e w4 (below_drewN aH 1) h);have HW2:Hid (_=_):=hid hw2;have HW3:Hid (_=_):=hid hw3;have c8:Hid (Rg.Own w2 w.heap.size #[.pointer (some ⟨b,0,none⟩)] 35):=hid xT;clear r5 hw2 hw3 xT;go_enter func150,ntmps150;go_wp2_with (first
  | (refine aA (aX _ _ _ (w.heap.size+1) (by simp) rfl) ?_)
  | (refine aA (Du (w.heap.size+2) (by simp) ⟨_,_,rfl,rfl,rfl⟩) ?_))
 rw [<-HW2.out,<-HW3.out];refine aC (S:=λw'=>Below w2.heap.size w2 w') (HB3.out.drew) λhld=>?_;refine ah 0 ?_;try simp only [Act.put,ak]
 refine ah 1 ?_;try simp only [Act.put,ak]
 refine aD 2 (λwz hSw=>aW hSw h0) ?_;try simp only [Act.put,ak]
 refine ah 3 ?_;try simp only [Act.put,ak]
 refine ah 4 ?_;try simp only [Act.put,ak]
 refine aD 5 (λwz hSw=>aW hSw c1) ?_;try simp only [Act.put,ak]
 refine ah 6 ?_;try simp only [Act.put,ak]
 refine ah 7 ?_;try simp only [Act.put,ak]
 refine aD 8 (λwz hSw=>aW hSw cx) ?_;try simp only [Act.put,ak]
 refine ah 9 ?_ (hy:=by intro wz hSw; (refine aU (aW hSw h0) ?_; exact ⟨_,rfl,rfl⟩));try simp only [Act.put,ak]
 refine ah 10 ?_;try simp only [Act.put,ak]
 refine ah 11 ?_ (hy:=by intro wz hSw; (have q0:=HAdd.out; go_simp <;> with_reducible rfl));try simp only [Act.put,ak]
 refine aj 12 λK hK=>?_;go_simp;go_at_call 172
 (with_reducible refine (GC.out _ hld).mono ?_)
 intro e w4 hG;obtain ⟨p4,M4,rfl,H4⟩:=GM.out e w4 hld hG;replace H4:=hid H4;clear hG;have hB4:=H4.out.1;refine hK.out _ _ (hB4) λhld=>?_;clear hK K;try simp only [Act.put,ak]
 refine ah 13 ?_;try simp only [Act.put,ak]
 refine aj 14 λK hK=>?_;refine tK (by rfl) H4.out.2.1 (i:=x) (by simpa [oI] using hx) p4 ⟨_,_,rfl,rfl,rfl⟩ ?_;intro w5 eN aq;have H5:=hid (H4.out.2.2 w5 eN aq);clear eN aq;refine hK.out _ _ (H5.out.1) λhld=>?_;clear hK K;try simp only [Act.put,ak]
 refine aB ?_;go_wp2_with fail
 refine aC (S:=λw'=>Below w2.heap.size w2 w') (H5.out.1.drew) λhld=>?_;refine ah 0 ?_;try simp only [Act.put,ak]
 refine ah 1 ?_;try simp only [Act.put,ak]
 refine ah 2 ?_;try simp only [Act.put,ak]
 refine ah 3 ?_;try simp only [Act.put,ak]
 refine aD 4 (λwz hSw=>aW hSw cy) ?_;try simp only [Act.put,ak]
 refine ah 5 ?_;try simp only [Act.put,ak]
 refine ah 6 ?_;try simp only [Act.put,ak]
 refine ah 7 ?_ (hy:=by intro wz hSw; (have q0:=HAdd.out; go_simp <;> with_reducible rfl));try simp only [Act.put,ak]
 refine ah 8 ?_ (hy:=by intro wz hSw; (refine kP (a:=some ⟨wb,wo,none⟩) (n:=wn) (c:=wc) (i:=k+1) iL jJ GF ?_; exact ⟨_,_,rfl,rfl,rfl⟩));try simp only [Act.put,ak]
 refine ah 9 ?_;try simp only [Act.put,ak]
 refine aj 10 λK hK=>?_;go_simp;go_at_call 103
 (with_reducible refine (H5.out.2.1).mono ?_)
 intro e w6 hG;obtain ⟨p6,M6,rfl,H6⟩:=H5.out.2.2 e w6 hG;replace H6:=hid H6;clear hG;have cI:=H6.out.1;refine hK.out _ _ (cI) λhld=>?_;clear hK K;try simp only [Act.put,ak]
 refine ah 11 ?_;try simp only [Act.put,ak]
 refine aj 12 λK hK=>?_;refine tK (by rfl) H6.out.2.1 (i:=y) (by simpa [oI] using hy) p6 ⟨_,_,rfl,rfl,rfl⟩ ?_;intro w7 m3 cQ;obtain ⟨M7,H7⟩:=H6.out.2.2 w7 m3 cQ;replace H7:=hid H7;clear m3 cQ;refine hK.out _ _ (H7.out.1) λhld=>?_;clear hK K;try simp only [Act.put,ak]
 refine aB ?_;go_wp2_with fail
 refine aC (S:=λ_=>True) (trivial) λhld=>?_;refine ah 0 ?_;try simp only [Act.put,ak]
 refine ah 1 ?_;try simp only [Act.put,ak]
 refine ah 2 ?_ (hy:=by intro wz hSw; (refine pX (a:=some ⟨wb,wo,none⟩) (n:=wn) (c:=wc) (j:=k) iL jJ hkc ?_; exact ⟨_,_,rfl,rfl,rfl⟩));try simp only [Act.put,ak]
 refine ah 3 ?_;try simp only [Act.put,ak]
 refine aj 4 λK hK=>?_;go_simp;go_at_call 149
 (with_reducible refine (H7.out.2.1).mono ?_)
 intro e w8 hG;obtain ⟨p8,M8,rfl,H8⟩:=H7.out.2.2 e w8 hG;replace H8:=hid H8;clear hG;have hB8:=H8.out.1;refine hK.out _ _ ?_ (λhld=>?_)
 .trivial
 clear hK K;try simp only [Act.put,ak]
 refine aj 5 λK hK=>?_;go_simp;go_at_call 151
 (with_reducible refine (H8.out.2.1).mono ?_)
 intro e w9 hG;obtain ⟨p9,rfl,H9⟩:=H8.out.2.2 e w9 hG;replace H9:=hid H9;clear hG;have ut:=H9.out.1;refine hK.out _ _ ?_ (λhld=>?_)
 .trivial
 clear hK K;try simp only [Act.put,ak]
 refine aj 6 λK hK=>?_;refine eD (by rfl) H9.out.2.1 (off:=0) (by decide) p9 ⟨_,_,rfl,rfl,rfl⟩ ?_;intro af ai al;have cf:=hid ai;have ge:=hid (H9.out.2.2 af al);clear ai al;refine hK.out _ _ ?_ (λhld=>?_)
 .trivial
 clear hK K;try simp only [Act.put,ak]
 refine aB ?_;go_wp2;exact bodyPost_ret (eF rfl _ rfl cf.out) rfl ge.out.2
theorem parted {q p:Pa} (hl:q.length<=p.length) (h:¬ q<+:p):cp q p<q.length/\q.getD (cp q p) 0≠p.getD (cp q p) 0:=by
 refine ⟨AB h,?_⟩;have h2:¬ p<+:q:=λg=>h (by rw [g.eq_of_length (Nat.le_antisymm g.length_le hl)]; exact List.prefix_rfl);obtain ⟨s,a,b,q',p',e1,e2,hab,hc⟩:=pz q p h h2;rw [hc,e1,e2];have hg:∀ (x:UInt8) (r:Pa),(s++x::r).getD s.length 0=x:=λx r=>by simp [List.getD]
 rw [hg,hg];exact hab
structure Ahead (M:Mp) (w w2:World) (b:Nat) (t:T) (pa:aK) (pn pc:Nat):Prop where
 b2:Below w.heap.size w w2
 i2:Inv M w2
 x2:Bx M w2 (w.heap.size+1) #[.pointer none] 35
 c0:w2.cell? ⟨w.heap.size,0,none⟩=some (.pointer (some ⟨b,0,none⟩))
 c1:w2.cell? ⟨b,1,none⟩=some (.slice pa pn pc)
 p:Bs M w2 pa pn pc (bU t)
theorem ahead (M:Mp) (b:Nat) (t:T) (hm:M.at_ b=some t) (w:World) (hi:Inv M w):∃ w2 pa pn pc,w2=(w.alloc (.cells #[.pointer (some ⟨b,0,none⟩)] 35)).alloc (.cells #[.pointer none] 35)/\Ahead M w w2 b t pa pn pc/\w2.heap.size=w.heap.size+2:=by
 obtain ⟨w2,hw2,am,ab,hb2,hs2⟩:=mI w (some ⟨b,0,none⟩);have hi2:=hi.below hb2;obtain ⟨pa,pn,pc,c1,hP⟩:=hi2.path hm;exact ⟨w2,pa,pn,pc,hw2,⟨hb2,hi2,⟨ab,hi.free (by omega),eH _⟩,aV (j:=0) am rfl,c1,hP⟩,hs2⟩
theorem xV (M:Mp) (b:Nat) (t:T) (hm:M.at_ b=some (t)) (w:World) (hi:Inv M w) (wa:aK) (wn wc:Nat) (way:Pa) (v:aL) (hW:Bs M w wa wn wc way) (hw64:way.length<=64) (hle:(bU (t)).length<=way.length) (h:¬ bU t<+:way) (hn:Nib (bU t)) (hwn:Nib way) (A:T)
  (hcut:∀ wx M',Inv M' wx->M'.at_ b=some t->Calls prog 172 #[.agg #[.pointer (some ⟨b,0,none⟩)],.int .i64 (cp (bU t) way+1:Nat)] wx (dz M' wx A)) :
  Calls prog 102 #[.agg #[.pointer (some ⟨b,0,none⟩)],.slice wa wn wc,.string v] w (dz M w (wrap (way.take (cp (bU t) way)) (two (nb ((bU t).getD (cp (bU t) way) 0)) (nb (way.getD (cp (bU t) way) 0)) A (.leaf (way.drop (cp (bU t) way+1)) v)))):=by
 obtain ⟨w2,pa,pn,pc,hw2,hA,hs2⟩:=ahead M b _ hm w hi;have hpn:=hA.p.1.len;have hwl:way.length=wn:=hW.1.len;have jp:=hA.p.1.1;have hpm:=hA.p.1.2.1;have js:=hW.1.1;have pi:=hW.1.2.1;unfold maxLen at hpm pi;obtain ⟨hk1,hk2⟩:=parted hle h;have cX:=hid (oW pa wa pn wn pc wc (bU t) way (by omega) (by omega) (by omega) w2 hA.p.1 (mP hi hW.1 (Fr.below M hA.b2)));obtain ⟨R,hR⟩:=ay (wrap (way.take (cp (bU t) way)) (two (nb ((bU t).getD (cp (bU t) way) 0)) (nb (way.getD (cp (bU t) way) 0)) A (.leaf (way.drop (cp (bU t) way+1)) v)))
 rw [hR];have HS:Hid (∀ w3,Below w2.heap.size w2 w3->w3.cell? ⟨w.heap.size,0,none⟩=some (.pointer (some ⟨b,0,none⟩))/\Calls prog 150 #[.agg #[.pointer (some ⟨b,0,none⟩)],.int .i64 (cp (bU t) way:Nat),.slice wa wn wc,.string v] w3 (dz M w3 R)/\
   ∀ e w9,dz M w3 R e w9->∃ p,e = .returned (tv p)/\Rg.Own w9 (w.heap.size+1) #[.pointer none] 35/\∀ af,Rg.Upd w9 (w.heap.size+1) af->dz M w R (.returned (tv p)) af):=hid (λw3 hb3 =>
  ⟨aW hb3 hA.c0,by rw [<-hR]; exact Ry M b t hm (cp (bU t) way) A hk1 (by omega) hn w3 (hA.i2.below hb3) hcut wa wn wc way v (hW.fr hi (Fr.below M (bst hA.b2 hb3))) (by omega) hwn (by omega) hk2,
   λe w9 hG=>finish hi (Fr.below M (bst hA.b2 hb3)) (bst hA.b2 hb3) hG (hA.x2.o.below hb3) (eH _) (by omega) hA.x2.n⟩)
 have hlt:decide (((cp (bU t) way:Nat):Int)<(pn:Int))=true:=by simp; omega
 obtain ⟨k,hk⟩:=ay (cp (bU t) way)
 rw [hk] at cX HS hlt;have hlt2:(k:Int)<(pn:Int):=by have:=of_decide_eq_true hlt; exact this
 have hlt3:k<pn:=by omega
 have h0:=hA.c0;have c1:=hA.c1;clear hR hk hA hW hi hm hle h hn hwn hcut hk1 hk2 hpn hwl;subst hw2;go_enter func102,ntmps102;go_wp2_with (refine aA (aX _ _ _ (w.heap.size+1) (by simp) rfl) ?_)
 refine cX.out.mono ?_;rintro e w3 ⟨rfl,hb3⟩;obtain ⟨d0,HC,HF⟩:=HS.out w3 hb3;replace HC:=hid HC;replace HF:=hid HF;clear hb3 HS cX h0 c1;go_wp2_with (refine aA (aU d0 ⟨_,rfl,rfl⟩) ?_)
 refine HC.out.mono ?_;intro e w9 hG;obtain ⟨p9,rfl,ax,hE⟩:=HF.out e w9 hG;have ce:=hid ax;have HE:=hid hE;clear hG ax hE;go_wp2_with (refine aZ ce.out (by decide) p9 rfl _ _ rfl rfl rfl ?_; intro af ai al; have cf:=hid ai; have el:=hid al; clear ai al)
 exact bodyPost_ret (eF rfl _ rfl cf.out) rfl (HE.out af el.out)
theorem LJ (M:Mp) (b:Nat) (u:aL) (q:Pa) (hm:M.at_ b=some (.leaf q u)) (w:World) (hi:Inv M w) (wa:aK) (wn wc:Nat) (way:Pa) (v:aL) (hW:Bs M w wa wn wc way) (hw64:way.length<=64) (hle:(bU (.leaf q u)).length<=way.length) (h:q=way) :
  Calls prog 102 #[.agg #[.pointer (some ⟨b,0,none⟩)],.slice wa wn wc,.string v] w (dz M w (.leaf q v)):=by
 obtain ⟨w2,pa,pn,pc,hw2,hA,hs2⟩:=ahead M b _ hm w hi;have hpn:=hA.p.1.len;have hwl:way.length=wn:=hW.1.len;have jp:=hA.p.1.1;have hpm:=hA.p.1.2.1;have js:=hW.1.1;have pi:=hW.1.2.1;unfold maxLen at hpm pi;have dy:q.length=pn:=hpn;subst h;obtain rfl:pn=wn:=by omega
 have cX:=hid (oW pa wa pn pn pc wc q q (by omega) (by omega) (by omega) w2 hA.p.1 (mP hi hW.1 (Fr.below M hA.b2)));rw [Ag (List.prefix_rfl),dy] at cX;have HS:Hid (∀ w3,Below w2.heap.size w2 w3->w3.cell? ⟨w.heap.size,0,none⟩=some (.pointer (some ⟨b,0,none⟩))/\Calls prog 67 #[.agg #[.pointer (some ⟨b,0,none⟩)]] w3 (λe w'=>e = .returned (.int .i64 1)/\Below w3.heap.size w3 w')/\
   ∀ w4,Below w3.heap.size w3 w4->Calls prog 103 #[.slice pa pn pc,.string v] w4 (dz M w4 (.leaf q v))/\
   ∀ e w9,dz M w4 (.leaf q v) e w9->∃ p,e = .returned (tv p)/\Rg.Own w9 (w.heap.size+1) #[.pointer none] 35/\∀ af,Rg.Upd w9 (w.heap.size+1) af->dz M w (.leaf q v) (.returned (tv p)) af):=hid (λw3 hb3 =>
  ⟨aW hb3 hA.c0,dA M _ _ w3 (hA.i2.below hb3) (jP (hA.i2.below hb3) hm),λw4 hb4=>⟨nL M _ _ _ _ _ w4 (hA.i2.below (bst hb3 hb4)) (hA.p.fr hA.i2 (Fr.below M (bst hb3 hb4))),
   λe w9 hG=>finish hi (Fr.below M (bst hA.b2 (bst hb3 hb4))) (bst hA.b2 (bst hb3 hb4)) hG (hA.x2.o.below (bst hb3 hb4)) (eH _) (by omega) hA.x2.n⟩⟩)
 have hlt:decide ((pn:Int)<(pn:Int))=false:=by simp
 have h0:=hA.c0;have c1:=hA.c1;clear hA hW hi hm hle hpn dy hwl;subst hw2;go_enter func102,ntmps102;go_wp2_with (refine aA (aX _ _ _ (w.heap.size+1) (by simp) rfl) ?_)
 refine cX.out.mono ?_;rintro e w3 ⟨rfl,hb3⟩;obtain ⟨d0,HK,H4⟩:=HS.out w3 hb3;replace HK:=hid HK;replace H4:=hid H4;clear hb3 HS cX h0 c1;go_wp2_with (refine aA (aU d0 ⟨_,rfl,rfl⟩) ?_)
 refine HK.out.mono ?_;rintro e w4 ⟨rfl,hb4⟩;obtain ⟨HC,HF⟩:=H4.out w4 hb4;replace HC:=hid HC;replace HF:=hid HF;clear hb4 H4 HK;go_wp2_with fail
 refine HC.out.mono ?_;intro e w9 hG;obtain ⟨p9,rfl,ax,hE⟩:=HF.out e w9 hG;have ce:=hid ax;have HE:=hid hE;clear hG ax hE;go_wp2_with (refine aZ ce.out (by decide) p9 rfl _ _ rfl rfl rfl ?_; intro af ai al; have cf:=hid ai; have el:=hid al; clear ai al)
 exact bodyPost_ret (eF rfl _ rfl cf.out) rfl (HE.out af el.out)
theorem Pw (M:Mp) (b:Nat) (q:Pa) (s:T) (hm:M.at_ b=some (.ext q s)) (w:World) (hi:Inv M w) (wa:aK) (wn wc:Nat) (way:Pa) (v:aL) (hW:Bs M w wa wn wc way) (hw64:way.length<=64) (hle:(bU (.ext q s)).length<=way.length) (h:q<+:way) (hq:q≠[]) (hg:Tr.get s (way.drop q.length)≠none)
  (hS:∀ M' w' p a n c,Inv M' w'->IsT M' p s->Bs M' w' a n c (way.drop q.length)->Calls prog 54 #[.agg #[.pointer p],.slice a n c,.string v] w' (dz M' w' (put s (way.drop q.length) v))) :
  Calls prog 102 #[.agg #[.pointer (some ⟨b,0,none⟩)],.slice wa wn wc,.string v] w (dz M w (.ext q (put s (way.drop q.length) v))):=by
 obtain ⟨w2,pa,pn,pc,hw2,hA,hs2⟩:=ahead M b _ hm w hi;have hpn:=hA.p.1.len;have hwl:way.length=wn:=hW.1.len;have jp:=hA.p.1.1;have hpm:=hA.p.1.2.1;have js:=hW.1.1;have pi:=hW.1.2.1;unfold maxLen at hpm pi;have dy:q.length=pn:=hpn;have cX:=hid (oW pa wa pn wn pc wc q way (by omega) (by omega) (by omega) w2 hA.p.1 (mP hi hW.1 (Fr.below M hA.b2)));rw [Ag h,dy] at cX;have hpw:pn<=wn:=by rw [<-dy,<-hwl]; exact hle
 rw [dy] at hS ⊢;obtain ⟨ka,kn,kc,c3,hK⟩:=hA.i2.kids hm;obtain ⟨kb,ko,p0,rfl,d8,gj,hk0,hT0⟩:=hK.at' 0 (by rw [<-hK.len]; exact Nat.one_pos);have hkn:kn=1:=hK.len.symm;have hkc:=hK.1;have hkm:=hK.2.1;unfold maxLen at hkm;rw [Nat.add_zero] at hk0;have bm:IsT M p0 s:=hT0;have hbl:=hi.lt hm;have m9:=hi.lt_ kb gj
 have HS:Hid (∀ w3,Below w2.heap.size w2 w3->w3.cell? ⟨w.heap.size,0,none⟩=some (.pointer (some ⟨b,0,none⟩))/\Calls prog 67 #[.agg #[.pointer (some ⟨b,0,none⟩)]] w3 (λe w'=>e = .returned (.int .i64 2)/\Below w3.heap.size w3 w')/\
   ∀ w4,Below w3.heap.size w3 w4->(w4.cell? ⟨w.heap.size,0,none⟩=some (.pointer (some ⟨b,0,none⟩))/\w4.cell? ⟨b,3,none⟩=some (.slice (some ⟨kb,ko,none⟩) kn kc)/\w4.cell? ⟨kb,ko,none⟩=some (.pointer p0))/\
   (∀ wx,Below w4.heap.size w4 wx->Calls prog 54 #[.agg #[.pointer p0],.slice (dL wa wc pn) (wn-pn) (wc-pn),.string v] wx (dz M wx (put s (way.drop pn) v)))/\∀ wx,Below w4.heap.size w4 wx->∀ e w5,dz M wx (put s (way.drop pn) v) e w5->∃ p5 M5,e = .returned (tv p5)/\Below w4.heap.size w4 w5/\Calls prog 151 #[.slice pa pn pc,.agg #[.pointer p5]] w5 (dz M5 w5 (.ext q (put s (way.drop pn) v)))/\
    ∀ e w9,dz M5 w5 (.ext q (put s (way.drop pn) v)) e w9->∃ p9,e = .returned (tv p9)/\Below w4.heap.size w4 w9/\Rg.Own w9 (w.heap.size+1) #[.pointer none] 35/\∀ af,Rg.Upd w9 (w.heap.size+1) af->True/\dz M w (.ext q (put s (way.drop pn) v)) (.returned (tv p9)) af):=hid (λw3 hb3 =>
  ⟨aW hb3 hA.c0,dA M _ _ w3 (hA.i2.below hb3) (jP (hA.i2.below hb3) hm),λw4 hb4=>⟨⟨aW hb4 (aW hb3 hA.c0),aW hb4 (aW hb3 c3),aW hb4 (aW hb3 hk0)⟩,λwx hbx=>by
   have hB:=bst hA.b2 (bst (bst hb3 hb4) hbx);refine hS M wx p0 _ _ _ (hi.below hB) bm ?_;have:=(hW.fr hi (Fr.below M hB)).from' pn hpw;exact this,λwx hbx e w5 hG=>by
   have hB:=bst (bst hb3 hb4) hbx;have sm:St M w M wx:=⟨Fr.below M (bst hA.b2 hB),hi.below (bst hA.b2 hB),bst hA.b2 hB,hi⟩
   obtain ⟨p5,M5,rfl,eK,hS5,cq,hb5⟩:=sm.got hG;have kw:=(hA.x2.below hB).got cq hb5;have hwr:wrap q (put s (way.drop pn) v) = .ext q (put s (way.drop pn) v):=if_neg hq;have hbe:=uq M5 pa pn pc q p5 (put s (way.drop pn) v) w5 hS5.i ((hA.p.fr hA.i2 (Fr.below M hB)).fr (hA.i2.below hB) cq) eK;rw [hwr] at hbe;refine ⟨p5,M5,rfl,bst hbx hb5,hbe,λe w9 xz=>?_⟩;obtain ⟨p9,M9,rfl,hT9,si,xF,m8⟩:=hS5.got xz;have r6:=kw.got xF m8;refine ⟨p9,rfl,bst (bst hbx hb5) m8,r6.o,λaf hu=>?_⟩;have cP:=si.upd hu (by omega) r6.n
   exact ⟨trivial,p9,M9,rfl,hT9,cP.f,cP.i,cP.b⟩⟩⟩)
 have hlt:decide ((pn:Int)<(pn:Int))=false:=by simp
 have h0:=hA.c0;have c1:=hA.c1;clear hA hW hi hm hle hpn dy hwl hK hT0 bm c3 hk0 hS;subst hw2;go_enter func102,ntmps102;go_wp2_with (refine aA (aX _ _ _ (w.heap.size+1) (by simp) rfl) ?_)
 refine cX.out.mono ?_;rintro e w3 ⟨rfl,hb3⟩;obtain ⟨d0',HK,H4⟩:=HS.out w3 hb3;replace HK:=hid HK;replace H4:=hid H4;clear hb3 HS cX h0 c1;go_wp2_with (refine aA (aU d0' ⟨_,rfl,rfl⟩) ?_)
 refine HK.out.mono ?_;rintro e w4 ⟨rfl,hb4⟩;obtain ⟨⟨d0,d3,dk⟩,HC,HF⟩:=H4.out w4 hb4;replace HC:=hid HC;replace HF:=hid HF;clear hb4 H4 HK d0';go_wp2_with fail
 refine aC (S:=λw'=>Bo (w.heap.size+1) w4 w') (Bo.of (below_drewN aH 1)) λhld=>?_;refine ah 0 ?_;try simp only [Act.put,ak]
 refine ah 1 ?_;try simp only [Act.put,ak]
 refine aD 2 (λwz hSw=>gy hSw (by omega) d0) ?_;try simp only [Act.put,ak]
 refine ah 3 ?_;try simp only [Act.put,ak]
 refine ah 4 ?_;try simp only [Act.put,ak]
 refine aD 5 (λwz hSw=>gy hSw (by omega) d3) ?_;try simp only [Act.put,ak]
 refine ah 6 ?_;try simp only [Act.put,ak]
 refine ah 7 ?_ (hy:=by intro wz hSw; (refine aU (gy hSw (by omega) dk) ?_; exact ⟨_,rfl,rfl⟩));try simp only [Act.put,ak]
 refine ah 8 ?_;try simp only [Act.put,ak]
 refine ah 9 ?_;try simp only [Act.put,ak]
 refine ah 10 ?_ (hy:=by intro wz hSw; (refine kP (a:=wa) (n:=wn) (c:=wc) (i:=pn) iL jJ hpw ?_; exact ⟨_,_,rfl,rfl,rfl⟩));try simp only [Act.put,ak]
 refine ah 11 ?_;try simp only [Act.put,ak]
 refine aj 12 λK hK=>?_;go_simp;go_at_call 54
 (with_reducible refine (HC.out w4.drew (below_drewN aH 1)).mono ?_)
 intro e w5 hG;obtain ⟨p5,M5,rfl,ei,H5⟩:=HF.out w4.drew (below_drewN aH 1) e w5 hG;replace H5:=hid H5;clear hG;refine hK.out _ _ (Bo.of ei) λhld=>?_;clear hK K;try simp only [Act.put,ak]
 refine aj 13 λK hK=>?_;go_simp;go_at_call 151
 (with_reducible refine (H5.out.1).mono ?_)
 intro e w9 hG;obtain ⟨p9,rfl,ut,H9⟩:=H5.out.2 e w9 hG;replace H9:=hid H9;clear hG;refine hK.out _ _ (Bo.of ut) λhld=>?_;clear hK K;try simp only [Act.put,ak]
 refine aj 14 λK hK=>?_;refine eD (by rfl) H9.out.1 (off:=0) (by decide) p9 ⟨_,_,rfl,rfl,rfl⟩ ?_;intro af ai al;have cf:=hid ai;have ge:=hid (H9.out.2 af al);clear ai;refine hK.out _ _ ((Bo.of ut).upd al) λhld=>?_;clear hK K;try simp only [Act.put,ak]
 refine aB ?_;go_wp2;exact bodyPost_ret (eF rfl _ rfl cf.out) rfl ge.out.2
theorem LU (M:Mp) (b:Nat) (q:Pa) (s:T) (hm:M.at_ b=some (.ext q s)) (w:World) (hi:Inv M w) (wa:aK) (wn wc:Nat) (way:Pa) (v:aL) (hW:Bs M w wa wn wc way) (hw64:way.length<=64) (hle:(bU (.ext q s)).length<=way.length) (h:q<+:way)
  (hS:∀ M' w' p a n c,Inv M' w'->IsT M' p s->Bs M' w' a n c (way.drop q.length)->Calls prog 54 #[.agg #[.pointer p],.slice a n c,.string v] w' λe w''=>e = .panicked [fu 8]/\Below w'.heap.size w' w'') :
  Calls prog 102 #[.agg #[.pointer (some ⟨b,0,none⟩)],.slice wa wn wc,.string v] w (λe w'=>e = .panicked [fu 8]/\Below w.heap.size w w'):=by
 obtain ⟨w2,pa,pn,pc,hw2,hA,hs2⟩:=ahead M b _ hm w hi;have hpn:=hA.p.1.len;have hwl:way.length=wn:=hW.1.len;have jp:=hA.p.1.1;have hpm:=hA.p.1.2.1;have js:=hW.1.1;have pi:=hW.1.2.1;unfold maxLen at hpm pi;have dy:q.length=pn:=hpn;have cX:=hid (oW pa wa pn wn pc wc q way (by omega) (by omega) (by omega) w2 hA.p.1 (mP hi hW.1 (Fr.below M hA.b2)));rw [Ag h,dy] at cX;have hpw:pn<=wn:=by rw [<-dy,<-hwl]; exact hle
 rw [dy] at hS ;obtain ⟨ka,kn,kc,c3,hK⟩:=hA.i2.kids hm;obtain ⟨kb,ko,p0,rfl,d8,gj,hk0,hT0⟩:=hK.at' 0 (by rw [<-hK.len]; exact Nat.one_pos);have hkn:kn=1:=hK.len.symm;have hkc:=hK.1;have hkm:=hK.2.1;unfold maxLen at hkm;rw [Nat.add_zero] at hk0;have bm:IsT M p0 s:=hT0;have hbl:=hi.lt hm;have m9:=hi.lt_ kb gj
 have HS:Hid (∀ w3,Below w2.heap.size w2 w3->w3.cell? ⟨w.heap.size,0,none⟩=some (.pointer (some ⟨b,0,none⟩))/\Calls prog 67 #[.agg #[.pointer (some ⟨b,0,none⟩)]] w3 (λe w'=>e = .returned (.int .i64 2)/\Below w3.heap.size w3 w')/\
   ∀ w4,Below w3.heap.size w3 w4->(w4.cell? ⟨w.heap.size,0,none⟩=some (.pointer (some ⟨b,0,none⟩))/\w4.cell? ⟨b,3,none⟩=some (.slice (some ⟨kb,ko,none⟩) kn kc)/\w4.cell? ⟨kb,ko,none⟩=some (.pointer p0))/\
   (∀ wx,Below w4.heap.size w4 wx->Calls prog 54 #[.agg #[.pointer p0],.slice (dL wa wc pn) (wn-pn) (wc-pn),.string v] wx (λe w''=>e = .panicked [fu 8]/\Below wx.heap.size wx w''))/\∀ wx,Below w4.heap.size w4 wx->Below w.heap.size w wx):=hid (λw3 hb3 =>
  ⟨aW hb3 hA.c0,dA M _ _ w3 (hA.i2.below hb3) (jP (hA.i2.below hb3) hm),λw4 hb4=>⟨⟨aW hb4 (aW hb3 hA.c0),aW hb4 (aW hb3 c3),aW hb4 (aW hb3 hk0)⟩,λwx hbx=>by
   have hB:=bst hA.b2 (bst (bst hb3 hb4) hbx);refine hS M wx p0 _ _ _ (hi.below hB) bm ?_;have:=(hW.fr hi (Fr.below M hB)).from' pn hpw;exact this,λwx hbx=>bst hA.b2 (bst (bst hb3 hb4) hbx)⟩⟩)
 have hlt:decide ((pn:Int)<(pn:Int))=false:=by simp
 have h0:=hA.c0;have c1:=hA.c1;clear hA hW hi hm hle hpn dy hwl hK hT0 bm c3 hk0 hS;subst hw2;go_enter func102,ntmps102;go_wp2_with (refine aA (aX _ _ _ (w.heap.size+1) (by simp) rfl) ?_)
 refine cX.out.mono ?_;rintro e w3 ⟨rfl,hb3⟩;obtain ⟨d0',HK,H4⟩:=HS.out w3 hb3;replace HK:=hid HK;replace H4:=hid H4;clear hb3 HS cX h0 c1;go_wp2_with (refine aA (aU d0' ⟨_,rfl,rfl⟩) ?_)
 refine HK.out.mono ?_;rintro e w4 ⟨rfl,hb4⟩;obtain ⟨⟨d0,d3,dk⟩,HC,HF⟩:=H4.out w4 hb4;replace HC:=hid HC;replace HF:=hid HF;clear hb4 H4 HK d0';go_wp2_with fail
 refine wp_region_held_drew (S:=λw'=>Bo (w.heap.size+1) w4 w') (by kernel_rfl) (Bo.of (below_drewN aH 1)) (λhld=>?_);refine ah 0 ?_;try simp only [Act.put,ak]
 refine ah 1 ?_;try simp only [Act.put,ak]
 refine aD 2 (λwz hSw=>gy hSw (by omega) d0) ?_;try simp only [Act.put,ak]
 refine ah 3 ?_;try simp only [Act.put,ak]
 refine ah 4 ?_;try simp only [Act.put,ak]
 refine aD 5 (λwz hSw=>gy hSw (by omega) d3) ?_;try simp only [Act.put,ak]
 refine ah 6 ?_;try simp only [Act.put,ak]
 refine ah 7 ?_ (hy:=by intro wz hSw; (refine aU (gy hSw (by omega) dk) ?_; exact ⟨_,rfl,rfl⟩));try simp only [Act.put,ak]
 refine ah 8 ?_;try simp only [Act.put,ak]
 refine ah 9 ?_;try simp only [Act.put,ak]
 refine ah 10 ?_ (hy:=by intro wz hSw; (refine kP (a:=wa) (n:=wn) (c:=wc) (i:=pn) iL jJ hpw ?_; exact ⟨_,_,rfl,rfl,rfl⟩));try simp only [Act.put,ak]
 refine ah 11 ?_;try simp only [Act.put,ak]
 refine aj 12 λK hK=>?_;go_simp;go_at_call 54
 (with_reducible refine (HC.out w4.drew (below_drewN aH 1)).mono ?_)
 rintro e w5 ⟨rfl,hb5⟩;simp +zetaDelta [bodyPost,Exit.then];exact bst (HF.out w4.drew (below_drewN aH 1)) hb5
theorem WY (ks:Fin 16->T) (M:Mp) (b:Nat) (hm:M.at_ b=some (.br ks)) (w:World) (hi:Inv M w) (wa:aK) (wn wc:Nat) (c0:UInt8) (r:Pa) (v:aL) (hW:Bs M w wa wn wc (c0::r)) (hc0:c0.toNat<16) (hlen:(c0::r).length<=64)
  (ih:∀ M' w' p a n c,Inv M' w'->IsT M' p (ks (nb c0))->Bs M' w' a n c r->Calls prog 54 #[.agg #[.pointer p],.slice a n c,.string v] w' (dz M' w' (put (ks (nb c0)) r v))) :
  Calls prog 54 #[.agg #[.pointer (some ⟨b,0,none⟩)],.slice wa wn wc,.string v] w (dz M w (.br λj=>if j=nb c0 then put (ks (nb c0)) r v else ks j)):=by
  obtain ⟨w2,hw2,am,ab,hb2,hs2⟩:=mI w (some ⟨b,0,none⟩);have hi2:=hi.below hb2;have hX2:Bx M w2 (w.heap.size+1) #[.pointer none] 35:=⟨ab,hi.free (by omega),eH _⟩
  have hwl:(c0::r).length=wn:=hW.1.len;have y0:r.length+1=wn:=by rw [<-hwl]; rfl
  have h0:=aV (j:=0) am rfl;have HK:=hid (dA M _ _ w2 hi2 (jP hi2 hm));obtain ⟨ka,kn,kc,c3,hKs⟩:=hi2.kids hm;have hkn:kn=16:=by rw [<-hKs.len]; exact fD ks
  subst hkn;have hnx:((nb c0).val:Nat)=c0.toNat:=Nat.mod_eq_of_lt hc0;obtain ⟨kb,ko,p0,rfl,d8,gj,hk0,hT0⟩:=hKs.at' c0.toNat hc0;have bm:IsT M p0 (ks (nb c0)):=by
   rw [<-hnx,jY] at hT0;exact hT0
  have hbl:=hi.lt hm;have m9:=hi.lt_ kb gj;have hkc:=hKs.1;have hkm:=hKs.2.1;unfold maxLen at hkm;have hx16:c0.toNat<16:=hc0;have hxi:((c0.toNat:Nat):Int)<16:=by omega
  have HT:Hid (∀ w3,Below w2.heap.size w2 w3->w3.cell? ⟨w.heap.size,0,none⟩=some (.pointer (some ⟨b,0,none⟩))/\Calls prog 68 #[.slice wa wn wc] w3 (λe w'=>e = .returned (.tuple #[.int .u8 c0.toNat,.slice (dL wa wc 1) (wn-1) (wc-1)])/\Below w3.heap.size w3 w')/\
    ∀ w4,Below w3.heap.size w3 w4->(w4.cell? ⟨w.heap.size,0,none⟩=some (.pointer (some ⟨b,0,none⟩))/\w4.cell? ⟨b,3,none⟩=some (.slice (some ⟨kb,ko,none⟩) 16 kc)/\w4.cell? ⟨kb,ko+c0.toNat,none⟩=some (.pointer p0))/\
    (∀ wx,Below w4.heap.size w4 wx->Calls prog 54 #[.agg #[.pointer p0],.slice (dL wa wc 1) (wn-1) (wc-1),.string v] wx (dz M wx (put (ks (nb c0)) r v)))/\∀ wx,Below w4.heap.size w4 wx->∀ e w5,dz M wx (put (ks (nb c0)) r v) e w5->∃ p5 M5,e = .returned (tv p5)/\Below w4.heap.size w4 w5/\Calls prog 101 #[.agg #[.pointer (some ⟨b,0,none⟩)],.int .u8 c0.toNat,.agg #[.pointer p5]] w5 (dz M5 w5 (.br λj=>if j=nb c0 then put (ks (nb c0)) r v else ks j))/\
     ∀ e w9,dz M5 w5 (.br λj=>if j=nb c0 then put (ks (nb c0)) r v else ks j) e w9->∃ p9,e = .returned (tv p9)/\Below w4.heap.size w4 w9/\Rg.Own w9 (w.heap.size+1) #[.pointer none] 35/\∀ af,Rg.Upd w9 (w.heap.size+1) af->dz M w (.br λj=>if j=nb c0 then put (ks (nb c0)) r v else ks j) (.returned (tv p9)) af):=hid (λw3 hb3 =>
   ⟨aW hb3 h0,Bn wa wn wc (c0::r) (by omega) w3 (mP hi hW.1 (Fr.below M (bst hb2 hb3))),λw4 hb4=>⟨⟨aW hb4 (aW hb3 h0),aW hb4 (aW hb3 c3),aW hb4 (aW hb3 hk0)⟩,λwx hbx=>by
    have hB:=bst hb2 (bst (bst hb3 hb4) hbx);refine ih M wx p0 _ _ _ (hi.below hB) bm ?_;exact (hW.fr hi (Fr.below M hB)).from' 1 (by omega),λwx hbx e w5 hG=>by
    have hB:=bst (bst hb3 hb4) hbx;have sm:St M w M wx:=⟨Fr.below M (bst hb2 hB),hi.below (bst hb2 hB),bst hb2 hB,hi⟩
    obtain ⟨p5,M5,rfl,eK,hS5,cq,hb5⟩:=sm.got hG;have kw:=(hX2.below hB).got cq hb5;have hbe:=Kz M5 b ks (cq.mono b _ hm) (nb c0) p5 _ eK w5 hS5.i;rw [hnx] at hbe;refine ⟨p5,M5,rfl,bst hbx hb5,hbe,λe w9 xz=>?_⟩;obtain ⟨p9,M9,rfl,hT9,si,xF,m8⟩:=hS5.got xz;have r6:=kw.got xF m8;refine ⟨p9,rfl,bst (bst hbx hb5) m8,r6.o,λaf hu=>?_⟩;have cP:=si.upd hu (by omega) r6.n;exact ⟨p9,M9,rfl,hT9,cP.f,cP.i,cP.b⟩⟩⟩)
  have H0:=hid am;clear am ab hb2 hi hi2 hm hW hX2 hwl hKs hT0 bm c3 hk0 ih h0;subst hw2;clear hs2;go_enter func54,ntmps54;go_wp2_with (first | (refine aA (aX _ _ _ (w.heap.size+1) (by simp) rfl) ?_) | (refine aA (aU (aV (j:=0) H0.out rfl) ⟨_,rfl,rfl⟩) ?_))
  refine HK.out.mono ?_;rintro e w3 ⟨rfl,hb3⟩;obtain ⟨d0',eQ,H4⟩:=HT.out w3 hb3;replace eQ:=hid eQ;replace H4:=hid H4;clear hb3 HT HK H0 d0';unfold dB;go_wp2_with fail
  refine eQ.out.mono ?_;rintro e w4 ⟨rfl,hb4⟩;obtain ⟨⟨d0,d3,dk⟩,HC,HF⟩:=H4.out w4 hb4;replace HC:=hid HC;replace HF:=hid HF;clear hb4 H4 eQ;go_wp2_with fail
  refine aC (S:=λw'=>Bo (w.heap.size+1) w4 w') (Bo.of (below_drewN aH 1)) λhld=>?_;refine ah 0 ?_ (hy:=by intro wz hSw; (refine aU (gy hSw (by omega) d0) ?_; exact ⟨_,rfl,rfl⟩));try simp only [Act.put,ak]
  refine ah 1 ?_;try simp only [Act.put,ak]
  refine ah 2 ?_;try simp only [Act.put,ak]
  refine aD 3 (λwz hSw=>gy hSw (by omega) d0) ?_;try simp only [Act.put,ak]
  refine ah 4 ?_;try simp only [Act.put,ak]
  refine ah 5 ?_;try simp only [Act.put,ak]
  refine aD 6 (λwz hSw=>gy hSw (by omega) d3) ?_;try simp only [Act.put,ak]
  refine ah 7 ?_;try simp only [Act.put,ak]
  refine ah 8 ?_ (hy:=by intro wz hSw; (have q0:=hxi; have q1:=hx16; go_simp <;> with_reducible rfl));try simp only [Act.put,ak]
  refine ah 9 ?_ (hy:=by intro wz hSw; (refine aU (gy hSw (by omega) dk) ?_; exact ⟨_,rfl,rfl⟩));try simp only [Act.put,ak]
  refine ah 10 ?_;try simp only [Act.put,ak]
  refine ah 11 ?_;try simp only [Act.put,ak]
  refine aj 12 λK hK=>?_;go_simp;go_at_call 54
  (with_reducible refine (HC.out w4.drew (below_drewN aH 1)).mono ?_)
  intro e w5 hG;obtain ⟨p5,M5,rfl,ei,H5⟩:=HF.out w4.drew (below_drewN aH 1) e w5 hG;replace H5:=hid H5;clear hG;refine hK.out _ _ (Bo.of ei) λhld=>?_;clear hK K;try simp only [Act.put,ak]
  refine aj 13 λK hK=>?_;go_simp;go_at_call 101
  (with_reducible refine (H5.out.1).mono ?_)
  intro e w9 hG;obtain ⟨p9,rfl,ut,H9⟩:=H5.out.2 e w9 hG;replace H9:=hid H9;clear hG;refine hK.out _ _ (Bo.of ut) λhld=>?_;clear hK K;try simp only [Act.put,ak]
  refine aj 14 λK hK=>?_;refine eD (by rfl) H9.out.1 (off:=0) (by decide) p9 ⟨_,_,rfl,rfl,rfl⟩ ?_;intro af ai al;have cf:=hid ai;have ge:=hid (H9.out.2 af al);clear ai;refine hK.out _ _ ((Bo.of ut).upd al) λhld=>?_;clear hK K;try simp only [Act.put,ak]
  refine aB ?_;go_wp2;exact bodyPost_ret (eF rfl _ rfl cf.out) rfl ge.out
theorem FQ (ks:Fin 16->T) (M:Mp) (b:Nat) (hm:M.at_ b=some (.br ks)) (w:World) (hi:Inv M w) (wa:aK) (wn wc:Nat) (c0:UInt8) (r:Pa) (v:aL) (hW:Bs M w wa wn wc (c0::r)) (hc0:c0.toNat<16) (hlen:(c0::r).length<=64)
  (ih:∀ M' w' p a n c,Inv M' w'->IsT M' p (ks (nb c0))->Bs M' w' a n c r->Calls prog 54 #[.agg #[.pointer p],.slice a n c,.string v] w' (λe w''=>e = .panicked [fu 8]/\Below w'.heap.size w' w'')) :
  Calls prog 54 #[.agg #[.pointer (some ⟨b,0,none⟩)],.slice wa wn wc,.string v] w (λe w''=>e = .panicked [fu 8]/\Below w.heap.size w w''):=by
  obtain ⟨w2,hw2,am,ab,hb2,hs2⟩:=mI w (some ⟨b,0,none⟩);have hi2:=hi.below hb2;have hX2:Bx M w2 (w.heap.size+1) #[.pointer none] 35:=⟨ab,hi.free (by omega),eH _⟩
  have hwl:(c0::r).length=wn:=hW.1.len;have y0:r.length+1=wn:=by rw [<-hwl]; rfl
  have h0:=aV (j:=0) am rfl;have HK:=hid (dA M _ _ w2 hi2 (jP hi2 hm));obtain ⟨ka,kn,kc,c3,hKs⟩:=hi2.kids hm;have hkn:kn=16:=by rw [<-hKs.len]; exact fD ks
  subst hkn;have hnx:((nb c0).val:Nat)=c0.toNat:=Nat.mod_eq_of_lt hc0;obtain ⟨kb,ko,p0,rfl,d8,gj,hk0,hT0⟩:=hKs.at' c0.toNat hc0;have bm:IsT M p0 (ks (nb c0)):=by
   rw [<-hnx,jY] at hT0;exact hT0
  have hbl:=hi.lt hm;have m9:=hi.lt_ kb gj;have hkc:=hKs.1;have hkm:=hKs.2.1;unfold maxLen at hkm;have hx16:c0.toNat<16:=hc0;have hxi:((c0.toNat:Nat):Int)<16:=by omega
  have HT:Hid (∀ w3,Below w2.heap.size w2 w3->w3.cell? ⟨w.heap.size,0,none⟩=some (.pointer (some ⟨b,0,none⟩))/\Calls prog 68 #[.slice wa wn wc] w3 (λe w'=>e = .returned (.tuple #[.int .u8 c0.toNat,.slice (dL wa wc 1) (wn-1) (wc-1)])/\Below w3.heap.size w3 w')/\
    ∀ w4,Below w3.heap.size w3 w4->(w4.cell? ⟨w.heap.size,0,none⟩=some (.pointer (some ⟨b,0,none⟩))/\w4.cell? ⟨b,3,none⟩=some (.slice (some ⟨kb,ko,none⟩) 16 kc)/\w4.cell? ⟨kb,ko+c0.toNat,none⟩=some (.pointer p0))/\
    (∀ wx,Below w4.heap.size w4 wx->Calls prog 54 #[.agg #[.pointer p0],.slice (dL wa wc 1) (wn-1) (wc-1),.string v] wx (λe w''=>e = .panicked [fu 8]/\Below wx.heap.size wx w''))/\∀ wx,Below w4.heap.size w4 wx->Below w.heap.size w wx):=hid (λw3 hb3 =>
   ⟨aW hb3 h0,Bn wa wn wc (c0::r) (by omega) w3 (mP hi hW.1 (Fr.below M (bst hb2 hb3))),λw4 hb4=>⟨⟨aW hb4 (aW hb3 h0),aW hb4 (aW hb3 c3),aW hb4 (aW hb3 hk0)⟩,λwx hbx=>by
    have hB:=bst hb2 (bst (bst hb3 hb4) hbx);refine ih M wx p0 _ _ _ (hi.below hB) bm ?_;exact (hW.fr hi (Fr.below M hB)).from' 1 (by omega),λwx hbx=>bst hb2 (bst (bst hb3 hb4) hbx)⟩⟩)
  have H0:=hid am;clear am ab hb2 hi hi2 hm hW hX2 hwl hKs hT0 bm c3 hk0 ih h0;subst hw2;clear hs2;go_enter func54,ntmps54;go_wp2_with (first | (refine aA (aX _ _ _ (w.heap.size+1) (by simp) rfl) ?_) | (refine aA (aU (aV (j:=0) H0.out rfl) ⟨_,rfl,rfl⟩) ?_))
  refine HK.out.mono ?_;rintro e w3 ⟨rfl,hb3⟩;obtain ⟨d0',eQ,H4⟩:=HT.out w3 hb3;replace eQ:=hid eQ;replace H4:=hid H4;clear hb3 HT HK H0 d0';unfold dB;go_wp2_with fail
  refine eQ.out.mono ?_;rintro e w4 ⟨rfl,hb4⟩;obtain ⟨⟨d0,d3,dk⟩,HC,HF⟩:=H4.out w4 hb4;replace HC:=hid HC;replace HF:=hid HF;clear hb4 H4 eQ;go_wp2_with fail
  refine wp_region_held_drew (S:=λw'=>Bo (w.heap.size+1) w4 w') (by kernel_rfl) (Bo.of (below_drewN aH 1)) (λhld=>?_);refine ah 0 ?_ (hy:=by intro wz hSw; (refine aU (gy hSw (by omega) d0) ?_; exact ⟨_,rfl,rfl⟩));try simp only [Act.put,ak]
  refine ah 1 ?_;try simp only [Act.put,ak]
  refine ah 2 ?_;try simp only [Act.put,ak]
  refine aD 3 (λwz hSw=>gy hSw (by omega) d0) ?_;try simp only [Act.put,ak]
  refine ah 4 ?_;try simp only [Act.put,ak]
  refine ah 5 ?_;try simp only [Act.put,ak]
  refine aD 6 (λwz hSw=>gy hSw (by omega) d3) ?_;try simp only [Act.put,ak]
  refine ah 7 ?_;try simp only [Act.put,ak]
  refine ah 8 ?_ (hy:=by intro wz hSw; (have q0:=hxi; have q1:=hx16; go_simp <;> with_reducible rfl));try simp only [Act.put,ak]
  refine ah 9 ?_ (hy:=by intro wz hSw; (refine aU (gy hSw (by omega) dk) ?_; exact ⟨_,rfl,rfl⟩));try simp only [Act.put,ak]
  refine ah 10 ?_;try simp only [Act.put,ak]
  refine ah 11 ?_;try simp only [Act.put,ak]
  refine aj 12 λK hK=>?_;go_simp;go_at_call 54
  (with_reducible refine (HC.out w4.drew (below_drewN aH 1)).mono ?_)
  rintro e w5 ⟨rfl,hb5⟩;simp +zetaDelta [bodyPost,Exit.then];exact bst (HF.out w4.drew (below_drewN aH 1)) hb5
theorem Ub (M:Mp) (a:aK) (n c:Nat) (way:Pa) (v:aL) (w:World) (hi:Inv M w) (hW:Bs M w a n c way):Calls prog 54 #[.agg #[.pointer none],.slice a n c,.string v] w (dz M w (.leaf way v)):=by
 obtain ⟨w2,hw2,am,ab,hb2,hs2⟩:=mI w none;have hi2:=hi.below hb2;have HK:=hid (dA M none .nil w2 hi2 rfl);have HT:Hid (∀ w3,Below w2.heap.size w2 w3->Calls prog 103 #[.slice a n c,.string v] w3 (dz M w3 (.leaf way v))/\∀ e w9,dz M w3 (.leaf way v) e w9->∃ p,e = .returned (tv p)/\Rg.Own w9 (w.heap.size+1) #[.pointer none] 35/\∀ af,Rg.Upd w9 (w.heap.size+1) af->dz M w (.leaf way v) (.returned (tv p)) af):=hid (λw3 hb3 =>
  ⟨nL M _ _ _ _ _ w3 (hi2.below hb3) (hW.fr hi (Fr.below M (bst hb2 hb3))),λe w9 hG=>finish hi (Fr.below M (bst hb2 hb3)) (bst hb2 hb3) hG (ab.below hb3) (eH _) (by omega) (hi.free (by omega))⟩)
 have H0:=hid am;clear am ab hb2 hs2 hi hi2 hW;subst hw2;go_enter func54,ntmps54;go_wp2_with (first | (refine aA (aX _ _ _ (w.heap.size+1) (by simp) rfl) ?_) | (refine aA (aU (aV (j:=0) H0.out rfl) ⟨_,rfl,rfl⟩) ?_))
 refine HK.out.mono ?_;rintro e w3 ⟨rfl,hb3⟩;obtain ⟨HC,HF⟩:=HT.out w3 hb3;replace HC:=hid HC;replace HF:=hid HF;clear hb3 HT HK H0;unfold dB;go_wp2_with fail
 refine HC.out.mono ?_;intro e w9 hG;obtain ⟨p9,rfl,ax,hE⟩:=HF.out e w9 hG;have ce:=hid ax;have HE:=hid hE;clear hG ax hE;go_wp2_with (refine aZ ce.out (by decide) p9 rfl _ _ rfl rfl rfl ?_; intro af ai al; have cf:=hid ai; have el:=hid al; clear ai al)
 exact bodyPost_ret (eF rfl _ rfl cf.out) rfl (HE.out af el.out)
theorem QS (M:Mp) (b:Nat) (r:aL) (hm:M.at_ b=some (.stub r)) (a:aK) (n c:Nat) (v:aL) (w:World) (hi:Inv M w):Calls prog 54 #[.agg #[.pointer (some ⟨b,0,none⟩)],.slice a n c,.string v] w (λe w'=>e = .panicked [fu 8]/\Below w.heap.size w w'):=by
 obtain ⟨w2,hw2,am,ab,hb2,hs2⟩:=mI w (some ⟨b,0,none⟩);have hi2:=hi.below hb2;have HK:=hid (dA M _ _ w2 hi2 (jP hi2 hm));have H0:=hid am;have HB:Hid (∀ w3,Below w2.heap.size w2 w3->Below w.heap.size w w3):=hid (λw3 hb3=>bst hb2 hb3);clear am ab hb2 hs2 hi hi2 hm;subst hw2;go_enter func54,ntmps54;go_wp2_with (first | (refine aA (aX _ _ _ (w.heap.size+1) (by simp) rfl) ?_) | (refine aA (aU (aV (j:=0) H0.out rfl) ⟨_,rfl,rfl⟩) ?_))
 refine HK.out.mono ?_;rintro e w3 ⟨rfl,hb3⟩;have HB3:=hid (HB.out w3 hb3);clear hb3 HB HK H0;unfold dB;go_wp2;simp +zetaDelta [bodyPost,Exit.then,fu];exact HB3.out
theorem tY (M:Mp) (b:Nat) (t:T) (hm:M.at_ b=some t) (hk:dB t=1\/dB t=2) (a:aK) (n c:Nat) (v:aL) (R:T) (w:World) (hi:Inv M w)
  (hal:∀ w3,Below w.heap.size w w3->Calls prog 102 #[.agg #[.pointer (some ⟨b,0,none⟩)],.slice a n c,.string v] w3 (dz M w3 R)) :
  Calls prog 54 #[.agg #[.pointer (some ⟨b,0,none⟩)],.slice a n c,.string v] w (dz M w R):=by
 obtain ⟨w2,hw2,am,ab,hb2,hs2⟩:=mI w (some ⟨b,0,none⟩);have hi2:=hi.below hb2;have HK:=hid (dA M _ _ w2 hi2 (jP hi2 hm));have h0:=aV (j:=0) am rfl
 have HT:Hid (∀ w3,Below w2.heap.size w2 w3->w3.cell? ⟨w.heap.size,0,none⟩=some (.pointer (some ⟨b,0,none⟩))/\Calls prog 102 #[.agg #[.pointer (some ⟨b,0,none⟩)],.slice a n c,.string v] w3 (dz M w3 R)/\∀ e w9,dz M w3 R e w9->∃ p,e = .returned (tv p)/\Rg.Own w9 (w.heap.size+1) #[.pointer none] 35/\∀ af,Rg.Upd w9 (w.heap.size+1) af->dz M w R (.returned (tv p)) af):=hid (λw3 hb3 =>
  ⟨aW hb3 h0,hal w3 (bst hb2 hb3),λe w9 hG=>finish hi (Fr.below M (bst hb2 hb3)) (bst hb2 hb3) hG (ab.below hb3) (eH _) (by omega) (hi.free (by omega))⟩)
 have H0:=hid am;obtain ⟨k,hkk⟩:=ay (dB t)
 rw [hkk] at HK hk;clear am ab hb2 hs2 hi hi2 hal hm hkk h0;subst hw2;rcases hk with rfl | rfl;all_goals
  go_enter func54,ntmps54;go_wp2_with (first | (refine aA (aX _ _ _ (w.heap.size+1) (by simp) rfl) ?_) | (refine aA (aU (aV (j:=0) H0.out rfl) ⟨_,rfl,rfl⟩) ?_))
  refine HK.out.mono ?_;rintro e w3 ⟨rfl,hb3⟩;obtain ⟨d0,HC,HF⟩:=HT.out w3 hb3;replace HC:=hid HC;replace HF:=hid HF;clear hb3 HT HK H0;go_wp2_with (refine aA (aU d0 ⟨_,rfl,rfl⟩) ?_)
  refine HC.out.mono ?_;intro e w9 hG;obtain ⟨p9,rfl,ax,hE⟩:=HF.out e w9 hG;have ce:=hid ax;have HE:=hid hE;clear hG ax hE;go_wp2_with (refine aZ ce.out (by decide) p9 rfl _ _ rfl rfl rfl ?_; intro af ai al; have cf:=hid ai; have el:=hid al; clear ai al)
  exact bodyPost_ret (eF rfl _ rfl cf.out) rfl (HE.out af el.out)
theorem yA (M:Mp) (b:Nat) (t:T) (hm:M.at_ b=some t) (hk:dB t=2) (a:aK) (n c:Nat) (v:aL) (w:World) (hi:Inv M w)
  (hal:∀ w3,Below w.heap.size w w3->Calls prog 102 #[.agg #[.pointer (some ⟨b,0,none⟩)],.slice a n c,.string v] w3 (λe w'=>e = .panicked [fu 8]/\Below w3.heap.size w3 w')) :
  Calls prog 54 #[.agg #[.pointer (some ⟨b,0,none⟩)],.slice a n c,.string v] w (λe w'=>e = .panicked [fu 8]/\Below w.heap.size w w'):=by
 obtain ⟨w2,hw2,am,ab,hb2,hs2⟩:=mI w (some ⟨b,0,none⟩);have hi2:=hi.below hb2;have HK:=hid (dA M _ _ w2 hi2 (jP hi2 hm));rw [hk] at HK;have h0:=aV (j:=0) am rfl;have HT:Hid (∀ w3,Below w2.heap.size w2 w3->w3.cell? ⟨w.heap.size,0,none⟩=some (.pointer (some ⟨b,0,none⟩))/\Calls prog 102 #[.agg #[.pointer (some ⟨b,0,none⟩)],.slice a n c,.string v] w3 (λe w'=>e = .panicked [fu 8]/\Below w3.heap.size w3 w')/\Below w.heap.size w w3):=hid (λw3 hb3 =>
  ⟨aW hb3 h0,hal w3 (bst hb2 hb3),bst hb2 hb3⟩)
 have H0:=hid am;clear am ab hb2 hs2 hi hi2 hal hm hk h0;subst hw2;go_enter func54,ntmps54;go_wp2_with (first | (refine aA (aX _ _ _ (w.heap.size+1) (by simp) rfl) ?_) | (refine aA (aU (aV (j:=0) H0.out rfl) ⟨_,rfl,rfl⟩) ?_))
 refine HK.out.mono ?_;rintro e w3 ⟨rfl,hb3⟩;obtain ⟨d0,HC,HB⟩:=HT.out w3 hb3;replace HC:=hid HC;replace HB:=hid HB;clear hb3 HT HK H0;go_wp2_with (refine aA (aU d0 ⟨_,rfl,rfl⟩) ?_)
 refine HC.out.mono ?_;rintro e w9 ⟨rfl,m8⟩;have GO:=hid (bst HB.out m8);clear m8 HB;go_wp2;simp +zetaDelta [bodyPost,Exit.then];exact GO.out
theorem MI (q way:Pa) (f:Pa->T) (v:aL):fork q f way v=wrap (way.take (cp q way)) (two (nb (q.getD (cp q way) 0)) (nb (way.getD (cp q way) 0)) (f (q.drop (cp q way+1))) (.leaf (way.drop (cp q way+1)) v)):=by
 unfold fork;rw [yX _ _ _ aG]
def aaj (t:T):Prop:=∀ (M:Mp) (w:World) (p:aK) (a:aK) (n c:Nat) (way:Pa) (v:aL),Inv M w->IsT M p t->Bs M w a n c way->Tr.Good t way.length->Nib way->way.length<=64->
 (Tr.get t way=none->Calls prog 54 #[.agg #[.pointer p],.slice a n c,.string v] w λe w'=>e = .panicked [fu 8]/\Below w.heap.size w w')/\
 (Tr.get t way≠none->Calls prog 54 #[.agg #[.pointer p],.slice a n c,.string v] w (dz M w (put t way v)))
theorem II (t:T):aaj t:=by
 induction t with
 | nil =>
  intro M w p a n c way v hi ht hW hg hn hl;refine ⟨λh=>(by cases h),λ_=>?_⟩;obtain rfl:p=none:=ht.oC.2 rfl;exact Ub M a n c way v w hi hW
 | stub r =>
  intro M w p a n c way v hi ht hW hg hn hl;refine ⟨λ_=>?_,λh=>absurd rfl h⟩;obtain ⟨b,rfl,hm⟩:=ht.at_ (λe=>by cases e);exact QS M b r hm a n c v w hi
 | leaf q u =>
  intro M w p a n c way v hi ht hW hg hn hl;refine ⟨λh=>(by cases h),λ_=>?_⟩;obtain ⟨b,rfl,hm⟩:=ht.at_ (λe=>by cases e);refine tY M b _ hm (Or.inl rfl) a n c v _ w hi (λw3 hb3=>?_);have hi3:=hi.below hb3;have hW3:=hW.fr hi (Fr.below M hb3);by_cases e:q=way
  .have:put (.leaf q u) way v = .leaf q v:=by
    unfold put;rw [if_pos e,e]
   rw [this];exact LJ M b u q hm w3 hi3 a n c way v hW3 hl (Nat.le_of_eq hg.1) e
  .have:put (.leaf q u) way v=fork q (λr=>.leaf r u) way v:=by
    unfold put;rw [if_neg e]
   rw [this,MI];have hpre:¬ q<+:way:=λh=>e (h.eq_of_length hg.1);exact xV M b _ hm w3 hi3 a n c way v hW3 hl (Nat.le_of_eq hg.1) hpre hg.2 hn _ (λwx M' hix hmx=>TK M' b q u hmx _ (Nat.succ_le_of_lt (AB hpre)) wx hix)
 | ext q s ih =>
  intro M w p a n c way v hi ht hW hg hn hl;obtain ⟨b,rfl,hm⟩:=ht.at_ (λe=>by cases e);obtain ⟨g1,g2,g3,g4,g5⟩:=hg;by_cases e:q<+:way
  .have hgs:Tr.Good s (way.drop q.length).length:=by rw [List.length_drop]; exact g5
   have hget:Tr.get (.ext q s) way=Tr.get s (way.drop q.length):=by
    show (if q<+:way then Tr.get s (way.drop q.length) else some none)=_;rw [if_pos e]
   rw [hget];have hld:(way.drop q.length).length<=64:=by rw [List.length_drop]; omega
   refine ⟨λh=>?_,λh=>?_⟩
   .refine yA M b _ hm rfl a n c v w hi (λw3 hb3=>?_);exact LU M b q s hm w3 (hi.below hb3) a n c way v (hW.fr hi (Fr.below M hb3)) hl g3 e (λM' w' p' a' n' c' hi' ht' hW'=>(ih M' w' p' a' n' c' _ v hi' ht' hW' hgs (hn.drop _) hld).1 h)
   .have hput:put (.ext q s) way v = .ext q (put s (way.drop q.length) v):=by
     show (if q<+:way then _ else _)=_;rw [if_pos e]
    rw [hput];refine tY M b _ hm (Or.inr rfl) a n c v _ w hi (λw3 hb3=>?_);exact Pw M b q s hm w3 (hi.below hb3) a n c way v (hW.fr hi (Fr.below M hb3)) hl g3 e g1 h (λM' w' p' a' n' c' hi' ht' hW'=>(ih M' w' p' a' n' c' _ v hi' ht' hW' hgs (hn.drop _) hld).2 h)
  .have hget:Tr.get (.ext q s) way=some none:=by
    show (if q<+:way then Tr.get s (way.drop q.length) else some none)=_;rw [if_neg e]
   rw [hget];refine ⟨λh=>(by cases h),λ_=>?_⟩;have hput:put (.ext q s) way v=fork q (λr=>wrap r s) way v:=by
    show (if q<+:way then _ else _)=_;rw [if_neg e]
   rw [hput,MI];refine tY M b _ hm (Or.inr rfl) a n c v _ w hi (λw3 hb3=>?_);exact xV M b _ hm w3 (hi.below hb3) a n c way v (hW.fr hi (Fr.below M hb3)) hl g3 e g2 hn _ (λwx M' hix hmx=>WL M' b q s hmx _ (Nat.succ_le_of_lt (AB e)) wx hix)
 | br ks ih =>
  intro M w p a n c way v hi ht hW hg hn hl;obtain ⟨b,rfl,hm⟩:=ht.at_ (λe=>by cases e);cases way with
  | nil=>exact absurd hg.1 (Nat.lt_irrefl 0)
  | cons c0 r =>
   have hl':r.length<=64:=by simp at hl; omega
   have hgi:Tr.Good (ks (nb c0)) r.length:=hg.2.2 (nb c0);refine ⟨λh=>?_,λh=>?_⟩
   .exact FQ ks M b hm w hi a n c c0 r v hW hn.head hl (λM' w' p' a' n' c' hi' ht' hW'=>(ih (nb c0) M' w' p' a' n' c' r v hi' ht' hW' hgi hn.tail hl').1 h)
   .have hput:put (.br ks) (c0::r) v = .br λj=>if j=nb c0 then put (ks (nb c0)) r v else ks j:=by
     show T.br _=T.br _;congr 1;funext j;by_cases e:j=nb c0
     .subst e; rfl
     .rw [if_neg e,if_neg e]
    rw [hput];exact WY ks M b hm w hi a n c c0 r v hW hn.head hl (λM' w' p' a' n' c' hi' ht' hW'=>(ih (nb c0) M' w' p' a' n' c' r v hi' ht' hW' hgi hn.tail hl').2 h)
def kL:Option (Option aL)->Ending
 | none=>.panicked [fu 8]
 | some none=>.panicked [fu 7]
 | some (some v)=>.returned (.string v)
def ZQ (t:T):Prop:=∀ (M:Mp) (w:World) (p:aK) (a:aK) (n c:Nat) (way:Pa),Inv M w->IsT M p t->bf w a n c way->Tr.Good t way.length->Nib way->way.length<=64->
 Calls prog 37 #[.agg #[.pointer p],.slice a n c] w λe w'=>e=kL (Tr.get t way)/\Below w.heap.size w w'
theorem VE (M:Mp) (a:aK) (n c:Nat) (w:World) (hi:Inv M w):Calls prog 37 #[.agg #[.pointer none],.slice a n c] w λe w'=>e = .panicked [fu 7]/\Below w.heap.size w w':=by
 have h0:=fB w none;have HK:=hid (dA M none .nil (w.alloc (.cells #[.pointer none] 35)) (hi.below (al1 _ _)) rfl);clear hi;go_enter func37,ntmps37;go_wp2_with (refine aA (aU h0 ⟨_,rfl,rfl⟩) ?_)
 refine HK.out.mono ?_;rintro e w3 ⟨rfl,hb3⟩;have HB:=hid (bst (al1 _ _) hb3);unfold dB;clear h0 hb3 HK;go_wp2;simp +zetaDelta [bodyPost,Exit.then,fu];exact HB.out
theorem QG (M:Mp) (b:Nat) (r:aL) (hm:M.at_ b=some (.stub r)) (a:aK) (n c:Nat) (w:World) (hi:Inv M w):Calls prog 37 #[.agg #[.pointer (some ⟨b,0,none⟩)],.slice a n c] w λe w'=>e = .panicked [fu 8]/\Below w.heap.size w w':=by
 have h0:=fB w (some ⟨b,0,none⟩);have HK:=hid (dA M _ _ (w.alloc (.cells #[.pointer (some ⟨b,0,none⟩)] 35)) (hi.below (al1 _ _)) (jP (w:=w) hi hm));clear hi hm;go_enter func37,ntmps37;go_wp2_with (refine aA (aU h0 ⟨_,rfl,rfl⟩) ?_)
 refine HK.out.mono ?_;rintro e w3 ⟨rfl,hb3⟩;have HB:=hid (bst (al1 _ _) hb3);unfold dB;clear h0 hb3 HK;go_wp2;simp +zetaDelta [bodyPost,Exit.then,fu];exact HB.out
theorem OE (M:Mp) (b:Nat) (q:Pa) (u:aL) (hm:M.at_ b=some (.leaf q u)) (a:aK) (n c:Nat) (way:Pa) (w:World) (hi:Inv M w) (hB:bf w a n c way) (hl:q.length=way.length) (h64:way.length<=64) :
  Calls prog 37 #[.agg #[.pointer (some ⟨b,0,none⟩)],.slice a n c] w λe w'=>e=kL (Tr.get (.leaf q u) way)/\Below w.heap.size w w':=by
 have h0:=fB w (some ⟨b,0,none⟩);obtain ⟨w1,hw1⟩:=au (w.alloc (.cells #[.pointer (some ⟨b,0,none⟩)] 35))
 have hb1:Below w.heap.size w w1:=by rw [hw1]; exact al1 _ _
 have hi1:=hi.below hb1;have hn:=hB.len;rw [<-hw1] at h0;have HK:=hid (dA M _ _ w1 hi1 (jP hi1 hm));have c2:w1.cell? ⟨b,2,none⟩=some (.string u):=hi1.val hm;have H3:Hid (∀ w3,Below w1.heap.size w1 w3->w3.cell? ⟨w.heap.size,0,none⟩=some (.pointer (some ⟨b,0,none⟩))/\Calls prog 70 #[.agg #[.pointer (some ⟨b,0,none⟩)],.slice a n c] w3 (λe w'=>e=(if q=way then .returned (.tuple #[]) else .panicked [fu 7])/\Below w3.heap.size w3 w')/\
   ∀ w4,Below w3.heap.size w3 w4->w4.cell? ⟨w.heap.size,0,none⟩=some (.pointer (some ⟨b,0,none⟩))/\w4.cell? ⟨b,2,none⟩=some (.string u)/\Below w.heap.size w w4):=hid (λw3 hb3 =>
  ⟨aW hb3 h0,EN M b _ hm a n c way w3 (hi1.below hb3) (hB.below (bst hb1 hb3)) (by rw [<-hn]; exact hl) (by omega),λw4 hb4=>⟨aW hb4 (aW hb3 h0),aW hb4 (aW hb3 c2),bst (bst hb1 hb3) hb4⟩⟩)
 have hg:Tr.get (.leaf q u) way=some (if q=way then some u else none):=rfl;rw [hg];clear hg hi hi1 hb1 hn c2 hl hm hB;subst hw1;by_cases e:q=way
 .simp only [if_pos e] at H3 ⊢;clear e;go_enter func37,ntmps37;go_wp2_with (refine aA (aU h0 ⟨_,rfl,rfl⟩) ?_)
  refine HK.out.mono ?_;rintro e w3 ⟨rfl,hb3⟩;obtain ⟨d0,HC,H4⟩:=H3.out w3 hb3;replace HC:=hid HC;replace H4:=hid H4;unfold dB;clear h0 hb3 HK H3;go_wp2_with (refine aA (aU d0 ⟨_,rfl,rfl⟩) ?_)
  refine HC.out.mono ?_;rintro e w4 ⟨rfl,hb4⟩;obtain ⟨e0,e2,HB⟩:=H4.out w4 hb4;replace HB:=hid HB;clear hb4 H4 d0 HC;go_wp2;go_ret;exact ⟨rfl,HB.out⟩
 .simp only [if_neg e] at H3 ⊢;clear e;go_enter func37,ntmps37;go_wp2_with (refine aA (aU h0 ⟨_,rfl,rfl⟩) ?_)
  refine HK.out.mono ?_;rintro e w3 ⟨rfl,hb3⟩;obtain ⟨d0,HC,H4⟩:=H3.out w3 hb3;replace HC:=hid HC;replace H4:=hid H4;unfold dB;clear h0 hb3 HK H3;go_wp2_with (refine aA (aU d0 ⟨_,rfl,rfl⟩) ?_)
  refine HC.out.mono ?_;rintro e w4 ⟨rfl,hb4⟩;obtain ⟨e0,e2,HB⟩:=H4.out w4 hb4;replace HB:=hid HB;clear hb4 H4 d0 HC;go_wp2;simp +zetaDelta [bodyPost,Exit.then,fu,kL];exact HB.out
theorem Xn (ks:Fin 16->T) (M:Mp) (b:Nat) (hm:M.at_ b=some (.br ks)) (w:World) (hi:Inv M w) (wa:aK) (wn wc:Nat) (c0:UInt8) (r:Pa) (hW:bf w wa wn wc (c0::r)) (hc0:c0.toNat<16) (hlen:(c0::r).length<=64) (g:Option (Option aL))
  (ih:∀ w' p a n c,Inv M w'->IsT M p (ks (nb c0))->bf w' a n c r->Calls prog 37 #[.agg #[.pointer p],.slice a n c] w' (λe w''=>e=kL g/\Below w'.heap.size w' w'')) :
  Calls prog 37 #[.agg #[.pointer (some ⟨b,0,none⟩)],.slice wa wn wc] w (λe w'=>e=kL g/\Below w.heap.size w w'):=by
 have h0:=fB w (some ⟨b,0,none⟩);obtain ⟨w1,hw1⟩:=au (w.alloc (.cells #[.pointer (some ⟨b,0,none⟩)] 35))
 have hb1:Below w.heap.size w w1:=by rw [hw1]; exact al1 _ _
 have hi1:=hi.below hb1;rw [<-hw1] at h0;have hwl:(c0::r).length=wn:=hW.len;have y0:r.length+1=wn:=by rw [<-hwl]; rfl
 have HK:=hid (dA M _ _ w1 hi1 (jP hi1 hm));obtain ⟨ka,kn,kc,c3,hKs⟩:=hi1.kids hm;have hkn:kn=16:=by rw [<-hKs.len]; exact fD ks
 subst hkn;have hnx:((nb c0).val:Nat)=c0.toNat:=Nat.mod_eq_of_lt hc0;obtain ⟨kb,ko,p0,rfl,d8,gj,hk0,hT0⟩:=hKs.at' c0.toNat hc0;have bm:IsT M p0 (ks (nb c0)):=by
  rw [<-hnx,jY] at hT0;exact hT0
 have hkc:=hKs.1;have hkm:=hKs.2.1;unfold maxLen at hkm;have hx16:c0.toNat<16:=hc0;have hxi:((c0.toNat:Nat):Int)<16:=by omega
 have HT:Hid (∀ w3,Below w1.heap.size w1 w3->w3.cell? ⟨w.heap.size,0,none⟩=some (.pointer (some ⟨b,0,none⟩))/\Calls prog 68 #[.slice wa wn wc] w3 (λe w'=>e = .returned (.tuple #[.int .u8 c0.toNat,.slice (dL wa wc 1) (wn-1) (wc-1)])/\Below w3.heap.size w3 w')/\
   ∀ w4,Below w3.heap.size w3 w4->(w4.cell? ⟨w.heap.size,0,none⟩=some (.pointer (some ⟨b,0,none⟩))/\w4.cell? ⟨b,3,none⟩=some (.slice (some ⟨kb,ko,none⟩) 16 kc)/\w4.cell? ⟨kb,ko+c0.toNat,none⟩=some (.pointer p0))/\
   Calls prog 37 #[.agg #[.pointer p0],.slice (dL wa wc 1) (wn-1) (wc-1)] w4 (λe w''=>e=kL g/\Below w4.heap.size w4 w'')/\∀ w5,Below w4.heap.size w4 w5->Below w.heap.size w w5):=hid (λw3 hb3 =>
  ⟨aW hb3 h0,Bn wa wn wc (c0::r) (by omega) w3 (hW.below (bst hb1 hb3)),λw4 hb4=>⟨⟨aW hb4 (aW hb3 h0),aW hb4 (aW hb3 c3),aW hb4 (aW hb3 hk0)⟩,(by
   have hB:=bst hb1 (bst hb3 hb4);refine ih w4 p0 _ _ _ (hi.below hB) bm ?_;exact yV (hW.below hB) 1 (by omega)),λw5 hb5=>bst (bst (bst hb1 hb3) hb4) hb5⟩⟩)
 clear hi hi1 hb1 hm hW hwl hKs hT0 bm c3 hk0 ih;subst hw1
 match g with
 | none | some none =>
  go_enter func37,ntmps37;go_wp2_with (refine aA (aU h0 ⟨_,rfl,rfl⟩) ?_)
  refine HK.out.mono ?_;rintro e w3 ⟨rfl,hb3⟩;obtain ⟨d0',eQ,H4⟩:=HT.out w3 hb3;replace eQ:=hid eQ;replace H4:=hid H4;unfold dB;clear hb3 HT HK h0 d0';go_wp2_with fail
  refine eQ.out.mono ?_;rintro e w4 ⟨rfl,hb4⟩;obtain ⟨⟨d0,d3,dk⟩,HC,HB⟩:=H4.out w4 hb4;replace HC:=hid HC;replace HB:=hid HB;clear hb4 H4 eQ;go_wp2_with (refine aA (aU dk ⟨_,rfl,rfl⟩) ?_)
  refine HC.out.mono ?_;rintro e w5 ⟨rfl,hb5⟩;have aa:=hid (HB.out w5 hb5);clear hb5 HB HC;unfold kL;go_wp2;simp +zetaDelta [bodyPost,Exit.then];exact ⟨rfl,aa.out⟩
 | some (some v) =>
  go_enter func37,ntmps37;go_wp2_with (refine aA (aU h0 ⟨_,rfl,rfl⟩) ?_)
  refine HK.out.mono ?_;rintro e w3 ⟨rfl,hb3⟩;obtain ⟨d0',eQ,H4⟩:=HT.out w3 hb3;replace eQ:=hid eQ;replace H4:=hid H4;unfold dB;clear hb3 HT HK h0 d0';go_wp2_with fail
  refine eQ.out.mono ?_;rintro e w4 ⟨rfl,hb4⟩;obtain ⟨⟨d0,d3,dk⟩,HC,HB⟩:=H4.out w4 hb4;replace HC:=hid HC;replace HB:=hid HB;clear hb4 H4 eQ;go_wp2_with (refine aA (aU dk ⟨_,rfl,rfl⟩) ?_)
  refine HC.out.mono ?_;rintro e w5 ⟨rfl,hb5⟩;have aa:=hid (HB.out w5 hb5);clear hb5 HB HC;unfold kL;go_wp2;go_ret;exact ⟨rfl,aa.out⟩
theorem VJ (q:Pa) (s:T) (M:Mp) (b:Nat) (hm:M.at_ b=some (.ext q s)) (w:World) (hi:Inv M w) (wa:aK) (wn wc:Nat) (way:Pa) (hW:bf w wa wn wc way) (hlen:way.length<=64) (hle:q.length<=way.length) (h:q<+:way) (g:Option (Option aL))
  (ih:∀ w' p a n c,Inv M w'->IsT M p s->bf w' a n c (way.drop q.length)->Calls prog 37 #[.agg #[.pointer p],.slice a n c] w' (λe w''=>e=kL g/\Below w'.heap.size w' w'')) :
  Calls prog 37 #[.agg #[.pointer (some ⟨b,0,none⟩)],.slice wa wn wc] w (λe w'=>e=kL g/\Below w.heap.size w w'):=by
  have h0:=fB w (some ⟨b,0,none⟩);obtain ⟨w1,hw1⟩:=au (w.alloc (.cells #[.pointer (some ⟨b,0,none⟩)] 35))
  have hb1:Below w.heap.size w w1:=by rw [hw1]; exact al1 _ _
  have hi1:=hi.below hb1;rw [<-hw1] at h0;have hwl:way.length=wn:=hW.len;have HK:=hid (dA M _ _ w1 hi1 (jP hi1 hm));obtain ⟨ka,kn,kc,c3,hKs⟩:=hi1.kids hm;obtain ⟨kb,ko,p0,rfl,d8,gj,hk0,hT0⟩:=hKs.at' 0 (by rw [<-hKs.len]; exact Nat.one_pos);have hkn:kn=1:=hKs.len.symm;have hkc:=hKs.1;have hkm:=hKs.2.1;unfold maxLen at hkm;rw [Nat.add_zero] at hk0;have bm:IsT M p0 s:=hT0
  have HT:Hid (∀ w3,Below w1.heap.size w1 w3->(w3.cell? ⟨w.heap.size,0,none⟩=some (.pointer (some ⟨b,0,none⟩))/\w3.cell? ⟨b,3,none⟩=some (.slice (some ⟨kb,ko,none⟩) kn kc)/\w3.cell? ⟨kb,ko,none⟩=some (.pointer p0))/\
    (∀ wx,Below w3.heap.size w3 wx->Calls prog 69 #[.agg #[.pointer (some ⟨b,0,none⟩)],.slice wa wn wc] wx (λe w'=>e = .returned (.slice (dL wa wc q.length) (wn-q.length) (wc-q.length))/\Below wx.heap.size wx w'))/\(∀ wx,Below w3.heap.size w3 wx->Calls prog 37 #[.agg #[.pointer p0],.slice (dL wa wc q.length) (wn-q.length) (wc-q.length)] wx (λe w''=>e=kL g/\Below wx.heap.size wx w''))/\∀ wx,Below w3.heap.size w3 wx->Below w.heap.size w wx):=hid (λw3 hb3 =>
   ⟨⟨aW hb3 h0,aW hb3 c3,aW hb3 hk0⟩,λwx hbx=>(by
    have:=Ai M b _ hm wa wn wc way wx (hi1.below (bst hb3 hbx)) (hW.below (bst (bst hb1 hb3) hbx)) (by rw [<-hwl]; exact hle) (by omega);rw [show (bU (.ext q s))=q from rfl,if_pos h] at this;exact this),λwx hbx=>(by
     have hB:=bst (bst hb1 hb3) hbx;exact ih wx p0 _ _ _ (hi.below hB) bm (yV (hW.below hB) _ (by rw [<-hwl]; exact hle))),λwx hbx=>bst (bst hb1 hb3) hbx⟩)
  clear hi hi1 hb1 hm hW hwl hKs hT0 bm c3 hk0 ih;subst hw1
  match g with
  | none | some none =>
  go_enter func37,ntmps37;go_wp2_with (refine aA (aU h0 ⟨_,rfl,rfl⟩) ?_)
  refine HK.out.mono ?_;rintro e w3 ⟨rfl,hb3⟩;obtain ⟨⟨d0,d3,dk⟩,HP,od,cG⟩:=HT.out w3 hb3;replace HP:=hid HP;replace od:=hid od;replace cG:=hid cG;unfold dB;clear hb3 HT HK h0;go_wp2_with fail
  refine wp_region_held_drew (S:=λw'=>Below w3.heap.size w3 w') (by kernel_rfl) ((below_drewN aH 1)) (λhld=>?_);refine ah 0 ?_;try simp only [Act.put,ak]
  refine aD 1 (λwz hSw=>aW hSw d0) ?_;try simp only [Act.put,ak]
  refine ah 2 ?_;try simp only [Act.put,ak]
  refine ah 3 ?_;try simp only [Act.put,ak]
  refine aD 4 (λwz hSw=>aW hSw d3) ?_;try simp only [Act.put,ak]
  refine ah 5 ?_;try simp only [Act.put,ak]
  refine ah 6 ?_ (hy:=by intro wz hSw; (refine aU (aW hSw dk) ?_; exact ⟨_,rfl,rfl⟩));try simp only [Act.put,ak]
  refine ah 7 ?_ (hy:=by intro wz hSw; (refine aU (aW hSw d0) ?_; exact ⟨_,rfl,rfl⟩));try simp only [Act.put,ak]
  refine ah 8 ?_;try simp only [Act.put,ak]
  refine aj 9 λK hK=>?_;go_simp;go_at_call 69
  (with_reducible refine (HP.out w3.drew (below_drewN aH 1)).mono ?_)
  rintro e w5 ⟨rfl,hb5⟩;have aa:Hid (Below w3.heap.size w3 w5):=hid (bst (below_drewN aH 1) hb5);clear hb5;refine hK.out _ _ (aa.out) λhld=>?_;clear hK K;try simp only [Act.put,ak]
  refine aj 10 λK hK=>?_;go_simp;go_at_call 37
  (with_reducible refine (od.out w5 aa.out).mono ?_)
  rintro e w6 ⟨rfl,hb6⟩;have bi:Hid (Below w3.heap.size w3 w6):=hid (bst aa.out hb6);clear hb6;simp +zetaDelta [bodyPost,Exit.then,kL];exact cG.out w6 bi.out
  | some (some v) =>
  go_enter func37,ntmps37;go_wp2_with (refine aA (aU h0 ⟨_,rfl,rfl⟩) ?_)
  refine HK.out.mono ?_;rintro e w3 ⟨rfl,hb3⟩;obtain ⟨⟨d0,d3,dk⟩,HP,od,cG⟩:=HT.out w3 hb3;replace HP:=hid HP;replace od:=hid od;replace cG:=hid cG;unfold dB;clear hb3 HT HK h0;go_wp2_with fail
  refine aC (S:=λw'=>Below w3.heap.size w3 w') ((below_drewN aH 1)) λhld=>?_;refine ah 0 ?_;try simp only [Act.put,ak]
  refine aD 1 (λwz hSw=>aW hSw d0) ?_;try simp only [Act.put,ak]
  refine ah 2 ?_;try simp only [Act.put,ak]
  refine ah 3 ?_;try simp only [Act.put,ak]
  refine aD 4 (λwz hSw=>aW hSw d3) ?_;try simp only [Act.put,ak]
  refine ah 5 ?_;try simp only [Act.put,ak]
  refine ah 6 ?_ (hy:=by intro wz hSw; (refine aU (aW hSw dk) ?_; exact ⟨_,rfl,rfl⟩));try simp only [Act.put,ak]
  refine ah 7 ?_ (hy:=by intro wz hSw; (refine aU (aW hSw d0) ?_; exact ⟨_,rfl,rfl⟩));try simp only [Act.put,ak]
  refine ah 8 ?_;try simp only [Act.put,ak]
  refine aj 9 λK hK=>?_;go_simp;go_at_call 69
  (with_reducible refine (HP.out w3.drew (below_drewN aH 1)).mono ?_)
  rintro e w5 ⟨rfl,hb5⟩;have aa:Hid (Below w3.heap.size w3 w5):=hid (bst (below_drewN aH 1) hb5);clear hb5;refine hK.out _ _ (aa.out) λhld=>?_;clear hK K;try simp only [Act.put,ak]
  refine aj 10 λK hK=>?_;go_simp;go_at_call 37
  (with_reducible refine (od.out w5 aa.out).mono ?_)
  rintro e w6 ⟨rfl,hb6⟩;have bi:Hid (Below w3.heap.size w3 w6):=hid (bst aa.out hb6);clear hb6;refine hK.out _ _ (bi.out) λhld=>?_;clear hK K;try simp only [Act.put,ak]
  refine ah 11 ?_;try simp only [Act.put,ak]
  refine aB ?_;go_wp2;go_ret;exact ⟨rfl,cG.out w6 bi.out⟩
theorem Ip (q:Pa) (s:T) (M:Mp) (b:Nat) (hm:M.at_ b=some (.ext q s)) (w:World) (hi:Inv M w) (wa:aK) (wn wc:Nat) (way:Pa) (hW:bf w wa wn wc way) (hlen:way.length<=64) (hle:q.length<=way.length) (h:¬ q<+:way) :
  Calls prog 37 #[.agg #[.pointer (some ⟨b,0,none⟩)],.slice wa wn wc] w (λe w'=>e = .panicked [fu 7]/\Below w.heap.size w w'):=by
  have h0:=fB w (some ⟨b,0,none⟩);obtain ⟨w1,hw1⟩:=au (w.alloc (.cells #[.pointer (some ⟨b,0,none⟩)] 35))
  have hb1:Below w.heap.size w w1:=by rw [hw1]; exact al1 _ _
  have hi1:=hi.below hb1;rw [<-hw1] at h0;have hwl:way.length=wn:=hW.len;have HK:=hid (dA M _ _ w1 hi1 (jP hi1 hm));obtain ⟨ka,kn,kc,c3,hKs⟩:=hi1.kids hm;obtain ⟨kb,ko,p0,rfl,d8,gj,hk0,hT0⟩:=hKs.at' 0 (by rw [<-hKs.len]; exact Nat.one_pos);have hkn:kn=1:=hKs.len.symm;have hkc:=hKs.1;have hkm:=hKs.2.1;unfold maxLen at hkm;rw [Nat.add_zero] at hk0;have bm:IsT M p0 s:=hT0
  have HT:Hid (∀ w3,Below w1.heap.size w1 w3->(w3.cell? ⟨w.heap.size,0,none⟩=some (.pointer (some ⟨b,0,none⟩))/\w3.cell? ⟨b,3,none⟩=some (.slice (some ⟨kb,ko,none⟩) kn kc)/\w3.cell? ⟨kb,ko,none⟩=some (.pointer p0))/\
    (∀ wx,Below w3.heap.size w3 wx->Calls prog 69 #[.agg #[.pointer (some ⟨b,0,none⟩)],.slice wa wn wc] wx (λe w'=>e = .panicked [fu 7]/\Below wx.heap.size wx w'))/\(∀ wx,Below w3.heap.size w3 wx->True)/\∀ wx,Below w3.heap.size w3 wx->Below w.heap.size w wx):=hid (λw3 hb3 =>
   ⟨⟨aW hb3 h0,aW hb3 c3,aW hb3 hk0⟩,λwx hbx=>(by
    have:=Ai M b _ hm wa wn wc way wx (hi1.below (bst hb3 hbx)) (hW.below (bst (bst hb1 hb3) hbx)) (by rw [<-hwl]; exact hle) (by omega);rw [show (bU (.ext q s))=q from rfl,if_neg h] at this;exact this),λwx hbx=>trivial,λwx hbx=>bst (bst hb1 hb3) hbx⟩)
  clear hi hi1 hb1 hm hW hwl hKs hT0 bm c3 hk0 ;subst hw1;go_enter func37,ntmps37;go_wp2_with (refine aA (aU h0 ⟨_,rfl,rfl⟩) ?_)
  refine HK.out.mono ?_;rintro e w3 ⟨rfl,hb3⟩;obtain ⟨⟨d0,d3,dk⟩,HP,od,cG⟩:=HT.out w3 hb3;replace HP:=hid HP;replace od:=hid od;replace cG:=hid cG;unfold dB;clear hb3 HT HK h0;go_wp2_with fail
  refine wp_region_held_drew (S:=λw'=>Below w3.heap.size w3 w') (by kernel_rfl) ((below_drewN aH 1)) (λhld=>?_);refine ah 0 ?_;try simp only [Act.put,ak]
  refine aD 1 (λwz hSw=>aW hSw d0) ?_;try simp only [Act.put,ak]
  refine ah 2 ?_;try simp only [Act.put,ak]
  refine ah 3 ?_;try simp only [Act.put,ak]
  refine aD 4 (λwz hSw=>aW hSw d3) ?_;try simp only [Act.put,ak]
  refine ah 5 ?_;try simp only [Act.put,ak]
  refine ah 6 ?_ (hy:=by intro wz hSw; (refine aU (aW hSw dk) ?_; exact ⟨_,rfl,rfl⟩));try simp only [Act.put,ak]
  refine ah 7 ?_ (hy:=by intro wz hSw; (refine aU (aW hSw d0) ?_; exact ⟨_,rfl,rfl⟩));try simp only [Act.put,ak]
  refine ah 8 ?_;try simp only [Act.put,ak]
  refine aj 9 λK hK=>?_;go_simp;go_at_call 69
  (with_reducible refine (HP.out w3.drew (below_drewN aH 1)).mono ?_)
  rintro e w5 ⟨rfl,hb5⟩;have aa:Hid (Below w3.heap.size w3 w5):=hid (bst (below_drewN aH 1) hb5);clear hb5;simp +zetaDelta [bodyPost,Exit.then];exact cG.out w5 aa.out
theorem TM (t:T):ZQ t:=by
 induction t with
 | nil =>
  intro M w p a n c way hi ht hW hg hn hl;obtain rfl:p=none:=ht.oC.2 rfl;exact VE M a n c w hi
 | stub r =>
  intro M w p a n c way hi ht hW hg hn hl;obtain ⟨b,rfl,hm⟩:=ht.at_ (λe=>by cases e);exact QG M b r hm a n c w hi
 | leaf q u =>
  intro M w p a n c way hi ht hW hg hn hl;obtain ⟨b,rfl,hm⟩:=ht.at_ (λe=>by cases e);exact OE M b q u hm a n c way w hi hW hg.1 hl
 | ext q s ih =>
  intro M w p a n c way hi ht hW hg hn hl;obtain ⟨b,rfl,hm⟩:=ht.at_ (λe=>by cases e);obtain ⟨g1,g2,g3,g4,g5⟩:=hg;by_cases e:q<+:way
  .have hgs:Tr.Good s (way.drop q.length).length:=by rw [List.length_drop]; exact g5
   have hget:Tr.get (.ext q s) way=Tr.get s (way.drop q.length):=by
    show (if q<+:way then Tr.get s (way.drop q.length) else some none)=_;rw [if_pos e]
   rw [hget];exact VJ q s M b hm w hi a n c way hW hl g3 e _ (λw' p' a' n' c' hi' ht' hW'=>ih M w' p' a' n' c' _ hi' ht' hW' hgs (hn.drop _) (by rw [List.length_drop]; omega))
  .have hget:Tr.get (.ext q s) way=some none:=by
    show (if q<+:way then Tr.get s (way.drop q.length) else some none)=_;rw [if_neg e]
   rw [hget];exact Ip q s M b hm w hi a n c way hW hl g3 e
 | br ks ih =>
  intro M w p a n c way hi ht hW hg hn hl;obtain ⟨b,rfl,hm⟩:=ht.at_ (λe=>by cases e);cases way with
  | nil=>exact absurd hg.1 (Nat.lt_irrefl 0)
  | cons c0 r =>
   exact Xn ks M b hm w hi a n c c0 r hW hn.head hl _ (λw' p' a' n' c' hi' ht' hW'=>ih (nb c0) M w' p' a' n' c' r hi' ht' hW' (hg.2.2 (nb c0)) hn.tail (by simp at hl; omega))
end Tm
end
section
open Go.RowKit
namespace Tk
open Pk
theorem mJ (p:Addr) (x c:Int) (older:List PanicEntry) (w:World) (hc:w.cell? p=some (.int .i64 x)) (hz:w.frozen? p=false) :
  CallsD prog 66 #[.pointer (some p)] (.panicking (fu c::older)) w λe u' w' =>
   e = .returned (.tuple #[])/\u' = .panicking ({ fu c with recovered:=true }::older)/\w'=w.setCell p (.int .i64 c):=by
 refine callsD_of_wpS func66 rfl λc₀ cs hu=>?_;apply wpS_seq;apply wpS_region;simp [wpOpsS,go_sem,recoverD,hu,fu,ntmps66,Exit.thenS];apply wpS_seq;apply wpS_region;simp [wpOpsS,go_sem,Exit.thenS];refine wpS_cond (t:=true) (by simp [Act.eval,Array.replicate]) ?_;simp only [if_true];apply wpS_region;have Ft:(Instr.typeAssert (.iface 30 (.int .i64 c)) 20 30 false).run prog w = .ok (.int .i64 c) w:=by kernel_rfl
 simp [wpOpsS,go_sem,Ft,hc,hz,bodyPostS,results,Tryz.results66]
theorem tZ (p:Addr) (w:World) :
  CallsD prog 66 #[.pointer (some p)] .returning w λe u' w'=>e = .returned (.tuple #[])/\u' = .returning/\w'=w:=by
 refine callsD_of_wpS func66 rfl λc₀ cs hu=>?_;apply wpS_seq;apply wpS_region;simp [wpOpsS,go_sem,recoverD,hu,ntmps66,Exit.thenS];apply wpS_seq;apply wpS_region;simp [wpOpsS,go_sem,Exit.thenS];refine wpS_cond (t:=false) (by simp [Act.eval,Array.replicate]) ?_;simp only [Bool.false_eq_true,if_false];refine wpS_of_wp (wp_skip ?_);cases c₀
 simp_all [bodyPostS,results,Tryz.results66]
theorem pQ (D:FuncId) (caps:aN) (hD:∀ w,(callFunc D caps).run prog w = .ok (.enter D caps) w) (w:World) (R:World->Prop)
  (h:Calls prog D caps (w.alloc (.cells #[.int .i64 0] 30)) λe w'=>e = .returned (.tuple #[])/\(w'.cell? ⟨w.heap.size,0,none⟩=some (.int .i64 0)/\w'.frozen? ⟨w.heap.size,0,none⟩=false)/\R w') :
  Calls prog 35 #[.func (.func D) #[] caps] w λe w'=>e = .returned (.int .i64 0)/\∃ w1,R w1/\w'=w1.setCell ⟨w.heap.size,0,none⟩ (.int .i64 0):=by
 have da:∀ (fn:Fn) (first cap:aN) (w:World),(Instr.makeFunc fn first cap).run prog w = .ok (.func fn first cap) w:=λ_ _ _ _=>rfl;have H:=hid h;clear h;go_enter_defers func35,ntmps35
 go_wp2_with fail
 refine H.out.mono ?_;rintro e w1 ⟨rfl,⟨hc,hz⟩,hR⟩;have HR:=hid hR;clear hR H;go_wp2;refine leaves_cons (f:=66) (args:=#[.pointer (some ⟨w.heap.size,0,none⟩)]) (by simp) (by simp [go_sem]) ?_;refine (tZ ⟨w.heap.size,0,none⟩ _).mono ?_;rintro e u' w'' ⟨rfl,rfl,rfl⟩;simp [Leaves,settle,results,Tryz.results35,go_sem,hc];exact ⟨w1,HR.out,rfl⟩
theorem qd (D:FuncId) (caps:aN) (hD:∀ w,(callFunc D caps).run prog w = .ok (.enter D caps) w) (w:World) (c:Int) (R:World->Prop)
  (h:Calls prog D caps (w.alloc (.cells #[.int .i64 0] 30)) λe w'=>e = .panicked [fu c]/\(w'.cell? ⟨w.heap.size,0,none⟩=some (.int .i64 0)/\w'.frozen? ⟨w.heap.size,0,none⟩=false)/\R w') :
  Calls prog 35 #[.func (.func D) #[] caps] w λe w'=>e = .returned (.int .i64 c)/\∃ w1,R w1/\w'=w1.setCell ⟨w.heap.size,0,none⟩ (.int .i64 c):=by
 have da:∀ (fn:Fn) (first cap:aN) (w:World),(Instr.makeFunc fn first cap).run prog w = .ok (.func fn first cap) w:=λ_ _ _ _=>rfl;have H:=hid h;clear h;go_enter_defers func35,ntmps35
 go_wp2_with fail
 refine H.out.mono ?_;rintro e w1 ⟨rfl,⟨hc,hz⟩,hR⟩;have HR:=hid hR;clear hR H;go_wp2;refine leaves_cons (f:=66) (args:=#[.pointer (some ⟨w.heap.size,0,none⟩)]) (by simp) (by simp [go_sem]) ?_;refine (mJ ⟨w.heap.size,0,none⟩ 0 c [] _ hc hz).mono ?_;rintro e u' w'' ⟨rfl,rfl,rfl⟩;simp [Leaves,settle,results,Tryz.results35,go_sem,hc];exact ⟨w1,HR.out,rfl⟩
end Tk
end
section
open Go.RowKit
namespace Tm
open Tr Ni Pk
theorem Ye (p:aK) (k:aM) (hk:k.length=32) (bt bk br:Nat) (v:aL) (w:World) (ma:Rg.Own w bt #[.pointer p] 35) (mb:Rg.Own w bk (Ky.kc k) 24) (h1:bt≠br) (h2:bk≠br)
  (hOr:Rg.Own w br #[.string eB] 9) (hC:∀ w5,Below w.heap.size w w5->∀ a5 n5 c5,bf w5 a5 n5 c5 (Ky.bJ k)->Calls prog 37 #[.agg #[.pointer p],.slice a5 n5 c5] w5 (λe w'=>e = .returned (.string v)/\Below w5.heap.size w5 w')) :
  Calls prog 36 #[.pointer (some ⟨bt,0,none⟩),.pointer (some ⟨bk,0,none⟩),.pointer (some ⟨br,0,none⟩)] w (λe w'=>e = .returned (.tuple #[])/\Rg.Own w' br #[.string v] 9/\Bo br w w'):=by
 have fa:=hid (λwx=>Ky.vg k hk wx);have pm:=hid ma;have gm:=hid mb;have HOr:=hid hOr;have HC:=hid hC;clear hOr hC;clear ma mb;go_enter func36,ntmps36;go_wp2_with fail
 refine aC (S:=λw'=>Bo br w w') (Bo.of (below_drewN aH 1)) λhld=>?_;refine ah 0 ?_ (hy:=by intro wz hSw; (refine aU (aV (j:=0) (nQ hSw pm.out (by omega)) rfl) ?_; exact ⟨_,rfl,rfl⟩));try simp only [Act.put,ak]
 refine ah 1 ?_ (hy:=by intro wz hSw; (refine bX hk (nQ hSw gm.out (by omega)).2 ?_; exact ⟨_,rfl,rfl⟩));try simp only [Act.put,ak]
 refine aj 2 λK hK=>?_;go_simp;go_at_call 38
 (with_reducible refine (fa.out w.drew).mono ?_)
 rintro e w5 ⟨a5,n5,c5,rfl,hx5,hb5⟩;have aa:Hid (Below w.heap.size w w5):=hid (bst (below_drewN aH 1) hb5);have fy:=hid hx5;clear hb5 hx5;refine hK.out _ _ (Bo.of aa.out) λhld=>?_;clear hK K;try simp only [Act.put,ak]
 refine aj 3 λK hK=>?_;go_simp;go_at_call 37
 (with_reducible refine (HC.out w5 aa.out a5 n5 c5 fy.out).mono ?_)
 rintro e w6 ⟨rfl,hb6⟩;have cI:Below w.heap.size w w6:=bst aa.out hb6;have cA:=hid (HOr.out.below cI);refine hK.out _ _ (Bo.of cI) λhld=>?_;clear hK K;try simp only [Act.put,ak]
 refine aj 4 λK hK=>?_;refine Aa (by rfl) cA.out v ⟨_,_,rfl,rfl,rfl⟩ ?_;intro af ai al;refine hK.out _ _ ((Bo.of cI).upd al) λhld=>?_;clear hK K;try simp only [Act.put,ak]
 refine aB ?_;go_wp2;go_end0;exact ⟨rfl,ai,(Bo.of cI).upd al⟩
theorem Tw (p:aK) (k:aM) (hk:k.length=32) (bt bk br:Nat) (c:Int) (w:World) (ma:Rg.Own w bt #[.pointer p] 35) (mb:Rg.Own w bk (Ky.kc k) 24) (h1:bt≠br) (h2:bk≠br)
  (hC:∀ w5,Below w.heap.size w w5->∀ a5 n5 c5,bf w5 a5 n5 c5 (Ky.bJ k)->Calls prog 37 #[.agg #[.pointer p],.slice a5 n5 c5] w5 (λe w'=>e = .panicked [fu c]/\Below w5.heap.size w5 w')) :
  Calls prog 36 #[.pointer (some ⟨bt,0,none⟩),.pointer (some ⟨bk,0,none⟩),.pointer (some ⟨br,0,none⟩)] w (λe w'=>e = .panicked [fu c]/\Below w.heap.size w w'):=by
 have fa:=hid (λwx=>Ky.vg k hk wx);have pm:=hid ma;have gm:=hid mb;have HC:=hid hC;clear hC;clear ma mb;go_enter func36,ntmps36;go_wp2_with fail
 refine wp_region_held_drew (S:=λw'=>Bo br w w') (by kernel_rfl) (Bo.of (below_drewN aH 1)) (λhld=>?_);refine ah 0 ?_ (hy:=by intro wz hSw; (refine aU (aV (j:=0) (nQ hSw pm.out (by omega)) rfl) ?_; exact ⟨_,rfl,rfl⟩));try simp only [Act.put,ak]
 refine ah 1 ?_ (hy:=by intro wz hSw; (refine bX hk (nQ hSw gm.out (by omega)).2 ?_; exact ⟨_,rfl,rfl⟩));try simp only [Act.put,ak]
 refine aj 2 λK hK=>?_;go_simp;go_at_call 38
 (with_reducible refine (fa.out w.drew).mono ?_)
 rintro e w5 ⟨a5,n5,c5,rfl,hx5,hb5⟩;have aa:Hid (Below w.heap.size w w5):=hid (bst (below_drewN aH 1) hb5);have fy:=hid hx5;clear hb5 hx5;refine hK.out _ _ (Bo.of aa.out) λhld=>?_;clear hK K;try simp only [Act.put,ak]
 refine aj 3 λK hK=>?_;go_simp;go_at_call 37
 (with_reducible refine (HC.out w5 aa.out a5 n5 c5 fy.out).mono ?_)
 rintro e w6 ⟨rfl,hb6⟩;simp +zetaDelta [bodyPost,Exit.then];exact bst aa.out hb6
theorem Wx (p:aK) (k:aM) (hk:k.length=32) (bt bk br:Nat) (bs:Nat) (v:aL) (w:World) (ma:Rg.Own w bt #[.pointer p] 35) (mb:Rg.Own w bk (Ky.kc k) 24) (h1:bt≠br) (h2:bk≠br)
  (hOr:Rg.Own w br #[.pointer none] 35) (M:Mp) (hi:Inv M w) (R:T) (hC:∀ w5,Below w.heap.size w w5->∀ a5 n5 c5,bf w5 a5 n5 c5 (Ky.bJ k)->Calls prog 54 #[.agg #[.pointer p],.slice a5 n5 c5,.string v] w5 (dz (plus M (inS a5 n5)) w5 R)) (y6:Rg.Own w bs #[.string v] 9) (h3:bs≠br) :
  Calls prog 53 #[.pointer (some ⟨bt,0,none⟩),.pointer (some ⟨bk,0,none⟩),.pointer (some ⟨bs,0,none⟩),.pointer (some ⟨br,0,none⟩)] w (λe w'=>e = .returned (.tuple #[])/\∃ p' M' w6,IsT M' p' R/\St M w M' w6/\Rg.Upd w6 br w'/\Rg.Own w' br #[.pointer p'] 35):=by
 have fa:=hid (λwx=>Ky.vg k hk wx);have pm:=hid ma;have gm:=hid mb;have HF:Hid (∀ w5,Below w.heap.size w w5->∀ a5 n5 c5,bf w5 a5 n5 c5 (Ky.bJ k)->∀ e w6,dz (plus M (inS a5 n5)) w5 R e w6->∃ p6,e = .returned (tv p6)/\Below w.heap.size w w6/\Rg.Own w6 br #[.pointer none] 35/\∀ af,Rg.Own af br #[.pointer p6] 35->Rg.Upd w6 br af->∃ p' M' w6,IsT M' p' R/\St M w M' w6/\Rg.Upd w6 br af/\Rg.Own af br #[.pointer p'] 35):=hid (λw5 hb5 a5 n5 c5 hx e w6 hG=>by
  have hs:St M w (plus M (inS a5 n5)) w5:=((St.refl hi).below hb5).bytes hx;obtain ⟨p6,M6,he,hT,hS,_,hb6⟩:=hs.got hG;exact ⟨p6,he,hS.b,hOr.below hS.b,λaf hO hu=>⟨p6,M6,w6,hT,hS,hu,hO⟩⟩)
 have HC:=hid hC;have GP:=hid y6;clear y6;clear hOr hC hi;clear ma mb;go_enter func53,ntmps53;go_wp2_with fail
 refine aC (S:=λw'=>Bo br w w') (Bo.of (below_drewN aH 1)) λhld=>?_;refine ah 0 ?_ (hy:=by intro wz hSw; (refine aU (aV (j:=0) (nQ hSw pm.out (by omega)) rfl) ?_; exact ⟨_,rfl,rfl⟩));try simp only [Act.put,ak]
 refine ah 1 ?_ (hy:=by intro wz hSw; (refine bX hk (nQ hSw gm.out (by omega)).2 ?_; exact ⟨_,rfl,rfl⟩));try simp only [Act.put,ak]
 refine ah 3 ?_ (hy:=by intro wz hSw; (refine dV (aV (j:=0) (nQ hSw GP.out (by omega)) rfl) ?_; exact ⟨_,rfl,rfl⟩));try simp only [Act.put,ak]
 refine aj 2 λK hK=>?_;go_simp;go_at_call 38
 (with_reducible refine (fa.out w.drew).mono ?_)
 rintro e w5 ⟨a5,n5,c5,rfl,hx5,hb5⟩;have aa:Hid (Below w.heap.size w w5):=hid (bst (below_drewN aH 1) hb5);have fy:=hid hx5;clear hb5 hx5;refine hK.out _ _ (Bo.of aa.out) λhld=>?_;clear hK K;try simp only [Act.put,ak]
 refine aj 4 λK hK=>?_;go_simp;go_at_call 54
 (with_reducible refine (HC.out w5 aa.out a5 n5 c5 fy.out).mono ?_)
 intro e w6 hG;obtain ⟨p6,rfl,cI,H6⟩:=HF.out w5 aa.out a5 n5 c5 fy.out e w6 hG;replace H6:=hid H6;clear hG;refine hK.out _ _ (Bo.of cI) λhld=>?_;clear hK K;try simp only [Act.put,ak]
 refine aj 5 λK hK=>?_;refine eD (by rfl) H6.out.1 (off:=0) (by decide) p6 ⟨_,_,rfl,rfl,rfl⟩ ?_;intro af ai al;have ge:=hid (H6.out.2 af ai al);clear ai;refine hK.out _ _ ((Bo.of cI).upd al) λhld=>?_;clear hK K;try simp only [Act.put,ak]
 refine aB ?_;go_wp2;go_end0;exact ⟨rfl,ge.out⟩
theorem Ua (p:aK) (k:aM) (hk:k.length=32) (bt bk br:Nat) (bs:Nat) (v:aL) (c:Int) (w:World) (ma:Rg.Own w bt #[.pointer p] 35) (mb:Rg.Own w bk (Ky.kc k) 24) (h1:bt≠br) (h2:bk≠br)
  (y6:Rg.Own w bs #[.string v] 9) (h3:bs≠br) (hC:∀ w5,Below w.heap.size w w5->∀ a5 n5 c5,bf w5 a5 n5 c5 (Ky.bJ k)->Calls prog 54 #[.agg #[.pointer p],.slice a5 n5 c5,.string v] w5 (λe w'=>e = .panicked [fu c]/\Below w5.heap.size w5 w')) :
  Calls prog 53 #[.pointer (some ⟨bt,0,none⟩),.pointer (some ⟨bk,0,none⟩),.pointer (some ⟨bs,0,none⟩),.pointer (some ⟨br,0,none⟩)] w (λe w'=>e = .panicked [fu c]/\Below w.heap.size w w'):=by
 have fa:=hid (λwx=>Ky.vg k hk wx);have pm:=hid ma;have gm:=hid mb;have HC:=hid hC;have GP:=hid y6;clear hC y6;clear ma mb;go_enter func53,ntmps53;go_wp2_with fail
 refine wp_region_held_drew (S:=λw'=>Bo br w w') (by kernel_rfl) (Bo.of (below_drewN aH 1)) (λhld=>?_);refine ah 0 ?_ (hy:=by intro wz hSw; (refine aU (aV (j:=0) (nQ hSw pm.out (by omega)) rfl) ?_; exact ⟨_,rfl,rfl⟩));try simp only [Act.put,ak]
 refine ah 1 ?_ (hy:=by intro wz hSw; (refine bX hk (nQ hSw gm.out (by omega)).2 ?_; exact ⟨_,rfl,rfl⟩));try simp only [Act.put,ak]
 refine ah 3 ?_ (hy:=by intro wz hSw; (refine dV (aV (j:=0) (nQ hSw GP.out (by omega)) rfl) ?_; exact ⟨_,rfl,rfl⟩));try simp only [Act.put,ak]
 refine aj 2 λK hK=>?_;go_simp;go_at_call 38
 (with_reducible refine (fa.out w.drew).mono ?_)
 rintro e w5 ⟨a5,n5,c5,rfl,hx5,hb5⟩;have aa:Hid (Below w.heap.size w w5):=hid (bst (below_drewN aH 1) hb5);have fy:=hid hx5;clear hb5 hx5;refine hK.out _ _ (Bo.of aa.out) λhld=>?_;clear hK K;try simp only [Act.put,ak]
 refine aj 4 λK hK=>?_;go_simp;go_at_call 54
 (with_reducible refine (HC.out w5 aa.out a5 n5 c5 fy.out).mono ?_)
 rintro e w6 ⟨rfl,hb6⟩;simp +zetaDelta [bodyPost,Exit.then];exact bst aa.out hb6
open Ky
theorem VY (w:World) (p:aK) (C:aN) (cs:aN) (T:TypeId):∃ w4,w4=((w.alloc (.cells #[.pointer p] 35)).alloc (.cells C 24)).alloc (.cells cs T)/\Rg.Own w4 w.heap.size #[.pointer p] 35/\Rg.Own w4 (w.heap.size+1) C 24/\Rg.Own w4 (w.heap.size+2) cs T/\Below w.heap.size w w4/\w4.heap.size=w.heap.size+3:=by
 have h2:=Rg.Own.new (w.alloc (.cells #[.pointer p] 35)) C 24;have h3:=Rg.Own.new ((w.alloc (.cells #[.pointer p] 35)).alloc (.cells C 24)) cs T;rw [show (w.alloc (.cells #[.pointer p] 35)).heap.size=w.heap.size+1 by simp] at h2;rw [show ((w.alloc (.cells #[.pointer p] 35)).alloc (.cells C 24)).heap.size=w.heap.size+2 by simp] at h3;exact ⟨_,rfl,((Rg.Own.new _ _ _).below (al1 _ _)).below (al1 _ _),h2.below (al1 _ _),h3,(al2 _ _ _).alloc (by simp; omega) _,by simp⟩
theorem Yk (x:Int):∀ (j:Nat) (y:Int),(#[Value.int .i64 x]:aN)[j]? ≠ some (Value.int .u8 y):=λj y h=>by
 match j,h with
 | 0,h=>simp at h
 | j+1,h=>simp at h
theorem uV {b:Nat} (h:Rg.Own w b #[v] t):w.cell? ⟨b,0,none⟩=some v/\w.frozen? ⟨b,0,none⟩=false:=⟨aV (j:=0) h rfl,gJ h⟩
def Ov:Option (Option aL)->Value
 | none=>.tuple #[.string eB,.int .i64 8]
 | some none=>.tuple #[.string eB,.int .i64 7]
 | some (some v)=>.tuple #[.string v,.int .i64 0]
theorem qR (p:aK) (k:aM) (x:aL) (c:Int) (w w4:World) (hw4:w4=((w.alloc (.cells #[.pointer p] 35)).alloc (.cells (kc k) 24)).alloc (.cells #[.string eB] 9))
  (h:Calls prog 35 #[.func (.func 36) #[] #[.pointer (some ⟨w.heap.size,0,none⟩),.pointer (some ⟨w.heap.size+1,0,none⟩),.pointer (some ⟨w.heap.size+2,0,none⟩)]] w4 λe w'=>e = .returned (.int .i64 c)/\Rg.Own w' (w.heap.size+2) #[.string x] 9/\Below w.heap.size w w') :
  Calls prog 19 #[.agg #[.pointer p],.agg (kc k)] w λe w'=>e = .returned (.tuple #[.string x,.int .i64 c])/\Below w.heap.size w w':=by
 have da:∀ (fn:Fn) (first cap:aN) (w:World),(Instr.makeFunc fn first cap).run prog w = .ok (.func fn first cap) w:=λ_ _ _ _=>rfl;obtain ⟨C,hC⟩:=ay (kc k)
 have HH:=hid h;have HW:=hid hw4;rw [hC] at HW ⊢;clear h hw4 hC;go_enter func19,ntmps19;go_wp2_with fail
 rw [<-HW.out];refine HH.out.mono ?_;rintro e w5 ⟨rfl,ap,ei⟩;have az:=hid ap;have aa:=hid ei;clear ap ei HH HW da;go_wp2_with (first
  | (refine aA (dV (aV (j:=0) az.out rfl) ⟨_,rfl,rfl⟩) ?_)
  | (refine BN az.out x rfl _ _ rfl rfl rfl ?_; intro w6 cz db; have cA:=hid cz; have bi:Hid (Below w.heap.size w w6):=hid (db.below aa.out (by omega)); clear cz db))
 exact bodyPost_ret (TQ rfl _ rfl cA.out) rfl ⟨rfl,bi.out⟩
theorem vY (M:Mp) (p:aK) (t:T) (k:aM) (hk:k.length=32) (w:World) (hi:Inv M w) (ht:IsT M p t) (hg:Tr.Good t 64) :
  Calls prog 19 #[.agg #[.pointer p],.agg (kc k)] w λe w'=>e = .returned (Ov (Tr.get t (path k)))/\Below w.heap.size w w':=by
 obtain ⟨w4,hw4,am,ab,hO2,hb4,hs4⟩:=VY w p (kc k) #[.string eB] 9;have hE:Rg.Own (w4.alloc (.cells #[.int .i64 0] 30)) w4.heap.size #[.int .i64 0] 30:=Rg.Own.new _ _ _;have hA:=al1 w4 (.cells #[.int .i64 0] 30);obtain ⟨wc,hwc⟩:=ay (w4.alloc (.cells #[.int .i64 0] 30))
 rw [hwc] at hE hA;have hbc:=bst hb4 hA;have hic:=hi.below hbc;have hpl:(path k).length=64:=by rw [Tr.iG,hk]
 have hfind:∀ w5,Below wc.heap.size wc w5->∀ a5 n5 c5,bf w5 a5 n5 c5 (bJ k)->Calls prog 37 #[.agg #[.pointer p],.slice a5 n5 c5] w5 (λe w'=>e=kL (Tr.get t (path k))/\Below w5.heap.size w5 w'):=λw5 hb5 a5 n5 c5 hx =>
  TM t M w5 p a5 n5 c5 (path k) (hic.below hb5) ht hx (by rw [hpl]; exact hg) (kH k) (by omega)
 have hD:∀ wx,(callFunc 36 #[.pointer (some ⟨w.heap.size,0,none⟩),.pointer (some ⟨w.heap.size+1,0,none⟩),.pointer (some ⟨w.heap.size+2,0,none⟩)]).run prog wx = .ok (.enter 36 #[.pointer (some ⟨w.heap.size,0,none⟩),.pointer (some ⟨w.heap.size+1,0,none⟩),.pointer (some ⟨w.heap.size+2,0,none⟩)]) wx:=by intro wx; kernel_rfl
 have mc:∀ c:Int,kL (Tr.get t (path k)) = .panicked [fu c]->Ov (Tr.get t (path k)) = .tuple #[.string eB,.int .i64 c]->Calls prog 19 #[.agg #[.pointer p],.agg (kc k)] w λe w'=>e = .returned (Ov (Tr.get t (path k)))/\Below w.heap.size w w':=λc hc hv=>by
  rw [hv];refine qR p k eB c w w4 hw4 ((Tk.qd 36 _ hD w4 c (λw'=>Below wc.heap.size wc w') (by
   rw [hwc];refine (Tw p k hk _ _ _ c wc (am.below hA) (ab.below hA) (by omega) (by omega) (λw5 hb5 a5 n5 c5 hx=>by rw [<-hc]; exact hfind w5 hb5 a5 n5 c5 hx)).mono ?_;rintro e w' ⟨rfl,hb⟩;exact ⟨rfl,uV (hE.below hb),hb⟩)).mono ?_)
  rintro e w' ⟨rfl,w1,hb,rfl⟩;exact ⟨rfl,((hO2.below hA).below hb).upd (bN _ _ _ _) (by omega),(bN w1 w4.heap.size 0 (.int .i64 c)).below (bst hbc hb) (by omega)⟩
 match hget:Tr.get t (path k),hfind,mc with
 | none,_,mc=>exact mc 8 rfl rfl
 | some none,_,mc=>exact mc 7 rfl rfl
 | some (some v),hfind,_ =>
  refine qR p k v 0 w w4 hw4 ((Tk.pQ 36 _ hD w4 (λw'=>Rg.Own w' (w.heap.size+2) #[.string v] 9/\Bo (w.heap.size+2) wc w'/\Below w.heap.size w w') (by
   rw [hwc];refine ((Ye p k hk w.heap.size (w.heap.size+1) (w.heap.size+2) v wc (am.below hA) (ab.below hA) (by omega) (by omega) (hO2.below hA) (λw5 hb5 a5 n5 c5 hx=>hfind w5 hb5 a5 n5 c5 hx))).mono ?_;rintro e w' ⟨rfl,hO,hb⟩;have hbw:Below w.heap.size w w':=hb.below hbc (by have:=hbc.size; omega) (by omega);exact ⟨rfl,uV (nQ hb hE (by omega)),hO,hb,hbw⟩)).mono ?_)
  rintro e w' ⟨rfl,w1,⟨hO,hb,hB⟩,rfl⟩;exact ⟨rfl,hO.upd (bN _ _ _ _) (by omega),(bN w1 w4.heap.size 0 (.int .i64 0)).below hB (by omega)⟩
def Ja (M:Mp) (w:World) (t:T) (c:Int) (e:Ending) (w':World):Prop:=∃ p M',e = .returned (.tuple #[tv p,.int .i64 c])/\IsT M' p t/\Fr M M' w w'/\Inv M' w'/\Below w.heap.size w w'
def MW (M:Mp) (w:World) (br:Nat) (t:T) (w':World):Prop:=∃ p M',Rg.Own w' br #[.pointer p] 35/\IsT M' p t/\Fr M M' w w'/\Inv M' w'/\Below w.heap.size w w'/\¬ M'.ft br
theorem MW.end_ {M:Mp} {w5 w6:World} {br:Nat} {t:T} (h:MW M w br t w5) (hg:w.heap.size<=br):∃ p,Rg.Own w5 br #[.pointer p] 35/\∀ w6,Rg.Upd w5 br w6->Ja M w t c (.returned (.tuple #[tv p,.int .i64 c])) w6:=by
 obtain ⟨p,M',hO,hT,f,i,b,hn⟩:=h;exact ⟨p,hO,λw6 hu=>⟨p,M',rfl,hT,f.upd hu hg,i.upd hu hn,hu.below b hg⟩⟩
theorem Zr {M M':Mp} {wc w6 w1:World} {br be:Nat} {t:T} {cs:aN} {te:TypeId} (hi:Inv M w) (hbc:Below w.heap.size w wc) (hT:IsT M' p t) (hS:St M wc M' w6) (hu:Rg.Upd w6 br w1) (hO:Rg.Own w1 br #[.pointer p] T')
  (hOr:Rg.Own wc br #[.pointer none] 35) (O8:Rg.Own wc be cs te) (hne:∀ (j:Nat) (x:Int),cs[j]? ≠ some (Value.int .u8 x)) (hgr:w.heap.size<=br) (hge:w.heap.size<=be) (hre:br≠be) (ir:T'=35) (x:Value):MW M w br t (w1.setCell ⟨be,0,none⟩ x):=by
 subst ir;have hu2:=bN w1 be 0 x;have nr:¬ M'.ft br:=hS.f.box (hi.free hgr) hOr.1 (cZ hOr (eH _));have ne:¬ M'.ft be:=hS.f.box (hi.free hge) O8.1 (cZ O8 hne);have hf:=(((Fr.below M hbc).trans hi hS.f).upd hu hgr).upd hu2 hge;exact ⟨p,M',hO.upd hu2 hre,hT,hf,(hS.i.upd hu nr).upd hu2 ne,hu2.below (hu.below (bst hbc hS.b) hgr) hge,nr⟩
theorem Gb (M:Mp) (p:aK) (k:aM) (v:aL) (hv0:v.size≠0) (hv1:v.size<=65552) (R:T) (c:Int) (w w4:World) (hw4:w4=(((w.alloc (.cells #[.pointer p] 35)).alloc (.cells (kc k) 24)).alloc (.cells #[.string v] 9)).alloc (.cells #[.pointer none] 35))
  (h:Calls prog 35 #[.func (.func 53) #[] #[.pointer (some ⟨w.heap.size,0,none⟩),.pointer (some ⟨w.heap.size+1,0,none⟩),.pointer (some ⟨w.heap.size+2,0,none⟩),.pointer (some ⟨w.heap.size+3,0,none⟩)]] w4 λe w'=>e = .returned (.int .i64 c)/\MW M w (w.heap.size+3) R w') :
  Calls prog 29 #[.agg #[.pointer p],.agg (kc k),.string v] w (Ja M w R c):=by
 have da:∀ (fn:Fn) (first cap:aN) (w:World),(Instr.makeFunc fn first cap).run prog w = .ok (.func fn first cap) w:=λ_ _ _ _=>rfl;have hne:=Ni.dJ (s:=v) (by omega);have hd:decide ((65552:Int)<(v.size:Int))=false:=by simp; omega
 obtain ⟨C,hC⟩:=ay (kc k)
 have HH:=hid h;have HW:=hid hw4;rw [hC] at HW ⊢;clear h hw4 hC;go_enter func29,ntmps29;go_wp2_with (first
  | (refine aA (aX _ _ _ (w.heap.size+3) (by simp) rfl) ?_)
  | (refine aA (dV (s:=v) (by simp) ⟨_,rfl,rfl⟩) ?_)
  | (refine Rg.runW (by rfl) _ _ (dV (s:=v) (by simp) ⟨_,rfl,rfl⟩) ?_))
 rw [<-HW.out];refine HH.out.mono ?_;rintro e w5 ⟨rfl,hB⟩;obtain ⟨p5,ap,O9⟩:=hB.end_ (w6:=w5) (c:=c) (by omega);have az:=hid ap;have GS:=hid O9;clear hB ap O9 HH HW da;go_wp2_with (first
  | (refine aA (aU (aV (j:=0) az.out rfl) ⟨_,rfl,rfl⟩) ?_)
  | (refine aZ az.out (by simp) p5 rfl _ _ rfl rfl rfl ?_; intro w6 cz db; have cA:=hid cz; have OF:=hid db; clear cz db))
 exact bodyPost_ret (jq (q:=6) (u:=7) rfl _ rfl cA.out) rfl (GS.out w6 OF.out)
theorem yL (M:Mp) (p:aK) (t:T) (k:aM) (hk:k.length=32) (v:aL) (hv0:v.size≠0) (hv1:v.size<=65552) (w:World) (hi:Inv M w) (ht:IsT M p t) (hg:Tr.Good t 64) :
  (Tr.get t (path k)=none->Calls prog 29 #[.agg #[.pointer p],.agg (kc k),.string v] w (Ja M w .nil 8))/\
  (Tr.get t (path k)≠none->Calls prog 29 #[.agg #[.pointer p],.agg (kc k),.string v] w (Ja M w (put t (path k) v) 0)):=by
 obtain ⟨w3,hw3,am,ab,hO2,hb3,hs3⟩:=VY w p (kc k) #[.string v] 9;obtain ⟨w4,hw4⟩:=au (w3.alloc (.cells #[.pointer none] 35))
 have fL:Below w3.heap.size w3 w4:=by rw [hw4]; exact al1 _ _
 have hOr:Rg.Own w4 (w.heap.size+3) #[.pointer none] 35:=by rw [hw4,<-hs3]; exact Rg.Own.new _ _ _
 have hs4:w4.heap.size=w.heap.size+4:=by rw [hw4]; simp [hs3]
 have hb4:=bst hb3 fL;replace am:=am.below fL;replace ab:=ab.below fL;replace hO2:=hO2.below fL;have sn:=hw4;rw [hw3] at sn;have hE:Rg.Own (w4.alloc (.cells #[.int .i64 0] 30)) w4.heap.size #[.int .i64 0] 30:=Rg.Own.new _ _ _;have hA:=al1 w4 (.cells #[.int .i64 0] 30);obtain ⟨wc,hwc⟩:=ay (w4.alloc (.cells #[.int .i64 0] 30))
 rw [hwc] at hE hA;have hbc:=bst hb4 hA;have hic:=hi.below hbc;have hpl:(path k).length=64:=by rw [Tr.iG,hk]
 have hD:∀ wx,(callFunc 53 #[.pointer (some ⟨w.heap.size,0,none⟩),.pointer (some ⟨w.heap.size+1,0,none⟩),.pointer (some ⟨w.heap.size+2,0,none⟩),.pointer (some ⟨w.heap.size+3,0,none⟩)]).run prog wx = .ok (.enter 53 #[.pointer (some ⟨w.heap.size,0,none⟩),.pointer (some ⟨w.heap.size+1,0,none⟩),.pointer (some ⟨w.heap.size+2,0,none⟩),.pointer (some ⟨w.heap.size+3,0,none⟩)]) wx:=by intro wx; kernel_rfl
 refine ⟨λhget=>?_,λhget=>?_⟩
 .refine Gb M p k v hv0 hv1 .nil 8 w w4 sn ((Tk.qd 53 _ hD w4 8 (λw'=>Below wc.heap.size wc w') (by
   rw [hwc];refine (Ua p k hk _ _ (w.heap.size+3) _ v 8 wc (am.below hA) (ab.below hA) (by omega) (by omega) (hO2.below hA) (by omega) (λw5 hb5 a5 n5 c5 hx=>?_)).mono ?_
   .exact (II t (plus M (inS a5 n5)) w5 p a5 n5 c5 (path k) v ((hic.below hb5).plus (λk hk=>(vk hx hk).2)) (zZ ht) (Bs.in_ hx) (by rw [hpl]; exact hg) (kH k) (by omega)).1 hget
   rintro e w' ⟨rfl,hb⟩;exact ⟨rfl,uV (hE.below hb),hb⟩)).mono ?_)
  rintro e w' ⟨rfl,w1,hb,rfl⟩;have hu2:=bN w1 w4.heap.size 0 (.int .i64 8);have hbw:=hu2.below (bst hbc hb) (by omega);exact ⟨rfl,none,M,((hOr.below hA).below hb).upd hu2 (by omega),rfl,Fr.below M hbw,hi.below hbw,hbw,hi.free (by omega)⟩
 .refine Gb M p k v hv0 hv1 (put t (path k) v) 0 w w4 sn ((Tk.pQ 53 _ hD w4 (λw'=>∃ p' M' w6,IsT M' p' (put t (path k) v)/\St M wc M' w6/\Rg.Upd w6 (w.heap.size+3) w'/\Rg.Own w' (w.heap.size+3) #[.pointer p'] 35) (by
   rw [hwc];refine (Wx p k hk _ _ (w.heap.size+3) _ v wc (am.below hA) (ab.below hA) (by omega) (by omega) (hOr.below hA) M hic (put t (path k) v) (λw5 hb5 a5 n5 c5 hx=>?_) (hO2.below hA) (by omega)).mono ?_
   .exact (II t (plus M (inS a5 n5)) w5 p a5 n5 c5 (path k) v ((hic.below hb5).plus (λk hk=>(vk hx hk).2)) (zZ ht) (Bs.in_ hx) (by rw [hpl]; exact hg) (kH k) (by omega)).2 hget
   rintro e w' ⟨rfl,p',M',w6,h1,h2,h3,h4⟩;exact ⟨rfl,uV ((hE.below h2.b).upd h3 (by omega)),p',M',w6,h1,h2,h3,h4⟩)).mono ?_)
  rintro e w' ⟨rfl,w1,⟨p',M',w6,h1,h2,h3,h4⟩,rfl⟩;exact ⟨rfl,Zr hi hbc h1 h2 h3 h4 (hOr.below hA) hE (Yk _) (by omega) (by omega) (by omega) rfl _⟩
end Tm
end
end Go.Proofs.YtoipgepkhomfgaaGreatDoor
