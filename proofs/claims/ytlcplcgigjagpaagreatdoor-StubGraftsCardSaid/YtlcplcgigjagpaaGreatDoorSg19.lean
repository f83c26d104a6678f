/-
 StubGrafts: its walk.
-/
import Derived.Test.YtlcplcgigjagpaaGreatDoorSg18
import Derived.LaidMore
import Derived.ShutString
import Derived.Stop.Joined
open Go.Lib (hid)
open Go.Proofs.Tryz
set_option linter.unusedSimpArgs false
set_option linter.unusedVariables false
set_option maxHeartbeats 40000000
set_option maxRecDepth 100000
namespace Go.Proofs.YtlcplcgigjagpaaGreatDoor
variable {W:World}
section
open Go.RowKit
namespace Sx
open Tr Ni Pk Ky No Rf Rl Tm
open Sm (Tab)
structure Sf (w0:World) (M:Mp) (w:World) (gk:Nat) (K:aL) (pa:aJ) (pc:Nat) (P:List Tr.Pair) (L:List (Nat × aJ × T)):Prop where
 l:Lw w0 M w
 k:Rg.Own w gk (kc K) 25
 kl:K.length=32
 ps:jM w pa P.length pc P
 bs:∀ x∈L,Bx M w x.1 #[.pointer x.2.1] 31/\IsT M x.2.1 x.2.2
namespace Sf
variable {w0:World} {M M':Mp} {w w':World} {gk g:Nat} {K:aL} {pa:aJ} {pc:Nat} {P:List Tr.Pair} {L L':List (Nat × aJ × T)} {p p':aJ} {t t':T}
theorem below (h:Sf w0 M w gk K pa pc P L) (hb:Below w.heap.size w w'):Sf w0 M w' gk K pa pc P L:=⟨h.l.below hb,h.k.below hb,h.kl,h.ps.below hb,λx hx=>⟨(h.bs x hx).1.below hb,(h.bs x hx).2⟩⟩
theorem frm (h:Sf w0 M w gk K pa pc P L) (f:Fr M M' w w') (i:Inv M' w') (tt:Tab w'):Sf w0 M' w' gk K pa pc P L:=⟨h.l.fr f i tt,rZ h.k (Ev h.kl) h.l.i f,h.kl,h.ps.frm h.l.i f,λx hx=>⟨(h.bs x hx).1.frm h.l.i f,(h.bs x hx).2.mono f.mono⟩⟩
theorem add (h:Sf w0 M w gk K pa pc P L) (hx:Bx M w g #[.pointer p] 31) (ht:IsT M p t):Sf w0 M w gk K pa pc P ((g,p,t)::L):=⟨h.l,h.k,h.kl,h.ps,λx hm=>by
 rcases List.mem_cons.1 hm with rfl | hm
 .exact ⟨hx,ht⟩
 .exact h.bs x hm⟩
theorem nw (h:Sf w0 M w gk K pa pc P L) (hO:Rg.Own w' g #[.pointer none] 31) (hg:g=w.heap.size) (hb:Below w.heap.size w w'):Sf w0 M w' gk K pa pc P ((g,none,.nil)::L):=(h.below hb).add ⟨hO,h.l.i.free (Nat.le_of_eq hg.symm),cZ _⟩ rfl
theorem box (h:Sf w0 M w gk K pa pc P L) (ht:IsT M p t) (hO:Rg.Own w' w.heap.size #[.pointer p] 31) (hu:Rg.Upd (w.alloc (.cells #[.pointer none] 31)) w.heap.size w'):Sf w0 M w' gk K pa pc P ((w.heap.size,p,t)::L):=by
 have hb:Below w.heap.size w w':=hu.below (al1 _ _) aF;exact (h.below hb).add ⟨hO,h.l.i.free aF,cZ _⟩ ht
theorem sub (h:Sf w0 M w gk K pa pc P L) (hL:∀ x∈L',x∈L):Sf w0 M w gk K pa pc P L':=⟨h.l,h.k,h.kl,h.ps,λx hx=>h.bs x (hL x hx)⟩
theorem own (h:Sf w0 M w gk K pa pc P L) (hm:(g,p,t)∈L):Rg.Own w g #[.pointer p] 31:=(h.bs _ hm).1.o
theorem cell (h:Sf w0 M w gk K pa pc P L) (hm:(g,p,t)∈L):w.cell? ⟨g,0,none⟩=some (.pointer p):=aU (j:=0) (h.own hm) rfl
theorem tr (h:Sf w0 M w gk K pa pc P L) (hm:(g,p,t)∈L):IsT M p t:=(h.bs _ hm).2
theorem lt (h:Sf w0 M w gk K pa pc P L) (hm:(g,p,t)∈L):g<w.heap.size:=(h.own hm).1
theorem klt (h:Sf w0 M w gk K pa pc P L):gk<w.heap.size/\w0.heap.size<=w.heap.size:=⟨h.k.1,h.l.b.size⟩
theorem set (h:Sf w0 M w gk K pa pc P ((g,p,t)::L)) (hu:Rg.Upd w g w') (hO:Rg.Own w' g #[.pointer p'] 31) (ht:IsT M p' t') (h0:w0.heap.size<=g) (h1:gk≠g) (h3:∀ x∈L,x.1≠g):Sf w0 M w' gk K pa pc P ((g,p',t')::L):=by
 have hf:=(h.bs _ List.mem_cons_self).1.n;have ho:=(h.bs _ List.mem_cons_self).1.o;refine ⟨h.l.upd hu h0 hf,h.k.upd hu h1,h.kl,h.ps.upd hu (eu ho (cZ _)),λx hm=>?_⟩;rcases List.mem_cons.1 hm with rfl | hm
 .exact ⟨⟨hO,hf,cZ _⟩,ht⟩
 .have:=h.bs x (List.mem_cons_of_mem _ hm);exact ⟨this.1.upd hu (h3 x hm),this.2⟩
theorem got {e:Ending} (h:Sf w0 M w gk K pa pc P L) (gt:wY M w t e w'):∃ p M',e = .returned (tv p)/\IsT M' p t/\Sf w0 M' w' gk K pa pc P L:=by
 obtain ⟨q,M',he,ht,f,i,tt⟩:=gt;exact ⟨q,M',he,ht,h.frm (f.fr λ_ h=>h.elim) i tt⟩
theorem BK {n:Nat} {e:Ending} (h:Sf w0 M w gk K pa pc P L) (gt:pW M w t n e w'):∃ p M',e = .returned (.tuple #[tv p,.int .i64 (fJ n)])/\IsT M' p t/\Sf w0 M' w' gk K pa pc P L/\Fr M M' w w':=by
 obtain ⟨q,M',he,ht,f,i,tt⟩:=gt;exact ⟨q,M',he,ht,h.frm (f.fr λ_ h=>h.elim) i tt,f.fr λ_ h=>h.elim⟩
theorem tell {s:aK} {e:Ending} (h:Sf w0 M w gk K pa pc P L) (gt:rH M w s e w'):e = .returned (.string s)/\Sf w0 M w' gk K pa pc P L/\Fr M M w w':=by
 obtain ⟨he,hl,f⟩:=h.l.tell gt;exact ⟨he,h.frm f hl.i hl.t,f⟩
theorem refs {l:List aK} {n:Nat} {e:Ending} (h:Sf w0 M w gk K pa pc P L) (hn:l.length=n) (gt:uS M w l e w'):∃ a c,e = .returned (.slice a n c)/\Sf w0 M w' gk K pa pc P L/\Fr M M w w':=by
 obtain ⟨a,m,c,he,hs,_,f,i,tt⟩:=gt;have:m=n:=by rw [<-hn]; exact hs.len.symm
 subst this;exact ⟨a,c,he,h.frm f i tt,f⟩
variable {f:FuncId} {args:aM} {s:aK} {v:Value} {ls:List aK} {n:Nat}
theorem tells (h:Sf w0 M w gk K pa pc P L) (c:Calls prog f args w (rH M w s)):Calls prog f args w λe w'=>e = .returned (.string s)/\Hid (Sf w0 M w' gk K pa pc P L):=c.mono λe w' g=>by
 obtain ⟨he,ha,_⟩:=h.tell g;exact ⟨he,hid ha⟩
theorem says (h:Sf w0 M w gk K pa pc P L) (c:Calls prog f args w λe w'=>e = .returned v/\Below w.heap.size w w'):Calls prog f args w λe w'=>e = .returned v/\Hid (Sf w0 M w' gk K pa pc P L):=c.mono λe w' g=>⟨g.1,hid (h.below g.2)⟩
theorem VW (h:Sf w0 M w gk K pa pc P L) (hn:ls.length=n) (c:Calls prog f args w (uS M w ls)):Calls prog f args w λe w'=>∃ a c,e = .returned (.slice a n c)/\Hid (Sf w0 M w' gk K pa pc P L):=c.mono λe w' g=>by
 obtain ⟨a,c,he,ha,_⟩:=h.refs hn g;exact ⟨a,c,he,hid ha⟩
end Sf
structure Sp (w0:World) (M:Mp) (w:World) (gk:Nat) (K:aL) (pa:aJ) (pc:Nat) (P:List Tr.Pair) (L:List (Nat × aJ × T)) (ka:aJ) (N kac:Nat) (ps:List (aJ)):Prop where
 a:Sf w0 M w gk K pa pc P L
 p:iV w ka N kac ps
theorem Sp.below {w0:World} {M:Mp} {w w':World} {gk:Nat} {K:aL} {pa:aJ} {pc:Nat} {P:List Tr.Pair} {L:List (Nat × aJ × T)} {ka:aJ} {N kac:Nat} {ps:List (aJ)} (h:Sp w0 M w gk K pa pc P L ka N kac ps) (hb:Below w.heap.size w w'):Sp w0 M w' gk K pa pc P L ka N kac ps:=⟨h.a.below hb,h.p.below hb⟩
theorem Sp.tells {w0:World} {M:Mp} {w:World} {gk:Nat} {K:aL} {pa:aJ} {pc:Nat} {P:List Tr.Pair} {L:List (Nat × aJ × T)} {ka:aJ} {N kac:Nat} {ps:List (aJ)} {f:FuncId} {args:aM} {s:aK} (h:Sp w0 M w gk K pa pc P L ka N kac ps) (c:Calls prog f args w (rH M w s)):Calls prog f args w λe w'=>e = .returned (.string s)/\Hid (Sp w0 M w' gk K pa pc P L ka N kac ps):=c.mono λe w' g=>by
 obtain ⟨he,ha,hf⟩:=h.a.tell g;exact ⟨he,hid ⟨ha,h.p.frm h.a.l.i hf⟩⟩
theorem Nj {w w':World} {xs:List aK} {e:Ending} (h:Tm.OI w xs e w'):∃ a cap,e = .returned (.slice a xs.length cap)/\lW w' a xs.length cap xs/\Below w.heap.size w w':=by
 obtain ⟨v,rfl,hr,hb⟩:=h;obtain ⟨a,cap,rfl,hs⟩:=lW.qx hr;exact ⟨a,cap,rfl,hs,hb⟩
theorem Gf.tells {t u:T} {many S:Nat} (h:Gf t u many S) (M:Mp) (W:World) (p:aJ) (hi:Inv M W) (ht:IsT M p u) (hT:Tab W):Calls prog 19 #[tv p] W (rH M W (eU t)):=by
 have:=wB M p u 64 h.good aF h.fine W hi ht hT;rw [h.enc] at this;exact this
theorem Ih (l:List Tr.Pair) (la:aJ) (ln lc:Nat) (Kq:aL) (w:World) (h:jM w la ln lc l) (hK:Kq.length=32) (hT:Tab w) :
  Calls prog 4 #[.slice la ln lc,.agg (kc Kq)] w λe w'=>e = .returned (.bool true)/\Below w.heap.size w w':=by
 obtain ⟨w1,hw1,af,hb1,hs1⟩:=Yc w Kq;have HP:=hid (xR l la ln lc w1 (h.below hb1));have P6:=hid ((Lw.start hT).below hb1);have hok:EF (fq l):=Ji h.keys;have hlen:=DF l;have D1:=hid af;have cY:=hid hK;have HW1:Hid (_=_):=hid hw1;obtain ⟨P,hP⟩:=av (fq l)
 rw [hP] at HP hok hlen;have hhas:=hok.has;have I7:Cut (bA .nil P) (bY 1 (bA .nil P)):=nK _ _;have hgu:=I7.good hhas.good;have hfu:=I7.fine hhas.good aF hhas.fine;have hlo:=La hok hlen 1;have hnd:=BM hok hlen;have hbd:=IG hok;have hwh:Whl (bA .nil P):=⟨hhas.fine,hhas.full,64,aF,hhas.good⟩
 have eV:Hid (∀ W a c,jM W a P.length c P->Lw w M0 W->Calls prog 9 #[.slice a P.length c] W (dA M0 W (bA .nil P))):=hid (λW a c hp hl=>EJ M0 a P.length c P hok W hl.i hp (by omega));have jz:Hid (∀ M W p,Inv M W->IsT M p (bA .nil P)->Tab W->Calls prog 6 #[tv p] W (wY M W (bY 1 (bA .nil P)))):=hid (λM W p hi ht hT=>Hq M p _ 64 hhas.good aF hhas.fine hhas.full W hi ht hT)
 have CT:Hid (∀ M W p,Inv M W->IsT M p (bY 1 (bA .nil P))->Tab W->Calls prog 8 #[tv p] W (uS M W (bN (bY 1 (bA .nil P))))):=hid (λM W p hi ht hT=>xg M p _ 64 hgu aF hfu (by omega) W hi ht hT);have gi:Hid (∀ M W p,Inv M W->IsT M p (bA .nil P)->Tab W->Calls prog 22 #[tv p] W (MX M W (bA .nil P))):=hid (λM W p hi ht hT=>Jh M p _ 64 hhas.good aF hhas.fine (eD hhas.full) W hi ht hT)
 have cS:Hid (Gf (bA .nil P) (bY 1 (bA .nil P)) (bN (bY 1 (bA .nil P))).length 0):=hid (by rw [jX]; exact Gf.start hhas.good hhas.full hhas.fine);have I8:Hid ((bN (bY 1 (bA .nil P))).length<=2000):=hid hlo;have tR:Hid (∀ k u many S,Gf (bA .nil P) u many S->k∈aZ (bA .nil P)->Gf (bA .nil P) (bO (ref k) k u) many (S+bZ (ref k) u)/\bZ (ref k) u<=many):=hid (λk u many S hg hk=>hg.step hhas.good hhas.full hhas.fine hk)
 have pD:Hid (∀ k u many S,Gf (bA .nil P) u many S->k∈aZ (bA .nil P)->∀ M W p q,Inv M W->IsT M p u->IsT M q k->Tab W->Calls prog 23 #[tv p,tv q] W (pW M W (bO (ref k) k u) (bZ (ref k) u))):=hid (λk u many S hg hk M W p q hi hp hq hT=>by
  obtain ⟨hne,hfi,hfl,_⟩:=iE hhas.good hhas.fine k hk;obtain ⟨hft,Lk,tk,hLk⟩:=hg.fits hhas.good hk;exact Et M p q u k 64 Lk hg.good aF hg.fine tk hLk hfi hne (eD (hfl hhas.full)) hft W hi hp hq hT)
 have rh:Hid (∀ M W p,Inv M W->IsT M p (bA .nil P)->Tab W->Calls prog 19 #[tv p] W (rH M W (eU (bA .nil P)))):=hid (λM W p hi ht hT=>wB M p _ 64 hhas.good aF hhas.fine W hi ht hT);have cJ:Hid ((bH (bA .nil P)).ks.length=16):=hid (dh _);have yv:Hid ((aZ (bA .nil P)).length<=16):=hid (wP _)
 have q9:Hid (∀ M W p,Inv M W->IsT M p (bA .nil P)->Calls prog 20 #[tv p,.agg (kc Kq)] W λe w'=>e = .returned (GI (Tr.get (bA .nil P) (path Kq)))/\Below W.heap.size W w'):=hid (λM W p hi ht=>wL M p _ Kq cY.out W hi ht hhas.good)
 have P7:Hid (∀ W a c,jM W a P.length c P->Calls prog 10 #[.slice a P.length c] W λe w'=>∃ a n c,e = .returned (.slice a n c)/\Tm.dY w' a n c (ni P)/\(∀ ad,a=some ad->W.heap.size<=ad.block)/\Below W.heap.size W w'):=hid (λW a c hp=>Un P a P.length c W hp (by omega));have y7:Hid (∀ W ia in_ ic,Tm.dY W ia in_ ic (ni P)->Calls prog 25 #[.slice ia in_ ic] W (Tm.OI W (bM (bA .nil P)))):=hid (λW ia in_ ic hI=>by
  rw [hbd];have h1:=hI.len;have h2:=EN P;exact Lf 64 aF _ (AX hok.1) (Io hok.2) ia in_ ic W hI (by omega))
 have CC:Hid (∀ W a cap,lW W a (bM (bA .nil P)).length cap (bM (bA .nil P))->Calls prog 24 #[.slice a (bM (bA .nil P)).length cap] W λe w'=>∃ b:Bool,e = .returned (.bool b)/\(b=false->NoC (bM (bA .nil P)) (bM (bA .nil P)).length)/\Below W.heap.size W w'):=hid (λW a cap hs=>Fg _ hwh.few a _ cap W hs (by omega));have AH:Hid (NoC (bM (bA .nil P)) (bM (bA .nil P)).length->∀ u many S,Gf (bA .nil P) u many S->bX u=0->u=bA .nil P):=hid (λhc u many S hg hz=>hg.done hz (OO hhas.good hhas.full hhas.fine hc))
 clear h hT hP af hb1 hs1 hw1 hK hok hhas I7 hgu hfu hlo hnd hbd hwh hlen;generalize bY 1 (bA .nil P)=u0 at *
 generalize bA .nil P=t at *
 obtain ⟨C,hC⟩:=av (kc Kq)
 have HC:Hid (kc Kq=C):=hid hC;rw [hC] at HW1 ⊢;clear hC;go_enter func4,ntmps4;go_wp2_with fail
 rw [<-HW1.out];refine HP.out.mono ?_;rintro e w2 ⟨pa,pn,pc,rfl,hps,hb2⟩;obtain rfl:=hps.len;have HL2:=hid (P6.out.below hb2);have yq:=hid hps;have P8:=hid (D1.out.below hb2);clear hps hb2 P6 HP D1 HW1;go_wp2_with fail
 refine (eV.out w2 pa pc yq.out HL2.out).mono ?_;intro e w3 hG;obtain ⟨pt,M3,rfl,j9,hL3,hf3,hb3⟩:=HL2.out.got hG;have I9:Hid (Sf w M3 w3 w.heap.size Kq pa pc P []):=hid ⟨hL3,P8.out.below hb3,cY.out,yq.out.below hb3,λx hx=>(by cases hx)⟩;have HT3:=hid j9;have HN:=hid (Rg.Own.new w3 #[.pointer none] 31);clear hG j9 hL3 hf3 hb3 HL2 yq P8 eV;obtain ⟨gk,tk⟩:=av w.heap.size
 have ZS:=hid tk;obtain ⟨gt,hgt⟩:=av w3.heap.size
 have W2:Hid (w.heap.size<=gt):=hid (by rw [<-hgt]; exact I9.out.klt.2);go_wp2_with (first
  | (refine ay (aW _ _ _ w3.heap.size rfl rfl) ?_)
  | (refine aX HN.out (by decide) pt rfl _ _ rfl rfl rfl ?_; intro w4 hO4 cX; have pN:Hid (Sf w M3 w4 w.heap.size Kq pa pc P [(gt,pt,t)]):=hid (by have:=I9.out.box HT3.out hO4 cX; rw [hgt] at this; exact this); clear hO4 cX; rw [hgt])
  | (refine ay (aT (pN.out.cell (g:=gt) (p:=pt) (t:=t) (by simp)) ⟨_,rfl,rfl⟩) ?_))
 clear HN I9 HT3 hgt;refine (jz.out M3 w4 pt pN.out.l.i (pN.out.tr (g:=gt) (by simp)) pN.out.l.t).mono ?_;intro e w5 hG;obtain ⟨pu,M5,rfl,hZ,y5⟩:=pN.out.got hG;have lj:=hid y5;have mx:=hid hZ;have HN:=hid (Rg.Own.new w5 #[.pointer none] 31);obtain ⟨gu,hgu⟩:=av w5.heap.size
 have k9:Hid (w.heap.size<=gu):=hid (by rw [<-hgu]; exact lj.out.klt.2);have P9:Hid (gk≠gu):=hid (by rw [<-hgu,<-tk]; have:=lj.out.klt.1; omega);have AI:Hid (gt≠gu):=hid (by rw [<-hgu]; have:=lj.out.lt (g:=gt) (p:=pt) (t:=t) (by simp); omega);clear hG y5 hZ pN jz;go_wp2_with (first
  | (refine ay (aW _ _ _ w5.heap.size rfl rfl) ?_)
  | (refine aX HN.out (by decide) pu rfl _ _ rfl rfl rfl ?_; intro w6 cI jj; have mN:Hid (Sf w M5 w6 w.heap.size Kq pa pc P [(gu,pu,u0),(gt,pt,t)]):=hid (by have:=lj.out.box mx.out cI jj; rw [hgu] at this; exact this); clear cI jj; rw [hgu])
  | (refine ay (aT (mN.out.cell (g:=gu) (p:=pu) (t:=u0) (by simp)) ⟨_,rfl,rfl⟩) ?_))
 clear HN lj mx;obtain ⟨many,Id⟩:=av ((bN u0).length)
 have Pc:=hid Id;rw [Id] at cS I8;refine (CT.out M5 w6 pu mN.out.l.i (mN.out.tr (g:=gu) (by simp)) mN.out.l.t).mono ?_;intro e w7 hG;obtain ⟨a7,c7,rfl,Cl,W3⟩:=mN.out.refs Pc.out hG;have m3:=hid Cl;clear hG Cl W3 mN CT Pc Id;go_wp2_with (first
  | (refine ay (aT (m3.out.cell (g:=gt) (p:=pt) (t:=t) (by simp)) ⟨_,rfl,rfl⟩) ?_))
 refine (gi.out M5 w7 pt m3.out.l.i (m3.out.tr (g:=gt) (by simp)) m3.out.l.t).mono ?_;rintro e w8 ⟨aa,na,ca,ka,kac,ps,rfl,hpa,hPa,oA,hka,hfa,hia,oS⟩;have zE:=hid (m3.out.frm hfa hia oS);obtain ⟨N,hN⟩:=av ps.length
 have ui:Hid (N=(aZ t).length):=hid (by rw [<-hN]; exact oA.1);rw [hN] at hPa ⊢;have If:N<=16:=by rw [ui.out]; exact yv.out
 have AK:=hid hPa;have AM:=hid oA;have Pi:Hid (∀ ad,ka=some ad->ad.block≠gu):=hid (λad e=>by
  have h1:=hka ad e;have h2:=m3.out.lt (g:=gu) (p:=pu) (t:=u0) (by simp);omega)
 have pP:=hid (Rg.Own.new w8 (ndC nd0 none 0 0) 56);generalize bH t=Nn at *
 clear hpa hPa oA hka hfa hia oS m3 gi hN yv hgu;go_wp2_with (first
  | (refine ay (aY _ _ _ w8.heap.size rfl rfl) ?_)
  | (refine dZ pP.out rfl Nn aa na ca cJ.out rfl _ _ rfl rfl rfl rfl ?_; intro w9 ai al; have fR:Hid (Below w8.heap.size w8 w9):=hid (al.below (al1 _ _) aF); clear ai al))
 have nv:Hid (Sf w M5 w9 gk Kq pa pc P [(gu,pu,u0),(gt,pt,t)]):=hid (by rw [<-tk]; exact zE.out.below fR.out);have ll:=hid (AK.out.below fR.out);clear pP zE AK fR;try rw [tk]
 clear tk;go_loopw [10,11] (λs i wr=>∃ (j S:Nat) (pu:aJ) (u:T) (M:Mp),s = .int .i64 S/\i = .int .i64 j/\j<=N/\Hid (Gf t u many S)/\Hid (Sf w M wr gk Kq pa pc P [(gu,pu,u),(gt,pt,t)])/\Hid (iV wr ka N kac ps)/\Hid (Are M ps (aZ t))) (λ_ i _=>N-(intOf i).toNat)
 case atStart=>exact ⟨0,0,pu,u0,M5,rfl,rfl,Nat.zero_le _,cS,nv,ll,AM⟩
 case round =>
  clear nv ll AM cS;obtain ⟨j,S,pu,u,M,rfl,rfl,hj,HG,HA,cU,oB⟩:=hrel;by_cases hlt:j<N
  .have i1:(j:Int)<(N:Int):=by omega
   have i2:(j:Int)<16:=by omega
   obtain ⟨kb,ko,hkk,hkl,hkc⟩:=cU.out.2.2.2.2 j hlt;have hT1:=oB.out.2 j (by rw [cU.out.2.2.1]; exact hlt);obtain ⟨p1,hp1⟩:=av (ps.getD j none)
   have hmem:(aZ t).getD j .nil∈aZ t:=by
    have h1:j<(aZ t).length:=by rw [<-ui.out]; exact hlt
    rw [List.getD_eq_getElem?_getD,List.getElem?_eq_getElem h1];exact List.getElem_mem _
   obtain ⟨k,hk⟩:=av ((aZ t).getD j .nil)
   rw [hp1,hk] at hT1;rw [hp1] at hkc;rw [hk] at hmem;have cf:Hid (wr.cell? ⟨kb,ko+j,none⟩=some (.pointer p1)/\IsT M p1 k):=hid ⟨hkc,hT1⟩;have hst:=tR.out k u many S HG.out hmem;have hgr:=pD.out k u many S HG.out hmem;obtain ⟨u',hu'⟩:=av (bO (ref k) k u)
   obtain ⟨n,hn⟩:=av (bZ (ref k) u)
   rw [hu',hn] at hst hgr;have tl:=hid hgr;have Pp:=hid hst.1;have hnm:n<=many:=hst.2;have hsn:S+n<=many:=by have:=hst.1.cnt; omega
   have hm2:many<=2000:=I8.out;have AN:Hid (fJ n=(n:Int)):=hid (by unfold fJ; omega);have Pr:¬ (many:Int)<(n:Int):=by omega
   have Ix:decide ((many:Int)<(n:Int))=false:=decide_eq_false Pr;have W4:=hid (λM W p hi ht hT=>Pp.out.tells M W p hi ht hT);have W5:=hid (λM W p hi ht hT=>HG.out.tells M W p hi ht hT);have D1:Hid (kb≠gu):=hid (Pi.out _ hkk);clear hkl hkc hT1 hp1 hk hmem hst hgr hu' hn;subst hkk;go_wp2_with fail
   try simp only [Act.put,ak]
   go_cut [12,13] (λv12 v13 wx=>∃ (gx:Nat) (px:aJ) (Mx:Mp),v12 = .pointer (some ⟨gx,0,none⟩)/\v13 = .int .i64 n/\Hid (Sp w Mx wx gk Kq pa pc P [(gx,px,u'),(gu,pu,u),(gt,pt,t)] (some ⟨kb,ko,none⟩) N kac ps)/\Hid (Are Mx ps (aZ t)))
   case first =>
    replace HA:=hid (HA.out.below (show Below wr.heap.size wr wr.drew from below_drewN aG 1));replace cU:=hid (cU.out.below (show Below wr.heap.size wr wr.drew from below_drewN aG 1));replace cf:=hid (And.intro (aV (show Below wr.heap.size wr wr.drew from below_drewN aG 1) cf.out.1) cf.out.2);refine wp_region_noPanic ?_
    refine wp_region_held_drew (S:=λwz=>wz.cell? ⟨gu,0,none⟩=some (.pointer pu)/\wz.cell? ⟨kb,ko+j,none⟩=some (.pointer p1)) (by kernel_rfl) (⟨HA.out.cell (g:=gu) (p:=pu) (t:=u) (by simp),cf.out.1⟩) (λhld=>?_);refine ah 0 ?_ (hy:=by intro wz hSw; (refine aT hSw.1 ?_; exact ⟨_,rfl,rfl⟩));try simp only [Act.put,ak]
    refine ah 1 ?_;try simp only [Act.put,ak]
    refine ah 2 ?_;try simp only [Act.put,ak]
    refine ah 3 ?_;try simp only [Act.put,ak]
    refine ah 4 ?_ (hy:=by intro wz hSw; (refine aT hSw.2 ?_; exact ⟨_,rfl,rfl⟩));try simp only [Act.put,ak]
    refine wpAnyH_ready (rs:=[5,9]) (by kernel_rfl) (by simp) ?_;refine Rg.readyC (i:=5) rfl (λK hK=>?_) (Rg.readyL (i:=9) rfl (λK hK=>?_))
    .go_simp;go_at_call 23
     (with_reducible refine (tl.out _ _ pu p1 HA.out.l.i (HA.out.tr (g:=gu) (p:=pu) (t:=u) (by simp)) cf.out.2 HA.out.l.t).mono ?_)
     intro e V8 hG;obtain ⟨px,Mx,rfl,hTx,hAx,hfx⟩:=HA.out.BK hG;rw [AN.out];replace cf:=hid (And.intro (wZ HA.out.l.i hfx cf.out.1) (cf.out.2.mono hfx.mono));replace cU:=hid (cU.out.frm HA.out.l.i hfx);replace oB:=hid (oB.out.mono hfx.mono);replace HA:=hid hAx;have nz:=hid hTx;clear hG hAx hTx hfx;refine hK.out _ _ (⟨HA.out.cell (g:=gu) (p:=pu) (t:=u) (by simp),cf.out.1⟩) (λhld=>?_);clear hK K;try simp only [Act.put,ak]
     refine ah 6 ?_;try simp only [Act.put,ak]
     refine ah 7 ?_;try simp only [Act.put,ak]
     refine ah 8 ?_;try simp only [Act.put,ak]
     refine aj 9 λK hK=>?_;refine Rg.meetAlloc (by rfl) (aW _ _ _ _ rfl rfl) ?_;rintro V9 gx eW h8 hbx;have dt:Hid (w.heap.size<=gx/\gk≠gx/\gu≠gx/\gt≠gx/\kb≠gx):=hid (by have h1:=HA.out.klt; have h2:=HA.out.lt (g:=gu) (p:=pu) (t:=u) (by simp); have h3:=HA.out.lt (g:=gt) (p:=pt) (t:=t) (by simp); have h4:kb<_:=World.block_lt_of_cell? _ _ cf.out.1; omega);replace HA:=hid (HA.out.nw h8 eW hbx);replace cf:=hid (And.intro (aV hbx cf.out.1) cf.out.2);replace cU:=hid (cU.out.below hbx);clear eW h8 hbx
     refine hK.out _ _ (⟨HA.out.cell (g:=gu) (p:=pu) (t:=u) (by simp),cf.out.1⟩) (λhld=>?_);clear hK K;try simp only [Act.put,ak]
     refine aj 10 λK hK=>?_;refine cK (by rfl) (HA.out.own (g:=gx) (p:=none) (t:=.nil) (by simp)) (off:=0) (by simp) px ⟨_,_,rfl,rfl,rfl⟩ ?_;rintro lk hn hu;have ll:=hid (cU.out.upd hu (λad e=>by cases e; exact (dt.out).2.2.2.2));have HR:Hid (Sf w Mx lk gk Kq pa pc P [(gx,px,u'),(gu,pu,u),(gt,pt,t)]):=hid (HA.out.set hu hn nz.out (by have:=dt.out; omega) (by have:=dt.out; omega) (λx hx=>by have:=dt.out; simp at hx; rcases hx with rfl | rfl <;> (dsimp only; omega)))
     have kB:lk.cell? ⟨kb,ko+j,none⟩=some (.pointer p1):=by rw [World.cell?_of_block (hu.block kb (by have:=dt.out; omega))]; exact cf.out.1
     refine hK.out _ _ (⟨HR.out.cell (g:=gu) (p:=pu) (t:=u) (by simp),kB⟩) λhld=>?_;clear hK K hn hu HA cU kB;try simp only [Act.put,ak]
     refine ah 11 ?_;try simp only [Act.put,ak]
     refine aA ?_;go_wp2_with fail
     go_meet
     exact ⟨gx,px,Mx,rfl,rfl,hid ⟨HR.out,ll.out⟩,oB⟩
    .refine Rg.meetAlloc (by rfl) (aW _ _ _ _ rfl rfl) ?_;rintro Vc gx eW h8 hbx;have dt:Hid (w.heap.size<=gx/\gk≠gx/\gu≠gx/\gt≠gx/\kb≠gx):=hid (by have h1:=HA.out.klt; have h2:=HA.out.lt (g:=gu) (p:=pu) (t:=u) (by simp); have h3:=HA.out.lt (g:=gt) (p:=pt) (t:=t) (by simp); have h4:kb<_:=World.block_lt_of_cell? _ _ cf.out.1; omega);replace HA:=hid (HA.out.nw h8 eW hbx);replace cf:=hid (And.intro (aV hbx cf.out.1) cf.out.2);replace cU:=hid (cU.out.below hbx);clear eW h8 hbx
     refine hK.out _ _ (⟨HA.out.cell (g:=gu) (p:=pu) (t:=u) (by simp),cf.out.1⟩) (λhld=>?_);clear hK K;try simp only [Act.put,ak]
     refine aj 5 λK hK=>?_;go_simp;go_at_call 23
     (with_reducible refine (tl.out _ _ pu p1 HA.out.l.i (HA.out.tr (g:=gu) (p:=pu) (t:=u) (by simp)) cf.out.2 HA.out.l.t).mono ?_)
     intro e VC hG;obtain ⟨px,Mx,rfl,hTx,hAx,hfx⟩:=HA.out.BK hG;rw [AN.out];replace cf:=hid (And.intro (wZ HA.out.l.i hfx cf.out.1) (cf.out.2.mono hfx.mono));replace cU:=hid (cU.out.frm HA.out.l.i hfx);replace oB:=hid (oB.out.mono hfx.mono);replace HA:=hid hAx;have nz:=hid hTx;clear hG hAx hTx hfx;refine hK.out _ _ (⟨HA.out.cell (g:=gu) (p:=pu) (t:=u) (by simp),cf.out.1⟩) (λhld=>?_);clear hK K;try simp only [Act.put,ak]
     refine ah 6 ?_;try simp only [Act.put,ak]
     refine ah 7 ?_;try simp only [Act.put,ak]
     refine ah 8 ?_;try simp only [Act.put,ak]
     refine aj 10 λK hK=>?_;refine cK (by rfl) (HA.out.own (g:=gx) (p:=none) (t:=.nil) (by simp)) (off:=0) (by simp) px ⟨_,_,rfl,rfl,rfl⟩ ?_;rintro lk hn hu;have ll:=hid (cU.out.upd hu (λad e=>by cases e; exact (dt.out).2.2.2.2));have HR:Hid (Sf w Mx lk gk Kq pa pc P [(gx,px,u'),(gu,pu,u),(gt,pt,t)]):=hid (HA.out.set hu hn nz.out (by have:=dt.out; omega) (by have:=dt.out; omega) (λx hx=>by have:=dt.out; simp at hx; rcases hx with rfl | rfl <;> (dsimp only; omega)))
     have kB:lk.cell? ⟨kb,ko+j,none⟩=some (.pointer p1):=by rw [World.cell?_of_block (hu.block kb (by have:=dt.out; omega))]; exact cf.out.1
     refine hK.out _ _ (⟨HR.out.cell (g:=gu) (p:=pu) (t:=u) (by simp),kB⟩) λhld=>?_;clear hK K hn hu HA cU kB;try simp only [Act.put,ak]
     refine ah 11 ?_;try simp only [Act.put,ak]
     refine aA ?_;go_wp2_with fail
     go_meet
     exact ⟨gx,px,Mx,rfl,rfl,hid ⟨HR.out,ll.out⟩,oB⟩
   case rest =>
    obtain ⟨gx,px,Mx,rfl,rfl,HZ,oB⟩:=hcut;obtain ⟨ws,hws⟩:=au wc
    subst hws;clear HA cU cf tl;go_wp2_with fail
    have HA:=hid (HZ.out.below (show Below ws.heap.size ws ws.drew from below_drewN aG 1));clear HZ;refine aB (S:=λwz=>wz.cell? ⟨gx,0,none⟩=some (.pointer px)/\wz.cell? ⟨gu,0,none⟩=some (.pointer pu)) (⟨HA.out.a.cell (g:=gx) (p:=px) (t:=u') (by simp),HA.out.a.cell (g:=gu) (p:=pu) (t:=u) (by simp)⟩) λhld=>?_;refine ah 0 ?_;try simp only [Act.put,ak]
    refine ah 1 ?_;try simp only [Act.put,ak]
    refine ah 2 ?_ (hy:=by intro wz hSw; (have q1:=Pr; have q2:=Ix; have q3:¬ many<n:=(by omega); have q4:decide (many<n)=false:=decide_eq_false q3; go_simp <;> with_reducible rfl));try simp only [Act.put,ak]
    refine ah 3 ?_;try simp only [Act.put,ak]
    refine ah 4 ?_ (hy:=by intro wz hSw; (refine aT hSw.1 ?_; exact ⟨_,rfl,rfl⟩));try simp only [Act.put,ak]
    refine ah 6 ?_ (hy:=by intro wz hSw; (refine aT hSw.2 ?_; exact ⟨_,rfl,rfl⟩));try simp only [Act.put,ak]
    refine aj 5 λK hK=>?_;go_simp;go_at_call 19
    (with_reducible refine (HA.out.tells (W4.out _ _ _ HA.out.a.l.i (HA.out.a.tr (g:=gx) (p:=px) (t:=u') (by simp)) HA.out.a.l.t)).mono ?_)
    rintro e wf0 ⟨rfl,HA⟩;refine hK.out _ _ (⟨HA.out.a.cell (g:=gx) (p:=px) (t:=u') (by simp),HA.out.a.cell (g:=gu) (p:=pu) (t:=u) (by simp)⟩) (λhld=>?_);clear hK K;try simp only [Act.put,ak]
    refine aj 7 λK hK=>?_;go_simp;go_at_call 19
    (with_reducible refine (HA.out.tells (W5.out _ _ _ HA.out.a.l.i (HA.out.a.tr (g:=gu) (p:=pu) (t:=u) (by simp)) HA.out.a.l.t)).mono ?_)
    rintro e wf1 ⟨rfl,HA⟩;refine hK.out _ _ (⟨HA.out.a.cell (g:=gx) (p:=px) (t:=u') (by simp),HA.out.a.cell (g:=gu) (p:=pu) (t:=u) (by simp)⟩) (λhld=>?_);clear hK K;try simp only [Act.put,ak]
    refine ah 8 ?_;try simp only [Act.put,ak]
    refine ah 9 ?_;try simp only [Act.put,ak]
    refine aA ?_;have IA:Hid (∀ w9,Rg.Own w9 gu #[.pointer px] 31->Rg.Upd wf1 gu w9->Hid (Sf w Mx w9 gk Kq pa pc P [(gu,px,u'),(gt,pt,t)])/\Hid (iV w9 (some ⟨kb,ko,none⟩) N kac ps)):=hid (λw9 ai al=>by
     have h1:=HA.out.a.sub (L':=[(gu,pu,u),(gt,pt,t)]) (λx hx=>by simp at hx; rcases hx with rfl | rfl <;> simp);have h2:=h1.set al ai (HA.out.a.tr (g:=gx) (p:=px) (t:=u') (by simp)) k9.out P9.out (λx hx=>by have h2:=AI.out; simp at hx; rcases hx with rfl; exact h2);exact ⟨hid h2,hid (HA.out.p.upd al (λad e=>by cases e; exact D1.out))⟩)
    go_wp2_with (first
     | (refine ay (aT (HA.out.a.cell (g:=gx) (p:=px) (t:=u') (by simp)) ⟨_,rfl,rfl⟩) ?_)
     | (refine aX (HA.out.a.own (g:=gu) (p:=pu) (t:=u) (by simp)) (by simp) px rfl _ _ rfl rfl rfl ?_; intro w9 ai al; obtain ⟨nv,GB⟩:=IA.out w9 ai al; clear ai al))
    go_roundw
    case rel=>exact ⟨j+1,S+n,px,u',Mx,by go_num,by go_num,by omega,Pp,nv,GB,oB⟩
    case measure=>simp [intOf]; omega
  .obtain rfl:j=N:=by omega
   have hm2:many<=2000:=I8.out;have ie:=hid (λM W p hi ht hT=>HG.out.tells M W p hi ht hT);have Ps:=λM p W (hi:Inv M W) (ht:IsT M p u) (hT:Tab W)=>xg M p u 64 HG.out.good aF HG.out.fine (by rw [jX]; have:=HG.out.cnt; omega) W hi ht hT;have dc:Hid (∀ M W p,Inv M W->IsT M p u->Tab W->Calls prog 8 #[tv p] W (uS M W (bN u))):=hid (λM W p hi ht hT=>Ps M p W hi ht hT)
   have ID:Hid (∀ M W p,Inv M W->IsT M p u->Calls prog 20 #[tv p,.agg (kc Kq)] W λe w'=>e = .returned (GI (Tr.get u (path Kq)))/\Below W.heap.size W w'):=hid (λM W p hi ht=>wL M p _ Kq cY.out W hi ht HG.out.good);obtain ⟨s,c,hsc⟩:∃ (s:aK) (c:Int),GI (Tr.get t (path Kq)) = .tuple #[.string s,.int .i64 c]:=by
    rcases Tr.get t (path Kq) with _ | _ | v <;> exact ⟨_,_,rfl⟩
   obtain ⟨s',c',qa⟩:∃ (s:aK) (c:Int),GI (Tr.get u (path Kq)) = .tuple #[.string s,.int .i64 c]:=by
    rcases Tr.get u (path Kq) with _ | _ | v <;> exact ⟨_,_,rfl⟩
   obtain ⟨m,hm⟩:=av ((bN u).length)
   have uB:Hid ((bN u).length=m):=hid hm;have IF:Hid (m=0->S=many/\(NoC (bM t) (bM t).length->s=s'/\c=c')):=hid (λhz=>by
    have hz':bX u=0:=by rw [<-jX,hm,hz]
    refine ⟨by have:=HG.out.cnt; omega,λhc=>?_⟩;have hut:=AH.out hc u many S HG.out hz';rw [hut,hsc] at qa;have h2:#[Value.string s,Value.int .i64 c] = #[Value.string s',Value.int .i64 c']:=Value.tuple.inj qa;simpa using h2)
   rw [hsc] at q9;rw [qa] at ID;have AR:=hid (λM p W (hi:Inv M W) (ht:IsT M p u) (hT:Tab W)=>QU M p u W hi ht hT);obtain ⟨E,hE⟩:=av (eU t)
   rw [hE] at ie rh;generalize bN u=XU at *
   generalize bM t=XN at *
   clear hsc qa hm Ps AH hE tR pD cU oB Pi ui P9 AI HG hlt hj If;go_wp2_with (first
    | (refine ay (aT (HA.out.cell (g:=gu) (p:=pu) (t:=u) (by simp)) ⟨_,rfl,rfl⟩) ?_)
    | (refine ay (bK Pn ⟨_,rfl,rfl⟩) ?_))
   refine (AR.out M pu wr HA.out.l.i (HA.out.tr (g:=gu) (by simp)) HA.out.l.t).mono ?_;intro e wa hG;obtain ⟨ps',Ma,rfl,Pu,oA,_⟩:=HA.out.BK hG;rw [show fJ 0=(0:Int) by decide];have A0:=hid oA;have PA:=hid Pu;have HN:=hid (Rg.Own.new wa #[.pointer none] 31);clear hG oA Pu HA AR;obtain ⟨gs,hgs⟩:=av wa.heap.size
   go_wp2_with (first
    | (refine ay (aW _ _ _ wa.heap.size rfl rfl) ?_)
    | (refine aX HN.out (by decide) ps' rfl _ _ rfl rfl rfl ?_; intro wb hOb hub; have uC:Hid (Sf w Ma wb gk Kq pa pc P [(gs,ps',u),(gu,pu,u),(gt,pt,t)]):=hid (by have:=A0.out.box PA.out hOb hub; rw [hgs] at this; exact this); clear hOb hub; rw [hgs])
    | (refine ay (aT (uC.out.cell (g:=gt) (p:=pt) (t:=t) (by simp)) ⟨_,rfl,rfl⟩) ?_)
    | (refine ay (dL cY.out uC.out.k.2 ⟨_,rfl,rfl⟩) ?_))
   clear HN A0 PA hgs;refine (q9.out Ma wb pt uC.out.l.i (uC.out.tr (g:=gt) (by simp))).mono ?_;rintro e wc ⟨rfl,hbc⟩;have ve:=hid (uC.out.below hbc);clear hbc uC q9;go_wp2_with (first
    | (refine ay (aT (ve.out.cell (g:=gu) (p:=pu) (t:=u) (by simp)) ⟨_,rfl,rfl⟩) ?_)
    | (refine ay (dL cY.out ve.out.k.2 ⟨_,rfl,rfl⟩) ?_))
   refine (ID.out Ma wc pu ve.out.l.i (ve.out.tr (g:=gu) (by simp))).mono ?_;rintro e wd ⟨rfl,hbd⟩;have HA:=hid (ve.out.below (bst hbd (show Below wd.heap.size wd wd.drew from below_drewN aG 1)));clear hbd ve ID
   have HS:Hid (∀ M wz,Sf w M wz gk Kq pa pc P [(gs,ps',u),(gu,pu,u),(gt,pt,t)]->wz.cell? ⟨gs,0,none⟩=some (.pointer ps')/\wz.cell? ⟨gu,0,none⟩=some (.pointer pu)/\wz.cell? ⟨gt,0,none⟩=some (.pointer pt)):=hid (λM wz h=>⟨h.cell (g:=gs) (p:=ps') (t:=u) (by simp),h.cell (g:=gu) (p:=pu) (t:=u) (by simp),h.cell (g:=gt) (p:=pt) (t:=t) (by simp)⟩);by_cases hm:m=0
   .subst hm;obtain ⟨PB,hne⟩:=IF.out rfl;have io:=hid hne;obtain rfl:many=S:=PB.symm;clear hne IF PB;by_cases he:s=s'/\c=c'
    .obtain ⟨rfl,rfl⟩:=he;have hq1:(many:Int)<=(many:Int):=by omega
     have hq2:decide ((many:Int)<=(many:Int))=true:=aI hq1;clear io;go_wp2_with fail
     refine aB (S:=λwz=>wz.cell? ⟨gs,0,none⟩=some (.pointer ps')/\wz.cell? ⟨gu,0,none⟩=some (.pointer pu)/\wz.cell? ⟨gt,0,none⟩=some (.pointer pt)) (HS.out _ _ HA.out) λhld=>?_;refine aj 0 λK hK=>?_;go_simp;go_at_call 21
     (with_reducible refine (HA.out.says (uz _ HA.out.l.t)).mono ?_)
     rintro e wa ⟨rfl,HA⟩;refine hK.out _ _ (HS.out _ _ HA.out) (λhld=>?_);clear hK K;try simp only [Act.put,ak]
     refine ah 1 ?_;try simp only [Act.put,ak]
     refine ah 2 ?_;try simp only [Act.put,ak]
     refine ah 3 ?_;try simp only [Act.put,ak]
     refine ah 4 ?_;try simp only [Act.put,ak]
     refine ah 5 ?_;try simp only [Act.put,ak]
     refine ah 6 ?_ (hy:=by intro wz hSw; (refine aT hSw.1 ?_; exact ⟨_,rfl,rfl⟩));try simp only [Act.put,ak]
     refine ah 8 ?_ (hy:=by intro wz hSw; (refine aT hSw.2.1 ?_; exact ⟨_,rfl,rfl⟩));try simp only [Act.put,ak]
     refine aj 7 λK hK=>?_;go_simp;go_at_call 19
     (with_reducible refine (HA.out.tells (ie.out _ _ _ HA.out.l.i (HA.out.tr (g:=gs) (p:=ps') (t:=u) (by simp)) HA.out.l.t)).mono ?_)
     rintro e wf0 ⟨rfl,HA⟩;refine hK.out _ _ (HS.out _ _ HA.out) (λhld=>?_);clear hK K;try simp only [Act.put,ak]
     refine aj 9 λK hK=>?_;go_simp;go_at_call 19
     (with_reducible refine (HA.out.tells (ie.out _ _ _ HA.out.l.i (HA.out.tr (g:=gu) (p:=pu) (t:=u) (by simp)) HA.out.l.t)).mono ?_)
     rintro e wf1 ⟨rfl,HA⟩;refine hK.out _ _ (HS.out _ _ HA.out) (λhld=>?_);clear hK K;try simp only [Act.put,ak]
     refine ah 10 ?_;try simp only [Act.put,ak]
     refine ah 11 ?_;try simp only [Act.put,ak]
     refine ah 12 ?_;try simp only [Act.put,ak]
     refine ah 13 ?_ (hy:=by intro wz hSw; (refine aT hSw.2.1 ?_; exact ⟨_,rfl,rfl⟩));try simp only [Act.put,ak]
     refine ah 15 ?_ (hy:=by intro wz hSw; (refine aT hSw.2.2 ?_; exact ⟨_,rfl,rfl⟩));try simp only [Act.put,ak]
     refine aj 14 λK hK=>?_;go_simp;go_at_call 19
     (with_reducible refine (HA.out.tells (ie.out _ _ _ HA.out.l.i (HA.out.tr (g:=gu) (p:=pu) (t:=u) (by simp)) HA.out.l.t)).mono ?_)
     rintro e wf2 ⟨rfl,HA⟩;refine hK.out _ _ (HS.out _ _ HA.out) (λhld=>?_);clear hK K;try simp only [Act.put,ak]
     refine aj 16 λK hK=>?_;go_simp;go_at_call 19
     (with_reducible refine (HA.out.tells (rh.out _ _ _ HA.out.l.i (HA.out.tr (g:=gt) (p:=pt) (t:=t) (by simp)) HA.out.l.t)).mono ?_)
     rintro e D0 ⟨rfl,HA⟩;refine hK.out _ _ (HS.out _ _ HA.out) (λhld=>?_);clear hK K;try simp only [Act.put,ak]
     refine ah 17 ?_;try simp only [Act.put,ak]
     refine ah 18 ?_;try simp only [Act.put,ak]
     refine ah 19 ?_;try simp only [Act.put,ak]
     refine ah 20 ?_ (hy:=by intro wz hSw; (refine aT hSw.2.1 ?_; exact ⟨_,rfl,rfl⟩));try simp only [Act.put,ak]
     refine aj 21 λK hK=>?_;go_simp;go_at_call 8
     (with_reducible refine (HA.out.VW uB.out (dc.out _ _ _ HA.out.l.i (HA.out.tr (g:=gu) (p:=pu) (t:=u) (by simp)) HA.out.l.t)).mono ?_)
     rintro e wa ⟨a2,c2,rfl,HA⟩;refine hK.out _ _ (HS.out _ _ HA.out) (λhld=>?_);clear hK K;try simp only [Act.put,ak]
     refine ah 22 ?_;try simp only [Act.put,ak]
     refine ah 23 ?_;try simp only [Act.put,ak]
     refine ah 24 ?_;try simp only [Act.put,ak]
     refine ah 25 ?_;try simp only [Act.put,ak]
     refine ah 26 ?_;try simp only [Act.put,ak]
     refine ah 27 ?_;try simp only [Act.put,ak]
     refine ah 28 ?_;try simp only [Act.put,ak]
     refine ah 29 ?_;try simp only [Act.put,ak]
     refine ah 30 ?_;try simp only [Act.put,ak]
     refine ah 31 ?_;try simp only [Act.put,ak]
     refine ah 32 ?_;try simp only [Act.put,ak]
     refine ah 33 ?_;try simp only [Act.put,ak]
     refine ah 34 ?_;try simp only [Act.put,ak]
     refine ah 35 ?_;try simp only [Act.put,ak]
     refine ah 36 ?_ (hy:=by intro wz hSw; (have q1:=hq1; have q2:=hq2; go_simp <;> with_reducible rfl));try simp only [Act.put,ak]
     refine ah 37 ?_;try simp only [Act.put,ak]
     refine ah 38 ?_;try simp only [Act.put,ak]
     refine ah 39 ?_;try simp only [Act.put,ak]
     refine Rg.takeL (i:=40) (v:=undef) rfl (by kernel_rfl) (by kernel_rfl) (by kernel_rfl) (λ_ _ _ h=>h) (Or.inr ⟨by rfl,rfl⟩) (by assumption) ?_;try simp only [Act.put,ak]
     refine Rg.takeL (i:=41) (v:=undef) rfl (by kernel_rfl) (by kernel_rfl) (by kernel_rfl) (λ_ _ _ h=>h) (Or.inr ⟨by rfl,rfl⟩) (by assumption) ?_;try simp only [Act.put,ak]
     refine Rg.takeL (i:=42) (v:=undef) rfl (by kernel_rfl) (by kernel_rfl) (by kernel_rfl) (λ_ _ _ h=>h) (Or.inr ⟨by rfl,rfl⟩) (by assumption) ?_;try simp only [Act.put,ak]
     refine Rg.takeL (i:=43) (v:=undef) rfl (by kernel_rfl) (by kernel_rfl) (by kernel_rfl) (λ_ _ _ h=>h) (Or.inr ⟨by rfl,rfl⟩) (by assumption) ?_;try simp only [Act.put,ak]
     refine ah 44 ?_;try simp only [Act.put,ak]
     refine ah 45 ?_;try simp only [Act.put,ak]
     refine ah 46 ?_;try simp only [Act.put,ak]
     refine aA ?_;go_wp2;go_ret;exact ⟨rfl,HA.out.l.b⟩
    .have zc:Hid (¬ NoC XN XN.length):=hid (λhc=>he (io.out hc));clear io;by_cases hs:s=s'
     .subst hs;have hq1:¬ c=c':=λe=>he ⟨rfl,e⟩;have hq2:(c==c')=false:=beq_eq_false_iff_ne.2 hq1;clear he;go_wp2_with fail
      refine aB (S:=λwz=>wz.cell? ⟨gs,0,none⟩=some (.pointer ps')/\wz.cell? ⟨gu,0,none⟩=some (.pointer pu)/\wz.cell? ⟨gt,0,none⟩=some (.pointer pt)) (HS.out _ _ HA.out) λhld=>?_;refine aj 0 λK hK=>?_;go_simp;go_at_call 21
      (with_reducible refine (HA.out.says (uz _ HA.out.l.t)).mono ?_)
      rintro e wa ⟨rfl,HA⟩;refine hK.out _ _ (HS.out _ _ HA.out) (λhld=>?_);clear hK K;try simp only [Act.put,ak]
      refine ah 1 ?_;try simp only [Act.put,ak]
      refine ah 2 ?_;try simp only [Act.put,ak]
      refine ah 3 ?_;try simp only [Act.put,ak]
      refine ah 4 ?_;try simp only [Act.put,ak]
      refine ah 5 ?_;try simp only [Act.put,ak]
      refine ah 6 ?_ (hy:=by intro wz hSw; (refine aT hSw.1 ?_; exact ⟨_,rfl,rfl⟩));try simp only [Act.put,ak]
      refine ah 8 ?_ (hy:=by intro wz hSw; (refine aT hSw.2.1 ?_; exact ⟨_,rfl,rfl⟩));try simp only [Act.put,ak]
      refine aj 7 λK hK=>?_;go_simp;go_at_call 19
      (with_reducible refine (HA.out.tells (ie.out _ _ _ HA.out.l.i (HA.out.tr (g:=gs) (p:=ps') (t:=u) (by simp)) HA.out.l.t)).mono ?_)
      rintro e wf0 ⟨rfl,HA⟩;refine hK.out _ _ (HS.out _ _ HA.out) (λhld=>?_);clear hK K;try simp only [Act.put,ak]
      refine aj 9 λK hK=>?_;go_simp;go_at_call 19
      (with_reducible refine (HA.out.tells (ie.out _ _ _ HA.out.l.i (HA.out.tr (g:=gu) (p:=pu) (t:=u) (by simp)) HA.out.l.t)).mono ?_)
      rintro e wf1 ⟨rfl,HA⟩;refine hK.out _ _ (HS.out _ _ HA.out) (λhld=>?_);clear hK K;try simp only [Act.put,ak]
      refine ah 10 ?_;try simp only [Act.put,ak]
      refine ah 11 ?_;try simp only [Act.put,ak]
      refine ah 12 ?_;try simp only [Act.put,ak]
      refine ah 13 ?_ (hy:=by intro wz hSw; (refine aT hSw.2.1 ?_; exact ⟨_,rfl,rfl⟩));try simp only [Act.put,ak]
      refine ah 15 ?_ (hy:=by intro wz hSw; (refine aT hSw.2.2 ?_; exact ⟨_,rfl,rfl⟩));try simp only [Act.put,ak]
      refine aj 14 λK hK=>?_;go_simp;go_at_call 19
      (with_reducible refine (HA.out.tells (ie.out _ _ _ HA.out.l.i (HA.out.tr (g:=gu) (p:=pu) (t:=u) (by simp)) HA.out.l.t)).mono ?_)
      rintro e wf2 ⟨rfl,HA⟩;refine hK.out _ _ (HS.out _ _ HA.out) (λhld=>?_);clear hK K;try simp only [Act.put,ak]
      refine aj 16 λK hK=>?_;go_simp;go_at_call 19
      (with_reducible refine (HA.out.tells (rh.out _ _ _ HA.out.l.i (HA.out.tr (g:=gt) (p:=pt) (t:=t) (by simp)) HA.out.l.t)).mono ?_)
      rintro e D0 ⟨rfl,HA⟩;refine hK.out _ _ (HS.out _ _ HA.out) (λhld=>?_);clear hK K;try simp only [Act.put,ak]
      refine ah 17 ?_;try simp only [Act.put,ak]
      refine ah 18 ?_;try simp only [Act.put,ak]
      refine ah 19 ?_;try simp only [Act.put,ak]
      refine ah 20 ?_ (hy:=by intro wz hSw; (refine aT hSw.2.1 ?_; exact ⟨_,rfl,rfl⟩));try simp only [Act.put,ak]
      refine aj 21 λK hK=>?_;go_simp;go_at_call 8
      (with_reducible refine (HA.out.VW uB.out (dc.out _ _ _ HA.out.l.i (HA.out.tr (g:=gu) (p:=pu) (t:=u) (by simp)) HA.out.l.t)).mono ?_)
      rintro e wa ⟨a2,c2,rfl,HA⟩;refine hK.out _ _ (HS.out _ _ HA.out) (λhld=>?_);clear hK K;try simp only [Act.put,ak]
      refine ah 22 ?_;try simp only [Act.put,ak]
      refine ah 23 ?_;try simp only [Act.put,ak]
      refine ah 24 ?_;try simp only [Act.put,ak]
      refine ah 25 ?_;try simp only [Act.put,ak]
      refine ah 26 ?_;try simp only [Act.put,ak]
      refine ah 27 ?_;try simp only [Act.put,ak]
      refine ah 28 ?_;try simp only [Act.put,ak]
      refine ah 29 ?_;try simp only [Act.put,ak]
      refine ah 30 ?_;try simp only [Act.put,ak]
      refine ah 31 ?_ (hy:=by intro wz hSw; (have q1:=hq1; have q2:=hq2; go_simp <;> with_reducible rfl));try simp only [Act.put,ak]
      refine ah 32 ?_;try simp only [Act.put,ak]
      refine ah 33 ?_;try simp only [Act.put,ak]
      refine Rg.takeL (i:=34) (v:=undef) rfl (by kernel_rfl) (by kernel_rfl) (by kernel_rfl) (λ_ _ _ h=>h) (Or.inr ⟨by rfl,rfl⟩) (by assumption) ?_;try simp only [Act.put,ak]
      refine Rg.takeL (i:=35) (v:=undef) rfl (by kernel_rfl) (by kernel_rfl) (by kernel_rfl) (λ_ _ _ h=>h) (Or.inr ⟨by rfl,rfl⟩) (by assumption) ?_;try simp only [Act.put,ak]
      refine Rg.takeL (i:=36) (v:=undef) rfl (by kernel_rfl) (by kernel_rfl) (by kernel_rfl) (λ_ _ _ h=>h) (Or.inr ⟨by rfl,rfl⟩) (by assumption) ?_;try simp only [Act.put,ak]
      refine ah 37 ?_;try simp only [Act.put,ak]
      refine ah 38 ?_;try simp only [Act.put,ak]
      refine ah 39 ?_;try simp only [Act.put,ak]
      refine ah 40 ?_;try simp only [Act.put,ak]
      refine aj 41 λK hK=>?_;go_simp;go_at_call 10
      (with_reducible refine (P7.out _ _ _ HA.out.ps).mono ?_)
      rintro e wa ⟨ia,in_,ic,rfl,hI,_,hb5⟩;have HI:=hid hI;have HA:=hid (HA.out.below hb5);clear hb5 hI;refine hK.out _ _ (HS.out _ _ HA.out) (λhld=>?_);clear hK K;try simp only [Act.put,ak]
      refine aj 42 λK hK=>?_;go_simp;go_at_call 25
      (with_reducible refine (y7.out _ _ _ _ HI.out).mono ?_)
      intro e wa hG;obtain ⟨na,nc,rfl,hst,hb5⟩:=Nj hG;have IH:=hid hst;have HA:=hid (HA.out.below hb5);clear hb5 hst hG;refine hK.out _ _ (HS.out _ _ HA.out) (λhld=>?_);clear hK K;try simp only [Act.put,ak]
      refine aj 43 λK hK=>?_;go_simp;go_at_call 24
      (with_reducible refine (CC.out _ _ _ IH.out).mono ?_)
      rintro e wa ⟨b5,rfl,hcl,hb5⟩;obtain rfl:b5=true:=by cases b5 with | true=>rfl | false=>exact absurd (hcl rfl) zc.out
      have HA:=hid (HA.out.below hb5);clear hb5 hcl;refine hK.out _ _ (HS.out _ _ HA.out) (λhld=>?_);clear hK K;try simp only [Act.put,ak]
      refine ah 44 ?_;try simp only [Act.put,ak]
      refine ah 45 ?_;try simp only [Act.put,ak]
      refine ah 46 ?_;try simp only [Act.put,ak]
      refine aA ?_;go_wp2;go_ret;exact ⟨rfl,HA.out.l.b⟩
     .have hq1:¬ s=s':=hs;have hq2:(s.toList==s'.toList)=false:=by rw [str_eq,decide_eq_false hs]
      clear he hs;go_wp2_with fail
      refine aB (S:=λwz=>wz.cell? ⟨gs,0,none⟩=some (.pointer ps')/\wz.cell? ⟨gu,0,none⟩=some (.pointer pu)/\wz.cell? ⟨gt,0,none⟩=some (.pointer pt)) (HS.out _ _ HA.out) λhld=>?_;refine aj 0 λK hK=>?_;go_simp;go_at_call 21
      (with_reducible refine (HA.out.says (uz _ HA.out.l.t)).mono ?_)
      rintro e wa ⟨rfl,HA⟩;refine hK.out _ _ (HS.out _ _ HA.out) (λhld=>?_);clear hK K;try simp only [Act.put,ak]
      refine ah 1 ?_;try simp only [Act.put,ak]
      refine ah 2 ?_;try simp only [Act.put,ak]
      refine ah 3 ?_;try simp only [Act.put,ak]
      refine ah 4 ?_;try simp only [Act.put,ak]
      refine ah 5 ?_;try simp only [Act.put,ak]
      refine ah 6 ?_ (hy:=by intro wz hSw; (refine aT hSw.1 ?_; exact ⟨_,rfl,rfl⟩));try simp only [Act.put,ak]
      refine ah 8 ?_ (hy:=by intro wz hSw; (refine aT hSw.2.1 ?_; exact ⟨_,rfl,rfl⟩));try simp only [Act.put,ak]
      refine aj 7 λK hK=>?_;go_simp;go_at_call 19
      (with_reducible refine (HA.out.tells (ie.out _ _ _ HA.out.l.i (HA.out.tr (g:=gs) (p:=ps') (t:=u) (by simp)) HA.out.l.t)).mono ?_)
      rintro e wf0 ⟨rfl,HA⟩;refine hK.out _ _ (HS.out _ _ HA.out) (λhld=>?_);clear hK K;try simp only [Act.put,ak]
      refine aj 9 λK hK=>?_;go_simp;go_at_call 19
      (with_reducible refine (HA.out.tells (ie.out _ _ _ HA.out.l.i (HA.out.tr (g:=gu) (p:=pu) (t:=u) (by simp)) HA.out.l.t)).mono ?_)
      rintro e wf1 ⟨rfl,HA⟩;refine hK.out _ _ (HS.out _ _ HA.out) (λhld=>?_);clear hK K;try simp only [Act.put,ak]
      refine ah 10 ?_;try simp only [Act.put,ak]
      refine ah 11 ?_;try simp only [Act.put,ak]
      refine ah 12 ?_;try simp only [Act.put,ak]
      refine ah 13 ?_ (hy:=by intro wz hSw; (refine aT hSw.2.1 ?_; exact ⟨_,rfl,rfl⟩));try simp only [Act.put,ak]
      refine ah 15 ?_ (hy:=by intro wz hSw; (refine aT hSw.2.2 ?_; exact ⟨_,rfl,rfl⟩));try simp only [Act.put,ak]
      refine aj 14 λK hK=>?_;go_simp;go_at_call 19
      (with_reducible refine (HA.out.tells (ie.out _ _ _ HA.out.l.i (HA.out.tr (g:=gu) (p:=pu) (t:=u) (by simp)) HA.out.l.t)).mono ?_)
      rintro e wf2 ⟨rfl,HA⟩;refine hK.out _ _ (HS.out _ _ HA.out) (λhld=>?_);clear hK K;try simp only [Act.put,ak]
      refine aj 16 λK hK=>?_;go_simp;go_at_call 19
      (with_reducible refine (HA.out.tells (rh.out _ _ _ HA.out.l.i (HA.out.tr (g:=gt) (p:=pt) (t:=t) (by simp)) HA.out.l.t)).mono ?_)
      rintro e D0 ⟨rfl,HA⟩;refine hK.out _ _ (HS.out _ _ HA.out) (λhld=>?_);clear hK K;try simp only [Act.put,ak]
      refine ah 17 ?_;try simp only [Act.put,ak]
      refine ah 18 ?_;try simp only [Act.put,ak]
      refine ah 19 ?_;try simp only [Act.put,ak]
      refine ah 20 ?_ (hy:=by intro wz hSw; (refine aT hSw.2.1 ?_; exact ⟨_,rfl,rfl⟩));try simp only [Act.put,ak]
      refine aj 21 λK hK=>?_;go_simp;go_at_call 8
      (with_reducible refine (HA.out.VW uB.out (dc.out _ _ _ HA.out.l.i (HA.out.tr (g:=gu) (p:=pu) (t:=u) (by simp)) HA.out.l.t)).mono ?_)
      rintro e wa ⟨a2,c2,rfl,HA⟩;refine hK.out _ _ (HS.out _ _ HA.out) (λhld=>?_);clear hK K;try simp only [Act.put,ak]
      refine ah 22 ?_;try simp only [Act.put,ak]
      refine ah 23 ?_;try simp only [Act.put,ak]
      refine ah 24 ?_;try simp only [Act.put,ak]
      refine ah 25 ?_;try simp only [Act.put,ak]
      refine ah 26 ?_;try simp only [Act.put,ak]
      refine ah 27 ?_ (hy:=by intro wz hSw; (have q1:=hq1; have q2:=hq2; go_simp <;> with_reducible rfl));try simp only [Act.put,ak]
      refine ah 28 ?_;try simp only [Act.put,ak]
      refine Rg.takeL (i:=29) (v:=undef) rfl (by kernel_rfl) (by kernel_rfl) (by kernel_rfl) (λ_ _ _ h=>h) (Or.inr ⟨by rfl,rfl⟩) (by assumption) ?_;try simp only [Act.put,ak]
      refine Rg.takeL (i:=30) (v:=undef) rfl (by kernel_rfl) (by kernel_rfl) (by kernel_rfl) (λ_ _ _ h=>h) (Or.inr ⟨by rfl,rfl⟩) (by assumption) ?_;try simp only [Act.put,ak]
      refine Rg.takeL (i:=31) (v:=undef) rfl (by kernel_rfl) (by kernel_rfl) (by kernel_rfl) (λ_ _ _ h=>h) (Or.inr ⟨by rfl,rfl⟩) (by assumption) ?_;try simp only [Act.put,ak]
      refine ah 32 ?_;try simp only [Act.put,ak]
      refine ah 33 ?_;try simp only [Act.put,ak]
      refine Rg.takeL (i:=34) (v:=undef) rfl (by kernel_rfl) (by kernel_rfl) (by kernel_rfl) (λ_ _ _ h=>h) (Or.inr ⟨by rfl,rfl⟩) (by assumption) ?_;try simp only [Act.put,ak]
      refine Rg.takeL (i:=35) (v:=undef) rfl (by kernel_rfl) (by kernel_rfl) (by kernel_rfl) (λ_ _ _ h=>h) (Or.inr ⟨by rfl,rfl⟩) (by assumption) ?_;try simp only [Act.put,ak]
      refine Rg.takeL (i:=36) (v:=undef) rfl (by kernel_rfl) (by kernel_rfl) (by kernel_rfl) (λ_ _ _ h=>h) (Or.inr ⟨by rfl,rfl⟩) (by assumption) ?_;try simp only [Act.put,ak]
      refine ah 37 ?_;try simp only [Act.put,ak]
      refine ah 38 ?_;try simp only [Act.put,ak]
      refine ah 39 ?_;try simp only [Act.put,ak]
      refine ah 40 ?_;try simp only [Act.put,ak]
      refine aj 41 λK hK=>?_;go_simp;go_at_call 10
      (with_reducible refine (P7.out _ _ _ HA.out.ps).mono ?_)
      rintro e wa ⟨ia,in_,ic,rfl,hI,_,hb5⟩;have HI:=hid hI;have HA:=hid (HA.out.below hb5);clear hb5 hI;refine hK.out _ _ (HS.out _ _ HA.out) (λhld=>?_);clear hK K;try simp only [Act.put,ak]
      refine aj 42 λK hK=>?_;go_simp;go_at_call 25
      (with_reducible refine (y7.out _ _ _ _ HI.out).mono ?_)
      intro e wa hG;obtain ⟨na,nc,rfl,hst,hb5⟩:=Nj hG;have IH:=hid hst;have HA:=hid (HA.out.below hb5);clear hb5 hst hG;refine hK.out _ _ (HS.out _ _ HA.out) (λhld=>?_);clear hK K;try simp only [Act.put,ak]
      refine aj 43 λK hK=>?_;go_simp;go_at_call 24
      (with_reducible refine (CC.out _ _ _ IH.out).mono ?_)
      rintro e wa ⟨b5,rfl,hcl,hb5⟩;obtain rfl:b5=true:=by cases b5 with | true=>rfl | false=>exact absurd (hcl rfl) zc.out
      have HA:=hid (HA.out.below hb5);clear hb5 hcl;refine hK.out _ _ (HS.out _ _ HA.out) (λhld=>?_);clear hK K;try simp only [Act.put,ak]
      refine ah 44 ?_;try simp only [Act.put,ak]
      refine ah 45 ?_;try simp only [Act.put,ak]
      refine ah 46 ?_;try simp only [Act.put,ak]
      refine aA ?_;go_wp2;go_ret;exact ⟨rfl,HA.out.l.b⟩
   .have hq1:(0:Int)<(m:Int):=by omega
    have hq2:decide ((0:Int)<(m:Int))=true:=aI hq1;clear IF hm;go_wp2_with fail
    refine aB (S:=λwz=>wz.cell? ⟨gs,0,none⟩=some (.pointer ps')/\wz.cell? ⟨gu,0,none⟩=some (.pointer pu)/\wz.cell? ⟨gt,0,none⟩=some (.pointer pt)) (HS.out _ _ HA.out) λhld=>?_;refine aj 0 λK hK=>?_;go_simp;go_at_call 21
    (with_reducible refine (HA.out.says (uz _ HA.out.l.t)).mono ?_)
    rintro e wa ⟨rfl,HA⟩;refine hK.out _ _ (HS.out _ _ HA.out) (λhld=>?_);clear hK K;try simp only [Act.put,ak]
    refine ah 1 ?_;try simp only [Act.put,ak]
    refine ah 2 ?_;try simp only [Act.put,ak]
    refine ah 3 ?_;try simp only [Act.put,ak]
    refine ah 4 ?_;try simp only [Act.put,ak]
    refine ah 5 ?_;try simp only [Act.put,ak]
    refine ah 6 ?_ (hy:=by intro wz hSw; (refine aT hSw.1 ?_; exact ⟨_,rfl,rfl⟩));try simp only [Act.put,ak]
    refine ah 8 ?_ (hy:=by intro wz hSw; (refine aT hSw.2.1 ?_; exact ⟨_,rfl,rfl⟩));try simp only [Act.put,ak]
    refine aj 7 λK hK=>?_;go_simp;go_at_call 19
    (with_reducible refine (HA.out.tells (ie.out _ _ _ HA.out.l.i (HA.out.tr (g:=gs) (p:=ps') (t:=u) (by simp)) HA.out.l.t)).mono ?_)
    rintro e wf0 ⟨rfl,HA⟩;refine hK.out _ _ (HS.out _ _ HA.out) (λhld=>?_);clear hK K;try simp only [Act.put,ak]
    refine aj 9 λK hK=>?_;go_simp;go_at_call 19
    (with_reducible refine (HA.out.tells (ie.out _ _ _ HA.out.l.i (HA.out.tr (g:=gu) (p:=pu) (t:=u) (by simp)) HA.out.l.t)).mono ?_)
    rintro e wf1 ⟨rfl,HA⟩;refine hK.out _ _ (HS.out _ _ HA.out) (λhld=>?_);clear hK K;try simp only [Act.put,ak]
    refine ah 10 ?_;try simp only [Act.put,ak]
    refine ah 11 ?_;try simp only [Act.put,ak]
    refine ah 12 ?_;try simp only [Act.put,ak]
    refine ah 13 ?_ (hy:=by intro wz hSw; (refine aT hSw.2.1 ?_; exact ⟨_,rfl,rfl⟩));try simp only [Act.put,ak]
    refine ah 15 ?_ (hy:=by intro wz hSw; (refine aT hSw.2.2 ?_; exact ⟨_,rfl,rfl⟩));try simp only [Act.put,ak]
    refine aj 14 λK hK=>?_;go_simp;go_at_call 19
    (with_reducible refine (HA.out.tells (ie.out _ _ _ HA.out.l.i (HA.out.tr (g:=gu) (p:=pu) (t:=u) (by simp)) HA.out.l.t)).mono ?_)
    rintro e wf2 ⟨rfl,HA⟩;refine hK.out _ _ (HS.out _ _ HA.out) (λhld=>?_);clear hK K;try simp only [Act.put,ak]
    refine aj 16 λK hK=>?_;go_simp;go_at_call 19
    (with_reducible refine (HA.out.tells (rh.out _ _ _ HA.out.l.i (HA.out.tr (g:=gt) (p:=pt) (t:=t) (by simp)) HA.out.l.t)).mono ?_)
    rintro e D0 ⟨rfl,HA⟩;refine hK.out _ _ (HS.out _ _ HA.out) (λhld=>?_);clear hK K;try simp only [Act.put,ak]
    refine ah 17 ?_;try simp only [Act.put,ak]
    refine ah 18 ?_;try simp only [Act.put,ak]
    refine ah 19 ?_;try simp only [Act.put,ak]
    refine ah 20 ?_ (hy:=by intro wz hSw; (refine aT hSw.2.1 ?_; exact ⟨_,rfl,rfl⟩));try simp only [Act.put,ak]
    refine aj 21 λK hK=>?_;go_simp;go_at_call 8
    (with_reducible refine (HA.out.VW uB.out (dc.out _ _ _ HA.out.l.i (HA.out.tr (g:=gu) (p:=pu) (t:=u) (by simp)) HA.out.l.t)).mono ?_)
    rintro e wa ⟨a2,c2,rfl,HA⟩;refine hK.out _ _ (HS.out _ _ HA.out) (λhld=>?_);clear hK K;try simp only [Act.put,ak]
    refine ah 22 ?_;try simp only [Act.put,ak]
    refine ah 23 ?_ (hy:=by intro wz hSw; (have q1:=hq1; have q2:=hq2; have q3:0<m:=(by omega); have q4:decide (0<m)=true:=aI q3; go_simp <;> with_reducible rfl));try simp only [Act.put,ak]
    refine ah 24 ?_;try simp only [Act.put,ak]
    refine Rg.takeL (i:=25) (v:=undef) rfl (by kernel_rfl) (by kernel_rfl) (by kernel_rfl) (λ_ _ _ h=>h) (Or.inr ⟨by rfl,rfl⟩) (by assumption) ?_;try simp only [Act.put,ak]
    refine Rg.takeL (i:=26) (v:=undef) rfl (by kernel_rfl) (by kernel_rfl) (by kernel_rfl) (λ_ _ _ h=>h) (Or.inr ⟨by rfl,rfl⟩) (by assumption) ?_;try simp only [Act.put,ak]
    refine Rg.takeL (i:=27) (v:=undef) rfl (by kernel_rfl) (by kernel_rfl) (by kernel_rfl) (λ_ _ _ h=>h) (Or.inr ⟨by rfl,rfl⟩) (by assumption) ?_;try simp only [Act.put,ak]
    refine Rg.takeL (i:=28) (v:=undef) rfl (by kernel_rfl) (by kernel_rfl) (by kernel_rfl) (λ_ _ _ h=>h) (Or.inr ⟨by rfl,rfl⟩) (by assumption) ?_;try simp only [Act.put,ak]
    refine Rg.takeL (i:=29) (v:=undef) rfl (by kernel_rfl) (by kernel_rfl) (by kernel_rfl) (λ_ _ _ h=>h) (Or.inr ⟨by rfl,rfl⟩) (by assumption) ?_;try simp only [Act.put,ak]
    refine Rg.takeL (i:=30) (v:=undef) rfl (by kernel_rfl) (by kernel_rfl) (by kernel_rfl) (λ_ _ _ h=>h) (Or.inr ⟨by rfl,rfl⟩) (by assumption) ?_;try simp only [Act.put,ak]
    refine Rg.takeL (i:=31) (v:=undef) rfl (by kernel_rfl) (by kernel_rfl) (by kernel_rfl) (λ_ _ _ h=>h) (Or.inr ⟨by rfl,rfl⟩) (by assumption) ?_;try simp only [Act.put,ak]
    refine Rg.takeL (i:=32) (v:=undef) rfl (by kernel_rfl) (by kernel_rfl) (by kernel_rfl) (λ_ _ _ h=>h) (Or.inr ⟨by rfl,rfl⟩) (by assumption) ?_;try simp only [Act.put,ak]
    refine Rg.takeL (i:=33) (v:=undef) rfl (by kernel_rfl) (by kernel_rfl) (by kernel_rfl) (λ_ _ _ h=>h) (Or.inr ⟨by rfl,rfl⟩) (by assumption) ?_;try simp only [Act.put,ak]
    refine Rg.takeL (i:=34) (v:=undef) rfl (by kernel_rfl) (by kernel_rfl) (by kernel_rfl) (λ_ _ _ h=>h) (Or.inr ⟨by rfl,rfl⟩) (by assumption) ?_;try simp only [Act.put,ak]
    refine Rg.takeL (i:=35) (v:=undef) rfl (by kernel_rfl) (by kernel_rfl) (by kernel_rfl) (λ_ _ _ h=>h) (Or.inr ⟨by rfl,rfl⟩) (by assumption) ?_;try simp only [Act.put,ak]
    refine Rg.takeL (i:=36) (v:=undef) rfl (by kernel_rfl) (by kernel_rfl) (by kernel_rfl) (λ_ _ _ h=>h) (Or.inr ⟨by rfl,rfl⟩) (by assumption) ?_;try simp only [Act.put,ak]
    refine Rg.takeL (i:=37) (v:=undef) rfl (by kernel_rfl) (by kernel_rfl) (by kernel_rfl) (λ_ _ _ h=>h) (Or.inr ⟨by rfl,rfl⟩) (by assumption) ?_;try simp only [Act.put,ak]
    refine ah 38 ?_;try simp only [Act.put,ak]
    refine ah 39 ?_;try simp only [Act.put,ak]
    refine Rg.takeL (i:=40) (v:=undef) rfl (by kernel_rfl) (by kernel_rfl) (by kernel_rfl) (λ_ _ _ h=>h) (Or.inr ⟨by rfl,rfl⟩) (by assumption) ?_;try simp only [Act.put,ak]
    refine Rg.takeL (i:=41) (v:=undef) rfl (by kernel_rfl) (by kernel_rfl) (by kernel_rfl) (λ_ _ _ h=>h) (Or.inr ⟨by rfl,rfl⟩) (by assumption) ?_;try simp only [Act.put,ak]
    refine Rg.takeL (i:=42) (v:=undef) rfl (by kernel_rfl) (by kernel_rfl) (by kernel_rfl) (λ_ _ _ h=>h) (Or.inr ⟨by rfl,rfl⟩) (by assumption) ?_;try simp only [Act.put,ak]
    refine Rg.takeL (i:=43) (v:=undef) rfl (by kernel_rfl) (by kernel_rfl) (by kernel_rfl) (λ_ _ _ h=>h) (Or.inr ⟨by rfl,rfl⟩) (by assumption) ?_;try simp only [Act.put,ak]
    refine ah 44 ?_;try simp only [Act.put,ak]
    refine ah 45 ?_;try simp only [Act.put,ak]
    refine ah 46 ?_;try simp only [Act.put,ak]
    refine aA ?_;go_wp2;go_ret;exact ⟨rfl,HA.out.l.b⟩
end Sx
end
section
open Go.RowKit Go.ChangeShapes Go.WideShapes
end
section
open Go.ChangeShapes Go.WideShapes Go.ChangeAt Go.WideMaps Go.WideElems Go.RowKit
namespace Sm
open Sh
theorem WU : prog.globalNamed "dormouse/sum.rounds" = some 0 := by kernel_rfl
theorem Xp:(prog.globals[0]?).map (·.type)=some 214:=by kernel_rfl
theorem WZ {H:Type}:(Rows.laid_dormouse_sum_rounds:DataW H) = .agg ((List.range 64).map λi=>.lit (.int .u32 (kN i:Nat))):=rfl
theorem QF:prog.cellsOf 98=1:=by kernel_rfl
theorem yY (h : laidMetH prog [("dormouse/sum.rounds", Rows.laid_dormouse_sum_rounds)] W) : Tab W := by
 rw [MakeChecks.laidMetH_plain _ _ _ (by kernel_rfl)] at h;obtain ⟨ps,⟨g0,t0,cs0,f0,p0,q0,hg0,ht0,hv0,hd0,_⟩,_,_⟩:=h;obtain rfl:=Option.some.inj (WU.symm.trans hg0);obtain rfl:=Option.some.inj (Xp.symm.trans ht0);obtain ⟨xs,m1,rfl,hx1,hlen,fY,hel⟩:=DataW.trod_array underlying214 hd0;rw [WZ] at hx1;simp only [Prod.mk.injEq,DataW.agg.injEq] at hx1;intro i hi;have h1:=hel i hi;rw [QF,Nat.mul_one] at h1;have hi2:i<xs.length:=by omega
 rw [List.getElem?_eq_getElem hi2] at h1;obtain ⟨n,e1,e2,_⟩:=DataW.trod_int underlying98 h1;have e3:=congrArg (λl=>l[i]?) hx1.1;simp only [List.getElem?_map,List.getElem?_eq_getElem hi2,List.getElem?_range hi,Option.map_some,e2] at e3;have e4:n=(kN i:Nat):=by
  have:=Option.some.inj e3;simpa using this.symm
 subst e4;rw [World.var?_cell hg0 hv0 i];obtain ⟨l⟩:=cs0;have e5:=congrArg (λl=>l[0]?) e1;simp only [List.getElem?_take,List.getElem?_drop,Nat.add_zero] at e5;simpa using e5
end Sm
end
end Go.Proofs.YtlcplcgigjagpaaGreatDoor
