/-
 The contract of Make.
-/
import Derived.Test.YtlcplcgigjagpaaGreatDoorSg14
open Go.Lib (hid)
open Go.Proofs.Tryz
set_option linter.unusedSimpArgs false
set_option linter.unusedVariables false
set_option maxHeartbeats 40000000
set_option maxRecDepth 100000
namespace Go.Proofs.YtlcplcgigjagpaaGreatDoor
variable {a q:aJ} {w1 w2:World} {L g:Nat} {e:TypeId} {ops:Array Oper} {o:Oper} {cs:aM} {ev:Operand->Value}
section
open Go.RowKit
namespace Tm
open Tr Ni Pk Ky No Rf Rl
open Sm (Tab)
theorem NV {M:Mp} {w w':World} {b:Nat} {t:T} {n c:Nat} {ka:aJ} {kn kc:Nat} (hi:Inv M w) (hb:Below w.heap.size w w') (hB:w.heap.size<=b) (hn:t ≠ .nil)
  (hc:w'.heap[b]? = some (.cells (iq t a n c ka kn kc 0 (Gl t)) 108 (0,0))) (hp:bq w' a n c (bT t)) (hf:∀ ad,a=some ad->0<n->M.ft ad.block\/w.heap.size<=ad.block) (hk:Ks0 M w.heap.size w' ka kn kc (fI t)) :
  Ph M w t (.returned (.agg #[.pointer (some ⟨b,0,none⟩)])) w':=by
 have f:=Fr.more hi hb b t hB;have hlt:b<w'.heap.size:=(Array.getElem?_eq_some_iff.1 hc).1;refine ⟨_,Tm.more M b t w.heap.size w'.heap.size,rfl,⟨b,rfl,tY _ _ _ _ _,hn⟩,f,⟨λk hk=>hk.elim (λh=>aH (hi.lt_ k h) hb.size) (λh=>h.2),λk u hm=>?_⟩,hb,λk hk h=>h.elim (λh=>h) (λh=>absurd h.1 (by omega))⟩;by_cases e:k=b
 .subst e;rw [tY] at hm;obtain rfl:=Option.some.inj hm;refine ⟨hn,Or.inr ⟨hB,hlt⟩,a,n,c,ka,kn,kc,0,_,hc,⟨hp,λad e hn=>?_⟩,⟨hk.1,hk.2.1,hk.2.2.1,hk.2.2.2.1,λj hj=>?_⟩,Or.inl ⟨rfl,rfl⟩⟩
  .obtain ⟨b',off,e',hlt',_⟩:=hp.at' 0 hn;rcases hf ad e hn with h | h
   .exact Or.inl h
   .rw [e] at e';obtain rfl:=Option.some.inj e';exact Or.inr ⟨h,hlt'⟩
  .obtain ⟨b',off,p,e,hlt',hm,hcb,ht⟩:=hk.2.2.2.2 j hj;exact ⟨b',off,p,e,hlt',hm.elim Or.inl (λh=>Or.inr ⟨h,hlt'⟩),hcb,ht.mono f.mono⟩
 .rw [rT e] at hm;have hlt:=hi.lt hm;obtain ⟨h1,h2,a,n,c,ka,kn,kc,d,r,g1,g2,g3,g4⟩:=hi.part_ k u hm;exact ⟨h1,Or.inl h2,a,n,c,ka,kn,kc,d,r,(hb.block k hlt).trans g1,g2.fr hi f,g3.fr hi f,g4⟩
def vL (M:Mp) (w:World) (t:T) (c:Int) (e:Ending) (w':World):Prop:=∃ p M',e = .returned (.tuple #[tv p,.int .i64 c])/\IsT M' p t/\Fr M M' w w'/\Inv M' w'/\Tab w'/\∀ k,k<w.heap.size->M'.ft k->M.ft k
theorem Qj {M:Mp} {w w5 w8:World} {t:T} {e:Ending} (hi:Inv M w) (hz:0<w.heap.size) (hb2:Below w.heap.size w w2) (hO2:Rg.Own w2 g #[.pointer none] 31) (hg:w.heap.size<=g) (f5:Fr M M w2 w5) (t5:Tab w5) (hG:Ph M w5 t e w8) :
  ∃ p,e = .returned (tv p)/\∀ w9,Rg.Upd w8 g w9->vL M w t 0 (.returned (.tuple #[tv p,.int .i64 0])) w9:=by
 obtain ⟨p,M',he,ht,f,i,b,hf⟩:=hG;have f28:=f5.trans (hi.below hb2) f;have hn:¬ M'.ft g:=f28.box (hi.free hg) hO2.1 (eu hO2 (cZ _));have f8:=(Fr.below M hb2).trans hi f28;have ZD:=hb2.size;have ZG:=f5.size;exact ⟨p,he,λw9 hu=>⟨p,M',rfl,ht,f8.upd hu hg,i.upd hu hn,λi hi=>by rw [World.cell?_of_block (hu.block 0 (by omega))]; exact (t5.below b t5.pos) i hi,λk hk=>hf k (by omega)⟩⟩
theorem TW (M:Mp) (N:Nd) (ts:List T) (hM:Mk N ts) (pa:aJ) (pn pc:Nat) (ps:List (aJ)) (hA:Are M ps ts) (ka:aJ) (kn kc:Nat) (hn:kn<=1000000) (w:World) (hi:Inv M w) (hT:Tab w) (hB:bq w pa pn pc N.p) (hP:iV w ka kn kc ps) :
  Calls prog 114 #[.agg (ndC N pa pn pc),.slice ka kn kc] w (vL M w (makeT N ts) 0):=by
 obtain ⟨w2,hw2,hN,hX,hb2⟩:∃ w2,w2=(w.alloc (.cells (ndC N pa pn pc) 56)).alloc (.cells #[.pointer none] 31)/\dJ w2 w.heap.size N pa pn pc/\Rg.Own w2 (w.heap.size+1) #[.pointer none] 31/\Below w.heap.size w w2:=by
  refine ⟨_,rfl,(Rg.Own.new _ _ _).below (al1 _ _),?_,al2 _ _ _⟩;have:=Rg.Own.new (w.alloc (.cells (ndC N pa pn pc) 56)) #[.pointer none] 31;simpa using this
 have hkn:(bJ N.ks).length=kn:=by rw [hM.refs,List.length_map,<-hA.1]; exact hP.2.2.1
 have hpn:pn<=1000000:=by have:=hB.len; have:=hM.pl; omega
 have HN:=hid hN;have HX:=hid hX;have HB:=hid hb2;have lw:=hid (hB.below hb2);have HP:=hid (hP.below hb2);have HI:=hid (hi.below hb2);have U3:=HI;have yh:=hid (hT.below hb2 hT.pos);have HL:=hid hM.ks;have HW:Hid (_=_):=hid hw2;have eE:=hid (Ux N pa pn pc hM.ks w2);have C7:=hid (λwz hz=>Pz hM.ks hM.may hM.v hM.few pa pn pc wz hz)
 have ae:Hid (∀ w5 w8 e,Fr M M w2 w5->Tab w5->Ph M w5 (makeT N ts) e w8->∃ p,e = .returned (tv p)/\∀ w9,Rg.Upd w8 (w.heap.size+1) w9->vL M w (makeT N ts) 0 (.returned (.tuple #[tv p,.int .i64 0])) w9):=hid (λw5 w8 e f t g=>Qj hi hT.pos hb2 hX (Nat.le_succ _) f t g)
 have qq:Hid (∀ w5,iV w5 ka kn kc ps->∀ wz,Below w5.heap.size w5 wz->Calls prog 152 #[.agg (ndC N pa pn pc),.slice ka kn kc] wz λe w'=>∃ va vn vc,e = .returned (.slice va vn vc)/\Ks0 M w5.heap.size w' va vn vc (fI (makeT N ts))/\Below wz.heap.size wz w'):=hid (λw5 hp wz hb=>by
  refine (Ke M N hM.ks pa pn pc ps ts hA hM.kd' ka kn kc wz (hp.below hb) hn).mono ?_;rintro e w' ⟨va,vn,vc,he,hk,hb'⟩;exact ⟨va,vn,vc,he,hk.lo hb.size,hb'⟩)
 have N6:=hid (JW (makeT N ts) N.kd N.v hM.k hM.mv hM.ms);have cU:=hid hM.mp;have io:=hid hM.mn;have ot:Hid (M.at_ w.heap.size=none/\M.at_ (w.heap.size+1)=none):=hid ⟨hi.out aF,hi.out (by omega)⟩;have HM:=hid hM;have HA:=hid hA;obtain ⟨TT,lE⟩:=av (makeT N ts)
 rw [lE] at ae qq N6 cU io ⊢;obtain ⟨gN,hgN⟩:=av w.heap.size
 obtain ⟨gT,ce⟩:=av (w.heap.size+1)
 have hgg:gN≠gT:=by omega
 have dy:Hid (gT=w.heap.size+1):=hid ce.symm;rw [ce] at HX ae ot;rw [hgN] at HN ot;have U4:Hid (_=_):=hid hgN;have Cs:=hid hkn;clear hN hX hb2 hB hP hi hT hM hA hw2 lE hkn ce hgN;have hgo:Calls prog 114 #[.agg (ndC N pa pn pc),.slice ka kn kc] w (vL M w TT 0):=by
  go_enter func114,ntmps114;go_wp2_with (first
   | (refine ay (aW _ _ _ gT (by rw [dy.out]; simp) rfl) ?_; rw [<-HW.out,U4.out])
   | (refine ay (dn HN.out HL.out ⟨_,rfl,rfl⟩) ?_))
  refine eE.out.mono ?_;rintro e w3 ⟨a3,n3,c3,rfl,G5,fY,hb3⟩;obtain rfl:kn=n3:=by rw [<-G5.2.2.1]; exact Cs.out.symm
  have G6:=hid (HN.out.below hb3);have cF:=hid (HX.out.below hb3);have HB3:=hid (hb3);have eh:=hid (lw.out.below hb3);have cC:=hid G5;have G7:Hid (∀ b off,a3=some ⟨b,off,none⟩->M.at_ b=none):=hid (λb off e=>HI.out.out (fY b off e));clear G5 fY hb3 eE HX lw HW;go_wp2_with (first
   | (refine ay (dn G6.out HL.out ⟨_,rfl,rfl⟩) ?_))
  refine (C7.out w3 eh.out).mono ?_;rintro e w4 ⟨rfl,hb4⟩;have ja:=hid (G6.out.below hb4);have cP:=hid (cF.out.below hb4);have eM:=hid (eh.out.below hb4);have cz:=hid (bst HB3.out hb4);have cV:=hid (cC.out.below hb4);have u1:=hid (HP.out.below cz.out);have HI4:=hid (HI.out.below cz.out);have gr:=hid (yh.out.below cz.out yh.out.pos);have c0:=(bW ja.out).1;clear hb4 G6 cF HB3 eh cC C7 HP HI yh;go_upto_region 4 with fail
  go_cut [36] (λv wx=>v = .bool false/\Hid (Below w4.heap.size w4 wx))
  case first =>
   rcases HM.out.kd with ⟨h1,h2⟩ | ⟨h1,s,hts,hs1,hs2⟩ | ⟨h1,h2⟩
   .rw [h1] at c0;clear h1 h2;go_wp2_with fail
    go_meet
    exact ⟨rfl,hid aG⟩
   .rw [h1] at c0;have hps:ps.length=1:=by rw [HA.out.1,hts]; rfl
    have hk1:kn=1:=by rw [<-u1.out.2.2.1]; exact hps
    obtain ⟨b,off,hka,hlt,hc⟩:=u1.out.2.2.2.2 0 (by omega);have ht:=HA.out.2 0 (by omega);rw [hts] at ht;have ht':IsT M (ps.getD 0 none) s:=ht;have G8:=λwz (hb:Below w4.heap.size w4 wz)=>Tm.dF M (ps.getD 0 none) s wz (HI4.out.below hb) ht';obtain ⟨p,hp⟩:=av (ps.getD 0 none)
    rw [hp] at hc G8;have eE:=hid G8;obtain ⟨K,hK⟩:=av (dD s)
    rw [hK] at eE hs1 hs2;have k1:(K==1)=false:=by rw [beq_eq_false_iff_ne]; exact hs1
    have k2:(K==2)=false:=by rw [beq_eq_false_iff_ne]; exact hs2
    have k1':decide (K=1)=false:=decide_eq_false hs1;have k2':decide (K=2)=false:=decide_eq_false hs2;rw [Nat.add_zero] at hc;have HC:=hid hc;clear h1 hps ht ht' G8 hp hK hts;subst hk1;subst hka;go_wp2_with (first
     | (refine ay (aT HC.out ⟨_,rfl,rfl⟩) ?_)
     | (refine Rg.runW ?hw _ _ (aT HC.out ⟨_,rfl,rfl⟩) ?_; case hw=>rfl))
    refine (eE.out w4 aG).mono ?_;rintro e w5 ⟨rfl,hb5⟩;have sr:=hid ((Below.cell (p:=⟨b,off,none⟩) hb5 hlt).trans HC.out);have ag:=hid hb5;clear hb5;go_wp2_with (first
     | (refine ay (aT sr.out ⟨_,rfl,rfl⟩) ?_)
     | (refine Rg.runW ?hw _ _ (aT sr.out ⟨_,rfl,rfl⟩) ?_; case hw=>rfl))
    refine (eE.out w5 ag.out).mono ?_;rintro e w6 ⟨rfl,hb6⟩;have cg:=hid (bst ag.out hb6);clear hb6;go_wp2_with fail
    go_meet
    exact ⟨rfl,cg⟩
   .rw [h1] at c0;clear h1 h2;go_wp2_with fail
    go_meet
    exact ⟨rfl,hid aG⟩
  case rest =>
  obtain ⟨rfl,ag⟩:=hcut;obtain ⟨wd,hwd⟩:=au wc
  subst hwd;have gm:=hid (ja.out.below ag.out);have N7:=hid (cP.out.below ag.out);have yi:=hid (eM.out.below ag.out);have N8:=hid (cV.out.below ag.out);have G9:=hid (u1.out.below ag.out);have CA:=hid (HI4.out.below ag.out);have N9:=hid (gr.out.below ag.out gr.out.pos);have yk:Hid (Fr M M w2 wd):=hid (Fr.below M (bst cz.out ag.out));have HEq:=hid (PW M ps ts ka kn kc a3 kn c3 wd G9.out HA.out HM.out.fine (by rw [<-HM.out.refs]; exact N8.out) G7.out hn CA.out N9.out);clear ja cP eM cV u1 HI4 gr ag cz N8 c0;go_wp2_with fail
  refine HEq.out.mono ?_;rintro e w5 ⟨rfl,cN,hi5,hZ⟩;have kp:Hid (dJ w5 gN N pa pn pc):=hid (rX gm.out cN ot.out.1);have cT:=hid (rX N7.out cN ot.out.2);have Ge:=hid (oV CA.out yi.out cN);have C4:=hid (G9.out.frm CA.out cN);have p7:=hid hi5;replace ae:=hid (λw8 e g=>ae.out w5 w8 e (yk.out.trans U3.out cN) hZ g);replace qq:=hid (qq.out w5 C4.out);have CC:Hid (∀ wz,Below w5.heap.size w5 wz->Calls prog 112 #[.slice pa pn pc] wz (KR wz N.p)):=hid (λwz hb=>vN pa pn pc N.p hpn wz (Ge.out.below hb))
  clear cN hi5 hZ HEq gm N7 yi G9 CA N9 yk;go_wp2_with fail
  have dr:Hid (Below w5.heap.size w5 w5.drew):=hid aG.drew;refine aB (S:=λw'=>dJ w' gN N pa pn pc) (kp.out.drew) λhld=>?_;refine ah 0 ?_;try simp only [Act.put,ak]
  refine ah 1 ?_ (hy:=by intro wz hSw; (have q0:=(bW hSw).1; go_simp <;> with_reducible rfl));try simp only [Act.put,ak]
  refine ah 2 ?_;try simp only [Act.put,ak]
  refine ah 3 ?_ (hy:=by intro wz hSw; (have q0:=(bW hSw).2.1; go_simp <;> with_reducible rfl));try simp only [Act.put,ak]
  refine ah 5 ?_;try simp only [Act.put,ak]
  refine ah 6 ?_ (hy:=by intro wz hSw; (have q0:=(bW hSw).2.2; go_simp <;> with_reducible rfl));try simp only [Act.put,ak]
  refine ah 7 ?_ (hy:=by intro wz hSw; (refine dn hSw HL.out ?_; exact ⟨_,rfl,rfl⟩));try simp only [Act.put,ak]
  refine ah 8 ?_;try simp only [Act.put,ak]
  refine aj 4 λK hK=>?_;go_simp;go_at_call 112
  (with_reducible refine (CC.out _ dr.out).mono ?_)
  rintro e du ⟨a7,n7,c7,rfl,y6,hbx⟩;have cq:=hid (y6.weak dr.out.size);replace dr:=hid (bst dr.out hbx);clear y6;refine hK.out _ _ (hld.below hbx) λhld=>?_;clear hK K hbx;try simp only [Act.put,ak]
  refine aj 9 λK hK=>?_;go_simp;go_at_call 152
  (with_reducible refine (qq.out _ dr.out).mono ?_)
  rintro e wv1 ⟨va,vn,vc,rfl,hks,hbx⟩;have ov:=hid hks;replace cq:=hid (cq.out.below hbx);replace dr:=hid (bst dr.out hbx);clear hks;refine hK.out _ _ (hld.below hbx) λhld=>?_;clear hK K hbx;try simp only [Act.put,ak]
  refine ah 10 ?_ (hy:=by intro wz hSw; (refine bK (N6.out a7 n7 c7 va vn vc) ?_; exact ⟨_,rfl,rfl⟩));try simp only [Act.put,ak]
  refine aj 11 λK hK=>?_;refine Rg.meetAlloc (by rfl) (kK (t:=TT) ⟨_,rfl,rfl⟩) ?_;rintro wv2 b11 yl h11 hbx;have Gk:w5.heap.size<=b11:=by rw [yl]; exact dr.out.size
  replace cq:=hid (cq.out.below hbx);replace ov:=hid (ov.out.below hbx);replace dr:=hid (bst dr.out hbx);obtain ⟨U5,ym,hE⟩:=ae.out _ _ (NV p7.out dr.out Gk io.out h11.2 (by rw [cU.out]; exact cq.out.1) (λad e _=>Or.inr (cq.out.2 ad e)) ov.out);obtain rfl:U5=some ⟨b11,0,none⟩:=by cases ym; rfl
  have HE:=hid hE;clear hE ym yl;refine hK.out _ _ (hld.below hbx) λhld=>?_;clear hK K hbx;try simp only [Act.put,ak]
  refine ah 12 ?_;try simp only [Act.put,ak]
  refine aj 13 λK hK=>?_;refine cK (by rfl) (cT.out.below dr.out) (off:=0) (by simp) (some ⟨b11,0,none⟩) ⟨_,_,rfl,rfl,rfl⟩ ?_;rintro lg hn hu;have yo:Hid (Rg.Own lg gT #[.pointer (some ⟨b11,0,none⟩)] 31):=hid hn;have GB:=hid (HE.out _ hu);refine hK.out _ _ (hld.upd hu hgg) λhld=>?_;clear hK K hn hu;try simp only [Act.put,ak]
  refine ah 14 ?_;try simp only [Act.put,ak]
  refine aA ?_;clear hld;go_wp2;exact bodyPost_ret (qm (q:=4) (u:=5) rfl _ rfl yo.out) rfl GB.out
 exact hgo
structure FrK (M:Mp) (K:Nat->Prop) (w w':World):Prop where
 os:w'.os=w.os
 tape:w'.tape=w.tape
 output:w'.output=w.output
 size:w.heap.size<=w'.heap.size
 block:∀ k,k<w.heap.size->M.at_ k=none->¬ K k->w'.heap[k]? = w.heap[k]?
theorem FrK.refl (M:Mp) (K:Nat->Prop) (w:World):FrK M K w w:=⟨rfl,rfl,rfl,aF,λ_ _ _ _=>rfl⟩
theorem FrK.trans {M:Mp} {K K1:Nat->Prop} {w w1 w2:World} (h:FrK M K w w1) (g:FrK M K1 w1 w2) (hk:∀ k,K1 k->K k\/w.heap.size<=k):FrK M K w w2 :=
 ⟨g.os.trans h.os,g.tape.trans h.tape,g.output.trans h.output,Nat.le_trans h.size g.size,λk hl hm hn=>(g.block k (aH hl h.size) hm λh1=>(hk k h1).elim hn (by omega)).trans (h.block k hl hm hn)⟩
theorem FrK.of {M:Mp} {K:Nat->Prop} {w w':World} (f:Fr M M w w'):FrK M K w w':=⟨f.os,f.tape,f.output,f.size,λk hl hm _=>f.block k hl hm⟩
theorem Inv.keep {M:Mp} {w w':World} (h:Inv M w) (hs:w.heap.size<=w'.heap.size) (hk:∀ k,M.ft k->w'.heap[k]? = w.heap[k]?):Inv M w':=by
 refine ⟨λk hk=>aH (h.lt_ k hk) hs,λb t hm=>?_⟩;obtain ⟨h1,h2,h3⟩:=h.part_ b t hm;refine ⟨h1,h2,?_⟩;obtain ⟨a,n,c,ka,kn,kc,d,r,hb,hB,hK,hd⟩:=h3;refine ⟨a,n,c,ka,kn,kc,d,r,(hk b h2).trans hb,⟨⟨hB.1.1,hB.1.2.1,hB.1.2.2.1,hB.1.2.2.2.1,λj hj=>?_⟩,hB.2⟩,⟨hK.1,hK.2.1,hK.2.2.1,hK.2.2.2.1,λj hj=>?_⟩,hd⟩
 .obtain ⟨b',off,e,hlt,hc⟩:=hB.1.2.2.2.2 j hj;exact ⟨b',off,e,aH hlt hs,by rw [World.cell?_of_block (hk b' (hB.2 _ e (by omega)))]; exact hc⟩
 .obtain ⟨b',off,p,e,hlt,hf,hc,ht⟩:=hK.at' j hj;exact ⟨b',off,p,e,aH hlt hs,hf,by rw [World.cell?_of_block (hk b' hf)]; exact hc,ht⟩
theorem qA {B sz n:Nat} {w w':World} {v:Value} {xs:List Value} (h:w.ownsRow B e sz v n xs) (hk:∀ k,v.ownBlock=some k->w'.heap[k]? = w.heap[k]?):w'.ownsRow B e sz v n xs:=by
 obtain ⟨h1,h2⟩:=h;refine ⟨h1,?_⟩;rcases h2 with h2 | ⟨g,cap,cur,rfl,hg,hh,hr⟩
 .exact .inl h2
 .exact .inr ⟨g,cap,cur,rfl,hg,(hk g rfl).trans hh,hr⟩
theorem jY {B sz n:Nat} {w:World} {v:Value} {xs:List Value} (h:w.ownsRow B e sz v n xs):∃ a c,v = .slice a n c:=by
 rcases h.2 with ⟨rfl,rfl⟩ | ⟨g,cap,cur,rfl,_⟩
 .exact ⟨_,_,rfl⟩
 .exact ⟨_,_,rfl⟩
def Nh (M:Mp):aJ->T
 | none=>.nil
 | some ad=>(M.at_ ad.block).getD .nil
theorem IsT.Nh {M:Mp} {p:aJ} {t:T} (h:IsT M p t):Tm.Nh M p=t:=by
 cases p with
 | none=>exact Eq.symm h
 | some ad =>
  obtain ⟨b,rfl,hm,_⟩:=h;show (M.at_ b).getD .nil=t;rw [hm]; rfl
theorem Qq {B:Nat} {w:World} {n cap:Nat} {ps:List (aJ)} (h:w.ownsRow B 31 1 (.slice (some ⟨g,0,none⟩) n cap) n (ps.map Value.pointer)):ps.length=n/\B<=g/\g<w.heap.size/\n<=cap/\cap<=maxLen/\∀ j,j<n->w.cell? ⟨g,j,none⟩=some (.pointer (ps.getD j none)):=by
 obtain ⟨h1,h2⟩:=h;have hl:ps.length=n:=by simpa using h1
 rcases h2 with ⟨h2,_⟩ | ⟨g',cap',cur,e,hg,hh,hnc,hcm,hsz,htk⟩
 .cases h2
 .injection e with e1 e2 e3;injection e1 with e1;injection e1 with e1;subst e1 e3;refine ⟨hl,hg,(Array.getElem?_eq_some_iff.1 hh).1,hnc,hcm,λj hj=>?_⟩;rw [cell_of_row w g _ _ _ _ hh];have h3:cur.toList[j]? = (ps.map Value.pointer)[j]? := by
   rw [<-htk,List.getElem?_take_of_lt (by omega)]
  rw [<-Array.getElem?_toList,h3];simp [List.getD,show j<ps.length by omega]
theorem Are.snoc {M:Mp} {ps qs:List (aJ)} {S R:List T} (h:Are M ps S) (g:Are M qs R):Are M (ps++qs) (S++R):=by
 refine ⟨by simp [h.1,g.1],λj hj=>?_⟩;by_cases hl:j<ps.length
 .have:=h.2 j hl;simpa [List.getD,List.getElem?_append_left hl,List.getElem?_append_left (show j<S.length by rw [<-h.1]; exact hl)] using this
 .have hs:=h.1;have:=g.2 (j-ps.length) (by rw [List.length_append] at hj; omega);simpa [List.getD,List.getElem?_append_right (show ps.length<=j by omega),List.getElem?_append_right (show S.length<=j by omega),hs] using this
section
variable {M:Mp} {J:List T->(Nat->Prop)->World->Prop} {K0:Nat->Prop} {w0 w:World} {t:T} {v:Value} {V S:List T} {ps:List (aJ)} {K:Nat->Prop}
end
end Tm
end
section
open Go.RowKit
namespace Sx
open Tr Ni Pk Ky No Rf Rl Tm
open Sm (Tab)
theorem lC {w w':World} (h:Tab w) (hu:Rg.Upd w g w') (hg:0<g):Tab w':=λi hi=>by
 rw [World.cell?_of_block (hu.block 0 (by omega))];exact h i hi
theorem LH (M:Mp) (p:aJ) (t:T) (L:Nat) (g:Tr.Good t L) (hL:L<=64) (f:Fine t) (ts:List T) (hM:Mk (bH t) ts) (ps:List (aJ)) (hA:Are M ps ts) (ka:aJ) (kn kc:Nat) (hn:kn<=1000000) (w:World) (hi:Inv M w) (ht:IsT M p t) (hT:Tab w) (hP:iV w ka kn kc ps) :
  Calls prog 83 #[tv p,.slice ka kn kc] w (vL M w (makeT (bH t) ts) 0):=by
 obtain ⟨w1,hw1⟩:=au ((w.alloc (.cells #[.pointer p] 31)).alloc (.cells #[.pointer none] 31))
 have hb1:Below w.heap.size w w1:=by rw [hw1]; exact al2 _ _ _
 have af:Rg.Own w1 w.heap.size #[.pointer p] 31:=by rw [hw1]; exact (Rg.Own.new _ _ _).below (al1 _ _)
 have hX1:Rg.Own w1 (w.heap.size+1) #[.pointer none] 31:=by
  have:=Rg.Own.new (w.alloc (.cells #[.pointer p] 31)) #[.pointer none] 31;rw [hw1];simpa using this
 have hi1:=hi.below hb1;have hT1:=hT.below hb1 hT.pos;have gi:=hid (tu M p t L g hL f w1 hi1 ht hT1);have bc:Hid (Bx M w1 (w.heap.size+1) #[.pointer none] 31):=hid ⟨hX1,hi.free (Nat.le_succ _),cZ _⟩;have bd:=hid af;have Nm:=hid (hP.below hb1);have HI1:=hid hi1;have HB1:=hid hb1;have HI:=hid hi;have HM:=hid hM;have HA:=hid hA;have HW1:=hid hw1;have cJ:Hid ((bH t).ks.length=16):=hid (dh t);have HZ:Hid (0<w.heap.size):=hid hT.pos;obtain ⟨N,hN⟩:=av (bH t)
 have HN:=hid hN;rw [hN] at cJ HM ⊢;obtain ⟨TT,lE⟩:=av (makeT N ts)
 have U6:=hid lE;rw [lE];obtain ⟨gX,bo⟩:=av (w.heap.size+1)
 have bu:=hid bo;rw [bo] at bc;clear hb1 af hX1 hi1 hT1 hi hT hM hA hP g f hN hw1 lE bo;have hgo:Calls prog 83 #[.agg #[.pointer p],.slice ka kn kc] w (vL M w TT 0):=by
  go_enter func83,ntmps83;go_wp2_with (first
   | (refine ay (aW _ _ _ gX (by rw [<-bu.out]; simp) rfl) ?_; rw [<-HW1.out])
   | (refine ay (aT (Tm.aU (j:=0) bd.out rfl) ⟨_,rfl,rfl⟩) ?_))
  refine gi.out.mono ?_;rintro e w2 ⟨na,nn,nc,ZH,GE,ps2,rfl,_,hbs,_,_,_,f2,i2,t2⟩;rw [HN.out] at hbs ⊢;have lw:=hid hbs.1;have Nx:=hid (Nm.out.frm HI1.out f2);have cm:=hid (bc.out.frm HI1.out f2);have eC:Hid (Fr M M w w2/\Inv M w2/\Tab w2):=hid ⟨(Fr.below M HB1.out).trans HI.out f2,i2,t2⟩;have lL:dJ (w2.alloc (.cells (ndC nd0 none 0 0) 56)) w2.heap.size nd0 none 0 0:=Rg.Own.new _ _ _;have gm:=hid lL;clear hbs f2 i2 t2 lL gi bd bc Nm HI1;go_wp2_with (first
   | (refine ay (aY _ _ _ w2.heap.size rfl rfl) ?_)
   | (refine bD gm.out rfl N na nn nc cJ.out rfl _ _ rfl rfl rfl rfl ?_)
   | (refine ay (dn (dz gm.out) cJ.out ⟨_,rfl,rfl⟩) ?_))
  obtain ⟨w3,hw3⟩:=au ((w2.alloc (.cells (ndC nd0 none 0 0) 56)).setRow w2.heap.size (ndC N na nn nc))
  have hb3:Below w2.heap.size w2 w3:=by rw [hw3]; exact bS (al1 _ _) aF _
  rw [<-hw3];clear hw3 gm;have hmk:=TW M N ts HM.out na nn nc ps HA.out ka kn kc hn w3 (eC.out.2.1.below hb3) (eC.out.2.2.below hb3 eC.out.2.2.pos) (lw.out.below hb3) (Nx.out.below hb3);rw [U6.out] at hmk;refine hmk.mono ?_;rintro e w4 ⟨q,M4,rfl,nf,f4,i4,t4,k4⟩;have lA:=(cm.out.below hb3).frm (eC.out.2.1.below hb3) f4;have cP:=hid lA
  have ae:Hid (∀ w5,Rg.Upd w4 gX w5->vL M w TT 0 (.returned (.tuple #[tv q,.int .i64 0])) w5):=hid (λw5 hu=>⟨q,M4,rfl,nf,(eC.out.1.trans HI.out ((Fr.below M hb3).trans eC.out.2.1 f4)).upd hu (by have:=bu.out; omega),i4.upd hu lA.n,lC t4 hu (by have:=bu.out; have:=HZ.out; omega),λk hk=>k4 k (aH (aH hk eC.out.1.size) hb3.size)⟩);clear hmk nf f4 i4 t4 k4 lA hb3 cm eC Nx lw;go_wp2_with (first
   | (refine aX cP.out.o (by simp) q rfl _ _ rfl rfl rfl ?_; intro w5 aE ax; have cd:Hid (Rg.Own w5 gX #[.pointer q] 31):=hid aE; have gO:=hid (ae.out w5 ax); clear aE ax))
  exact bodyPost_ret (qm (q:=4) (u:=5) rfl _ rfl cd.out) rfl gO.out
 exact hgo
structure Cg (K:Nat->Prop) (J:Mp->World->Prop) (M0:Mp) (w0:World) (ts:List T) (M:Mp) (w:World) (v:Value) (ps:List (aJ)):Prop where
 f:Fk K M0 M w0 w
 i:Inv M w
 t:Tab w
 j:J M w
 row:w.ownsRow w0.heap.size 31 1 v ps.length (ps.map Value.pointer)
 nr:∀ k,v.ownBlock=some k->¬ M.ft k
 are:Are M ps ts
 z:0<w0.heap.size
section
variable {B:Nat} {K:Nat->Prop} {J:Mp->World->Prop} {M0 M M':Mp} {w0 w w':World} {ra:aJ} {rn rc:Nat} {xs:List Iv} {ts:List T} {v v':Value} {ps:List (aJ)}
theorem Yk (h:dY w ra rn rc xs) (hi:Inv M w) (f:Fk K M M' w w') (hk:∀ ad,ra=some ad->¬ K ad.block):dY w' ra rn rc xs :=
 ⟨h.1,h.2.1,h.2.2.1,h.2.2.2.1,λj hj=>by
  obtain ⟨b,off,g,e,hlt,hp,hb⟩:=h.2.2.2.2 j hj;have hm:=hi.lT hp.2;have hs:=f.block b hlt hm (hk _ e);exact ⟨b,off,g,e,aH hlt f.size,⟨by rw [World.cell?_of_block hs]; exact hp.1,by rw [World.cell?_of_block hs]; exact hp.2⟩,VO hi hb f⟩⟩
theorem Cg.below (h:Cg K J M0 w0 ts M w v ps) (hJ:JOk B K J) (hb:Below w.heap.size w w'):Cg K J M0 w0 ts M w' v ps :=
 ⟨h.f.trans ((Fr.below M hb).k (hJ.kc M w h.j h.i)) (λk hk=>.inl hk),h.i.below hb,h.t.below hb h.t.pos,hJ.below h.j h.i hb,qA h.row λk e=>hb.block k (h.row.lt k e).2,h.nr,h.are,h.z⟩
theorem Cg.call (h:Cg K J M0 w0 ts M w v ps) (hk:∀ k,K k->k<w0.heap.size) (f:Fk K M M' w w') (i:Inv M' w') (t:Tab w') (j:J M' w'):Cg K J M0 w0 ts M' w' v ps :=
 ⟨h.f.trans f (λk hk=>.inl hk),i,t,j,qA h.row λk e=>f.block k (h.row.lt k e).2 (mR h.i (h.nr k e)) (λe2=>by have:=hk k e2; have:=(h.row.lt k e).1; omega),λk e=>f.box (h.nr k e) (h.row.lt k e).2,h.are.mono f.mono,h.z⟩
theorem Fk.grown (f:Fk K M0 M w0 w) {row:Option Nat} (hg:w.grownBy w' row) (hr:∀ k,row=some k->w0.heap.size<=k):Fk K M0 M w0 w' :=
 ⟨hg.os.trans f.os,hg.tape.trans f.tape,hg.output.trans f.output,Nat.le_trans f.size hg.size,λk hk hm hn=>(hg.block k (aH hk f.size) λe=>by have:=hr k e.symm; omega).trans (f.block k hk hm hn),f.mono,f.fresh,f.grow,f.foot,f.nob⟩
theorem Cg.push (h:Cg K J M0 w0 ts M w v ps) (hJ:JOk B K J) (hB:B<=w0.heap.size) {s:T} (hq:IsT M q s) (hrow:w'.ownsRow w0.heap.size 31 1 v' (ps.length+1) (ps.map Value.pointer++[.pointer q])) (hg:w.grownBy w' v.ownBlock) (hl:v'.ownBlock=v.ownBlock\/v'.ownBlock=some w.heap.size):Cg K J M0 w0 (ts++[s]) M w' v' (ps++[q]):=by
 have hr:∀ k,v.ownBlock=some k->w0.heap.size<=k:=λk e=>(h.row.lt k e).1;refine ⟨Fk.grown h.f hg hr,h.i.keep hg.size λk hk=>hg.block k (h.i.lt_ k hk) λe=>h.nr k e.symm hk,λi hi=>?_,hJ.fr M M w w' h.j h.i hg.size (λk hk _=>hg.block k (aH hk (hJ.sz M w h.j)) λe=>by have:=hr k e.symm; omega) (λ_ _ h=>h) (λ_ _ h=>h) (λ_ _ h=>h),by rw [List.length_append,List.map_append]; exact hrow,λk e hf=>?_,h.are.snoc ⟨rfl,λj hj=>?_⟩,h.z⟩
 .have hz:=h.z;have hs:=h.f.size;rw [World.cell?_of_block (hg.block 0 (by omega) λe=>by have:=hr _ e.symm; omega)];exact h.t i hi
 .rcases hl with e2 | e2
  .exact h.nr k (by rw [<-e2]; exact e) hf
  .rw [e2] at e;obtain rfl:=Option.some.inj e;exact h.i.free aF hf
 .obtain rfl:j=0:=by simp at hj; exact hj
  exact hq
theorem IC {n:Nat} (h:w.ownsRow n 31 1 v ps.length (ps.map Value.pointer)):∃ a c,v = .slice a ps.length c/\iV w a ps.length c ps:=by
 have h':=h;obtain ⟨_,h2⟩:=h;rcases h2 with ⟨rfl,hn⟩ | ⟨g,cap,cur,rfl,_⟩
 .have:ps=[]:=List.length_eq_zero_iff.1 hn;subst this;exact ⟨none,0,rfl,aF,Nat.zero_le _,rfl,λ_=>rfl,λ_ h=>absurd h (Nat.not_lt_zero _)⟩
 .obtain ⟨_,_,hlt,hnc,hcm,hc⟩:=Qq h';exact ⟨_,cap,rfl,hnc,hcm,rfl,λe=>(by cases e),λj hj=>⟨g,0,rfl,hlt,by rw [Nat.zero_add]; exact hc j hj⟩⟩
end
theorem KD {rest:List Oper} {a:Go.Act} {w:World} {Q:Exit->Go.Act->World->Prop} {B b2:Nat} {v:Value} {ps:List (aJ)} (hR:w.ownsRow B 31 1 v ps.length (ps.map Value.pointer)) (h2:Rg.Own w b2 (oq [q]) 31) (hn:ps.length<=1000000) (hB:B<=w.heap.size) (hgd:o.guard=none)
  (ho:∃ s y,o.op = .call { callee:=.builtin .append,args:=#[s,y],argTypes:=#[57,57] }/\a.eval s=v/\a.eval y = .slice (some ⟨b2,0,none⟩) 1 1)
  (H:∀ v' w',w'.ownsRow B 31 1 v' (ps.length+1) (ps.map Value.pointer++[.pointer q])->w.grownBy w' v.ownBlock->(v'.ownBlock=v.ownBlock\/v'.ownBlock=some w.heap.size)->wpList prog ops Q rest (a.put o.dst v') w'):wpList prog ops Q (o::rest) a w:=by
 obtain ⟨s,y',ho,hs,hy⟩:=ho;obtain ⟨i0,z0,hi,hz,hsz,hby,hzc⟩:=rJ;obtain ⟨v',w',hr,h3,h4,_,h5⟩:=run_append_own_at (P:=prog) w B 57 o.type 31 i0 z0 1 8 underlying57 hi hz hsz hby hzc (by decide) v ps.length _ hR ⟨b2,0,none⟩ 1 1 [.pointer q] rfl
  (λj u hu=>by
   have hj:j=0:=by
    have:=(List.getElem?_eq_some_iff.1 hu).1;simp at this;omega
   subst hj;have hu':Value.pointer q=u:=by simpa using hu
   rw [Addr.add_mid,<-hu'];exact Tm.aU h2 rfl)
  (λu hu=>by rw [List.mem_singleton.1 hu]; rfl) (by unfold maxLen; omega) (by omega) hB
 refine gU hgd v' w' ?_ (H v' w' h3 h4 h5);unfold execOp;simp only [ho,resolve,invoke,builtin,Sem.run_bind,Sem.run_pure,Result.andThen_ok,List.map_toArray,List.map_cons,List.map_nil,hs,hy,hr]
theorem Vq {xs:List Iv} {l:List Pa} (h:xs.map Prod.fst=l) (j:Nat):(xs.getD j ([],none)).1=l.getD j []:=by
 subst h;by_cases hj:j<xs.length
 .simp [List.getD,hj]
 .simp [List.getD,List.getElem?_eq_none (show xs.length<=j by omega)]
theorem Ub {xs:List Iv} {l:List (aJ)} (h:xs.map Prod.snd=l) (j:Nat):(xs.getD j ([],none)).2=l.getD j none:=by
 subst h;by_cases hj:j<xs.length
 .simp [List.getD,hj]
 .simp [List.getD,List.getElem?_eq_none (show xs.length<=j by omega)]
theorem Fk.upd {K:Nat->Prop} {M M':Mp} {w:World} (f:Fk K M M' w w1) (hu:Rg.Upd w1 g w2) (hg:w.heap.size<=g):Fk K M M' w w2 :=
 ⟨hu.os.trans f.os,hu.tape.trans f.tape,hu.output.trans f.output,by rw [hu.size]; exact f.size,λk hk hm hn=>(hu.block k (by omega)).trans (f.block k hk hm hn),f.mono,f.fresh,f.grow,f.foot,f.nob⟩
theorem Nl {B:Nat} {K:Nat->Prop} {J:Mp->World->Prop} (hJ:JOk B K J) {M M':Mp} {w:World} {t:T} {n:Nat} (h0:J M w) (hz:0<w.heap.size) (f:Fk K M M' w w1) (i:Inv M' w1) (ht:Tab w1) (j:J M' w1) (hf:¬ M'.ft g) (hg:w.heap.size<=g) (hu:Rg.Upd w1 g w2) (hq:IsT M' q t):iw K J M w t n (.returned (.agg (chA q (fJ n)))) w2:=by
 have hB:=hJ.sz M w h0;exact ⟨q,M',rfl,hq,Fk.upd f hu hg,i.upd hu hf,lC ht hu (by omega),hJ.fr M' M' w1 w2 j i (by rw [hu.size]; exact aF) (λk hk _=>hu.block k (by omega)) (λ_ _ h=>h) (λ_ _ h=>h) (λ_ _ h=>h)⟩
theorem yK {B:Nat} {K:Nat->Prop} {J:Mp->World->Prop} (hJ:JOk B K J) (fo:Nat) (co:aM) (eO:∀ args w,(callFunc fo args).run prog w = .ok (.enter fo args) w) (F:Pa->T->T) (C:Pa->T->Nat) (M:Mp) (p:aJ) (t:T) (L:Nat) (g:Tr.Good t L) (hL:L<=64) (f:Fine t) (hok:OkF F C t)
  (hO:∀ j,j<(aZ t).length->EG K J fo co ((dG t).getD j []) ((aZ t).getD j .nil) (F ((dG t).getD j []) ((aZ t).getD j .nil)) (C ((dG t).getD j []) ((aZ t).getD j .nil)))
  (w:World) (hi:Inv M w) (ht:IsT M p t) (hT:Tab w) (hj:J M w) :
  Calls prog 49 #[tv p,.func (.func fo) #[] co] w (iw K J M w (rO F t) (jN C t (aZ t).length)):=by
 obtain ⟨w1,hw1⟩:=au ((w.alloc (.cells #[.pointer p] 31)).alloc (.cells (chA none 0) 81))
 have hb1:Below w.heap.size w w1:=by rw [hw1]; exact al2 _ _ _
 have af:Rg.Own w1 w.heap.size #[.pointer p] 31:=by rw [hw1]; exact (Rg.Own.new _ _ _).below (al1 _ _)
 have hX1:Rg.Own w1 (w.heap.size+1) (chA none 0) 81:=by
  have:=Rg.Own.new (w.alloc (.cells #[.pointer p] 31)) (chA none 0) 81;rw [hw1];simpa using this
 have hi1:=hi.below hb1;have hT1:=hT.below hb1 hT.pos;have NB:=hid (Ld M p t L g hL f w1 hi1 ht hT1);have bc:Hid (Bx M w1 (w.heap.size+1) (chA none 0) 81):=hid ⟨hX1,hi.free (Nat.le_succ _),ku _ _⟩;have bd:Hid (Bx M w1 w.heap.size #[.pointer p] 31):=hid ⟨af,hi.free aF,cZ _⟩;have HI1:=hid hi1;have HB1:=hid hb1;have HI:=hid hi;have GF:=hid (hJ.below hj hi hb1);have HJ:=hid hJ;have ul:=hid hj;have HW1:=hid hw1;have NE:=hid ht;have js:=hid hok;have pm:=hid hO
 have HZ:Hid (0<w.heap.size):=hid hT.pos;have U7:=hid (λ(hn:t ≠ .nil) (hs:¬ dH t) (M:Mp) (ht:IsT M p t) (ps:List (aJ)) (hA:Are M ps (sU F t)) (ka:aJ) (kc:Nat) (hl:ps.length<=1000000) (w:World) (hi:Inv M w) (hT:Tab w) (hP:iV w ka ps.length kc ps)=>by
  have:=LH M p t L g hL f _ (Yz g hL f hn hs hok) ps hA ka ps.length kc hl w hi ht hT hP;rwa [Gc g hL f hn hs] at this)
 have U8:=hid (λh=>Vo hok h);have CD:=hid (wm F t);have ss:=hid (ER F t);have pA:=wP t;obtain ⟨n,hn⟩:=av ((aZ t).length)
 have HN:=hid hn;obtain ⟨gT,ce⟩:=av w.heap.size
 obtain ⟨gX,bo⟩:=av (w.heap.size+1)
 have bu:Hid (gX=w.heap.size+1):=hid bo.symm;have dy:Hid (w.heap.size=gT):=hid ce;rw [bo] at bc;rw [ce] at bd;rw [hn] at pA ⊢;clear hb1 af hX1 hi1 hT1 hi hT hJ hj g f hok hO hw1 hn ce bo ht;have hgo:Calls prog 49 #[.agg #[.pointer p],.func (.func fo) #[] co] w (iw K J M w (rO F t) (jN C t n)):=by
  go_enter func49,ntmps49;go_wp2_with (first
   | (refine ay (bE _ _ _ gX (by rw [bu.out]; simp) rfl) ?_; rw [<-HW1.out,dy.out])
   | (refine ay (aT (Tm.aU (j:=0) bd.out.o rfl) ⟨_,rfl,rfl⟩) ?_))
  refine NB.out.mono ?_;rintro e w2 ⟨ra,rn,rc,xs,rfl,hins,hra,yp,cR,f2,i2,t2⟩;have hrn:rn=n:=by rw [<-hins.len,<-HN.out,<-cR.1,List.length_map]
  subst hrn;have GG:=hid yp;have fl:=hid cR;have GM:=hid hins;have pB:Hid (∀ k,w.heap.size<=k->¬ K k):=hid (λk hk e=>by have:=HJ.out.lt k e; have:=HJ.out.sz M w ul.out; omega);have U9:Hid (∀ ad,ra=some ad->¬ K ad.block):=hid (λad e=>pB.out _ (Nat.le_trans HB1.out.size (hra ad e)));have cm:=hid (bc.out.frm HI1.out f2);have d8:=hid (bd.out.frm HI1.out f2);have hs2:w.heap.size<=w2.heap.size:=Nat.le_trans HB1.out.size f2.size;have HI2:=hid i2
  have cY:Hid (∀ k,K k->k<w2.heap.size):=hid (λk e=>by have:=HJ.out.lt k e; have:=HJ.out.sz M w ul.out; omega);have aw:Hid (B<=w2.heap.size/\w.heap.size<=w2.heap.size):=hid ⟨by have:=HJ.out.sz M w ul.out; omega,hs2⟩;have eC:Hid (Fk K M M w w2):=hid (((Fr.below M HB1.out).trans HI.out f2).k (HJ.out.kc M w ul.out HI.out))
  have CE:Hid (Cg K J M w2 ((sU F t).take 0) M w2 (.slice none 0 0) []):=hid ⟨(Fr.refl M w2).k (HJ.out.kc M w2 (HJ.out.fn GF.out HI1.out (Fnw.of f2)) i2),i2,t2,HJ.out.fn GF.out HI1.out (Fnw.of f2),World.ownsRow_nil _ _ _ _,λ_ e=>(by cases e),⟨rfl,λ_ h=>absurd h (Nat.not_lt_zero _)⟩,aH HZ.out hs2⟩;clear hins hra yp cR f2 i2 t2 hs2 NB bd bc GF HI1;go_wp2
  go_loopw [5,6,15] (λv0 a i wr=>∃ (j:Nat) (v:Value) (ps:List (aJ)) (M':Mp),v=v0/\j<=rn/\a = .int .i64 (fJ (jN C t j))/\i = .int .i64 j/\Hid (Cg K J M w2 ((sU F t).take j) M' wr v ps)) (λ_ _ i _=>16-(intOf i).toNat)
  case atStart=>exact ⟨0,_,[],M,rfl,Nat.zero_le _,rfl,rfl,CE⟩
  case round =>
   obtain ⟨j,v,ps,M3,rfl,hjn,rfl,rfl,HG⟩:=hrel;clear CE;by_cases hlt:j<rn
   .have i1:(j:Int)<(rn:Int):=by omega
    have un:j<(aZ t).length:=by rw [HN.out]; exact hlt
    have ZI:=hid un;obtain ⟨b,off,⟨ha,hm,hc⟩,rfl,hblt,hin,hbs⟩:=(Yk GM.out HI2.out HG.out.f U9.out).at' j hlt;have hT0:IsT M (xs.getD j ([],none)).2 ((aZ t).getD j .nil):=by
     rw [Ub (xs:=xs) rfl j];exact fl.out.2 j (by rw [fl.out.1]; exact un)
    have j9:=hT0.mono HG.out.f.mono;rw [Vq GG.out j] at hbs;have ly:Hid ((sU F t).take (j+1)=(sU F t).take j++[F ((dG t).getD j []) ((aZ t).getD j .nil)]):=hid (by
     have hl:j<(sU F t).length:=by rw [CD.out]; exact un
     rw [List.take_succ_eq_append_getElem hl,<-ss.out j un,List.getD_eq_getElem?_getD,List.getElem?_eq_getElem hl];rfl)
    have GO:Hid (fJ (jN C t j)+min (fJ (C ((dG t).getD j []) ((aZ t).getD j .nil))) (9223372036854775807-fJ (jN C t j))=fJ (jN C t (j+1))):=hid (by rw [Oa]; exact Xm _ _);have cH:=hid (pm.out j un M3);obtain ⟨x,hx⟩:=av (xs.getD j ([],none))
    rw [hx] at j9 hin;obtain ⟨s,hs⟩:=av (fJ (jN C t j))
    have hsb:=Sr (jN C t j);have hcb:=Sr (C ((dG t).getD j []) ((aZ t).getD j .nil));rw [hs] at GO hsb ⊢;obtain ⟨c,hcc⟩:=av (fJ (C ((dG t).getD j []) ((aZ t).getD j .nil)))
    have eN:=hid hcc;rw [hcc] at GO hcb;have j7:=hid hin;have lw:=hid hbs;have HT3:=hid j9;have hps:ps.length=j:=by rw [HG.out.are.1,List.length_take,CD.out]; omega
    have yq:=hid hps;have hNew:=Rg.Own.new wr (inA ([],none) (none,0,0)) 143;have mS:=hid hNew;clear un hT0 j9 hin hbs hblt hx hs hcc hps hNew;go_wp2_with (first
     | (refine ay (vG j7.out ⟨_,rfl,rfl⟩) ?_)
     | (refine ay (FI _ _ _ wr.heap.size rfl rfl) ?_)
     | (refine Ey mS.out rfl x (ha,hm,hc) rfl _ _ rfl rfl rfl rfl ?_; intro w3 hO3 hu3; have am:Hid (Rg.Own w3 wr.heap.size (inA x (ha,hm,hc)) 143):=hid hO3; have HB3:Hid (Below wr.heap.size wr w3):=hid (hu3.below (al1 _ _) aF); clear hO3 hu3)
     | (refine ay (Ew.tK (Tm.aU (j:=0) am.out rfl) ⟨_,rfl,rfl⟩) ?_)
     | (refine ay (aT (Tm.aU (j:=1) am.out rfl) ⟨_,rfl,rfl⟩) ?_))
    have gv:=hid (HG.out.below HJ.out HB3.out);refine (cH.out w3 ha hm hc x.2 gv.out.j gv.out.i gv.out.t (lw.out.below HB3.out) HT3.out).mono ?_;rintro e w4 ⟨q,M4,rfl,nf,f4,i4,t4,j4⟩;rw [eN.out];have pj:=hid (gv.out.call cY.out f4 i4 t4 j4);have gr:=hid nf;have hNew:=Rg.Own.new w4 (chA none 0) 81;have ey:=hid hNew;clear nf f4 i4 t4 j4 hNew HG gv am HB3 mS j7 lw HT3 cH;go_wp2_with (first
     | (refine ay (bE _ _ _ w4.heap.size rfl rfl) ?_)
     | (refine bB ey.out rfl q c rfl _ _ rfl rfl rfl rfl ?_; intro w5 aE ax; have cd:Hid (Rg.Own w5 w4.heap.size (chA q c) 81):=hid aE; have ag:Hid (Below w4.heap.size w4 w5):=hid (ax.below (al1 _ _) aF); clear aE ax; have fW:=hid (pj.out.below HJ.out (bst ag.out (al1 w5 (.cells (oq [q]) 31)))))
     | (refine ay (aT (Tm.aU (j:=0) cd.out rfl) ⟨_,rfl,rfl⟩) ?_)
     | (refine ay (Ml w5.heap.size rfl ⟨_,rfl,rfl⟩) ?_)
     | (refine KD fW.out.row (Rg.Own.new w5 _ _) (by have:=yq.out; omega) fW.out.f.size rfl ⟨_,_,rfl,rfl,rfl⟩ ?_; intro v' w7 NF lr GP; have ZJ:w7.cell? ⟨w4.heap.size,1,none⟩=some (.int .i64 c):=(by
       have cI:=cd.out.below (al1 w5 (.cells (oq [q]) 31));have hne:some w4.heap.size≠v.ownBlock:=λe=>by have:=(pj.out.row.lt _ e.symm).2; omega
       rw [World.cell?_of_block (lr.block w4.heap.size cI.1 hne)];exact Tm.aU (j:=1) cI rfl); have pC:=hid (fW.out.push HJ.out aw.out.1 gr.out NF lr GP); clear NF lr GP))
    go_roundw
    case rel=>exact ⟨j+1,v',ps++[q],M4,rfl,by omega,by rw [<-GO.out],by go_num,by rw [ly.out]; exact pC⟩
    case measure=>simp [intOf]; omega
   .obtain rfl:j=rn:=by omega
    have pD:=hid HG.out;have hall:(sU F t).take j=sU F t:=by
     have:=CD.out;rw [HN.out] at this;rw [<-this]; exact List.take_length
    have cF:=hid (cm.out.fk HI2.out HG.out.f (pB.out _ (by rw [bu.out]; exact Nat.le_succ _)));have am:=hid (d8.out.fk HI2.out HG.out.f (pB.out _ (by rw [dy.out]; exact aF)));have m7:Hid (Fk K M M3 w wr):=hid (eC.out.trans HG.out.f λk hk=>.inl hk);have i8:Hid (w.heap.size<=gX):=hid (by rw [bu.out]; exact Nat.le_succ _);by_cases hz:jN C t j=0
    .have ae:Hid (∀ w9,Rg.Upd wr gX w9->iw K J M w (rO F t) (jN C t j) (.returned (.agg (chA p 0))) w9):=hid (λw9 hu=>by
      have h1:=Nl (n:=jN C t j) (q:=p) (t:=rO F t) HJ.out ul.out HZ.out m7.out HG.out.i HG.out.t HG.out.j cF.out.n i8.out hu (by rw [U8.out (by rw [HN.out]; exact hz)]; exact NE.out.mono m7.out.mono);rwa [show fJ (jN C t j)=0 from Au.2 hz] at h1)
     have e0:fJ (jN C t j)=0:=Au.2 hz;rw [e0];clear hz hall e0 HG pD;go_wp2_with (first
      | (refine ay (aT (Tm.aU (j:=0) am.out.o rfl) ⟨_,rfl,rfl⟩) ?_)
      | (refine ay (bK (CU p) ⟨_,rfl,rfl⟩) ?_)
      | (refine bB cF.out.o rfl p 0 rfl _ _ rfl rfl rfl rfl ?_; intro w9 ai al; have bh:Hid (Rg.Own w9 gX (chA p 0) 81):=hid ai; have cv:=hid (ae.out w9 al); clear ai al))
     exact bodyPost_ret (jO rfl _ rfl bh.out) rfl cv.out
    .have hs0:=λe=>hz (Au.1 e);have hkl:0<(aZ t).length:=Nat.pos_of_ne_zero λe=>hz (by rw [<-HN.out,e]; rfl);have hne:t ≠ .nil:=λe=>by rw [e] at hkl; exact absurd hkl (Nat.not_lt_zero _)
     have hst:¬ dH t:=λe=>by
      cases t with
      | stub r=>exact absurd hkl (Nat.not_lt_zero _)
      | _=>exact e
     obtain ⟨a,c,rfl,gj⟩:=IC HG.out.row;have cR:=HG.out.are;rw [hall] at cR;have gS:=hid (U7.out hne hst M3 (NE.out.mono m7.out.mono) ps cR a c (by rw [cR.1,CD.out,HN.out]; omega) wr HG.out.i HG.out.t gj);obtain ⟨s,hs⟩:=av (fJ (jN C t j))
     rw [hs] at hs0;have HS:=hid hs;rw [hs];have b0:(s==0)=false:=by rw [beq_eq_false_iff_ne]; exact hs0
     have b1:decide (s=0)=false:=decide_eq_false hs0;clear hz hall hs0 hkl hne hst gj cR hs;go_wp2_with (first
      | (refine ay (aT (Tm.aU (j:=0) am.out.o rfl) ⟨_,rfl,rfl⟩) ?_))
     refine gS.out.mono ?_;rintro e w5 ⟨q,M5,rfl,rf,f5,i5,t5,k5⟩;have r5:Fnw M3 M5 wr w5:=f5.n k5;have lb:=cF.out.frm HG.out.i f5;obtain ⟨w6,eQ⟩:=au (w5.alloc (.cells #[.pointer none] 31))
     have hb6:Below w5.heap.size w5 w6:=by rw [eQ]; exact al1 _ _
     have ud:Hid (Rg.Own w6 w5.heap.size #[.pointer none] 31):=hid (by rw [eQ]; exact Rg.Own.new _ _ _);have sC:=hid eQ;have lO:Hid (Bx M5 w5 gX (chA none 0) 81):=hid lb;have cg:=hid hb6;have ae:Hid (∀ w7,Below w5.heap.size w5 w7->∀ w9,Rg.Upd w7 gX w9->iw K J M w (rO F t) (jN C t j) (.returned (.agg (chA q s))) w9):=hid (λw7 cE w9 hu=>by
      have GS:Fk K M M5 w w5:=m7.out.trans (r5.k (HJ.out.kc M3 wr HG.out.j HG.out.i)) λk hk=>.inl hk;have NL:=HJ.out.fn HG.out.j HG.out.i r5;have Cd:Fk K M M5 w w7:=GS.trans ((Fr.below M5 cE).k (HJ.out.kc M5 w5 NL i5)) λk hk=>.inl hk;have h1:=Nl (n:=jN C t j) (q:=q) (t:=rO F t) HJ.out ul.out HZ.out Cd (i5.below cE) (t5.below cE t5.pos) (HJ.out.below NL i5 cE) lb.n i8.out hu rf;rwa [HS.out] at h1)
     clear rf f5 i5 t5 k5 r5 lb eQ hb6 HG pD gS b0 b1;go_wp2_with (first
      | (refine ay (aW _ _ _ w5.heap.size rfl rfl) ?_; rw [<-sC.out])
      | (refine aX ud.out (by simp) q rfl _ _ rfl rfl rfl ?_; intro w7 eL df; have kv:Hid (Rg.Own w7 w5.heap.size #[.pointer q] 31):=hid eL; have cq:Hid (Below w5.heap.size w5 w7):=hid (df.below cg.out aF); clear eL df; have ur:=hid (lO.out.below cq.out); have Up:=hid (ae.out w7 cq.out))
      | (refine ay (aT (Tm.aU (j:=0) kv.out rfl) ⟨_,rfl,rfl⟩) ?_)
      | (refine ay (bK (zY q s) ⟨_,rfl,rfl⟩) ?_)
      | (refine bB ur.out.o rfl q s rfl _ _ rfl rfl rfl rfl ?_; intro w9 ai al; have bh:Hid (Rg.Own w9 gX (chA q s) 81):=hid ai; have cv:=hid (Up.out w9 al); clear ai al))
     exact bodyPost_ret (jO rfl _ rfl bh.out) rfl cv.out
 exact hgo
structure Sg (K:Nat->Prop) (J:Mp->World->Prop) (M0:Mp) (w0:World) (M:Mp) (w:World):Prop where
 f:Fk K M0 M w0 w
 i:Inv M w
 t:Tab w
 j:J M w
section
variable {B:Nat} {K:Nat->Prop} {J:Mp->World->Prop} {M0 M M':Mp} {w0 w w':World}
theorem Sg.start (hJ:JOk B K J) (hi:Inv M w) (hT:Tab w) (hj:J M w):Sg K J M w M w:=⟨(Fr.refl M w).k (hJ.kc M w hj hi),hi,hT,hj⟩
theorem Sg.fn (h:Sg K J M0 w0 M w) (hJ:JOk B K J) (f:Fnw M M' w w') (i:Inv M' w') (t:Tab w'):Sg K J M0 w0 M' w' :=
 ⟨h.f.trans (f.k (hJ.kc M w h.j h.i)) λ_ hk=>.inl hk,i,t,hJ.fn h.j h.i f⟩
theorem Sg.fr (h:Sg K J M0 w0 M w) (hJ:JOk B K J) (f:Fr M M w w') (i:Inv M w') (t:Tab w'):Sg K J M0 w0 M w':=h.fn hJ (Fnw.of f) i t
theorem Sg.below (h:Sg K J M0 w0 M w) (hJ:JOk B K J) (hb:Below w.heap.size w w'):Sg K J M0 w0 M w':=h.fr hJ (Fr.below M hb) (h.i.below hb) (h.t.below hb h.t.pos)
theorem Sg.call (h:Sg K J M0 w0 M w) (f:Fk K M M' w w') (i:Inv M' w') (t:Tab w') (j:J M' w'):Sg K J M0 w0 M' w':=⟨h.f.trans f λ_ hk=>.inl hk,i,t,j⟩
theorem Sg.upd (h:Sg K J M0 w0 M w) (hJ:JOk B K J) {g:Nat} (hB:B<=w0.heap.size) (hz:0<w0.heap.size) (hu:Rg.Upd w g w') (hg:w0.heap.size<=g) (hf:¬ M.ft g):Sg K J M0 w0 M w' :=
 ⟨Fk.upd h.f hu hg,h.i.upd hu hf,lC h.t hu (by omega),hJ.fr M M w w' h.j h.i (by rw [hu.size]; exact aF) (λk hk _=>hu.block k (by omega)) (λ_ _ h=>h) (λ_ _ h=>h) (λ_ _ h=>h)⟩
theorem Sg.chg (h:Sg K J M0 w0 M w) {t:T} (n:Nat) (hq:IsT M q t):iw K J M0 w0 t n (.returned (.agg (chA q (fJ n)))) w:=⟨q,M,rfl,hq,h.f,h.i,h.t,h.j⟩
end
theorem Bx.fn {M M':Mp} {w w':World} {t:TypeId} (h:Bx M w g cs t) (hi:Inv M w) (f:Fnw M M' w w'):Bx M' w' g cs t:=Bx.fk h hi f λe=>e
abbrev CB:Type:=Option (T × Nat)
def Hf (K:Nat->Prop) (J:Mp->World->Prop) (M:Mp) (w:World) (r:CB) (e:Ending) (w':World):Prop:=match r with
 | some x=>∃ q M',e = .returned (.tuple #[.agg (chA q (fJ x.2)),.bool true])/\IsT M' q x.1/\Fk K M M' w w'/\Inv M' w'/\Tab w'/\J M' w'
 | none=>e = .returned (.tuple #[.agg (chA none 0),.bool false])/\Fk K M M w w'/\Inv M w'/\Tab w'/\J M w'
def zL (K:Nat->Prop) (J:Mp->World->Prop) (fs:Nat) (cs:aM) (st:Pa) (s:T) (r:CB):Prop :=
 ∀ (M:Mp) (w:World) (a:aJ) (m c:Nat) (p:aJ),J M w->Inv M w->Tab w->bq w a m c st->IsT M p s->Calls prog fs (#[.slice a m c,tv p]++cs) w (Hf K J M w r)
def RS (r:aK):CB->T
 | some x=>x.1
 | none=>.stub r
def Vf:CB->Nat
 | some x=>x.2
 | none=>1
def ny (R:Pa->T->CB) (st:Pa) (s:T):T:=if (ref s).size=32 then RS (ref s) (R st s) else s
def lH (R:Pa->T->CB) (st:Pa) (s:T):Nat:=if (ref s).size=32 then Vf (R st s) else 0
theorem Yf {t:T} (g:Tr.Good t L) (hL:L<=64) (f:Fine t) (hn:t ≠ .nil):(ref t).size<=32:=by
 have h:=(eZ t L g hL f hn).2.1;unfold bP dB at h;rw [Bool.or_eq_true,Bool.and_eq_true] at h;rcases h with h | ⟨h,_⟩
 .have:=of_decide_eq_true h;omega
 .have:=of_decide_eq_true h;omega
def JB (J:Mp->World->Prop) (bs:Nat) (v:Value) (ty:TypeId) (M:Mp) (w:World):Prop:=J M w/\Bx M w bs #[v] ty
theorem JOk.box {B:Nat} {K:Nat->Prop} {J:Mp->World->Prop} (h:JOk B K J) {bs:Nat} (hb:B<=bs) (v:Value) (ty:TypeId):JOk (bs+1) K (JB J bs v ty):=by
 refine ⟨λM M' w w' hj hi hs hk hm hf hx=>⟨h.fr M M' w w' hj.1 hi hs (λk hk'=>hk k (by omega)) hm (λk hk'=>hf k (by omega)) (λk hk'=>hx k (by omega)),⟨⟨aH hj.2.o.1 hs,(hk bs (Nat.lt_succ_self _) (mR hi hj.2.n)).trans hj.2.o.2⟩,λe=>hj.2.n (hf bs (Nat.lt_succ_self _) e),hj.2.h⟩⟩,λM w hj hi=>h.kc M w hj.1 hi,λk hk=>by have:=h.lt k hk; omega,λM w hj=>hj.2.o.1⟩
theorem IU (f:Nat) (cs:aM):∀ (j:Nat) (x:Int),(#[Value.func (.func f) #[] cs]:aM)[j]? ≠ some (Value.int .u8 x):=λj x h=>by
 match j,h with
 | 0,h=>simp at h
 | j+1,h=>simp at h
theorem Cz {w:World} {b:Nat} {v:Value} (hc:w.cell? ⟨b,0,none⟩=some v) (ho:∃ x,o.op = .load 84 x/\ev x = .pointer (some ⟨b,0,none⟩)) :
  (execOp ev o).run prog w = .ok (.value v) w:=by
 obtain ⟨x,ho,hx⟩:=ho;unfold execOp;simp [ho,hx,go_sem,hc]
theorem Lm {B:Nat} {K:Nat->Prop} {J:Mp->World->Prop} (hJ:JOk B K J) (fs:Nat) (cs:aM) (eS:∀ args w,(callFunc fs args).run prog w = .ok (.enter fs args) w) (bs:Nat) (hbs:B<=bs) (st:Pa) (s:T) (L:Nat) (g:Tr.Good s L) (hL:L<=64) (f:Fine s) (hn:s ≠ .nil) (R:Pa->T->CB)
  (hS:(ref s).size=32->zL K (JB J bs (.func (.func fs) #[] cs) 84) fs cs st s (R st s)) :
  EG K (JB J bs (.func (.func fs) #[] cs) 84) 61 #[.pointer (some ⟨bs,0,none⟩)] st s (ny R st s) (lH R st s):=by
 have hJ2:=hJ.box hbs (.func (.func fs) #[] cs) 84;obtain ⟨J2,hJe⟩:=av (JB J bs (.func (.func fs) #[] cs) 84)
 have yr:Hid (∀ M w,J2 M w->Bx M w bs #[.func (.func fs) #[] cs] 84):=hid (λM w h=>by rw [<-hJe] at h; exact h.2);rw [hJe] at hS hJ2 ⊢;clear hJe;intro M w a m c p hj hi hT hB ht;show Calls prog 61 #[.slice a m c,.agg #[.pointer p],.pointer (some ⟨bs,0,none⟩)] w (iw K J2 M w (ny R st s) (lH R st s));obtain ⟨w1,hw1⟩:=au ((w.alloc (.cells #[.pointer p] 31)).alloc (.cells (chA none 0) 81))
 have hb1:Below w.heap.size w w1:=by rw [hw1]; exact al2 _ _ _
 have af:Rg.Own w1 w.heap.size #[.pointer p] 31:=by rw [hw1]; exact (Rg.Own.new _ _ _).below (al1 _ _)
 have hX1:Rg.Own w1 (w.heap.size+1) (chA none 0) 81:=by
  have:=Rg.Own.new (w.alloc (.cells #[.pointer p] 31)) (chA none 0) 81;rw [hw1];simpa using this
 have bj:=hid ((Sg.start hJ2 hi hT hj).below hJ2 hb1);have bc:Hid (Bx M w1 (w.heap.size+1) (chA none 0) 81):=hid ⟨hX1,hi.free (Nat.le_succ _),ku _ _⟩;have bd:Hid (Bx M w1 w.heap.size #[.pointer p] 31):=hid ⟨af,hi.free aF,cZ _⟩;have HW1:=hid hw1;have HB1:=hid (hB.below hb1);have HJ:=hid hJ2;have HT:=hid ht;have dc:=hid (λ(M:Mp) (w:World) (hi:Inv M w) (ht:IsT M p s) (hT:Tab w)=>sD M p s L g hL f w hi ht hT);have hle:=Yf g hL f hn;have eE:=hid (Rf.dF (ref s) (by unfold maxLen; omega))
 have aw:Hid (bs+1<=w.heap.size/\0<w.heap.size):=hid ⟨hJ2.sz M w hj,hT.pos⟩;have cS:=hid hS;have uk:=hid (UJ g hL f hn);have yv:Hid (∀ k,K k->k<w.heap.size):=hid (λk hk=>by have:=hJ2.lt k hk; have:=hJ2.sz M w hj; omega);obtain ⟨gT,ce⟩:=av w.heap.size
 obtain ⟨gX,bo⟩:=av (w.heap.size+1)
 have bu:Hid (gX=w.heap.size+1):=hid bo.symm;have dy:Hid (w.heap.size=gT):=hid ce;have i8:Hid (w.heap.size<=gX/\¬ K gX/\¬ K gT):=hid ⟨by omega,λe=>by have:=yv.out _ e; omega,λe=>by have:=yv.out _ e; omega⟩;rw [bo] at bc;rw [ce] at bd;clear hb1 af hX1 hi hT hj ht hB hJ hJ2 hS hw1 ce bo g f hn hL;obtain ⟨r,hr⟩:=av (ref s)
 by_cases h32:(ref s).size=32
 .have HF:Hid (ny R st s=RS (ref s) (R st s)/\lH R st s=Vf (R st s)):=hid ⟨if_pos h32,if_pos h32⟩;have hk1:oh (ref s)=1:=by unfold oh; rw [if_neg (by omega),if_pos h32]
  have ir:=hid (λ(M:Mp) (w:World) (hi:Inv M w)=>Qc M (ref s) (by unfold maxLen; omega) (.inl hk1) w hi);replace cS:=hid (cS.out h32);rw [hk1] at eE;rw [HF.out.1,HF.out.2];clear h32 hk1 hle uk HF;obtain ⟨y,hy⟩:=av (R st s)
  rw [hy] at cS ⊢;rw [hr] at dc ir eE ⊢;clear hy hr;have hgo:Calls prog 61 #[.slice a m c,.agg #[.pointer p],.pointer (some ⟨bs,0,none⟩)] w (iw K J2 M w (RS r y) (Vf y)):=by
   go_enter func61,ntmps61;go_wp2_with (first
    | (refine ay (bE _ _ _ gX (by rw [bu.out]; simp) rfl) ?_; rw [<-HW1.out,dy.out])
    | (refine ay (aT (Tm.aU (j:=0) bd.out.o rfl) ⟨_,rfl,rfl⟩) ?_))
   refine (dc.out M w1 bj.out.i HT.out bj.out.t).mono ?_;rintro e w2 ⟨rfl,f2,i2,t2⟩;have HS2:=hid (bj.out.fr HJ.out f2 i2 t2);have cm:=hid (bc.out.frm bj.out.i f2);have d8:=hid (bd.out.frm bj.out.i f2);have HB2:=hid (oV bj.out.i HB1.out f2);clear f2 i2 t2 bc bd HB1 bj;go_wp2_with fail
   refine (eE.out w2).mono ?_;rintro e w3 ⟨rfl,hb3⟩;have cC:=hid (HS2.out.below HJ.out hb3);have cF:=hid (cm.out.below hb3);have am:=hid (d8.out.below hb3);have HB3:=hid (HB2.out.below hb3);have eh:=hid (yr.out M w3 cC.out.j);clear hb3 cm d8 HB2 HS2;go_wp2_with (first
    | (refine ay (Cz (Tm.aU (j:=0) eh.out.o rfl) ⟨_,rfl,rfl⟩) ?_)
    | (refine ay (aT (Tm.aU (j:=0) am.out.o rfl) ⟨_,rfl,rfl⟩) ?_))
   refine (cS.out M w3 a m c p cC.out.j cC.out.i cC.out.t HB3.out HT.out).mono ?_;cases y with
   | some x =>
    rintro e w4 ⟨q,M4,rfl,nf,f4,i4,t4,j4⟩;have cV:=hid (cC.out.call f4 i4 t4 j4);have cP:=hid (cF.out.fk cC.out.i f4 i8.out.2.1);have hNew:=Rg.Own.new w4 (chA none 0) 81;have ey:=hid hNew;obtain ⟨n,hnn⟩:=av (fJ x.2)
    have ae:Hid (∀ w5,Below w4.heap.size w4 w5->∀ w6,Rg.Upd w5 gX w6->iw K J2 M w x.1 x.2 (.returned (.agg (chA q n))) w6):=hid (λw5 hb w6 hu=>by
     rw [<-hnn];exact ((cV.out.below HJ.out hb).upd HJ.out aw.out.1 aw.out.2 hu i8.out.1 cP.out.n).chg x.2 nf)
    rw [hnn];clear nf f4 i4 t4 j4 hNew cC cF am HB3 eh hnn;go_wp2_with (first
     | (refine ay (bE _ _ _ w4.heap.size rfl rfl) ?_)
     | (refine bB ey.out rfl q n rfl _ _ rfl rfl rfl rfl ?_; intro w5 aE ax; have cd:Hid (Rg.Own w5 w4.heap.size (chA q n) 81):=hid aE; have ag:Hid (Below w4.heap.size w4 w5):=hid (ax.below (al1 _ _) aF); clear aE ax; have cT:=hid (cP.out.below ag.out); have mL:=hid (ae.out w5 ag.out))
     | (refine ay (kg cd.out ⟨_,rfl,rfl⟩) ?_)
     | (refine bB cT.out.o rfl q n rfl _ _ rfl rfl rfl rfl ?_; intro w9 ai al; have bh:Hid (Rg.Own w9 gX (chA q n) 81):=hid ai; have cv:=hid (mL.out w9 al); clear ai al))
    exact bodyPost_ret (jO rfl _ rfl bh.out) rfl cv.out
   | none =>
    rintro e w4 ⟨rfl,f4,i4,t4,j4⟩;have cV:=hid (cC.out.call f4 i4 t4 j4);have cP:=hid (cF.out.fk cC.out.i f4 i8.out.2.1);have ch:=hid (am.out.fk cC.out.i f4 i8.out.2.2);have hNew:=Rg.Own.new w4 (chA none 0) 81;have ey:=hid hNew;clear f4 i4 t4 j4 hNew cC cF am HB3 eh;go_wp2_with (first
     | (refine ay (bE _ _ _ w4.heap.size rfl rfl) ?_)
     | (refine bB ey.out rfl none 0 rfl _ _ rfl rfl rfl rfl ?_; intro w5 aE ax; have ag:Hid (Below w4.heap.size w4 w5):=hid (ax.below (al1 _ _) aF); clear aE ax; have cd:=hid (ch.out.below ag.out))
     | (refine ay (aT (Tm.aU (j:=0) cd.out.o rfl) ⟨_,rfl,rfl⟩) ?_))
    have lP:=hid (cV.out.below HJ.out ag.out);have cT:=hid (cP.out.below ag.out);refine (dc.out M w5 lP.out.i HT.out lP.out.t).mono ?_;rintro e w6 ⟨rfl,f6,i6,t6⟩;have fX:=hid (lP.out.fr HJ.out f6 i6 t6);have lO:=hid (cT.out.frm lP.out.i f6);clear f6 i6 t6 cV lP cP cT ch cd ey ag;go_wp2_with fail
    refine (ir.out M w6 fX.out.i).mono ?_;rintro e w7 ⟨q,M7,rfl,NN,f7,i7,b7,k7⟩;have GT:Fnw M M7 w6 w7:=f7.n k7;have UB:=hid (fX.out.fn HJ.out GT i7 (fX.out.t.below b7 fX.out.t.pos));have ur:=hid (Bx.fn lO.out fX.out.i GT);have ae:Hid (∀ w9,Rg.Upd w7 gX w9->iw K J2 M w (.stub r) 1 (.returned (.agg (chA q 1))) w9):=hid (λw9 hu=>(UB.out.upd HJ.out aw.out.1 aw.out.2 hu i8.out.1 ur.out.n).chg 1 NN);clear NN f7 i7 b7 k7 GT fX lO;go_wp2_with (first
     | (refine ay (bK (zY q 1) ⟨_,rfl,rfl⟩) ?_)
     | (refine bB ur.out.o rfl q 1 rfl _ _ rfl rfl rfl rfl ?_; intro w9 ai al; have bh:Hid (Rg.Own w9 gX (chA q 1) 81):=hid ai; have cv:=hid (ae.out w9 al); clear ai al))
    exact bodyPost_ret (jO rfl _ rfl bh.out) rfl cv.out
  exact hgo
 .have hk2:oh (ref s)=2:=uk.out.resolve_left λe=>by
   unfold oh at e;rw [if_neg h32] at e;split at e
   .cases e
   .split at e <;> cases e
  rw [hk2] at eE;rw [show ny R st s=s from if_neg h32,show lH R st s=0 from if_neg h32];rw [hr] at dc eE;clear h32 hk2 hle uk hr cS yr;have hgo:Calls prog 61 #[.slice a m c,.agg #[.pointer p],.pointer (some ⟨bs,0,none⟩)] w (iw K J2 M w s 0):=by
   go_enter func61,ntmps61;go_wp2_with (first
    | (refine ay (bE _ _ _ gX (by rw [bu.out]; simp) rfl) ?_; rw [<-HW1.out,dy.out])
    | (refine ay (aT (Tm.aU (j:=0) bd.out.o rfl) ⟨_,rfl,rfl⟩) ?_))
   refine (dc.out M w1 bj.out.i HT.out bj.out.t).mono ?_;rintro e w2 ⟨rfl,f2,i2,t2⟩;have HS2:=hid (bj.out.fr HJ.out f2 i2 t2);have cm:=hid (bc.out.frm bj.out.i f2);have d8:=hid (bd.out.frm bj.out.i f2);clear f2 i2 t2 bc bd HB1 bj;go_wp2_with fail
   refine (eE.out w2).mono ?_;rintro e w3 ⟨rfl,hb3⟩;have cC:=hid (HS2.out.below HJ.out hb3);have cF:=hid (cm.out.below hb3);have am:=hid (d8.out.below hb3);have ae:Hid (∀ w9,Rg.Upd w3 gX w9->iw K J2 M w s 0 (.returned (.agg (chA p 0))) w9):=hid (λw9 hu=>(cC.out.upd HJ.out aw.out.1 aw.out.2 hu i8.out.1 cF.out.n).chg 0 HT.out);clear hb3 cm d8 HS2;go_wp2_with (first
    | (refine ay (aT (Tm.aU (j:=0) am.out.o rfl) ⟨_,rfl,rfl⟩) ?_)
    | (refine ay (bK (CU p) ⟨_,rfl,rfl⟩) ?_)
    | (refine bB cF.out.o rfl p 0 rfl _ _ rfl rfl rfl rfl ?_; intro w9 ai al; have bh:Hid (Rg.Own w9 gX (chA p 0) 81):=hid ai; have cv:=hid (ae.out w9 al); clear ai al))
   exact bodyPost_ret (jO rfl _ rfl bh.out) rfl cv.out
  exact hgo
theorem Eb {B:Nat} {K:Nat->Prop} {J:Mp->World->Prop} (hJ:JOk B K J) (fs:Nat) (cs:aM) (eS:∀ args w,(callFunc fs args).run prog w = .ok (.enter fs args) w) (M:Mp) (p:aJ) (t:T) (L:Nat) (g:Tr.Good t L) (hL:L<=64) (f:Fine t) (R:Pa->T->CB) (hok:OkF (ny R) (lH R) t)
  (hS:∀ j bs,j<(aZ t).length->B<=bs->(ref ((aZ t).getD j .nil)).size=32->zL K (JB J bs (.func (.func fs) #[] cs) 84) fs cs ((dG t).getD j []) ((aZ t).getD j .nil) (R ((dG t).getD j []) ((aZ t).getD j .nil)))
  (bt:Nat) (w:World) (hi:Inv M w) (ht:IsT M p t) (hT:Tab w) (hj:J M w) (hb:Bx M w bt #[.pointer p] 31) :
  Calls prog 60 #[.func (.func fs) #[] cs,.pointer (some ⟨bt,0,none⟩)] w (iw K J M w (rO (ny R) t) (jN (lH R) t (aZ t).length)):=by
 obtain ⟨w1,hw1⟩:=au ((w.alloc (.cells #[.func (.func fs) #[] cs] 84)).alloc (.cells (chA none 0) 81))
 have hb1:Below w.heap.size w w1:=by rw [hw1]; exact al2 _ _ _
 have af:Rg.Own w1 w.heap.size #[.func (.func fs) #[] cs] 84:=by rw [hw1]; exact (Rg.Own.new _ _ _).below (al1 _ _)
 have hX1:Rg.Own w1 (w.heap.size+1) (chA none 0) 81:=by
  have:=Rg.Own.new (w.alloc (.cells #[.func (.func fs) #[] cs] 84)) (chA none 0) 81;rw [hw1];simpa using this
 have hB:=hJ.sz M w hj;have hJ2:=hJ.box hB (.func (.func fs) #[] cs) 84;have hS1:=(Sg.start hJ hi hT hj).below hJ hb1;have hX:Bx M w1 (w.heap.size+1) (chA none 0) 81:=⟨hX1,hi.free (Nat.le_succ _),ku _ _⟩
 have hO:Bx M w1 w.heap.size #[.func (.func fs) #[] cs] 84:=⟨af,hi.free aF,IU _ _⟩
 have NO:=hid (hb.below hb1);have ox:=hid (yK hJ2 61 #[.pointer (some ⟨w.heap.size,0,none⟩)] (enters_of func61 (by kernel_rfl) rfl) (ny R) (lH R) M p t L g hL f hok (λj hj'=>by
  obtain ⟨hne,hf,_,L',hl,hg⟩:=iE g f _ (oO hj');exact Lm hJ fs cs eS w.heap.size hB _ _ L' hg (by omega) hf hne R λh=>hS j w.heap.size hj' hB h) w1 hS1.i ht hS1.t ⟨hS1.j,hO⟩)
 have bc:=hid hX;have bj:=hid hS1;have HJ:=hid hJ;have HW1:=hid hw1;have aw:Hid (B<=w.heap.size/\0<w.heap.size/\¬ K (w.heap.size+1)):=hid ⟨hB,hT.pos,λe=>by have:=hJ.lt _ e; omega⟩;obtain ⟨gX,bo⟩:=av (w.heap.size+1)
 have bu:Hid (gX=w.heap.size+1):=hid bo.symm;rw [bo] at bc aw;obtain ⟨t',ht'⟩:=av (rO (ny R) t)
 obtain ⟨n,hn⟩:=av (jN (lH R) t (aZ t).length)
 rw [ht',hn] at ox ⊢;clear hb1 af hX1 hB hJ2 hS1 hX hO hb hi hT hj hJ hok hS hw1 bo ht' hn g f hL;go_enter func60,ntmps60;go_wp2_with (first
  | (refine ay (bE _ _ _ gX (by rw [bu.out]; simp) rfl) ?_; rw [<-HW1.out])
  | (refine ay (aT (Tm.aU (j:=0) NO.out.o rfl) ⟨_,rfl,rfl⟩) ?_))
 refine ox.out.mono ?_;rintro e w2 ⟨q,M2,rfl,ht2,f2,i2,t2,j2⟩;have HS2:=hid (bj.out.call f2 i2 t2 j2.1);have cm:=hid (bc.out.fk bj.out.i f2 aw.out.2.2);obtain ⟨c,hc⟩:=av (fJ n)
 have ae:Hid (∀ w9,Rg.Upd w2 gX w9->iw K J M w t' n (.returned (.agg (chA q c))) w9):=hid (λw9 hu=>by
  rw [<-hc];exact (HS2.out.upd HJ.out aw.out.1 aw.out.2.1 hu (by rw [bu.out]; exact Nat.le_succ _) cm.out.n).chg n ht2)
 rw [hc];clear ht2 f2 i2 t2 j2 hc ox NO bc bj;go_wp2_with (first
  | (refine bB cm.out.o rfl q c rfl _ _ rfl rfl rfl rfl ?_; intro w9 ai al; have bh:Hid (Rg.Own w9 gX (chA q c) 81):=hid ai; have cv:=hid (ae.out w9 al); clear ai al))
 exact bodyPost_ret (jO rfl _ rfl bh.out) rfl cv.out
theorem yM (p:aJ) (w:World):Calls prog 32 #[tv p] w λe w'=>e = .returned (.func (.func 60) #[] #[.pointer (some ⟨w.heap.size,0,none⟩)])/\Rg.Own w' w.heap.size #[.pointer p] 31/\Below w.heap.size w w':=by
 have eR:∀ (fn:Fn) (first cap:aM) (w:World),(Instr.makeFunc fn first cap).run prog w = .ok (.func fn first cap) w:=λ_ _ _ _=>rfl;have hgo:Calls prog 32 #[.agg #[.pointer p]] w λe w'=>e = .returned (.func (.func 60) #[] #[.pointer (some ⟨w.heap.size,0,none⟩)])/\Rg.Own w' w.heap.size #[.pointer p] 31/\Below w.heap.size w w':=by
  go_enter func32,ntmps32;go_wp2;go_ret;exact ⟨rfl,Rg.Own.new _ _ _,al1 _ _⟩
 exact hgo
end Sx
end
end Go.Proofs.YtlcplcgigjagpaaGreatDoor
