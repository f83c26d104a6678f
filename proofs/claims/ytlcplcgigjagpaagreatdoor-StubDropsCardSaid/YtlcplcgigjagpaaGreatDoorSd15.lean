/-
 Make's contract, as in Xj; and: of what was there trees consist no more than they did.
-/
import Derived.Test.YtlcplcgigjagpaaGreatDoorSd14
open Go.Lib (hid)
open Go.Proofs.Tryz
set_option linter.unusedSimpArgs false
set_option linter.unusedVariables false
set_option maxHeartbeats 40000000
set_option maxRecDepth 100000
namespace Go.Proofs.YtlcplcgigjagpaaGreatDoor
variable {a q:aJ} {w1 w2:World} {L g:Nat} {e:TypeId} {ops:Array Oper} {o:Oper} {cs:aM} {ev:Operand->Value}
section
open Go.RowKit
namespace Tm
open Tr Ni Pk Ky No Rf Rl
open Sm (Tab)
theorem QJ {M:Mp} {w w':World} {b:Nat} {t:T} {n c:Nat} {ka:aJ} {kn kc:Nat} (hi:Inv M w) (hb:Below w.heap.size w w') (hB:w.heap.size<=b) (hn:t ≠ .nil)
  (hc:w'.heap[b]? = some (.cells (iy t a n c ka kn kc 0 (Jk t)) 108 (0,0))) (hp:bA w' a n c (bV t)) (hf:∀ ad,a=some ad->0<n->M.ft ad.block\/w.heap.size<=ad.block) (hk:Ks0 M w.heap.size w' ka kn kc (fH t)) :
  QI M w t (.returned (.agg #[.pointer (some ⟨b,0,none⟩)])) w':=by
 have f:=Fr.more hi hb b t hB;have hlt:b<w'.heap.size:=(Array.getElem?_eq_some_iff.1 hc).1;refine ⟨_,Tm.more M b t w.heap.size w'.heap.size,rfl,⟨b,rfl,uj _ _ _ _ _,hn⟩,f,⟨λk hk=>hk.elim (λh=>aH (hi.lt_ k h) hb.size) (λh=>h.2),λk u hm=>?_⟩,hb,λk hk h=>h.elim (λh=>h) (λh=>absurd h.1 (by omega))⟩;by_cases e:k=b
 .subst e;rw [uj] at hm;obtain rfl:=Option.some.inj hm;refine ⟨hn,Or.inr ⟨hB,hlt⟩,a,n,c,ka,kn,kc,0,_,hc,⟨hp,λad e hn=>?_⟩,⟨hk.1,hk.2.1,hk.2.2.1,hk.2.2.2.1,λj hj=>?_⟩,Or.inl ⟨rfl,rfl⟩⟩
  .obtain ⟨b',off,e',hlt',_⟩:=hp.at' 0 hn;rcases hf ad e hn with h | h
   .exact Or.inl h
   .rw [e] at e';obtain rfl:=Option.some.inj e';exact Or.inr ⟨h,hlt'⟩
  .obtain ⟨b',off,p,e,hlt',hm,hcb,ht⟩:=hk.2.2.2.2 j hj;exact ⟨b',off,p,e,hlt',hm.elim Or.inl (λh=>Or.inr ⟨h,hlt'⟩),hcb,ht.mono f.mono⟩
 .rw [sJ e] at hm;have hlt:=hi.lt hm;obtain ⟨h1,h2,a,n,c,ka,kn,kc,d,r,g1,g2,g3,g4⟩:=hi.part_ k u hm;exact ⟨h1,Or.inl h2,a,n,c,ka,kn,kc,d,r,(hb.block k hlt).trans g1,g2.fr hi f,g3.fr hi f,g4⟩
def wm (M:Mp) (w:World) (t:T) (c:Int) (e:Ending) (w':World):Prop:=∃ p M',e = .returned (.tuple #[tv p,.int .i64 c])/\IsT M' p t/\Fr M M' w w'/\Inv M' w'/\Tab w'/\∀ k,k<w.heap.size->M'.ft k->M.ft k
theorem Pt {M:Mp} {w w5 w8:World} {t:T} {e:Ending} (hi:Inv M w) (hz:0<w.heap.size) (hb2:Below w.heap.size w w2) (hO2:Rg.Own w2 g #[.pointer none] 31) (hg:w.heap.size<=g) (f5:Fr M M w2 w5) (t5:Tab w5) (hG:QI M w5 t e w8) :
  ∃ p,e = .returned (tv p)/\∀ w9,Rg.Upd w8 g w9->wm M w t 0 (.returned (.tuple #[tv p,.int .i64 0])) w9:=by
 obtain ⟨p,M',he,ht,f,i,b,hf⟩:=hG;have f28:=f5.trans (hi.below hb2) f;have hn:¬ M'.ft g:=f28.box (hi.free hg) hO2.1 (eG hO2 (bX _));have f8:=(Fr.below M hb2).trans hi f28;have ZR:=hb2.size;have ZS:=f5.size;exact ⟨p,he,λw9 hu=>⟨p,M',rfl,ht,f8.upd hu hg,i.upd hu hn,λi hi=>by rw [World.cell?_of_block (hu.block 0 (by omega))]; exact (t5.below b t5.pos) i hi,λk hk=>hf k (by omega)⟩⟩
theorem Te (M:Mp) (N:Nd) (ts:List T) (hM:Mk N ts) (pa:aJ) (pn pc:Nat) (ps:List (aJ)) (hA:Are M ps ts) (ka:aJ) (kn kc:Nat) (hn:kn<=1000000) (w:World) (hi:Inv M w) (hT:Tab w) (hB:bA w pa pn pc N.p) (hP:jD w ka kn kc ps) :
  Calls prog 114 #[.agg (ndC N pa pn pc),.slice ka kn kc] w (wm M w (makeT N ts) 0):=by
 obtain ⟨w2,hw2,hN,hX,hb2⟩:∃ w2,w2=(w.alloc (.cells (ndC N pa pn pc) 56)).alloc (.cells #[.pointer none] 31)/\dQ w2 w.heap.size N pa pn pc/\Rg.Own w2 (w.heap.size+1) #[.pointer none] 31/\Below w.heap.size w w2:=by
  refine ⟨_,rfl,(Rg.Own.new _ _ _).below (al1 _ _),?_,al2 _ _ _⟩;have:=Rg.Own.new (w.alloc (.cells (ndC N pa pn pc) 56)) #[.pointer none] 31;simpa using this
 have hkn:(bL N.ks).length=kn:=by rw [hM.refs,List.length_map,<-hA.1]; exact hP.2.2.1
 have hpn:pn<=1000000:=by have:=hB.len; have:=hM.pl; omega
 have HN:=hid hN;have HX:=hid hX;have HB:=hid hb2;have iS:=hid (hB.below hb2);have HP:=hid (hP.below hb2);have HI:=hid (hi.below hb2);have Up:=HI;have zg:=hid (hT.below hb2 hT.pos);have HL:=hid hM.ks;have HW:Hid (_=_):=hid hw2;have cY:=hid (Rp N pa pn pc hM.ks w2);have CN:=hid (λwz hz=>QL hM.ks hM.may hM.v hM.few pa pn pc wz hz)
 have af:Hid (∀ w5 w8 e,Fr M M w2 w5->Tab w5->QI M w5 (makeT N ts) e w8->∃ p,e = .returned (tv p)/\∀ w9,Rg.Upd w8 (w.heap.size+1) w9->wm M w (makeT N ts) 0 (.returned (.tuple #[tv p,.int .i64 0])) w9):=hid (λw5 w8 e f t g=>Pt hi hT.pos hb2 hX (Nat.le_succ _) f t g)
 have ri:Hid (∀ w5,jD w5 ka kn kc ps->∀ wz,Below w5.heap.size w5 wz->Calls prog 152 #[.agg (ndC N pa pn pc),.slice ka kn kc] wz λe w'=>∃ va vn vc,e = .returned (.slice va vn vc)/\Ks0 M w5.heap.size w' va vn vc (fH (makeT N ts))/\Below wz.heap.size wz w'):=hid (λw5 hp wz hb=>by
  refine (LP M N hM.ks pa pn pc ps ts hA hM.kd' ka kn kc wz (hp.below hb) hn).mono ?_;rintro e w' ⟨va,vn,vc,he,hk,hb'⟩;exact ⟨va,vn,vc,he,hk.lo hb.size,hb'⟩)
 have NE:=hid (Kk (makeT N ts) N.kd N.v hM.k hM.mv hM.ms);have nf:=hid hM.mp;have oa:=hid hM.mn;have pN:Hid (M.at_ w.heap.size=none/\M.at_ (w.heap.size+1)=none):=hid ⟨hi.out aF,hi.out (by omega)⟩;have HM:=hid hM;have HA:=hid hA;obtain ⟨TT,nd⟩:=av (makeT N ts)
 rw [nd] at af ri NE nf oa ⊢;obtain ⟨gN,hgN⟩:=av w.heap.size
 obtain ⟨gT,ct⟩:=av (w.heap.size+1)
 have hgg:gN≠gT:=by omega
 have eE:Hid (gT=w.heap.size+1):=hid ct.symm;rw [ct] at HX af pN;rw [hgN] at HN pN;have UB:Hid (_=_):=hid hgN;have tn:=hid hkn;clear hN hX hb2 hB hP hi hT hM hA hw2 nd hkn ct hgN;have hgo:Calls prog 114 #[.agg (ndC N pa pn pc),.slice ka kn kc] w (wm M w TT 0):=by
  go_enter func114,ntmps114;go_wp2_with (first
   | (refine ay (aW _ _ _ gT (by rw [eE.out]; simp) rfl) ?_; rw [<-HW.out,UB.out])
   | (refine ay (dH HN.out HL.out ⟨_,rfl,rfl⟩) ?_))
  refine cY.out.mono ?_;rintro e w3 ⟨a3,n3,c3,rfl,GF,ip,hb3⟩;obtain rfl:kn=n3:=by rw [<-GF.2.2.1]; exact tn.out.symm
  have GG:=hid (HN.out.below hb3);have cU:=hid (HX.out.below hb3);have HB3:=hid (hb3);have fb:=hid (iS.out.below hb3);have cL:=hid GF;have GM:Hid (∀ b off,a3=some ⟨b,off,none⟩->M.at_ b=none):=hid (λb off e=>HI.out.out (ip b off e));clear GF ip hb3 cY HX iS HW;go_wp2_with (first
   | (refine ay (dH GG.out HL.out ⟨_,rfl,rfl⟩) ?_))
  refine (CN.out w3 fb.out).mono ?_;rintro e w4 ⟨rfl,hb4⟩;have lp:=hid (GG.out.below hb4);have df:=hid (cU.out.below hb4);have fR:=hid (fb.out.below hb4);have cg:=hid (bst HB3.out hb4);have dv:=hid (cL.out.below hb4);have pH:=hid (HP.out.below cg.out);have HI4:=hid (HI.out.below cg.out);have j7:=hid (zg.out.below cg.out zg.out.pos);have c0:=(bP lp.out).1;clear hb4 GG cU HB3 fb cL CN HP HI zg;go_upto_region 4 with fail
  go_cut [36] (λv wx=>v = .bool false/\Hid (Below w4.heap.size w4 wx))
  case first =>
   rcases HM.out.kd with ⟨h1,h2⟩ | ⟨h1,s,hts,hs1,hs2⟩ | ⟨h1,h2⟩
   .rw [h1] at c0;clear h1 h2;go_wp2_with fail
    go_meet
    exact ⟨rfl,hid aG⟩
   .rw [h1] at c0;have hps:ps.length=1:=by rw [HA.out.1,hts]; rfl
    have hk1:kn=1:=by rw [<-pH.out.2.2.1]; exact hps
    obtain ⟨b,off,hka,hlt,hc⟩:=pH.out.2.2.2.2 0 (by omega);have ht:=HA.out.2 0 (by omega);rw [hts] at ht;have ht':IsT M (ps.getD 0 none) s:=ht;have GO:=λwz (hb:Below w4.heap.size w4 wz)=>Tm.dJ M (ps.getD 0 none) s wz (HI4.out.below hb) ht';obtain ⟨p,hp⟩:=av (ps.getD 0 none)
    rw [hp] at hc GO;have cY:=hid GO;obtain ⟨K,hK⟩:=av (dG s)
    rw [hK] at cY hs1 hs2;have k1:(K==1)=false:=by rw [beq_eq_false_iff_ne]; exact hs1
    have k2:(K==2)=false:=by rw [beq_eq_false_iff_ne]; exact hs2
    have k1':decide (K=1)=false:=decide_eq_false hs1;have k2':decide (K=2)=false:=decide_eq_false hs2;rw [Nat.add_zero] at hc;have HC:=hid hc;clear h1 hps ht ht' GO hp hK hts;subst hk1;subst hka;go_wp2_with (first
     | (refine ay (aT HC.out ⟨_,rfl,rfl⟩) ?_)
     | (refine Rg.runW ?hw _ _ (aT HC.out ⟨_,rfl,rfl⟩) ?_; case hw=>rfl))
    refine (cY.out w4 aG).mono ?_;rintro e w5 ⟨rfl,hb5⟩;have tp:=hid ((Below.cell (p:=⟨b,off,none⟩) hb5 hlt).trans HC.out);have ae:=hid hb5;clear hb5;go_wp2_with (first
     | (refine ay (aT tp.out ⟨_,rfl,rfl⟩) ?_)
     | (refine Rg.runW ?hw _ _ (aT tp.out ⟨_,rfl,rfl⟩) ?_; case hw=>rfl))
    refine (cY.out w5 ae.out).mono ?_;rintro e w6 ⟨rfl,hb6⟩;have cq:=hid (bst ae.out hb6);clear hb6;go_wp2_with fail
    go_meet
    exact ⟨rfl,cq⟩
   .rw [h1] at c0;clear h1 h2;go_wp2_with fail
    go_meet
    exact ⟨rfl,hid aG⟩
  case rest =>
  obtain ⟨rfl,ae⟩:=hcut;obtain ⟨wd,hwd⟩:=au wc
  subst hwd;have eC:=hid (lp.out.below ae.out);have dg:=hid (df.out.below ae.out);have zj:=hid (fR.out.below ae.out);have NF:=hid (dv.out.below ae.out);have GP:=hid (pH.out.below ae.out);have D2:=hid (HI4.out.below ae.out);have cR:=hid (j7.out.below ae.out j7.out.pos);have zp:Hid (Fr M M w2 wd):=hid (Fr.below M (bst cg.out ae.out));have HEq:=hid (PU M ps ts ka kn kc a3 kn c3 wd GP.out HA.out HM.out.fine (by rw [<-HM.out.refs]; exact NF.out) GM.out hn D2.out cR.out);clear lp df fR dv pH HI4 j7 ae cg NF c0;go_wp2_with fail
  refine HEq.out.mono ?_;rintro e w5 ⟨rfl,dc,hi5,m5⟩;have m6:Hid (dQ w5 gN N pa pn pc):=hid (tK eC.out dc pN.out.1);have dq:=hid (tK dg.out dc pN.out.2);have GS:=hid (mI D2.out zj.out dc);have CI:=hid (GP.out.frm D2.out dc);have kq:=hid hi5;replace af:=hid (λw8 e g=>af.out w5 w8 e (zp.out.trans Up.out dc) m5 g);replace ri:=hid (ri.out w5 CI.out);have UI:Hid (∀ wz,Below w5.heap.size w5 wz->Calls prog 112 #[.slice pa pn pc] wz (KQ wz N.p)):=hid (λwz hb=>vN pa pn pc N.p hpn wz (GS.out.below hb))
  clear dc hi5 m5 HEq eC dg zj GP D2 cR zp;go_wp2_with fail
  have ep:Hid (Below w5.heap.size w5 w5.drew):=hid aG.drew;refine aB (S:=λw'=>dQ w' gN N pa pn pc) (m6.out.drew) λhld=>?_;refine ah 0 ?_;try simp only [Act.put,ak]
  refine ah 1 ?_ (hy:=by intro wz hSw; (have q0:=(bP hSw).1; go_simp <;> with_reducible rfl));try simp only [Act.put,ak]
  refine ah 2 ?_;try simp only [Act.put,ak]
  refine ah 3 ?_ (hy:=by intro wz hSw; (have q0:=(bP hSw).2.1; go_simp <;> with_reducible rfl));try simp only [Act.put,ak]
  refine ah 5 ?_;try simp only [Act.put,ak]
  refine ah 6 ?_ (hy:=by intro wz hSw; (have q0:=(bP hSw).2.2; go_simp <;> with_reducible rfl));try simp only [Act.put,ak]
  refine ah 7 ?_ (hy:=by intro wz hSw; (refine dH hSw HL.out ?_; exact ⟨_,rfl,rfl⟩));try simp only [Act.put,ak]
  refine ah 8 ?_;try simp only [Act.put,ak]
  refine aj 4 λK hK=>?_;go_simp;go_at_call 112
  (with_reducible refine (UI.out _ ep.out).mono ?_)
  rintro e eq ⟨a7,n7,c7,rfl,z7,hbx⟩;have cC:=hid (z7.weak ep.out.size);replace ep:=hid (bst ep.out hbx);clear z7;refine hK.out _ _ (hld.below hbx) λhld=>?_;clear hK K hbx;try simp only [Act.put,ak]
  refine aj 9 λK hK=>?_;go_simp;go_at_call 152
  (with_reducible refine (ri.out _ ep.out).mono ?_)
  rintro e wv1 ⟨va,vn,vc,rfl,hks,hbx⟩;have mt:=hid hks;replace cC:=hid (cC.out.below hbx);replace ep:=hid (bst ep.out hbx);clear hks;refine hK.out _ _ (hld.below hbx) λhld=>?_;clear hK K hbx;try simp only [Act.put,ak]
  refine ah 10 ?_ (hy:=by intro wz hSw; (refine bK (NE.out a7 n7 c7 va vn vc) ?_; exact ⟨_,rfl,rfl⟩));try simp only [Act.put,ak]
  refine aj 11 λK hK=>?_;refine Rg.meetAlloc (by rfl) (kR (t:=TT) ⟨_,rfl,rfl⟩) ?_;rintro wv2 b11 zr h11 hbx;have GT:w5.heap.size<=b11:=by rw [zr]; exact ep.out.size
  replace cC:=hid (cC.out.below hbx);replace mt:=hid (mt.out.below hbx);replace ep:=hid (bst ep.out hbx);obtain ⟨UP,zs,hE⟩:=af.out _ _ (QJ kq.out ep.out GT oa.out h11.2 (by rw [nf.out]; exact cC.out.1) (λad e _=>Or.inr (cC.out.2 ad e)) mt.out);obtain rfl:UP=some ⟨b11,0,none⟩:=by cases zs; rfl
  have HE:=hid hE;clear hE zs zr;refine hK.out _ _ (hld.below hbx) λhld=>?_;clear hK K hbx;try simp only [Act.put,ak]
  refine ah 12 ?_;try simp only [Act.put,ak]
  refine aj 13 λK hK=>?_;refine aY (by rfl) (dq.out.below ep.out) (off:=0) (by simp) (some ⟨b11,0,none⟩) ⟨_,_,rfl,rfl,rfl⟩ ?_;rintro mu hn hu;have zt:Hid (Rg.Own mu gT #[.pointer (some ⟨b11,0,none⟩)] 31):=hid hn;have US:=hid (HE.out _ hu);refine hK.out _ _ (hld.upd hu hgg) λhld=>?_;clear hK K hn hu;try simp only [Act.put,ak]
  refine ah 14 ?_;try simp only [Act.put,ak]
  refine aA ?_;clear hld;go_wp2;exact bodyPost_ret (uE (q:=4) (u:=5) rfl _ rfl zt.out) rfl US.out
 exact hgo
structure FrK (M:Mp) (K:Nat->Prop) (w w':World):Prop where
 os:w'.os=w.os
 tape:w'.tape=w.tape
 output:w'.output=w.output
 size:w.heap.size<=w'.heap.size
 block:∀ k,k<w.heap.size->M.at_ k=none->¬ K k->w'.heap[k]? = w.heap[k]?
theorem FrK.refl (M:Mp) (K:Nat->Prop) (w:World):FrK M K w w:=⟨rfl,rfl,rfl,aF,λ_ _ _ _=>rfl⟩
theorem FrK.trans {M:Mp} {K K1:Nat->Prop} {w w1 w2:World} (h:FrK M K w w1) (g:FrK M K1 w1 w2) (hk:∀ k,K1 k->K k\/w.heap.size<=k):FrK M K w w2 :=
 ⟨g.os.trans h.os,g.tape.trans h.tape,g.output.trans h.output,Nat.le_trans h.size g.size,λk hl hm hn=>(g.block k (aH hl h.size) hm λh1=>(hk k h1).elim hn (by omega)).trans (h.block k hl hm hn)⟩
theorem FrK.of {M:Mp} {K:Nat->Prop} {w w':World} (f:Fr M M w w'):FrK M K w w':=⟨f.os,f.tape,f.output,f.size,λk hl hm _=>f.block k hl hm⟩
theorem Inv.keep {M:Mp} {w w':World} (h:Inv M w) (hs:w.heap.size<=w'.heap.size) (hk:∀ k,M.ft k->w'.heap[k]? = w.heap[k]?):Inv M w':=by
 refine ⟨λk hk=>aH (h.lt_ k hk) hs,λb t hm=>?_⟩;obtain ⟨h1,h2,h3⟩:=h.part_ b t hm;refine ⟨h1,h2,?_⟩;obtain ⟨a,n,c,ka,kn,kc,d,r,hb,hB,hK,hd⟩:=h3;refine ⟨a,n,c,ka,kn,kc,d,r,(hk b h2).trans hb,⟨⟨hB.1.1,hB.1.2.1,hB.1.2.2.1,hB.1.2.2.2.1,λj hj=>?_⟩,hB.2⟩,⟨hK.1,hK.2.1,hK.2.2.1,hK.2.2.2.1,λj hj=>?_⟩,hd⟩
 .obtain ⟨b',off,e,hlt,hc⟩:=hB.1.2.2.2.2 j hj;exact ⟨b',off,e,aH hlt hs,by rw [World.cell?_of_block (hk b' (hB.2 _ e (by omega)))]; exact hc⟩
 .obtain ⟨b',off,p,e,hlt,hf,hc,ht⟩:=hK.at' j hj;exact ⟨b',off,p,e,aH hlt hs,hf,by rw [World.cell?_of_block (hk b' hf)]; exact hc,ht⟩
theorem qA {B sz n:Nat} {w w':World} {v:Value} {xs:List Value} (h:w.ownsRow B e sz v n xs) (hk:∀ k,v.ownBlock=some k->w'.heap[k]? = w.heap[k]?):w'.ownsRow B e sz v n xs:=by
 obtain ⟨h1,h2⟩:=h;refine ⟨h1,?_⟩;rcases h2 with h2 | ⟨g,cap,cur,rfl,hg,hh,hr⟩
 .exact .inl h2
 .exact .inr ⟨g,cap,cur,rfl,hg,(hk g rfl).trans hh,hr⟩
theorem ku {B sz n:Nat} {w:World} {v:Value} {xs:List Value} (h:w.ownsRow B e sz v n xs):∃ a c,v = .slice a n c:=by
 rcases h.2 with ⟨rfl,rfl⟩ | ⟨g,cap,cur,rfl,_⟩
 .exact ⟨_,_,rfl⟩
 .exact ⟨_,_,rfl⟩
def MN (M:Mp):aJ->T
 | none=>.nil
 | some ad=>(M.at_ ad.block).getD .nil
theorem IsT.MN {M:Mp} {p:aJ} {t:T} (h:IsT M p t):Tm.MN M p=t:=by
 cases p with
 | none=>exact Eq.symm h
 | some ad =>
  obtain ⟨b,rfl,hm,_⟩:=h;show (M.at_ b).getD .nil=t;rw [hm]; rfl
theorem Qi {B:Nat} {w:World} {n cap:Nat} {ps:List (aJ)} (h:w.ownsRow B 31 1 (.slice (some ⟨g,0,none⟩) n cap) n (ps.map Value.pointer)):ps.length=n/\B<=g/\g<w.heap.size/\n<=cap/\cap<=maxLen/\∀ j,j<n->w.cell? ⟨g,j,none⟩=some (.pointer (ps.getD j none)):=by
 obtain ⟨h1,h2⟩:=h;have hl:ps.length=n:=by simpa using h1
 rcases h2 with ⟨h2,_⟩ | ⟨g',cap',cur,e,hg,hh,hnc,hcm,hsz,htk⟩
 .cases h2
 .injection e with e1 e2 e3;injection e1 with e1;injection e1 with e1;subst e1 e3;refine ⟨hl,hg,(Array.getElem?_eq_some_iff.1 hh).1,hnc,hcm,λj hj=>?_⟩;rw [cell_of_row w g _ _ _ _ hh];have h3:cur.toList[j]? = (ps.map Value.pointer)[j]? := by
   rw [<-htk,List.getElem?_take_of_lt (by omega)]
  rw [<-Array.getElem?_toList,h3];simp [List.getD,show j<ps.length by omega]
theorem Are.snoc {M:Mp} {ps qs:List (aJ)} {S R:List T} (h:Are M ps S) (g:Are M qs R):Are M (ps++qs) (S++R):=by
 refine ⟨by simp [h.1,g.1],λj hj=>?_⟩;by_cases hl:j<ps.length
 .have:=h.2 j hl;simpa [List.getD,List.getElem?_append_left hl,List.getElem?_append_left (show j<S.length by rw [<-h.1]; exact hl)] using this
 .have hs:=h.1;have:=g.2 (j-ps.length) (by rw [List.length_append] at hj; omega);simpa [List.getD,List.getElem?_append_right (show ps.length<=j by omega),List.getElem?_append_right (show S.length<=j by omega),hs] using this
section
variable {M:Mp} {J:List T->(Nat->Prop)->World->Prop} {K0:Nat->Prop} {w0 w:World} {t:T} {v:Value} {V S:List T} {ps:List (aJ)} {K:Nat->Prop}
end
end Tm
end
section
open Go.RowKit
namespace Sx
open Tr Ni Pk Ky No Rf Rl Tm
open Sm (Tab)
theorem mM {w w':World} (h:Tab w) (hu:Rg.Upd w g w') (hg:0<g):Tab w':=λi hi=>by
 rw [World.cell?_of_block (hu.block 0 (by omega))];exact h i hi
theorem KU (M:Mp) (p:aJ) (t:T) (L:Nat) (g:Tr.Good t L) (hL:L<=64) (f:Fine t) (ts:List T) (hM:Mk (bM t) ts) (ps:List (aJ)) (hA:Are M ps ts) (ka:aJ) (kn kc:Nat) (hn:kn<=1000000) (w:World) (hi:Inv M w) (ht:IsT M p t) (hT:Tab w) (hP:jD w ka kn kc ps) :
  Calls prog 83 #[tv p,.slice ka kn kc] w (wm M w (makeT (bM t) ts) 0):=by
 obtain ⟨w1,hw1⟩:=au ((w.alloc (.cells #[.pointer p] 31)).alloc (.cells #[.pointer none] 31))
 have hb1:Below w.heap.size w w1:=by rw [hw1]; exact al2 _ _ _
 have ag:Rg.Own w1 w.heap.size #[.pointer p] 31:=by rw [hw1]; exact (Rg.Own.new _ _ _).below (al1 _ _)
 have hX1:Rg.Own w1 (w.heap.size+1) #[.pointer none] 31:=by
  have:=Rg.Own.new (w.alloc (.cells #[.pointer p] 31)) #[.pointer none] 31;rw [hw1];simpa using this
 have hi1:=hi.below hb1;have hT1:=hT.below hb1 hT.pos;have lA:=hid (sw M p t L g hL f w1 hi1 ht hT1);have bd:Hid (Bx M w1 (w.heap.size+1) #[.pointer none] 31):=hid ⟨hX1,hi.free (Nat.le_succ _),bX _⟩;have bc:=hid ag;have NL:=hid (hP.below hb1);have HI1:=hid hi1;have HB1:=hid hb1;have HI:=hid hi;have HM:=hid hM;have HA:=hid hA;have HW1:=hid hw1;have de:Hid ((bM t).ks.length=16):=hid (dP t);have HZ:Hid (0<w.heap.size):=hid hT.pos;obtain ⟨N,hN⟩:=av (bM t)
 have HN:=hid hN;rw [hN] at de HM ⊢;obtain ⟨TT,nd⟩:=av (makeT N ts)
 have UT:=hid nd;rw [nd];obtain ⟨gX,cf⟩:=av (w.heap.size+1)
 have ce:=hid cf;rw [cf] at bd;clear hb1 ag hX1 hi1 hT1 hi hT hM hA hP g f hN hw1 nd cf;have hgo:Calls prog 83 #[.agg #[.pointer p],.slice ka kn kc] w (wm M w TT 0):=by
  go_enter func83,ntmps83;go_wp2_with (first
   | (refine ay (aW _ _ _ gX (by rw [<-ce.out]; simp) rfl) ?_; rw [<-HW1.out])
   | (refine ay (aT (Tm.aU (j:=0) bc.out rfl) ⟨_,rfl,rfl⟩) ?_))
  refine lA.out.mono ?_;rintro e w2 ⟨na,nn,nc,ZT,kc2,ps2,rfl,_,hbs,_,_,_,f2,i2,t2⟩;rw [HN.out] at hbs ⊢;have iS:=hid hbs.1;have NN:=hid (NL.out.frm HI1.out f2);have cv:=hid (bd.out.frm HI1.out f2);have fm:Hid (Fr M M w w2/\Inv M w2/\Tab w2):=hid ⟨(Fr.below M HB1.out).trans HI.out f2,i2,t2⟩;have nh:dQ (w2.alloc (.cells (ndC nd0 none 0 0) 56)) w2.heap.size nd0 none 0 0:=Rg.Own.new _ _ _;have eC:=hid nh;clear hbs f2 i2 t2 nh lA bc bd NL HI1;go_wp2_with (first
   | (refine ay (aX _ _ _ w2.heap.size rfl rfl) ?_)
   | (refine bG eC.out rfl N na nn nc de.out rfl _ _ rfl rfl rfl rfl ?_)
   | (refine ay (dH (dD eC.out) de.out ⟨_,rfl,rfl⟩) ?_))
  obtain ⟨w3,hw3⟩:=au ((w2.alloc (.cells (ndC nd0 none 0 0) 56)).setRow w2.heap.size (ndC N na nn nc))
  have hb3:Below w2.heap.size w2 w3:=by rw [hw3]; exact bU (al1 _ _) aF _
  rw [<-hw3];clear hw3 eC;have hmk:=Te M N ts HM.out na nn nc ps HA.out ka kn kc hn w3 (fm.out.2.1.below hb3) (fm.out.2.2.below hb3 fm.out.2.2.pos) (iS.out.below hb3) (NN.out.below hb3);rw [UT.out] at hmk;refine hmk.mono ?_;rintro e w4 ⟨q,M4,rfl,oE,f4,i4,t4,k4⟩;have n9:=(cv.out.below hb3).frm (fm.out.2.1.below hb3) f4;have df:=hid n9
  have af:Hid (∀ w5,Rg.Upd w4 gX w5->wm M w TT 0 (.returned (.tuple #[tv q,.int .i64 0])) w5):=hid (λw5 hu=>⟨q,M4,rfl,oE,(fm.out.1.trans HI.out ((Fr.below M hb3).trans fm.out.2.1 f4)).upd hu (by have:=ce.out; omega),i4.upd hu n9.n,mM t4 hu (by have:=ce.out; have:=HZ.out; omega),λk hk=>k4 k (aH (aH hk fm.out.1.size) hb3.size)⟩);clear hmk oE f4 i4 t4 k4 n9 hb3 cv fm NN iS;go_wp2_with (first
   | (refine aZ df.out.o (by simp) q rfl _ _ rfl rfl rfl ?_; intro w5 b8 ax; have bz:Hid (Rg.Own w5 gX #[.pointer q] 31):=hid b8; have jp:=hid (af.out w5 ax); clear b8 ax))
  exact bodyPost_ret (uE (q:=4) (u:=5) rfl _ rfl bz.out) rfl jp.out
 exact hgo
structure Cg (K:Nat->Prop) (J:Mp->World->Prop) (M0:Mp) (w0:World) (ts:List T) (M:Mp) (w:World) (v:Value) (ps:List (aJ)):Prop where
 f:Fk K M0 M w0 w
 i:Inv M w
 t:Tab w
 j:J M w
 row:w.ownsRow w0.heap.size 31 1 v ps.length (ps.map Value.pointer)
 nr:∀ k,v.ownBlock=some k->¬ M.ft k
 are:Are M ps ts
 z:0<w0.heap.size
section
variable {B:Nat} {K:Nat->Prop} {J:Mp->World->Prop} {M0 M M':Mp} {w0 w w':World} {ra:aJ} {rn rc:Nat} {xs:List Iv} {ts:List T} {v v':Value} {ps:List (aJ)}
theorem Yv (h:cK w ra rn rc xs) (hi:Inv M w) (f:Fk K M M' w w') (hk:∀ ad,ra=some ad->¬ K ad.block):cK w' ra rn rc xs :=
 ⟨h.1,h.2.1,h.2.2.1,h.2.2.2.1,λj hj=>by
  obtain ⟨b,off,g,e,hlt,hp,hb⟩:=h.2.2.2.2 j hj;have hm:=hi.lZ hp.2;have hs:=f.block b hlt hm (hk _ e);exact ⟨b,off,g,e,aH hlt f.size,⟨by rw [World.cell?_of_block hs]; exact hp.1,by rw [World.cell?_of_block hs]; exact hp.2⟩,VX hi hb f⟩⟩
theorem Cg.below (h:Cg K J M0 w0 ts M w v ps) (hJ:JOk B K J) (hb:Below w.heap.size w w'):Cg K J M0 w0 ts M w' v ps :=
 ⟨h.f.trans ((Fr.below M hb).k (hJ.kc M w h.j h.i)) (λk hk=>.inl hk),h.i.below hb,h.t.below hb h.t.pos,hJ.below h.j h.i hb,qA h.row λk e=>hb.block k (h.row.lt k e).2,h.nr,h.are,h.z⟩
theorem Cg.call (h:Cg K J M0 w0 ts M w v ps) (hk:∀ k,K k->k<w0.heap.size) (f:Fk K M M' w w') (i:Inv M' w') (t:Tab w') (j:J M' w'):Cg K J M0 w0 ts M' w' v ps :=
 ⟨h.f.trans f (λk hk=>.inl hk),i,t,j,qA h.row λk e=>f.block k (h.row.lt k e).2 (lM h.i (h.nr k e)) (λe2=>by have:=hk k e2; have:=(h.row.lt k e).1; omega),λk e=>f.box (h.nr k e) (h.row.lt k e).2,h.are.mono f.mono,h.z⟩
theorem Fk.grown (f:Fk K M0 M w0 w) {row:Option Nat} (hg:w.grownBy w' row) (hr:∀ k,row=some k->w0.heap.size<=k):Fk K M0 M w0 w' :=
 ⟨hg.os.trans f.os,hg.tape.trans f.tape,hg.output.trans f.output,Nat.le_trans f.size hg.size,λk hk hm hn=>(hg.block k (aH hk f.size) λe=>by have:=hr k e.symm; omega).trans (f.block k hk hm hn),f.mono,f.fresh,f.grow,f.foot,f.nob⟩
theorem Cg.push (h:Cg K J M0 w0 ts M w v ps) (hJ:JOk B K J) (hB:B<=w0.heap.size) {s:T} (hq:IsT M q s) (hrow:w'.ownsRow w0.heap.size 31 1 v' (ps.length+1) (ps.map Value.pointer++[.pointer q])) (hg:w.grownBy w' v.ownBlock) (hl:v'.ownBlock=v.ownBlock\/v'.ownBlock=some w.heap.size):Cg K J M0 w0 (ts++[s]) M w' v' (ps++[q]):=by
 have hr:∀ k,v.ownBlock=some k->w0.heap.size<=k:=λk e=>(h.row.lt k e).1;refine ⟨Fk.grown h.f hg hr,h.i.keep hg.size λk hk=>hg.block k (h.i.lt_ k hk) λe=>h.nr k e.symm hk,λi hi=>?_,hJ.fr M M w w' h.j h.i hg.size (λk hk _=>hg.block k (aH hk (hJ.sz M w h.j)) λe=>by have:=hr k e.symm; omega) (λ_ _ h=>h) (λ_ _ h=>h) (λ_ _ h=>h),by rw [List.length_append,List.map_append]; exact hrow,λk e hf=>?_,h.are.snoc ⟨rfl,λj hj=>?_⟩,h.z⟩
 .have hz:=h.z;have hs:=h.f.size;rw [World.cell?_of_block (hg.block 0 (by omega) λe=>by have:=hr _ e.symm; omega)];exact h.t i hi
 .rcases hl with e2 | e2
  .exact h.nr k (by rw [<-e2]; exact e) hf
  .rw [e2] at e;obtain rfl:=Option.some.inj e;exact h.i.free aF hf
 .obtain rfl:j=0:=by simp at hj; exact hj
  exact hq
theorem Gy {n:Nat} (h:w.ownsRow n 31 1 v ps.length (ps.map Value.pointer)):∃ a c,v = .slice a ps.length c/\jD w a ps.length c ps:=by
 have h':=h;obtain ⟨_,h2⟩:=h;rcases h2 with ⟨rfl,hn⟩ | ⟨g,cap,cur,rfl,_⟩
 .have:ps=[]:=List.length_eq_zero_iff.1 hn;subst this;exact ⟨none,0,rfl,aF,Nat.zero_le _,rfl,λ_=>rfl,λ_ h=>absurd h (Nat.not_lt_zero _)⟩
 .obtain ⟨_,_,hlt,hnc,hcm,hc⟩:=Qi h';exact ⟨_,cap,rfl,hnc,hcm,rfl,λe=>(by cases e),λj hj=>⟨g,0,rfl,hlt,by rw [Nat.zero_add]; exact hc j hj⟩⟩
end
theorem LY {rest:List Oper} {a:Go.Act} {w:World} {Q:Exit->Go.Act->World->Prop} {B b2:Nat} {v:Value} {ps:List (aJ)} (hR:w.ownsRow B 31 1 v ps.length (ps.map Value.pointer)) (h2:Rg.Own w b2 (oV [q]) 31) (hn:ps.length<=1000000) (hB:B<=w.heap.size) (hgd:o.guard=none)
  (ho:∃ s y,o.op = .call { callee:=.builtin .append,args:=#[s,y],argTypes:=#[57,57] }/\a.eval s=v/\a.eval y = .slice (some ⟨b2,0,none⟩) 1 1)
  (H:∀ v' w',w'.ownsRow B 31 1 v' (ps.length+1) (ps.map Value.pointer++[.pointer q])->w.grownBy w' v.ownBlock->(v'.ownBlock=v.ownBlock\/v'.ownBlock=some w.heap.size)->wpList prog ops Q rest (a.put o.dst v') w'):wpList prog ops Q (o::rest) a w:=by
 obtain ⟨s,y',ho,hs,hy⟩:=ho;obtain ⟨i0,z0,hi,hz,hsz,hby,hzc⟩:=rU;obtain ⟨v',w',hr,h3,h4,_,h5⟩:=run_append_own_at (P:=prog) w B 57 o.type 31 i0 z0 1 8 underlying57 hi hz hsz hby hzc (by decide) v ps.length _ hR ⟨b2,0,none⟩ 1 1 [.pointer q] rfl
  (λj u hu=>by
   have hj:j=0:=by
    have:=(List.getElem?_eq_some_iff.1 hu).1;simp at this;omega
   subst hj;have hu':Value.pointer q=u:=by simpa using hu
   rw [Addr.add_mid,<-hu'];exact Tm.aU h2 rfl)
  (λu hu=>by rw [List.mem_singleton.1 hu]; rfl) (by unfold maxLen; omega) (by omega) hB
 refine iw hgd v' w' ?_ (H v' w' h3 h4 h5);unfold execOp;simp only [ho,resolve,invoke,builtin,Sem.run_bind,Sem.run_pure,Result.andThen_ok,List.map_toArray,List.map_cons,List.map_nil,hs,hy,hr]
theorem Tc {xs:List Iv} {l:List Pa} (h:xs.map Prod.fst=l) (j:Nat):(xs.getD j ([],none)).1=l.getD j []:=by
 subst h;by_cases hj:j<xs.length
 .simp [List.getD,hj]
 .simp [List.getD,List.getElem?_eq_none (show xs.length<=j by omega)]
theorem Vk {xs:List Iv} {l:List (aJ)} (h:xs.map Prod.snd=l) (j:Nat):(xs.getD j ([],none)).2=l.getD j none:=by
 subst h;by_cases hj:j<xs.length
 .simp [List.getD,hj]
 .simp [List.getD,List.getElem?_eq_none (show xs.length<=j by omega)]
theorem Fk.upd {K:Nat->Prop} {M M':Mp} {w:World} (f:Fk K M M' w w1) (hu:Rg.Upd w1 g w2) (hg:w.heap.size<=g):Fk K M M' w w2 :=
 ⟨hu.os.trans f.os,hu.tape.trans f.tape,hu.output.trans f.output,by rw [hu.size]; exact f.size,λk hk hm hn=>(hu.block k (by omega)).trans (f.block k hk hm hn),f.mono,f.fresh,f.grow,f.foot,f.nob⟩
theorem MS {B:Nat} {K:Nat->Prop} {J:Mp->World->Prop} (hJ:JOk B K J) {M M':Mp} {w:World} {t:T} {n:Nat} (h0:J M w) (hz:0<w.heap.size) (f:Fk K M M' w w1) (i:Inv M' w1) (ht:Tab w1) (j:J M' w1) (hf:¬ M'.ft g) (hg:w.heap.size<=g) (hu:Rg.Upd w1 g w2) (hq:IsT M' q t):iC K J M w t n (.returned (.agg (chA q (gH n)))) w2:=by
 have hB:=hJ.sz M w h0;exact ⟨q,M',rfl,hq,Fk.upd f hu hg,i.upd hu hf,mM ht hu (by omega),hJ.fr M' M' w1 w2 j i (by rw [hu.size]; exact aF) (λk hk _=>hu.block k (by omega)) (λ_ _ h=>h) (λ_ _ h=>h) (λ_ _ h=>h)⟩
theorem zx {B:Nat} {K:Nat->Prop} {J:Mp->World->Prop} (hJ:JOk B K J) (fo:Nat) (co:aM) (eO:∀ args w,(callFunc fo args).run prog w = .ok (.enter fo args) w) (F:Pa->T->T) (C:Pa->T->Nat) (M:Mp) (p:aJ) (t:T) (L:Nat) (g:Tr.Good t L) (hL:L<=64) (f:Fine t) (hok:OkF F C t)
  (hO:∀ j,j<(bC t).length->FM K J fo co ((dK t).getD j []) ((bC t).getD j .nil) (F ((dK t).getD j []) ((bC t).getD j .nil)) (C ((dK t).getD j []) ((bC t).getD j .nil)))
  (w:World) (hi:Inv M w) (ht:IsT M p t) (hT:Tab w) (hj:J M w) :
  Calls prog 49 #[tv p,.func (.func fo) #[] co] w (iC K J M w (rW F t) (jQ C t (bC t).length)):=by
 obtain ⟨w1,hw1⟩:=au ((w.alloc (.cells #[.pointer p] 31)).alloc (.cells (chA none 0) 81))
 have hb1:Below w.heap.size w w1:=by rw [hw1]; exact al2 _ _ _
 have ag:Rg.Own w1 w.heap.size #[.pointer p] 31:=by rw [hw1]; exact (Rg.Own.new _ _ _).below (al1 _ _)
 have hX1:Rg.Own w1 (w.heap.size+1) (chA none 0) 81:=by
  have:=Rg.Own.new (w.alloc (.cells #[.pointer p] 31)) (chA none 0) 81;rw [hw1];simpa using this
 have hi1:=hi.below hb1;have hT1:=hT.below hb1 hT.pos;have NO:=hid (JZ M p t L g hL f w1 hi1 ht hT1);have bd:Hid (Bx M w1 (w.heap.size+1) (chA none 0) 81):=hid ⟨hX1,hi.free (Nat.le_succ _),kD _ _⟩;have bc:Hid (Bx M w1 w.heap.size #[.pointer p] 31):=hid ⟨ag,hi.free aF,bX _⟩;have HI1:=hid hi1;have HB1:=hid hb1;have HI:=hid hi;have Ha:=hid (hJ.below hj hi hb1);have HJ:=hid hJ;have we:=hid hj;have HW1:=hid hw1;have d8:=hid ht;have ee:=hid hok;have qr:=hid hO
 have HZ:Hid (0<w.heap.size):=hid hT.pos;have UV:=hid (λ(hn:t ≠ .nil) (hs:¬ eX t) (M:Mp) (ht:IsT M p t) (ps:List (aJ)) (hA:Are M ps (sS F t)) (ka:aJ) (kc:Nat) (hl:ps.length<=1000000) (w:World) (hi:Inv M w) (hT:Tab w) (hP:jD w ka ps.length kc ps)=>by
  have:=KU M p t L g hL f _ (Yk g hL f hn hs hok) ps hA ka ps.length kc hl w hi ht hT hP;rwa [JL g hL f hn hs] at this)
 have zv:=hid (λh=>Rm hok h);have D3:=hid (wY F t);have tw:=hid (Fq F t);have qT:=Cj t;obtain ⟨n,hn⟩:=av ((bC t).length)
 have HN:=hid hn;obtain ⟨gT,ct⟩:=av w.heap.size
 obtain ⟨gX,cf⟩:=av (w.heap.size+1)
 have ce:Hid (gX=w.heap.size+1):=hid cf.symm;have eE:Hid (w.heap.size=gT):=hid ct;rw [cf] at bd;rw [ct] at bc;rw [hn] at qT ⊢;clear hb1 ag hX1 hi1 hT1 hi hT hJ hj g f hok hO hw1 hn ct cf ht;have hgo:Calls prog 49 #[.agg #[.pointer p],.func (.func fo) #[] co] w (iC K J M w (rW F t) (jQ C t n)):=by
  go_enter func49,ntmps49;go_wp2_with (first
   | (refine ay (bJ _ _ _ gX (by rw [ce.out]; simp) rfl) ?_; rw [<-HW1.out,eE.out])
   | (refine ay (aT (Tm.aU (j:=0) bc.out.o rfl) ⟨_,rfl,rfl⟩) ?_))
  refine NO.out.mono ?_;rintro e w2 ⟨ra,rn,rc,xs,rfl,hins,hra,zz,dp,f2,i2,t2⟩;have hrn:rn=n:=by rw [<-hins.len,<-HN.out,<-dp.1,List.length_map]
  subst hrn;have Hb:=hid zz;have gp:=hid dp;have Hc:=hid hins;have mw:Hid (∀ k,w.heap.size<=k->¬ K k):=hid (λk hk e=>by have:=HJ.out.lt k e; have:=HJ.out.sz M w we.out; omega);have tz:Hid (∀ ad,ra=some ad->¬ K ad.block):=hid (λad e=>mw.out _ (Nat.le_trans HB1.out.size (hra ad e)));have cv:=hid (bd.out.frm HI1.out f2);have dm:=hid (bc.out.frm HI1.out f2);have hs2:w.heap.size<=w2.heap.size:=Nat.le_trans HB1.out.size f2.size;have HI2:=hid i2
  have cH:Hid (∀ k,K k->k<w2.heap.size):=hid (λk e=>by have:=HJ.out.lt k e; have:=HJ.out.sz M w we.out; omega);have ap:Hid (B<=w2.heap.size/\w.heap.size<=w2.heap.size):=hid ⟨by have:=HJ.out.sz M w we.out; omega,hs2⟩;have fm:Hid (Fk K M M w w2):=hid (((Fr.below M HB1.out).trans HI.out f2).k (HJ.out.kc M w we.out HI.out))
  have D4:Hid (Cg K J M w2 ((sS F t).take 0) M w2 (.slice none 0 0) []):=hid ⟨(Fr.refl M w2).k (HJ.out.kc M w2 (HJ.out.fn Ha.out HI1.out (Fnw.of f2)) i2),i2,t2,HJ.out.fn Ha.out HI1.out (Fnw.of f2),World.ownsRow_nil _ _ _ _,λ_ e=>(by cases e),⟨rfl,λ_ h=>absurd h (Nat.not_lt_zero _)⟩,aH HZ.out hs2⟩;clear hins hra zz dp f2 i2 t2 hs2 NO bc bd Ha HI1;go_wp2
  go_loopw [5,6,15] (λv0 a i wr=>∃ (j:Nat) (v:Value) (ps:List (aJ)) (M':Mp),v=v0/\j<=rn/\a = .int .i64 (gH (jQ C t j))/\i = .int .i64 j/\Hid (Cg K J M w2 ((sS F t).take j) M' wr v ps)) (λ_ _ i _=>16-(intOf i).toNat)
  case atStart=>exact ⟨0,_,[],M,rfl,Nat.zero_le _,rfl,rfl,D4⟩
  case round =>
   obtain ⟨j,v,ps,M3,rfl,hjn,rfl,rfl,HG⟩:=hrel;clear D4;by_cases hlt:j<rn
   .have i1:(j:Int)<(rn:Int):=by omega
    have wh:j<(bC t).length:=by rw [HN.out]; exact hlt
    have ZU:=hid wh;obtain ⟨b,off,⟨ha,hm,hc⟩,rfl,hblt,hin,hbs⟩:=(Yv Hc.out HI2.out HG.out.f tz.out).at' j hlt;have hT0:IsT M (xs.getD j ([],none)).2 ((bC t).getD j .nil):=by
     rw [Vk (xs:=xs) rfl j];exact gp.out.2 j (by rw [gp.out.1]; exact wh)
    have lm:=hT0.mono HG.out.f.mono;rw [Tc Hb.out j] at hbs;have ky:Hid ((sS F t).take (j+1)=(sS F t).take j++[F ((dK t).getD j []) ((bC t).getD j .nil)]):=hid (by
     have hl:j<(sS F t).length:=by rw [D3.out]; exact wh
     rw [List.take_succ_eq_append_getElem hl,<-tw.out j wh,List.getD_eq_getElem?_getD,List.getElem?_eq_getElem hl];rfl)
    have Hd:Hid (gH (jQ C t j)+min (gH (C ((dK t).getD j []) ((bC t).getD j .nil))) (9223372036854775807-gH (jQ C t j))=gH (jQ C t (j+1))):=hid (by rw [Qq]; exact VB _ _);have cW:=hid (qr.out j wh M3);obtain ⟨x,hx⟩:=av (xs.getD j ([],none))
    rw [hx] at lm hin;obtain ⟨s,hs⟩:=av (gH (jQ C t j))
    have hsb:=RD (jQ C t j);have hcb:=RD (C ((dK t).getD j []) ((bC t).getD j .nil));rw [hs] at Hd hsb ⊢;obtain ⟨c,hcc⟩:=av (gH (C ((dK t).getD j []) ((bC t).getD j .nil)))
    have fS:=hid hcc;rw [hcc] at Hd hcb;have dt:=hid hin;have iS:=hid hbs;have HT3:=hid lm;have hps:ps.length=j:=by rw [HG.out.are.1,List.length_take,D3.out]; omega
    have zE:=hid hps;have hNew:=Rg.Own.new wr (inA ([],none) (none,0,0)) 143;have ov:=hid hNew;clear wh hT0 lm hin hbs hblt hx hs hcc hps hNew;go_wp2_with (first
     | (refine ay (vM dt.out ⟨_,rfl,rfl⟩) ?_)
     | (refine ay (Gb _ _ _ wr.heap.size rfl rfl) ?_)
     | (refine Fg ov.out rfl x (ha,hm,hc) rfl _ _ rfl rfl rfl rfl ?_; intro w3 hO3 hu3; have am:Hid (Rg.Own w3 wr.heap.size (inA x (ha,hm,hc)) 143):=hid hO3; have HB3:Hid (Below wr.heap.size wr w3):=hid (hu3.below (al1 _ _) aF); clear hO3 hu3)
     | (refine ay (Ew.lU (Tm.aU (j:=0) am.out rfl) ⟨_,rfl,rfl⟩) ?_)
     | (refine ay (aT (Tm.aU (j:=1) am.out rfl) ⟨_,rfl,rfl⟩) ?_))
    have j8:=hid (HG.out.below HJ.out HB3.out);refine (cW.out w3 ha hm hc x.2 j8.out.j j8.out.i j8.out.t (iS.out.below HB3.out) HT3.out).mono ?_;rintro e w4 ⟨q,M4,rfl,oE,f4,i4,t4,j4⟩;rw [fS.out];have qq:=hid (j8.out.call cH.out f4 i4 t4 j4);have j7:=hid oE;have hNew:=Rg.Own.new w4 (chA none 0) 81;have js:=hid hNew;clear oE f4 i4 t4 j4 hNew HG j8 am HB3 ov dt iS HT3 cW;go_wp2_with (first
     | (refine ay (bJ _ _ _ w4.heap.size rfl rfl) ?_)
     | (refine bE js.out rfl q c rfl _ _ rfl rfl rfl rfl ?_; intro w5 b8 ax; have bz:Hid (Rg.Own w5 w4.heap.size (chA q c) 81):=hid b8; have ae:Hid (Below w4.heap.size w4 w5):=hid (ax.below (al1 _ _) aF); clear b8 ax; have lw:=hid (qq.out.below HJ.out (bst ae.out (al1 w5 (.cells (oV [q]) 31)))))
     | (refine ay (aT (Tm.aU (j:=0) bz.out rfl) ⟨_,rfl,rfl⟩) ?_)
     | (refine ay (Nj w5.heap.size rfl ⟨_,rfl,rfl⟩) ?_)
     | (refine LY lw.out.row (Rg.Own.new w5 _ _) (by have:=zE.out; omega) lw.out.f.size rfl ⟨_,_,rfl,rfl,rfl⟩ ?_; intro v' w7 NX mN Hh; have ZV:w7.cell? ⟨w4.heap.size,1,none⟩=some (.int .i64 c):=(by
       have di:=bz.out.below (al1 w5 (.cells (oV [q]) 31));have hne:some w4.heap.size≠v.ownBlock:=λe=>by have:=(qq.out.row.lt _ e.symm).2; omega
       rw [World.cell?_of_block (mN.block w4.heap.size di.1 hne)];exact Tm.aU (j:=1) di rfl); have r1:=hid (lw.out.push HJ.out ap.out.1 j7.out NX mN Hh); clear NX mN Hh))
    go_roundw
    case rel=>exact ⟨j+1,v',ps++[q],M4,rfl,by omega,by rw [<-Hd.out],by go_num,by rw [ky.out]; exact r1⟩
    case measure=>simp [intOf]; omega
   .obtain rfl:j=rn:=by omega
    have wj:=hid HG.out;have hall:(sS F t).take j=sS F t:=by
     have:=D3.out;rw [HN.out] at this;rw [<-this]; exact List.take_length
    have cU:=hid (cv.out.fk HI2.out HG.out.f (mw.out _ (by rw [ce.out]; exact Nat.le_succ _)));have am:=hid (dm.out.fk HI2.out HG.out.f (mw.out _ (by rw [eE.out]; exact aF)));have nt:Hid (Fk K M M3 w wr):=hid (fm.out.trans HG.out.f λk hk=>.inl hk);have jt:Hid (w.heap.size<=gX):=hid (by rw [ce.out]; exact Nat.le_succ _);by_cases hz:jQ C t j=0
    .have af:Hid (∀ w9,Rg.Upd wr gX w9->iC K J M w (rW F t) (jQ C t j) (.returned (.agg (chA p 0))) w9):=hid (λw9 hu=>by
      have h1:=MS (n:=jQ C t j) (q:=p) (t:=rW F t) HJ.out we.out HZ.out nt.out HG.out.i HG.out.t HG.out.j cU.out.n jt.out hu (by rw [zv.out (by rw [HN.out]; exact hz)]; exact d8.out.mono nt.out.mono);rwa [show gH (jQ C t j)=0 from Bl.2 hz] at h1)
     have e0:gH (jQ C t j)=0:=Bl.2 hz;rw [e0];clear hz hall e0 HG wj;go_wp2_with (first
      | (refine ay (aT (Tm.aU (j:=0) am.out.o rfl) ⟨_,rfl,rfl⟩) ?_)
      | (refine ay (bK (DI p) ⟨_,rfl,rfl⟩) ?_)
      | (refine bE cU.out.o rfl p 0 rfl _ _ rfl rfl rfl rfl ?_; intro w9 al aq; have bi:Hid (Rg.Own w9 gX (chA p 0) 81):=hid al; have cM:=hid (af.out w9 aq); clear al aq))
     exact bodyPost_ret (jR rfl _ rfl bi.out) rfl cM.out
    .have hs0:=λe=>hz (Bl.1 e);have hkl:0<(bC t).length:=Nat.pos_of_ne_zero λe=>hz (by rw [<-HN.out,e]; rfl);have hne:t ≠ .nil:=λe=>by rw [e] at hkl; exact absurd hkl (Nat.not_lt_zero _)
     have hst:¬ eX t:=λe=>by
      cases t with
      | stub r=>exact absurd hkl (Nat.not_lt_zero _)
      | _=>exact e
     obtain ⟨a,c,rfl,j5⟩:=Gy HG.out.row;have dp:=HG.out.are;rw [hall] at dp;have eL:=hid (UV.out hne hst M3 (d8.out.mono nt.out.mono) ps dp a c (by rw [dp.1,D3.out,HN.out]; omega) wr HG.out.i HG.out.t j5);obtain ⟨s,hs⟩:=av (gH (jQ C t j))
     rw [hs] at hs0;have HS:=hid hs;rw [hs];have b0:(s==0)=false:=by rw [beq_eq_false_iff_ne]; exact hs0
     have b1:decide (s=0)=false:=decide_eq_false hs0;clear hz hall hs0 hkl hne hst j5 dp hs;go_wp2_with (first
      | (refine ay (aT (Tm.aU (j:=0) am.out.o rfl) ⟨_,rfl,rfl⟩) ?_))
     refine eL.out.mono ?_;rintro e w5 ⟨q,M5,rfl,rN,f5,i5,t5,k5⟩;have rx:Fnw M3 M5 wr w5:=f5.n k5;have ml:=cU.out.frm HG.out.i f5;obtain ⟨w6,lb⟩:=au (w5.alloc (.cells #[.pointer none] 31))
     have hb6:Below w5.heap.size w5 w6:=by rw [lb]; exact al1 _ _
     have vz:Hid (Rg.Own w6 w5.heap.size #[.pointer none] 31):=hid (by rw [lb]; exact Rg.Own.new _ _ _);have Hi:=hid lb;have nj:Hid (Bx M5 w5 gX (chA none 0) 81):=hid ml;have cq:=hid hb6;have af:Hid (∀ w7,Below w5.heap.size w5 w7->∀ w9,Rg.Upd w7 gX w9->iC K J M w (rW F t) (jQ C t j) (.returned (.agg (chA q s))) w9):=hid (λw7 cP w9 hu=>by
      have Hj:Fk K M M5 w w5:=nt.out.trans (rx.k (HJ.out.kc M3 wr HG.out.j HG.out.i)) λk hk=>.inl hk;have O0:=HJ.out.fn HG.out.j HG.out.i rx;have CT:Fk K M M5 w w7:=Hj.trans ((Fr.below M5 cP).k (HJ.out.kc M5 w5 O0 i5)) λk hk=>.inl hk;have h1:=MS (n:=jQ C t j) (q:=q) (t:=rW F t) HJ.out we.out HZ.out CT (i5.below cP) (t5.below cP t5.pos) (HJ.out.below O0 i5 cP) ml.n jt.out hu rN;rwa [HS.out] at h1)
     clear rN f5 i5 t5 k5 rx ml lb hb6 HG wj eL b0 b1;go_wp2_with (first
      | (refine ay (aW _ _ _ w5.heap.size rfl rfl) ?_; rw [<-Hi.out])
      | (refine aZ vz.out (by simp) q rfl _ _ rfl rfl rfl ?_; intro w7 fN ed; have m7:Hid (Rg.Own w7 w5.heap.size #[.pointer q] 31):=hid fN; have cC:Hid (Below w5.heap.size w5 w7):=hid (ed.below cq.out aF); clear fN ed; have wq:=hid (nj.out.below cC.out); have UX:=hid (af.out w7 cC.out))
      | (refine ay (aT (Tm.aU (j:=0) m7.out rfl) ⟨_,rfl,rfl⟩) ?_)
      | (refine ay (bK (CW q s) ⟨_,rfl,rfl⟩) ?_)
      | (refine bE wq.out.o rfl q s rfl _ _ rfl rfl rfl rfl ?_; intro w9 al aq; have bi:Hid (Rg.Own w9 gX (chA q s) 81):=hid al; have cM:=hid (UX.out w9 aq); clear al aq))
     exact bodyPost_ret (jR rfl _ rfl bi.out) rfl cM.out
 exact hgo
structure Sg (K:Nat->Prop) (J:Mp->World->Prop) (M0:Mp) (w0:World) (M:Mp) (w:World):Prop where
 f:Fk K M0 M w0 w
 i:Inv M w
 t:Tab w
 j:J M w
section
variable {B:Nat} {K:Nat->Prop} {J:Mp->World->Prop} {M0 M M':Mp} {w0 w w':World}
theorem Sg.start (hJ:JOk B K J) (hi:Inv M w) (hT:Tab w) (hj:J M w):Sg K J M w M w:=⟨(Fr.refl M w).k (hJ.kc M w hj hi),hi,hT,hj⟩
theorem Sg.fn (h:Sg K J M0 w0 M w) (hJ:JOk B K J) (f:Fnw M M' w w') (i:Inv M' w') (t:Tab w'):Sg K J M0 w0 M' w' :=
 ⟨h.f.trans (f.k (hJ.kc M w h.j h.i)) λ_ hk=>.inl hk,i,t,hJ.fn h.j h.i f⟩
theorem Sg.fr (h:Sg K J M0 w0 M w) (hJ:JOk B K J) (f:Fr M M w w') (i:Inv M w') (t:Tab w'):Sg K J M0 w0 M w':=h.fn hJ (Fnw.of f) i t
theorem Sg.below (h:Sg K J M0 w0 M w) (hJ:JOk B K J) (hb:Below w.heap.size w w'):Sg K J M0 w0 M w':=h.fr hJ (Fr.below M hb) (h.i.below hb) (h.t.below hb h.t.pos)
theorem Sg.call (h:Sg K J M0 w0 M w) (f:Fk K M M' w w') (i:Inv M' w') (t:Tab w') (j:J M' w'):Sg K J M0 w0 M' w':=⟨h.f.trans f λ_ hk=>.inl hk,i,t,j⟩
theorem Sg.upd (h:Sg K J M0 w0 M w) (hJ:JOk B K J) {g:Nat} (hB:B<=w0.heap.size) (hz:0<w0.heap.size) (hu:Rg.Upd w g w') (hg:w0.heap.size<=g) (hf:¬ M.ft g):Sg K J M0 w0 M w' :=
 ⟨Fk.upd h.f hu hg,h.i.upd hu hf,mM h.t hu (by omega),hJ.fr M M w w' h.j h.i (by rw [hu.size]; exact aF) (λk hk _=>hu.block k (by omega)) (λ_ _ h=>h) (λ_ _ h=>h) (λ_ _ h=>h)⟩
theorem Sg.chg (h:Sg K J M0 w0 M w) {t:T} (n:Nat) (hq:IsT M q t):iC K J M0 w0 t n (.returned (.agg (chA q (gH n)))) w:=⟨q,M,rfl,hq,h.f,h.i,h.t,h.j⟩
end
theorem Bx.fn {M M':Mp} {w w':World} {t:TypeId} (h:Bx M w g cs t) (hi:Inv M w) (f:Fnw M M' w w'):Bx M' w' g cs t:=Bx.fk h hi f λe=>e
abbrev Du:Type:=Option (T × Nat)
def Jj (K:Nat->Prop) (J:Mp->World->Prop) (M:Mp) (w:World) (r:Du) (e:Ending) (w':World):Prop:=match r with
 | some x=>∃ q M',e = .returned (.tuple #[.agg (chA q (gH x.2)),.bool true])/\IsT M' q x.1/\Fk K M M' w w'/\Inv M' w'/\Tab w'/\J M' w'
 | none=>e = .returned (.tuple #[.agg (chA none 0),.bool false])/\Fk K M M w w'/\Inv M w'/\Tab w'/\J M w'
def Ay (K:Nat->Prop) (J:Mp->World->Prop) (fs:Nat) (cs:aM) (st:Pa) (s:T) (r:Du):Prop :=
 ∀ (M:Mp) (w:World) (a:aJ) (m c:Nat) (p:aJ),J M w->Inv M w->Tab w->bA w a m c st->IsT M p s->Calls prog fs (#[.slice a m c,tv p]++cs) w (Jj K J M w r)
def SS (r:aK):Du->T
 | some x=>x.1
 | none=>.stub r
def Tn:Du->Nat
 | some x=>x.2
 | none=>1
def nM (R:Pa->T->Du) (st:Pa) (s:T):T:=if (ref s).size=32 then SS (ref s) (R st s) else s
def lN (R:Pa->T->Du) (st:Pa) (s:T):Nat:=if (ref s).size=32 then Tn (R st s) else 0
theorem YA {t:T} (g:Tr.Good t L) (hL:L<=64) (f:Fine t) (hn:t ≠ .nil):(ref t).size<=32:=by
 have h:=(fU t L g hL f hn).2.1;unfold bR dF at h;rw [Bool.or_eq_true,Bool.and_eq_true] at h;rcases h with h | ⟨h,_⟩
 .have:=of_decide_eq_true h;omega
 .have:=of_decide_eq_true h;omega
def JB (J:Mp->World->Prop) (bs:Nat) (v:Value) (ty:TypeId) (M:Mp) (w:World):Prop:=J M w/\Bx M w bs #[v] ty
theorem JOk.box {B:Nat} {K:Nat->Prop} {J:Mp->World->Prop} (h:JOk B K J) {bs:Nat} (hb:B<=bs) (v:Value) (ty:TypeId):JOk (bs+1) K (JB J bs v ty):=by
 refine ⟨λM M' w w' hj hi hs hk hm hf hx=>⟨h.fr M M' w w' hj.1 hi hs (λk hk'=>hk k (by omega)) hm (λk hk'=>hf k (by omega)) (λk hk'=>hx k (by omega)),⟨⟨aH hj.2.o.1 hs,(hk bs (Nat.lt_succ_self _) (lM hi hj.2.n)).trans hj.2.o.2⟩,λe=>hj.2.n (hf bs (Nat.lt_succ_self _) e),hj.2.h⟩⟩,λM w hj hi=>h.kc M w hj.1 hi,λk hk=>by have:=h.lt k hk; omega,λM w hj=>hj.2.o.1⟩
theorem Hw (f:Nat) (cs:aM):∀ (j:Nat) (x:Int),(#[Value.func (.func f) #[] cs]:aM)[j]? ≠ some (Value.int .u8 x):=λj x h=>by
 match j,h with
 | 0,h=>simp at h
 | j+1,h=>simp at h
theorem Dj {w:World} {b:Nat} {v:Value} (hc:w.cell? ⟨b,0,none⟩=some v) (ho:∃ x,o.op = .load 84 x/\ev x = .pointer (some ⟨b,0,none⟩)) :
  (execOp ev o).run prog w = .ok (.value v) w:=by
 obtain ⟨x,ho,hx⟩:=ho;unfold execOp;simp [ho,hx,go_sem,hc]
theorem Kg {B:Nat} {K:Nat->Prop} {J:Mp->World->Prop} (hJ:JOk B K J) (fs:Nat) (cs:aM) (eS:∀ args w,(callFunc fs args).run prog w = .ok (.enter fs args) w) (bs:Nat) (hbs:B<=bs) (st:Pa) (s:T) (L:Nat) (g:Tr.Good s L) (hL:L<=64) (f:Fine s) (hn:s ≠ .nil) (R:Pa->T->Du)
  (hS:(ref s).size=32->Ay K (JB J bs (.func (.func fs) #[] cs) 84) fs cs st s (R st s)) :
  FM K (JB J bs (.func (.func fs) #[] cs) 84) 61 #[.pointer (some ⟨bs,0,none⟩)] st s (nM R st s) (lN R st s):=by
 have hJ2:=hJ.box hbs (.func (.func fs) #[] cs) 84;obtain ⟨J2,hJe⟩:=av (JB J bs (.func (.func fs) #[] cs) 84)
 have A0:Hid (∀ M w,J2 M w->Bx M w bs #[.func (.func fs) #[] cs] 84):=hid (λM w h=>by rw [<-hJe] at h; exact h.2);rw [hJe] at hS hJ2 ⊢;clear hJe;intro M w a m c p hj hi hT hB ht;show Calls prog 61 #[.slice a m c,.agg #[.pointer p],.pointer (some ⟨bs,0,none⟩)] w (iC K J2 M w (nM R st s) (lN R st s));obtain ⟨w1,hw1⟩:=au ((w.alloc (.cells #[.pointer p] 31)).alloc (.cells (chA none 0) 81))
 have hb1:Below w.heap.size w w1:=by rw [hw1]; exact al2 _ _ _
 have ag:Rg.Own w1 w.heap.size #[.pointer p] 31:=by rw [hw1]; exact (Rg.Own.new _ _ _).below (al1 _ _)
 have hX1:Rg.Own w1 (w.heap.size+1) (chA none 0) 81:=by
  have:=Rg.Own.new (w.alloc (.cells #[.pointer p] 31)) (chA none 0) 81;rw [hw1];simpa using this
 have cd:=hid ((Sg.start hJ2 hi hT hj).below hJ2 hb1);have bd:Hid (Bx M w1 (w.heap.size+1) (chA none 0) 81):=hid ⟨hX1,hi.free (Nat.le_succ _),kD _ _⟩;have bc:Hid (Bx M w1 w.heap.size #[.pointer p] 31):=hid ⟨ag,hi.free aF,bX _⟩;have HW1:=hid hw1;have HB1:=hid (hB.below hb1);have HJ:=hid hJ2;have HT:=hid ht;have eQ:=hid (λ(M:Mp) (w:World) (hi:Inv M w) (ht:IsT M p s) (hT:Tab w)=>tZ M p s L g hL f w hi ht hT);have hle:=YA g hL f hn;have cY:=hid (Rf.dJ (ref s) (by unfold maxLen; omega))
 have ap:Hid (bs+1<=w.heap.size/\0<w.heap.size):=hid ⟨hJ2.sz M w hj,hT.pos⟩;have cX:=hid hS;have vA:=hid (Vw g hL f hn);have O4:Hid (∀ k,K k->k<w.heap.size):=hid (λk hk=>by have:=hJ2.lt k hk; have:=hJ2.sz M w hj; omega);obtain ⟨gT,ct⟩:=av w.heap.size
 obtain ⟨gX,cf⟩:=av (w.heap.size+1)
 have ce:Hid (gX=w.heap.size+1):=hid cf.symm;have eE:Hid (w.heap.size=gT):=hid ct;have jt:Hid (w.heap.size<=gX/\¬ K gX/\¬ K gT):=hid ⟨by omega,λe=>by have:=O4.out _ e; omega,λe=>by have:=O4.out _ e; omega⟩;rw [cf] at bd;rw [ct] at bc;clear hb1 ag hX1 hi hT hj ht hB hJ hJ2 hS hw1 ct cf g f hn hL;obtain ⟨r,hr⟩:=av (ref s)
 by_cases h32:(ref s).size=32
 .have HF:Hid (nM R st s=SS (ref s) (R st s)/\lN R st s=Tn (R st s)):=hid ⟨if_pos h32,if_pos h32⟩;have hk1:oF (ref s)=1:=by unfold oF; rw [if_neg (by omega),if_pos h32]
  have im:=hid (λ(M:Mp) (w:World) (hi:Inv M w)=>PO M (ref s) (by unfold maxLen; omega) (.inl hk1) w hi);replace cX:=hid (cX.out h32);rw [hk1] at cY;rw [HF.out.1,HF.out.2];clear h32 hk1 hle vA HF;obtain ⟨y,hy⟩:=av (R st s)
  rw [hy] at cX ⊢;rw [hr] at eQ im cY ⊢;clear hy hr;have hgo:Calls prog 61 #[.slice a m c,.agg #[.pointer p],.pointer (some ⟨bs,0,none⟩)] w (iC K J2 M w (SS r y) (Tn y)):=by
   go_enter func61,ntmps61;go_wp2_with (first
    | (refine ay (bJ _ _ _ gX (by rw [ce.out]; simp) rfl) ?_; rw [<-HW1.out,eE.out])
    | (refine ay (aT (Tm.aU (j:=0) bc.out.o rfl) ⟨_,rfl,rfl⟩) ?_))
   refine (eQ.out M w1 cd.out.i HT.out cd.out.t).mono ?_;rintro e w2 ⟨rfl,f2,i2,t2⟩;have HS2:=hid (cd.out.fr HJ.out f2 i2 t2);have cv:=hid (bd.out.frm cd.out.i f2);have dm:=hid (bc.out.frm cd.out.i f2);have HB2:=hid (mI cd.out.i HB1.out f2);clear f2 i2 t2 bd bc HB1 cd;go_wp2_with fail
   refine (cY.out w2).mono ?_;rintro e w3 ⟨rfl,hb3⟩;have cL:=hid (HS2.out.below HJ.out hb3);have cU:=hid (cv.out.below hb3);have am:=hid (dm.out.below hb3);have HB3:=hid (HB2.out.below hb3);have fb:=hid (A0.out M w3 cL.out.j);clear hb3 cv dm HB2 HS2;go_wp2_with (first
    | (refine ay (Dj (Tm.aU (j:=0) fb.out.o rfl) ⟨_,rfl,rfl⟩) ?_)
    | (refine ay (aT (Tm.aU (j:=0) am.out.o rfl) ⟨_,rfl,rfl⟩) ?_))
   refine (cX.out M w3 a m c p cL.out.j cL.out.i cL.out.t HB3.out HT.out).mono ?_;cases y with
   | some x =>
    rintro e w4 ⟨q,M4,rfl,oE,f4,i4,t4,j4⟩;have dv:=hid (cL.out.call f4 i4 t4 j4);have df:=hid (cU.out.fk cL.out.i f4 jt.out.2.1);have hNew:=Rg.Own.new w4 (chA none 0) 81;have js:=hid hNew;obtain ⟨n,hnn⟩:=av (gH x.2)
    have af:Hid (∀ w5,Below w4.heap.size w4 w5->∀ w6,Rg.Upd w5 gX w6->iC K J2 M w x.1 x.2 (.returned (.agg (chA q n))) w6):=hid (λw5 hb w6 hu=>by
     rw [<-hnn];exact ((dv.out.below HJ.out hb).upd HJ.out ap.out.1 ap.out.2 hu jt.out.1 df.out.n).chg x.2 oE)
    rw [hnn];clear oE f4 i4 t4 j4 hNew cL cU am HB3 fb hnn;go_wp2_with (first
     | (refine ay (bJ _ _ _ w4.heap.size rfl rfl) ?_)
     | (refine bE js.out rfl q n rfl _ _ rfl rfl rfl rfl ?_; intro w5 b8 ax; have bz:Hid (Rg.Own w5 w4.heap.size (chA q n) 81):=hid b8; have ae:Hid (Below w4.heap.size w4 w5):=hid (ax.below (al1 _ _) aF); clear b8 ax; have dq:=hid (df.out.below ae.out); have ot:=hid (af.out w5 ae.out))
     | (refine ay (kg bz.out ⟨_,rfl,rfl⟩) ?_)
     | (refine bE dq.out.o rfl q n rfl _ _ rfl rfl rfl rfl ?_; intro w9 al aq; have bi:Hid (Rg.Own w9 gX (chA q n) 81):=hid al; have cM:=hid (ot.out w9 aq); clear al aq))
    exact bodyPost_ret (jR rfl _ rfl bi.out) rfl cM.out
   | none =>
    rintro e w4 ⟨rfl,f4,i4,t4,j4⟩;have dv:=hid (cL.out.call f4 i4 t4 j4);have df:=hid (cU.out.fk cL.out.i f4 jt.out.2.1);have cn:=hid (am.out.fk cL.out.i f4 jt.out.2.2);have hNew:=Rg.Own.new w4 (chA none 0) 81;have js:=hid hNew;clear f4 i4 t4 j4 hNew cL cU am HB3 fb;go_wp2_with (first
     | (refine ay (bJ _ _ _ w4.heap.size rfl rfl) ?_)
     | (refine bE js.out rfl none 0 rfl _ _ rfl rfl rfl rfl ?_; intro w5 b8 ax; have ae:Hid (Below w4.heap.size w4 w5):=hid (ax.below (al1 _ _) aF); clear b8 ax; have bz:=hid (cn.out.below ae.out))
     | (refine ay (aT (Tm.aU (j:=0) bz.out.o rfl) ⟨_,rfl,rfl⟩) ?_))
    have ju:=hid (dv.out.below HJ.out ae.out);have dq:=hid (df.out.below ae.out);refine (eQ.out M w5 ju.out.i HT.out ju.out.t).mono ?_;rintro e w6 ⟨rfl,f6,i6,t6⟩;have io:=hid (ju.out.fr HJ.out f6 i6 t6);have nj:=hid (dq.out.frm ju.out.i f6);clear f6 i6 t6 dv ju df dq cn bz js ae;go_wp2_with fail
    refine (im.out M w6 io.out.i).mono ?_;rintro e w7 ⟨q,M7,rfl,O5,f7,i7,b7,k7⟩;have Hm:Fnw M M7 w6 w7:=f7.n k7;have V0:=hid (io.out.fn HJ.out Hm i7 (io.out.t.below b7 io.out.t.pos));have wq:=hid (Bx.fn nj.out io.out.i Hm);have af:Hid (∀ w9,Rg.Upd w7 gX w9->iC K J2 M w (.stub r) 1 (.returned (.agg (chA q 1))) w9):=hid (λw9 hu=>(V0.out.upd HJ.out ap.out.1 ap.out.2 hu jt.out.1 wq.out.n).chg 1 O5);clear O5 f7 i7 b7 k7 Hm io nj;go_wp2_with (first
     | (refine ay (bK (CW q 1) ⟨_,rfl,rfl⟩) ?_)
     | (refine bE wq.out.o rfl q 1 rfl _ _ rfl rfl rfl rfl ?_; intro w9 al aq; have bi:Hid (Rg.Own w9 gX (chA q 1) 81):=hid al; have cM:=hid (af.out w9 aq); clear al aq))
    exact bodyPost_ret (jR rfl _ rfl bi.out) rfl cM.out
  exact hgo
 .have hk2:oF (ref s)=2:=vA.out.resolve_left λe=>by
   unfold oF at e;rw [if_neg h32] at e;split at e
   .cases e
   .split at e <;> cases e
  rw [hk2] at cY;rw [show nM R st s=s from if_neg h32,show lN R st s=0 from if_neg h32];rw [hr] at eQ cY;clear h32 hk2 hle vA hr cX A0;have hgo:Calls prog 61 #[.slice a m c,.agg #[.pointer p],.pointer (some ⟨bs,0,none⟩)] w (iC K J2 M w s 0):=by
   go_enter func61,ntmps61;go_wp2_with (first
    | (refine ay (bJ _ _ _ gX (by rw [ce.out]; simp) rfl) ?_; rw [<-HW1.out,eE.out])
    | (refine ay (aT (Tm.aU (j:=0) bc.out.o rfl) ⟨_,rfl,rfl⟩) ?_))
   refine (eQ.out M w1 cd.out.i HT.out cd.out.t).mono ?_;rintro e w2 ⟨rfl,f2,i2,t2⟩;have HS2:=hid (cd.out.fr HJ.out f2 i2 t2);have cv:=hid (bd.out.frm cd.out.i f2);have dm:=hid (bc.out.frm cd.out.i f2);clear f2 i2 t2 bd bc HB1 cd;go_wp2_with fail
   refine (cY.out w2).mono ?_;rintro e w3 ⟨rfl,hb3⟩;have cL:=hid (HS2.out.below HJ.out hb3);have cU:=hid (cv.out.below hb3);have am:=hid (dm.out.below hb3);have af:Hid (∀ w9,Rg.Upd w3 gX w9->iC K J2 M w s 0 (.returned (.agg (chA p 0))) w9):=hid (λw9 hu=>(cL.out.upd HJ.out ap.out.1 ap.out.2 hu jt.out.1 cU.out.n).chg 0 HT.out);clear hb3 cv dm HS2;go_wp2_with (first
    | (refine ay (aT (Tm.aU (j:=0) am.out.o rfl) ⟨_,rfl,rfl⟩) ?_)
    | (refine ay (bK (DI p) ⟨_,rfl,rfl⟩) ?_)
    | (refine bE cU.out.o rfl p 0 rfl _ _ rfl rfl rfl rfl ?_; intro w9 al aq; have bi:Hid (Rg.Own w9 gX (chA p 0) 81):=hid al; have cM:=hid (af.out w9 aq); clear al aq))
   exact bodyPost_ret (jR rfl _ rfl bi.out) rfl cM.out
  exact hgo
theorem Dw {B:Nat} {K:Nat->Prop} {J:Mp->World->Prop} (hJ:JOk B K J) (fs:Nat) (cs:aM) (eS:∀ args w,(callFunc fs args).run prog w = .ok (.enter fs args) w) (M:Mp) (p:aJ) (t:T) (L:Nat) (g:Tr.Good t L) (hL:L<=64) (f:Fine t) (R:Pa->T->Du) (hok:OkF (nM R) (lN R) t)
  (hS:∀ j bs,j<(bC t).length->B<=bs->(ref ((bC t).getD j .nil)).size=32->Ay K (JB J bs (.func (.func fs) #[] cs) 84) fs cs ((dK t).getD j []) ((bC t).getD j .nil) (R ((dK t).getD j []) ((bC t).getD j .nil)))
  (bt:Nat) (w:World) (hi:Inv M w) (ht:IsT M p t) (hT:Tab w) (hj:J M w) (hb:Bx M w bt #[.pointer p] 31) :
  Calls prog 60 #[.func (.func fs) #[] cs,.pointer (some ⟨bt,0,none⟩)] w (iC K J M w (rW (nM R) t) (jQ (lN R) t (bC t).length)):=by
 obtain ⟨w1,hw1⟩:=au ((w.alloc (.cells #[.func (.func fs) #[] cs] 84)).alloc (.cells (chA none 0) 81))
 have hb1:Below w.heap.size w w1:=by rw [hw1]; exact al2 _ _ _
 have ag:Rg.Own w1 w.heap.size #[.func (.func fs) #[] cs] 84:=by rw [hw1]; exact (Rg.Own.new _ _ _).below (al1 _ _)
 have hX1:Rg.Own w1 (w.heap.size+1) (chA none 0) 81:=by
  have:=Rg.Own.new (w.alloc (.cells #[.func (.func fs) #[] cs] 84)) (chA none 0) 81;rw [hw1];simpa using this
 have hB:=hJ.sz M w hj;have hJ2:=hJ.box hB (.func (.func fs) #[] cs) 84;have hS1:=(Sg.start hJ hi hT hj).below hJ hb1;have hX:Bx M w1 (w.heap.size+1) (chA none 0) 81:=⟨hX1,hi.free (Nat.le_succ _),kD _ _⟩
 have hO:Bx M w1 w.heap.size #[.func (.func fs) #[] cs] 84:=⟨ag,hi.free aF,Hw _ _⟩
 have O6:=hid (hb.below hb1);have pP:=hid (zx hJ2 61 #[.pointer (some ⟨w.heap.size,0,none⟩)] (enters_of func61 (by kernel_rfl) rfl) (nM R) (lN R) M p t L g hL f hok (λj hj'=>by
  obtain ⟨hne,hf,_,L',hl,hg⟩:=kL g f _ (qd hj');exact Kg hJ fs cs eS w.heap.size hB _ _ L' hg (by omega) hf hne R λh=>hS j w.heap.size hj' hB h) w1 hS1.i ht hS1.t ⟨hS1.j,hO⟩)
 have bd:=hid hX;have cd:=hid hS1;have HJ:=hid hJ;have HW1:=hid hw1;have ap:Hid (B<=w.heap.size/\0<w.heap.size/\¬ K (w.heap.size+1)):=hid ⟨hB,hT.pos,λe=>by have:=hJ.lt _ e; omega⟩;obtain ⟨gX,cf⟩:=av (w.heap.size+1)
 have ce:Hid (gX=w.heap.size+1):=hid cf.symm;rw [cf] at bd ap;obtain ⟨t',ht'⟩:=av (rW (nM R) t)
 obtain ⟨n,hn⟩:=av (jQ (lN R) t (bC t).length)
 rw [ht',hn] at pP ⊢;clear hb1 ag hX1 hB hJ2 hS1 hX hO hb hi hT hj hJ hok hS hw1 cf ht' hn g f hL;go_enter func60,ntmps60;go_wp2_with (first
  | (refine ay (bJ _ _ _ gX (by rw [ce.out]; simp) rfl) ?_; rw [<-HW1.out])
  | (refine ay (aT (Tm.aU (j:=0) O6.out.o rfl) ⟨_,rfl,rfl⟩) ?_))
 refine pP.out.mono ?_;rintro e w2 ⟨q,M2,rfl,ht2,f2,i2,t2,j2⟩;have HS2:=hid (cd.out.call f2 i2 t2 j2.1);have cv:=hid (bd.out.fk cd.out.i f2 ap.out.2.2);obtain ⟨c,hc⟩:=av (gH n)
 have af:Hid (∀ w9,Rg.Upd w2 gX w9->iC K J M w t' n (.returned (.agg (chA q c))) w9):=hid (λw9 hu=>by
  rw [<-hc];exact (HS2.out.upd HJ.out ap.out.1 ap.out.2.1 hu (by rw [ce.out]; exact Nat.le_succ _) cv.out.n).chg n ht2)
 rw [hc];clear ht2 f2 i2 t2 j2 hc pP O6 bd cd;go_wp2_with (first
  | (refine bE cv.out.o rfl q c rfl _ _ rfl rfl rfl rfl ?_; intro w9 al aq; have bi:Hid (Rg.Own w9 gX (chA q c) 81):=hid al; have cM:=hid (af.out w9 aq); clear al aq))
 exact bodyPost_ret (jR rfl _ rfl bi.out) rfl cM.out
theorem zA (p:aJ) (w:World):Calls prog 32 #[tv p] w λe w'=>e = .returned (.func (.func 60) #[] #[.pointer (some ⟨w.heap.size,0,none⟩)])/\Rg.Own w' w.heap.size #[.pointer p] 31/\Below w.heap.size w w':=by
 have fY:∀ (fn:Fn) (first cap:aM) (w:World),(Instr.makeFunc fn first cap).run prog w = .ok (.func fn first cap) w:=λ_ _ _ _=>rfl;have hgo:Calls prog 32 #[.agg #[.pointer p]] w λe w'=>e = .returned (.func (.func 60) #[] #[.pointer (some ⟨w.heap.size,0,none⟩)])/\Rg.Own w' w.heap.size #[.pointer p] 31/\Below w.heap.size w w':=by
  go_enter func32,ntmps32;go_wp2;go_ret;exact ⟨rfl,Rg.Own.new _ _ _,al1 _ _⟩
 exact hgo
end Sx
end
end Go.Proofs.YtlcplcgigjagpaaGreatDoor
