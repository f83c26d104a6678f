/-
 StubDrops: its walk.
-/
import Derived.Test.YtlcplcgigjagpaaGreatDoorSd18
open Go.Lib (hid)
open Go.Proofs.Tryz
set_option linter.unusedSimpArgs false
set_option linter.unusedVariables false
set_option maxHeartbeats 40000000
set_option maxRecDepth 100000
namespace Go.Proofs.YtlcplcgigjagpaaGreatDoor
section
open Go.RowKit
namespace Sx
open Tr Ni Pk Ky No Rf Rl Tm
open Sm (Tab)
theorem KF (la:aJ) (ln lc:Nat) (D:Int) (ka:aJ) (kn kc2:Nat) (Kq:aL) (C:aM) (h:Ew.EM la ln lc D ka kn kc2 Kq=C) (g:Nat) :
  C[0]? = some (.slice la ln lc)/\C[1]? = some (.int .i64 D)/\C[2]? = some (.slice ka kn kc2)/\∀ (wz:World),Rg.Own wz g C 27->wz.rangeAt g 3 (Kq.map λb=>Value.int .u8 b.toNat):=by
 subst h;refine ⟨rfl,rfl,rfl,λwz ho i v hv=>aU ho ?_⟩;unfold Ew.EM;rw [Nat.add_comm];simpa [Ew.wC] using hv
theorem LZ (l:List Tr.Pair) (la:aJ) (ln lc:Nat) (D:Int) (ka:aJ) (kn kc2:Nat) (ks:List (aL)) (Kq:aL) (w:World) (h:mq w la ln lc l) (hD:(Lit.int .i64 D).wf=true) (hKs:Ew.qy w ka kn kc2 ks) (hK:Kq.length=32) (hT:Tab w) :
  Calls prog 3 #[.agg (Ew.EM la ln lc D ka kn kc2 Kq)] w λe w'=>e = .returned (.bool true)/\Below w.heap.size w w':=by
 obtain ⟨C,hC⟩:=av (Ew.EM la ln lc D ka kn kc2 Kq)
 have HC:=hid (KF la ln lc D ka kn kc2 Kq C hC w.heap.size);rw [hC];obtain ⟨w1,hw1,ag,hb1,hs1⟩:∃ w1,w1=w.alloc (.cells C 27)/\Rg.Own w1 w.heap.size C 27/\Below w.heap.size w w1/\w1.heap.size=w.heap.size+1:=⟨_,rfl,Rg.Own.new _ _ _,al1 _ _,by simp⟩
 have bc:=hid ag;have HB1:=hid hb1;have dd:=hid hs1;have HW1:=hid hw1;have cH:=hid hK;have mt:=hid hKs;have HT:=hid hT;have PB : -9223372036854775808<=D/\D<=9223372036854775807:=by
  have:=bounds_i64 hD;omega
 have im:=hid PB;have HP:=hid (λwz (hb:Below w.heap.size w wz)=>yY l la ln lc wz (h.below hb));have hok:CX (fq l):=Jz h.keys;have hlen:=Es l;obtain ⟨P,hP⟩:=av (fq l)
 rw [hP] at HP hok hlen;have ee:=hid hok;clear h hKs hT hP ag hb1 hs1 hw1 hK hD PB hC hok;go_enter func3,ntmps3;go_wp2_with fail
 rw [<-HW1.out];refine aB (S:=λwz=>Rg.Own wz w.heap.size C 27) (bc.out.drew) λhld=>?_;refine ah 0 ?_;try simp only [Act.put,ak]
 refine ah 1 ?_ (hy:=by intro wz hSw; (have q0:=aU (j:=1) hSw HC.out.2.1; go_simp <;> with_reducible rfl));try simp only [Act.put,ak]
 refine ah 2 ?_;try simp only [Act.put,ak]
 refine ah 3 ?_ (hy:=by intro wz hSw; (have q0:=aU (j:=2) hSw HC.out.2.2.1; go_simp <;> with_reducible rfl));try simp only [Act.put,ak]
 refine ah 4 ?_;try simp only [Act.put,ak]
 refine ah 5 ?_ (hy:=by intro wz hSw; (refine cZ cH.out (HC.out.2.2.2 _ hSw) ?_; exact ⟨_,rfl,rfl⟩));try simp only [Act.put,ak]
 refine aj 6 λK hK=>?_;refine Rg.meetAlloc (by rfl) (oI _ _ _ _ rfl rfl) ?_;rintro wa gk bo h8 hbx;have HG:Hid (gk=w.heap.size+1):=hid (by rw [bo]; exact dd.out);have PC:=hid h8;have dm:=hid (bc.out.drew.below hbx);have mz:Hid (Below w.heap.size w wa):=hid (bst (bst HB1.out (show Below w1.heap.size w1 w1.drew from below_drewN aG 1)) hbx);clear bo h8 hbx;refine hK.out _ _ (dm.out) (λhld=>?_);clear hK K;try simp only [Act.put,ak]
 refine ah 7 ?_;try simp only [Act.put,ak]
 refine ah 8 ?_;try simp only [Act.put,ak]
 refine aj 9 λK hK=>?_;refine Rg.meetStore (by rfl) PC.out 25 (kc Kq) ⟨_,_,rfl,rfl,rfl⟩ (rO Kq cH.out) (by rw [jX,jX,cH.out]; rfl) (Ga _) ?_;rintro wb hn hu;have am:=hid (dm.out.upd hu (by have:=HG.out; omega));have Bi:=hid hn;have HB3:Hid (Below w.heap.size w wb):=hid (hu.below mz.out (by have:=HG.out; omega));clear hn hu;refine hK.out _ _ (am.out) (λhld=>?_);clear hK K;try simp only [Act.put,ak]
 refine aA ?_;clear hld;have hc0:wb.cell? ⟨w.heap.size,0,none⟩=some (.slice la ln lc):=aU am.out HC.out.1;clear PC bc dm mz HB1 HW1 am dd;go_wp2_with fail
 clear hc0 HC;refine (HP.out wb HB3.out).mono ?_;rintro e w2 ⟨pa,pn,pc,rfl,hps,hb2⟩;obtain rfl:=hps.len;have HL2:Hid (Lw w M0 w2):=hid ((Lw.start HT.out).below (bst HB3.out hb2));have zE:=hid hps;have PF:=hid (Bi.out.below hb2);have ud:=hid (mt.out.below (bst HB3.out hb2));clear hps hb2 HP Bi mt HB3 HT;by_cases hk10:10<kn
 .have i1:(10:Int)<(kn:Int):=by omega
  go_wp2_with fail
  go_ret;exact ⟨rfl,HL2.out.b⟩
 .have i1:¬ (10:Int)<(kn:Int):=by omega
  have W9:decide ((10:Int)<(kn:Int))=false:=decide_eq_false i1;by_cases hz:P.length=0
  .have i2:(P.length:Int)=0:=by omega
   have PH:(((P.length:Nat):Int)==0)=true:=by rw [i2]; rfl
   go_wp2_with (first
    | (refine ay (bK mh ⟨_,rfl,rfl⟩) ?_)
    | (refine Rg.runW (by rfl) _ _ (bK mh ⟨_,rfl,rfl⟩) ?_))
   refine (Il M0 none .nil 64 trivial aF trivial trivial w2 HL2.out.i rfl HL2.out.t).mono ?_;rintro e w3 ⟨q3,M3,rfl,h3,f3,i3,t3⟩;obtain rfl:q3=none:=h3.qR.2 rfl;have jn:=hid (HL2.out.fr (f3.fr λ_ h=>h.elim) i3 t3);clear h3 f3 i3 t3;go_wp2_with fail
   refine (iJ none w3).mono ?_;rintro e w4 ⟨rfl,hb4⟩;have J3:=hid (jn.out.below hb4);clear hb4;go_wp2_with (first
    | (refine ay (bK mh ⟨_,rfl,rfl⟩) ?_)
    | (refine Rg.runW (by rfl) _ _ (bK mh ⟨_,rfl,rfl⟩) ?_))
   refine (tV M3 none .nil 64 trivial aF trivial (by show (0:Nat)<=_; omega) w4 J3.out.i rfl J3.out.t).mono ?_;rintro e w5 ⟨a5,n5,c5,rfl,h5,_,f5,i5,t5⟩;obtain rfl:n5=0:=h5.len.symm;have fw:=hid (J3.out.fr f5 i5 t5);clear h5 f5 i5 t5;go_wp2;go_ret;exact ⟨rfl,fw.out.b⟩
  .have i2:¬ (P.length:Int)=0:=by omega
   have PH:(((P.length:Nat):Int)==0)=false:=beq_eq_false_iff_ne.2 i2;have jz:Hid (bq .nil P=build 64 (iV P)):=hid (Ik ee.out);have hIn:0<(iV P).length:=List.length_pos_iff.2 (SQ (λe=>hz (by rw [e]; rfl)));have hnd:=wE ee.out hlen;have hbl:=JU ee.out hlen (dN D);have hkl:=Ox ee.out hlen (ks.map bT);have hhas:=ee.out.has;have hcd:Cut (bq .nil P) (cB (dN D) (bq .nil P)):=qF _ _;have hcw:Cut (bq .nil P) (eD (ks.map bT) (bq .nil P)):=sU _ _;have hgd:=hcd.good hhas.good;have J4:=hcd.fine hhas.good aF hhas.fine
   have hgw:=hcw.good hhas.good;have hfw:=hcw.fine hhas.good aF hhas.fine;have PJ:Hid ((iV P).length<=24):=hid (Nat.le_trans (Fj _) hlen);have hkn:kn<=10:=by omega
   have kv:Hid (∀ W,mq W pa P.length pc P->Lw w M0 W->Calls prog 9 #[.slice pa P.length pc] W (dB M0 W (bq .nil P))):=hid (λW hp hl=>Fu M0 pa P.length pc P ee.out W hl.i hp (by omega));have PM:Hid (∀ W,mq W pa P.length pc P->Calls prog 10 #[.slice pa P.length pc] W λe w'=>∃ a n c,e = .returned (.slice a n c)/\Tm.cK w' a n c (iV P)/\(∀ ad,a=some ad->W.heap.size<=ad.block)/\Below W.heap.size W w'):=hid (λW hp=>Rb P pa P.length pc W hp (by omega))
   have dl:Hid (∀ M W p,Inv M W->IsT M p (bq .nil P)->Tab W->Calls prog 11 #[tv p,.int .i64 D] W (wH M W (cB (dN D) (bq .nil P)))):=hid (λM W p hi ht hT=>ER M p _ 64 hhas.good aF hhas.fine hhas.full D im.out W hi ht hT);have fp:Hid (∀ M W p,Inv M W->IsT M p (bq .nil P)->Tab W->Ew.qy W ka kn kc2 ks->Calls prog 12 #[tv p,.slice ka kn kc2] W (wH M W (eD (ks.map bT) (bq .nil P)))):=hid (λM W p hi ht hT hk=>Jg M p _ hhas.good hhas.fine hhas.full ka kn kc2 ks (by omega) W hk hi ht hT)
   have AW:Hid (∀ M W p k,(k∈ks/\k.length=32)->Inv M W->IsT M p (eD (ks.map bT) (bq .nil P))->Calls prog 14 #[tv p,.agg (kc k)] W λe w'=>e = .returned (.bool true)/\Below W.heap.size W w'):=hid (λM W p k hk hi ht=>by
    have:=ug M p _ k hk.2 W hi ht hgw;rw [Kt ee.out ks k hk.1] at this;exact this)
   have eL:Hid (∀ M W p,Inv M W->IsT M p (cB (dN D) (bq .nil P))->Tab W->Calls prog 8 #[tv p] W (vv M W (jN (dN D) (bq .nil P)))):=hid (λM W p hi ht hT=>by
    have:=tV M p _ 64 hgd aF J4 (by omega) W hi ht hT;rw [pI _ _ hhas.full] at this;exact this)
   have kx:Hid (∀ M W p,Inv M W->IsT M p (eD (ks.map bT) (bq .nil P))->Tab W->Calls prog 8 #[tv p] W (vv M W (jO (ks.map bT) (bq .nil P)))):=hid (λM W p hi ht hT=>by
    have:=tV M p _ 64 hgw aF hfw (by omega) W hi ht hT;rw [qV _ _ hhas.full] at this;exact this)
   have Bk:Hid (∀ W ia ic,Tm.cK W ia (iV P).length ic (iV P)->Calls prog 16 #[.slice ia (iV P).length ic,.int .i64 (dI D)] W (Ew.rX W (jN (dN D) (bq .nil P)))):=hid (λW ia ic hI=>by
    have hd:=YX im.out.2;have:=Ew.UG 64 aF (iV P) (yU ee.out.1) (Cy ee.out.2) ia _ ic W hI (by have:=PJ.out; omega) (dI D) hd.1 hd.2;rw [Ye,<-jz.out] at this;exact this)
   have Bm:Hid (∀ W ia ic a n c,Tm.cK W ia (iV P).length ic (iV P)->Ew.iM W a n c (ks.map bT)->n<=1000->Calls prog 18 #[.slice ia (iV P).length ic,.slice a n c] W (Ew.rX W (jO (ks.map bT) (bq .nil P)))):=hid (λW ia ic a n c hI hW hn=>by
    have:=Ew.RA 64 aF (iV P) (yU ee.out.1) (Cy ee.out.2) ia _ ic W hI (by have:=PJ.out; omega) (ks.map bT) a n c hW hn (λx hx=>by
     obtain ⟨y,hy,rfl⟩:=List.mem_map.1 hx;rw [nT y (ud.out.keys y hy)];omega)
    rw [<-jz.out] at this;exact this)
   have PP:Hid (∀ W,Calls prog 17 #[.int .i64 D,.int .i64 1] W λe w'=>e = .returned (.int .i64 (dI D))/\W=w'):=hid (λW=>Rx.UW D 1 W);have zv:Hid (∀ (W:World) (a b:aJ) (n m c d:Nat) (x:List aK),jV W a n c x->jV W b m d x->Calls prog 15 #[.slice a n c,.slice b m d] W λe w'=>e = .returned (.bool true)/\Below W.heap.size W w'):=hid (λW a b n m c d x hx hy=>by
    have:=Ja a b n m c d x x W hx hy;rw [vY rfl] at this;exact this)
   obtain ⟨E,hE⟩:=av (jS (bq .nil P))
   have xd:Hid (∀ M W p,Inv M W->IsT M p (bq .nil P)->Tab W->Calls prog 19 #[tv p] W (rR M W E)):=hid (λM W p hi ht hT=>by
    rw [<-hE];exact sI M p _ 64 hhas.good aF hhas.fine W hi ht hT)
   have PQ:Hid (∀ M W p,Inv M W->IsT M p (cB (dN D) (bq .nil P))->Tab W->Calls prog 19 #[tv p] W (rR M W E)):=hid (λM W p hi ht hT=>by
    rw [<-hE,<-hcd.enc];exact sI M p _ 64 hgd aF J4 W hi ht hT)
   have PR:Hid (∀ M W p,Inv M W->IsT M p (eD (ks.map bT) (bq .nil P))->Tab W->Calls prog 19 #[tv p] W (rR M W E)):=hid (λM W p hi ht hT=>by
    rw [<-hE,<-hcw.enc];exact sI M p _ 64 hgw aF hfw W hi ht hT)
   obtain ⟨s,c,hsc⟩:∃ (s:aK) (c:Int),Db (Tr.get (bq .nil P) (path Kq)) = .tuple #[.string s,.int .i64 c]:=by
    rcases Tr.get (bq .nil P) (path Kq) with _ | _ | v <;> exact ⟨_,_,rfl⟩
   have sb:Hid (∀ M W p,Inv M W->IsT M p (bq .nil P)->Calls prog 20 #[tv p,.agg (kc Kq)] W λe w'=>e = .returned (.tuple #[.string s,.int .i64 c])/\Below W.heap.size W w'):=hid (λM W p hi ht=>by
    have:=uI M p _ Kq cH.out W hi ht hhas.good;rw [hsc] at this;exact this)
   have PT:Hid (∀ M W p,Inv M W->IsT M p (cB (dN D) (bq .nil P))->Calls prog 20 #[tv p,.agg (kc Kq)] W λe w'=>e = .returned (Db (Tr.get (cB (dN D) (bq .nil P)) (path Kq)))/\Below W.heap.size W w'):=hid (λM W p hi ht=>uI M p _ Kq cH.out W hi ht hgd)
   have DD:Hid (∀ M W p,Inv M W->IsT M p (eD (ks.map bT) (bq .nil P))->Calls prog 20 #[tv p,.agg (kc Kq)] W λe w'=>e = .returned (Db (Tr.get (eD (ks.map bT) (bq .nil P)) (path Kq)))/\Below W.heap.size W w'):=hid (λM W p hi ht=>uI M p _ Kq cH.out W hi ht hgw)
   have eC:Hid (∀ M W p,Inv M W->IsT M p (cB (dN D) (bq .nil P))->Calls prog 14 #[tv p,.agg (kc Kq)] W λe w'=>e = .returned (.bool (Tr.get (cB (dN D) (bq .nil P)) (path Kq)).isSome)/\Below W.heap.size W w'):=hid (λM W p hi ht=>ug M p _ Kq cH.out W hi ht hgd);have By:=hid (And.intro (Gx hhas hcd cH.out s c hsc) (Gx hhas hcw cH.out s c hsc));have tn:Hid (kn<=10):=hid hkn;have dt:Hid (0<(iV P).length):=hid hIn;generalize cB (dN D) (bq .nil P)=dT at *
   generalize eD (ks.map bT) (bq .nil P)=wT at *
   generalize jN (dN D) (bq .nil P)=XD at *
   generalize jO (ks.map bT) (bq .nil P)=XW at *
   generalize dI D=D' at *
   generalize bq .nil P=t at *
   generalize iV P=I at *
   clear jz hIn hnd hbl hkl hhas hcd hcw hgd J4 hgw hfw hE hsc hlen ee hk10;go_wp2_with fail
   clear i1 W9 i2 PH hz;refine (kv.out w2 zE.out HL2.out).mono ?_;intro e w3 hG;obtain ⟨pt,M3,rfl,lm,hL3,hf3,hb3⟩:=HL2.out.got hG;have HT3:=hid lm;have jn:=hid hL3;have BB:=hid (zE.out.below hb3);have Bi:=hid (PF.out.below hb3);have BC:=hid (ud.out.below hb3);clear hG lm hL3 hf3 hb3 HL2 zE PF ud kv;go_wp2_with fail
   refine (PM.out w3 BB.out).mono ?_;rintro e w4 ⟨ia,in_,ic,rfl,ue,hr4,hb4⟩;obtain rfl:I.length=in_:=ue.len;have Be:Hid (Sd w M3 w4 gk Kq ka kn kc2 ks ia ic I []):=hid ⟨jn.out.below hb4,Bi.out.below hb4,cH.out,BC.out.below hb4,ue,λad e=>jn.out.i.free (hr4 ad e),λx hx=>(by cases hx)⟩;have HN:=hid (Rg.Own.new w4 #[.pointer none] 31);clear ue hr4 hb4 jn Bi BC BB PM;obtain ⟨gt,hgt⟩:=av w4.heap.size
   go_wp2_with (first
    | (refine ay (aW _ _ _ w4.heap.size rfl rfl) ?_)
    | (refine aZ HN.out (by decide) pt rfl _ _ rfl rfl rfl ?_; intro w5 b8 ax; have pi:Hid (Sd w M3 w5 gk Kq ka kn kc2 ks ia ic I [(gt,pt,t)]):=hid (by have:=Be.out.box HT3.out b8 ax; rw [hgt] at this; exact this); clear b8 ax; rw [hgt]))
   clear HN Be HT3 hgt;try simp only [Act.put,ak]
   go_cut [9,10] (λv9 v10 wx=>∃ (gd gw:Nat) (pd pw:aJ) (M':Mp),v9 = .pointer (some ⟨gd,0,none⟩)/\v10 = .pointer (some ⟨gw,0,none⟩)/\Hid (Sd w M' wx gk Kq ka kn kc2 ks ia ic I [(gw,pw,wT),(gd,pd,dT),(gt,pt,t)]))
   case first =>
    have HA:Hid (Q6 w M3 w5.drew gk Kq ka kn kc2 ks ia ic I gt pt t none none):=hid ⟨pi.out.below (show Below w5.heap.size w5 w5.drew from below_drewN aG 1),λg e=>(by cases e),λg e=>(by cases e),λg g2 e=>(by cases e)⟩;clear pi;refine aB (S:=λwz=>wz.cell? ⟨gt,0,none⟩=some (.pointer pt)) (HA.out.cl) λhld=>?_;refine ah 0 ?_ (hy:=by intro wz hSw; (refine aT hSw ?_; exact ⟨_,rfl,rfl⟩));try simp only [Act.put,ak]
    refine ah 1 ?_;try simp only [Act.put,ak]
    refine ah 3 ?_ (hy:=by intro wz hSw; (refine aT hSw ?_; exact ⟨_,rfl,rfl⟩));try simp only [Act.put,ak]
    refine ah 4 ?_;try simp only [Act.put,ak]
    refine wpAnyH_ready (rs:=[2,6,7]) (by kernel_rfl) (by simp) ?_;refine Rg.readyC (i:=2) rfl (λK hK=>?_) (Rg.readyC (i:=6) rfl (λK hK=>?_) (Rg.readyL (i:=7) rfl (λK hK=>?_)))
    .go_simp;go_at_call 11
     (with_reducible refine (HA.out.got dt.out (dl.out _ _ _ HA.out.a.l.i HA.out.tr HA.out.a.l.t)).mono ?_)
     rintro e wg ⟨pd,M6,rfl,HA,cR⟩;refine hK.out _ _ (HA.out.cl) (λhld=>?_);clear hK K;try simp only [Act.put,ak]
     refine wpAnyH_ready (rs:=[5,6,7]) (by kernel_rfl) (by simp) ?_;refine Rg.readyC (i:=5) rfl (λK hK=>?_) (Rg.readyC (i:=6) rfl (λK hK=>?_) (Rg.readyL (i:=7) rfl (λK hK=>?_)))
     .go_simp;go_at_call 12
      (with_reducible refine (HA.out.got dt.out (fp.out _ _ _ HA.out.a.l.i HA.out.tr HA.out.a.l.t HA.out.a.kk)).mono ?_)
      rintro e wg ⟨pw,M7,rfl,HA,d8⟩;have cR:=hid (d8.out.2 _ _ cR.out.1);refine hK.out _ _ (HA.out.cl) (λhld=>?_);clear hK K;try simp only [Act.put,ak]
      refine wpAnyH_ready (rs:=[6,7]) (by kernel_rfl) (by simp) ?_;refine Rg.readyC (i:=6) rfl (λK hK=>?_) (Rg.readyL (i:=7) rfl (λK hK=>?_))
      .refine Rg.meetAlloc (by rfl) (aW _ _ _ _ rfl rfl) ?_;rintro wa gd bo h8 hbx;have HA:=hid (HA.out.qY h8 bo hbx);clear bo h8 hbx;refine hK.out _ _ (HA.out.cl) (λhld=>?_);clear hK K;try simp only [Act.put,ak]
       refine aj 7 λK hK=>?_;refine Rg.meetAlloc (by rfl) (aW _ _ _ _ rfl rfl) ?_;rintro wa gw bo h8 hbx;have HA:=hid (HA.out.rG h8 bo hbx);clear bo h8 hbx;refine hK.out _ _ (HA.out.cl) (λhld=>?_);clear hK K;try simp only [Act.put,ak]
       refine aj 8 λK hK=>?_;refine aY (by rfl) (HA.out.d _ rfl).1.o (off:=0) (by simp) pd ⟨_,_,rfl,rfl,rfl⟩ ?_;rintro ws hn hu;have HB:=hid (HA.out.zR cR.out hn hu);clear hn hu;refine hK.out _ _ (HB.out.cell (g:=gt) (p:=pt) (t:=t) (by simp)) (λhld=>?_);clear hK K;try simp only [Act.put,ak]
       refine aj 9 λK hK=>?_;refine aY (by rfl) (HB.out.own (g:=gw) (p:=none) (t:=.nil) (by simp)) (off:=0) (by simp) pw ⟨_,_,rfl,rfl,rfl⟩ ?_;rintro ws hn hu;have HC:=hid (HA.out.zS HB.out d8.out.1 hn hu);clear hn hu;refine hK.out _ _ (HC.out.cell (g:=gt) (p:=pt) (t:=t) (by simp)) (λhld=>?_);clear hK K;try simp only [Act.put,ak]
       refine aA ?_;go_wp2_with fail
       go_meet
       exact ⟨gd,gw,pd,pw,M7,rfl,rfl,HC⟩
      .refine Rg.meetAlloc (by rfl) (aW _ _ _ _ rfl rfl) ?_;rintro wa gw bo h8 hbx;have HA:=hid (HA.out.rG h8 bo hbx);clear bo h8 hbx;refine hK.out _ _ (HA.out.cl) (λhld=>?_);clear hK K;try simp only [Act.put,ak]
       refine aj 6 λK hK=>?_;refine Rg.meetAlloc (by rfl) (aW _ _ _ _ rfl rfl) ?_;rintro wa gd bo h8 hbx;have HA:=hid (HA.out.qY h8 bo hbx);clear bo h8 hbx;refine hK.out _ _ (HA.out.cl) (λhld=>?_);clear hK K;try simp only [Act.put,ak]
       refine aj 8 λK hK=>?_;refine aY (by rfl) (HA.out.d _ rfl).1.o (off:=0) (by simp) pd ⟨_,_,rfl,rfl,rfl⟩ ?_;rintro ws hn hu;have HB:=hid (HA.out.zR cR.out hn hu);clear hn hu;refine hK.out _ _ (HB.out.cell (g:=gt) (p:=pt) (t:=t) (by simp)) (λhld=>?_);clear hK K;try simp only [Act.put,ak]
       refine aj 9 λK hK=>?_;refine aY (by rfl) (HB.out.own (g:=gw) (p:=none) (t:=.nil) (by simp)) (off:=0) (by simp) pw ⟨_,_,rfl,rfl,rfl⟩ ?_;rintro ws hn hu;have HC:=hid (HA.out.zS HB.out d8.out.1 hn hu);clear hn hu;refine hK.out _ _ (HC.out.cell (g:=gt) (p:=pt) (t:=t) (by simp)) (λhld=>?_);clear hK K;try simp only [Act.put,ak]
       refine aA ?_;go_wp2_with fail
       go_meet
       exact ⟨gd,gw,pd,pw,M7,rfl,rfl,HC⟩
     .refine Rg.meetAlloc (by rfl) (aW _ _ _ _ rfl rfl) ?_;rintro wa gd bo h8 hbx;have HA:=hid (HA.out.qY h8 bo hbx);clear bo h8 hbx;refine hK.out _ _ (HA.out.cl) (λhld=>?_);clear hK K;try simp only [Act.put,ak]
      refine wpAnyH_ready (rs:=[5,7]) (by kernel_rfl) (by simp) ?_;refine Rg.readyC (i:=5) rfl (λK hK=>?_) (Rg.readyL (i:=7) rfl (λK hK=>?_))
      .go_simp;go_at_call 12
       (with_reducible refine (HA.out.got dt.out (fp.out _ _ _ HA.out.a.l.i HA.out.tr HA.out.a.l.t HA.out.a.kk)).mono ?_)
       rintro e wg ⟨pw,M7,rfl,HA,d8⟩;have cR:=hid (d8.out.2 _ _ cR.out.1);refine hK.out _ _ (HA.out.cl) (λhld=>?_);clear hK K;try simp only [Act.put,ak]
       refine aj 7 λK hK=>?_;refine Rg.meetAlloc (by rfl) (aW _ _ _ _ rfl rfl) ?_;rintro wa gw bo h8 hbx;have HA:=hid (HA.out.rG h8 bo hbx);clear bo h8 hbx;refine hK.out _ _ (HA.out.cl) (λhld=>?_);clear hK K;try simp only [Act.put,ak]
       refine aj 8 λK hK=>?_;refine aY (by rfl) (HA.out.d _ rfl).1.o (off:=0) (by simp) pd ⟨_,_,rfl,rfl,rfl⟩ ?_;rintro ws hn hu;have HB:=hid (HA.out.zR cR.out hn hu);clear hn hu;refine hK.out _ _ (HB.out.cell (g:=gt) (p:=pt) (t:=t) (by simp)) (λhld=>?_);clear hK K;try simp only [Act.put,ak]
       refine aj 9 λK hK=>?_;refine aY (by rfl) (HB.out.own (g:=gw) (p:=none) (t:=.nil) (by simp)) (off:=0) (by simp) pw ⟨_,_,rfl,rfl,rfl⟩ ?_;rintro ws hn hu;have HC:=hid (HA.out.zS HB.out d8.out.1 hn hu);clear hn hu;refine hK.out _ _ (HC.out.cell (g:=gt) (p:=pt) (t:=t) (by simp)) (λhld=>?_);clear hK K;try simp only [Act.put,ak]
       refine aA ?_;go_wp2_with fail
       go_meet
       exact ⟨gd,gw,pd,pw,M7,rfl,rfl,HC⟩
      .refine Rg.meetAlloc (by rfl) (aW _ _ _ _ rfl rfl) ?_;rintro wa gw bo h8 hbx;have HA:=hid (HA.out.rG h8 bo hbx);clear bo h8 hbx;refine hK.out _ _ (HA.out.cl) (λhld=>?_);clear hK K;try simp only [Act.put,ak]
       refine aj 5 λK hK=>?_;go_simp;go_at_call 12
       (with_reducible refine (HA.out.got dt.out (fp.out _ _ _ HA.out.a.l.i HA.out.tr HA.out.a.l.t HA.out.a.kk)).mono ?_)
       rintro e wg ⟨pw,M7,rfl,HA,d8⟩;have cR:=hid (d8.out.2 _ _ cR.out.1);refine hK.out _ _ (HA.out.cl) (λhld=>?_);clear hK K;try simp only [Act.put,ak]
       refine aj 8 λK hK=>?_;refine aY (by rfl) (HA.out.d _ rfl).1.o (off:=0) (by simp) pd ⟨_,_,rfl,rfl,rfl⟩ ?_;rintro ws hn hu;have HB:=hid (HA.out.zR cR.out hn hu);clear hn hu;refine hK.out _ _ (HB.out.cell (g:=gt) (p:=pt) (t:=t) (by simp)) (λhld=>?_);clear hK K;try simp only [Act.put,ak]
       refine aj 9 λK hK=>?_;refine aY (by rfl) (HB.out.own (g:=gw) (p:=none) (t:=.nil) (by simp)) (off:=0) (by simp) pw ⟨_,_,rfl,rfl,rfl⟩ ?_;rintro ws hn hu;have HC:=hid (HA.out.zS HB.out d8.out.1 hn hu);clear hn hu;refine hK.out _ _ (HC.out.cell (g:=gt) (p:=pt) (t:=t) (by simp)) (λhld=>?_);clear hK K;try simp only [Act.put,ak]
       refine aA ?_;go_wp2_with fail
       go_meet
       exact ⟨gd,gw,pd,pw,M7,rfl,rfl,HC⟩
     .refine Rg.meetAlloc (by rfl) (aW _ _ _ _ rfl rfl) ?_;rintro wa gw bo h8 hbx;have HA:=hid (HA.out.rG h8 bo hbx);clear bo h8 hbx;refine hK.out _ _ (HA.out.cl) (λhld=>?_);clear hK K;try simp only [Act.put,ak]
      refine wpAnyH_ready (rs:=[5,6]) (by kernel_rfl) (by simp) ?_;refine Rg.readyC (i:=5) rfl (λK hK=>?_) (Rg.readyL (i:=6) rfl (λK hK=>?_))
      .go_simp;go_at_call 12
       (with_reducible refine (HA.out.got dt.out (fp.out _ _ _ HA.out.a.l.i HA.out.tr HA.out.a.l.t HA.out.a.kk)).mono ?_)
       rintro e wg ⟨pw,M7,rfl,HA,d8⟩;have cR:=hid (d8.out.2 _ _ cR.out.1);refine hK.out _ _ (HA.out.cl) (λhld=>?_);clear hK K;try simp only [Act.put,ak]
       refine aj 6 λK hK=>?_;refine Rg.meetAlloc (by rfl) (aW _ _ _ _ rfl rfl) ?_;rintro wa gd bo h8 hbx;have HA:=hid (HA.out.qY h8 bo hbx);clear bo h8 hbx;refine hK.out _ _ (HA.out.cl) (λhld=>?_);clear hK K;try simp only [Act.put,ak]
       refine aj 8 λK hK=>?_;refine aY (by rfl) (HA.out.d _ rfl).1.o (off:=0) (by simp) pd ⟨_,_,rfl,rfl,rfl⟩ ?_;rintro ws hn hu;have HB:=hid (HA.out.zR cR.out hn hu);clear hn hu;refine hK.out _ _ (HB.out.cell (g:=gt) (p:=pt) (t:=t) (by simp)) (λhld=>?_);clear hK K;try simp only [Act.put,ak]
       refine aj 9 λK hK=>?_;refine aY (by rfl) (HB.out.own (g:=gw) (p:=none) (t:=.nil) (by simp)) (off:=0) (by simp) pw ⟨_,_,rfl,rfl,rfl⟩ ?_;rintro ws hn hu;have HC:=hid (HA.out.zS HB.out d8.out.1 hn hu);clear hn hu;refine hK.out _ _ (HC.out.cell (g:=gt) (p:=pt) (t:=t) (by simp)) (λhld=>?_);clear hK K;try simp only [Act.put,ak]
       refine aA ?_;go_wp2_with fail
       go_meet
       exact ⟨gd,gw,pd,pw,M7,rfl,rfl,HC⟩
      .refine Rg.meetAlloc (by rfl) (aW _ _ _ _ rfl rfl) ?_;rintro wa gd bo h8 hbx;have HA:=hid (HA.out.qY h8 bo hbx);clear bo h8 hbx;refine hK.out _ _ (HA.out.cl) (λhld=>?_);clear hK K;try simp only [Act.put,ak]
       refine aj 5 λK hK=>?_;go_simp;go_at_call 12
       (with_reducible refine (HA.out.got dt.out (fp.out _ _ _ HA.out.a.l.i HA.out.tr HA.out.a.l.t HA.out.a.kk)).mono ?_)
       rintro e wg ⟨pw,M7,rfl,HA,d8⟩;have cR:=hid (d8.out.2 _ _ cR.out.1);refine hK.out _ _ (HA.out.cl) (λhld=>?_);clear hK K;try simp only [Act.put,ak]
       refine aj 8 λK hK=>?_;refine aY (by rfl) (HA.out.d _ rfl).1.o (off:=0) (by simp) pd ⟨_,_,rfl,rfl,rfl⟩ ?_;rintro ws hn hu;have HB:=hid (HA.out.zR cR.out hn hu);clear hn hu;refine hK.out _ _ (HB.out.cell (g:=gt) (p:=pt) (t:=t) (by simp)) (λhld=>?_);clear hK K;try simp only [Act.put,ak]
       refine aj 9 λK hK=>?_;refine aY (by rfl) (HB.out.own (g:=gw) (p:=none) (t:=.nil) (by simp)) (off:=0) (by simp) pw ⟨_,_,rfl,rfl,rfl⟩ ?_;rintro ws hn hu;have HC:=hid (HA.out.zS HB.out d8.out.1 hn hu);clear hn hu;refine hK.out _ _ (HC.out.cell (g:=gt) (p:=pt) (t:=t) (by simp)) (λhld=>?_);clear hK K;try simp only [Act.put,ak]
       refine aA ?_;go_wp2_with fail
       go_meet
       exact ⟨gd,gw,pd,pw,M7,rfl,rfl,HC⟩
    .refine Rg.meetAlloc (by rfl) (aW _ _ _ _ rfl rfl) ?_;rintro wa gd bo h8 hbx;have HA:=hid (HA.out.qY h8 bo hbx);clear bo h8 hbx;refine hK.out _ _ (HA.out.cl) (λhld=>?_);clear hK K;try simp only [Act.put,ak]
     refine wpAnyH_ready (rs:=[2,7]) (by kernel_rfl) (by simp) ?_;refine Rg.readyC (i:=2) rfl (λK hK=>?_) (Rg.readyL (i:=7) rfl (λK hK=>?_))
     .go_simp;go_at_call 11
      (with_reducible refine (HA.out.got dt.out (dl.out _ _ _ HA.out.a.l.i HA.out.tr HA.out.a.l.t)).mono ?_)
      rintro e wg ⟨pd,M6,rfl,HA,cR⟩;refine hK.out _ _ (HA.out.cl) (λhld=>?_);clear hK K;try simp only [Act.put,ak]
      refine wpAnyH_ready (rs:=[5,7]) (by kernel_rfl) (by simp) ?_;refine Rg.readyC (i:=5) rfl (λK hK=>?_) (Rg.readyL (i:=7) rfl (λK hK=>?_))
      .go_simp;go_at_call 12
       (with_reducible refine (HA.out.got dt.out (fp.out _ _ _ HA.out.a.l.i HA.out.tr HA.out.a.l.t HA.out.a.kk)).mono ?_)
       rintro e wg ⟨pw,M7,rfl,HA,d8⟩;have cR:=hid (d8.out.2 _ _ cR.out.1);refine hK.out _ _ (HA.out.cl) (λhld=>?_);clear hK K;try simp only [Act.put,ak]
       refine aj 7 λK hK=>?_;refine Rg.meetAlloc (by rfl) (aW _ _ _ _ rfl rfl) ?_;rintro wa gw bo h8 hbx;have HA:=hid (HA.out.rG h8 bo hbx);clear bo h8 hbx;refine hK.out _ _ (HA.out.cl) (λhld=>?_);clear hK K;try simp only [Act.put,ak]
       refine aj 8 λK hK=>?_;refine aY (by rfl) (HA.out.d _ rfl).1.o (off:=0) (by simp) pd ⟨_,_,rfl,rfl,rfl⟩ ?_;rintro ws hn hu;have HB:=hid (HA.out.zR cR.out hn hu);clear hn hu;refine hK.out _ _ (HB.out.cell (g:=gt) (p:=pt) (t:=t) (by simp)) (λhld=>?_);clear hK K;try simp only [Act.put,ak]
       refine aj 9 λK hK=>?_;refine aY (by rfl) (HB.out.own (g:=gw) (p:=none) (t:=.nil) (by simp)) (off:=0) (by simp) pw ⟨_,_,rfl,rfl,rfl⟩ ?_;rintro ws hn hu;have HC:=hid (HA.out.zS HB.out d8.out.1 hn hu);clear hn hu;refine hK.out _ _ (HC.out.cell (g:=gt) (p:=pt) (t:=t) (by simp)) (λhld=>?_);clear hK K;try simp only [Act.put,ak]
       refine aA ?_;go_wp2_with fail
       go_meet
       exact ⟨gd,gw,pd,pw,M7,rfl,rfl,HC⟩
      .refine Rg.meetAlloc (by rfl) (aW _ _ _ _ rfl rfl) ?_;rintro wa gw bo h8 hbx;have HA:=hid (HA.out.rG h8 bo hbx);clear bo h8 hbx;refine hK.out _ _ (HA.out.cl) (λhld=>?_);clear hK K;try simp only [Act.put,ak]
       refine aj 5 λK hK=>?_;go_simp;go_at_call 12
       (with_reducible refine (HA.out.got dt.out (fp.out _ _ _ HA.out.a.l.i HA.out.tr HA.out.a.l.t HA.out.a.kk)).mono ?_)
       rintro e wg ⟨pw,M7,rfl,HA,d8⟩;have cR:=hid (d8.out.2 _ _ cR.out.1);refine hK.out _ _ (HA.out.cl) (λhld=>?_);clear hK K;try simp only [Act.put,ak]
       refine aj 8 λK hK=>?_;refine aY (by rfl) (HA.out.d _ rfl).1.o (off:=0) (by simp) pd ⟨_,_,rfl,rfl,rfl⟩ ?_;rintro ws hn hu;have HB:=hid (HA.out.zR cR.out hn hu);clear hn hu;refine hK.out _ _ (HB.out.cell (g:=gt) (p:=pt) (t:=t) (by simp)) (λhld=>?_);clear hK K;try simp only [Act.put,ak]
       refine aj 9 λK hK=>?_;refine aY (by rfl) (HB.out.own (g:=gw) (p:=none) (t:=.nil) (by simp)) (off:=0) (by simp) pw ⟨_,_,rfl,rfl,rfl⟩ ?_;rintro ws hn hu;have HC:=hid (HA.out.zS HB.out d8.out.1 hn hu);clear hn hu;refine hK.out _ _ (HC.out.cell (g:=gt) (p:=pt) (t:=t) (by simp)) (λhld=>?_);clear hK K;try simp only [Act.put,ak]
       refine aA ?_;go_wp2_with fail
       go_meet
       exact ⟨gd,gw,pd,pw,M7,rfl,rfl,HC⟩
     .refine Rg.meetAlloc (by rfl) (aW _ _ _ _ rfl rfl) ?_;rintro wa gw bo h8 hbx;have HA:=hid (HA.out.rG h8 bo hbx);clear bo h8 hbx;refine hK.out _ _ (HA.out.cl) (λhld=>?_);clear hK K;try simp only [Act.put,ak]
      refine aj 2 λK hK=>?_;go_simp;go_at_call 11
      (with_reducible refine (HA.out.got dt.out (dl.out _ _ _ HA.out.a.l.i HA.out.tr HA.out.a.l.t)).mono ?_)
      rintro e wg ⟨pd,M6,rfl,HA,cR⟩;refine hK.out _ _ (HA.out.cl) (λhld=>?_);clear hK K;try simp only [Act.put,ak]
      refine aj 5 λK hK=>?_;go_simp;go_at_call 12
      (with_reducible refine (HA.out.got dt.out (fp.out _ _ _ HA.out.a.l.i HA.out.tr HA.out.a.l.t HA.out.a.kk)).mono ?_)
      rintro e wg ⟨pw,M7,rfl,HA,d8⟩;have cR:=hid (d8.out.2 _ _ cR.out.1);refine hK.out _ _ (HA.out.cl) (λhld=>?_);clear hK K;try simp only [Act.put,ak]
      refine aj 8 λK hK=>?_;refine aY (by rfl) (HA.out.d _ rfl).1.o (off:=0) (by simp) pd ⟨_,_,rfl,rfl,rfl⟩ ?_;rintro ws hn hu;have HB:=hid (HA.out.zR cR.out hn hu);clear hn hu;refine hK.out _ _ (HB.out.cell (g:=gt) (p:=pt) (t:=t) (by simp)) (λhld=>?_);clear hK K;try simp only [Act.put,ak]
      refine aj 9 λK hK=>?_;refine aY (by rfl) (HB.out.own (g:=gw) (p:=none) (t:=.nil) (by simp)) (off:=0) (by simp) pw ⟨_,_,rfl,rfl,rfl⟩ ?_;rintro ws hn hu;have HC:=hid (HA.out.zS HB.out d8.out.1 hn hu);clear hn hu;refine hK.out _ _ (HC.out.cell (g:=gt) (p:=pt) (t:=t) (by simp)) (λhld=>?_);clear hK K;try simp only [Act.put,ak]
      refine aA ?_;go_wp2_with fail
      go_meet
      exact ⟨gd,gw,pd,pw,M7,rfl,rfl,HC⟩
    .refine Rg.meetAlloc (by rfl) (aW _ _ _ _ rfl rfl) ?_;rintro wa gw bo h8 hbx;have HA:=hid (HA.out.rG h8 bo hbx);clear bo h8 hbx;refine hK.out _ _ (HA.out.cl) (λhld=>?_);clear hK K;try simp only [Act.put,ak]
     refine wpAnyH_ready (rs:=[2,6]) (by kernel_rfl) (by simp) ?_;refine Rg.readyC (i:=2) rfl (λK hK=>?_) (Rg.readyL (i:=6) rfl (λK hK=>?_))
     .go_simp;go_at_call 11
      (with_reducible refine (HA.out.got dt.out (dl.out _ _ _ HA.out.a.l.i HA.out.tr HA.out.a.l.t)).mono ?_)
      rintro e wg ⟨pd,M6,rfl,HA,cR⟩;refine hK.out _ _ (HA.out.cl) (λhld=>?_);clear hK K;try simp only [Act.put,ak]
      refine wpAnyH_ready (rs:=[5,6]) (by kernel_rfl) (by simp) ?_;refine Rg.readyC (i:=5) rfl (λK hK=>?_) (Rg.readyL (i:=6) rfl (λK hK=>?_))
      .go_simp;go_at_call 12
       (with_reducible refine (HA.out.got dt.out (fp.out _ _ _ HA.out.a.l.i HA.out.tr HA.out.a.l.t HA.out.a.kk)).mono ?_)
       rintro e wg ⟨pw,M7,rfl,HA,d8⟩;have cR:=hid (d8.out.2 _ _ cR.out.1);refine hK.out _ _ (HA.out.cl) (λhld=>?_);clear hK K;try simp only [Act.put,ak]
       refine aj 6 λK hK=>?_;refine Rg.meetAlloc (by rfl) (aW _ _ _ _ rfl rfl) ?_;rintro wa gd bo h8 hbx;have HA:=hid (HA.out.qY h8 bo hbx);clear bo h8 hbx;refine hK.out _ _ (HA.out.cl) (λhld=>?_);clear hK K;try simp only [Act.put,ak]
       refine aj 8 λK hK=>?_;refine aY (by rfl) (HA.out.d _ rfl).1.o (off:=0) (by simp) pd ⟨_,_,rfl,rfl,rfl⟩ ?_;rintro ws hn hu;have HB:=hid (HA.out.zR cR.out hn hu);clear hn hu;refine hK.out _ _ (HB.out.cell (g:=gt) (p:=pt) (t:=t) (by simp)) (λhld=>?_);clear hK K;try simp only [Act.put,ak]
       refine aj 9 λK hK=>?_;refine aY (by rfl) (HB.out.own (g:=gw) (p:=none) (t:=.nil) (by simp)) (off:=0) (by simp) pw ⟨_,_,rfl,rfl,rfl⟩ ?_;rintro ws hn hu;have HC:=hid (HA.out.zS HB.out d8.out.1 hn hu);clear hn hu;refine hK.out _ _ (HC.out.cell (g:=gt) (p:=pt) (t:=t) (by simp)) (λhld=>?_);clear hK K;try simp only [Act.put,ak]
       refine aA ?_;go_wp2_with fail
       go_meet
       exact ⟨gd,gw,pd,pw,M7,rfl,rfl,HC⟩
      .refine Rg.meetAlloc (by rfl) (aW _ _ _ _ rfl rfl) ?_;rintro wa gd bo h8 hbx;have HA:=hid (HA.out.qY h8 bo hbx);clear bo h8 hbx;refine hK.out _ _ (HA.out.cl) (λhld=>?_);clear hK K;try simp only [Act.put,ak]
       refine aj 5 λK hK=>?_;go_simp;go_at_call 12
       (with_reducible refine (HA.out.got dt.out (fp.out _ _ _ HA.out.a.l.i HA.out.tr HA.out.a.l.t HA.out.a.kk)).mono ?_)
       rintro e wg ⟨pw,M7,rfl,HA,d8⟩;have cR:=hid (d8.out.2 _ _ cR.out.1);refine hK.out _ _ (HA.out.cl) (λhld=>?_);clear hK K;try simp only [Act.put,ak]
       refine aj 8 λK hK=>?_;refine aY (by rfl) (HA.out.d _ rfl).1.o (off:=0) (by simp) pd ⟨_,_,rfl,rfl,rfl⟩ ?_;rintro ws hn hu;have HB:=hid (HA.out.zR cR.out hn hu);clear hn hu;refine hK.out _ _ (HB.out.cell (g:=gt) (p:=pt) (t:=t) (by simp)) (λhld=>?_);clear hK K;try simp only [Act.put,ak]
       refine aj 9 λK hK=>?_;refine aY (by rfl) (HB.out.own (g:=gw) (p:=none) (t:=.nil) (by simp)) (off:=0) (by simp) pw ⟨_,_,rfl,rfl,rfl⟩ ?_;rintro ws hn hu;have HC:=hid (HA.out.zS HB.out d8.out.1 hn hu);clear hn hu;refine hK.out _ _ (HC.out.cell (g:=gt) (p:=pt) (t:=t) (by simp)) (λhld=>?_);clear hK K;try simp only [Act.put,ak]
       refine aA ?_;go_wp2_with fail
       go_meet
       exact ⟨gd,gw,pd,pw,M7,rfl,rfl,HC⟩
     .refine Rg.meetAlloc (by rfl) (aW _ _ _ _ rfl rfl) ?_;rintro wa gd bo h8 hbx;have HA:=hid (HA.out.qY h8 bo hbx);clear bo h8 hbx;refine hK.out _ _ (HA.out.cl) (λhld=>?_);clear hK K;try simp only [Act.put,ak]
      refine aj 2 λK hK=>?_;go_simp;go_at_call 11
      (with_reducible refine (HA.out.got dt.out (dl.out _ _ _ HA.out.a.l.i HA.out.tr HA.out.a.l.t)).mono ?_)
      rintro e wg ⟨pd,M6,rfl,HA,cR⟩;refine hK.out _ _ (HA.out.cl) (λhld=>?_);clear hK K;try simp only [Act.put,ak]
      refine aj 5 λK hK=>?_;go_simp;go_at_call 12
      (with_reducible refine (HA.out.got dt.out (fp.out _ _ _ HA.out.a.l.i HA.out.tr HA.out.a.l.t HA.out.a.kk)).mono ?_)
      rintro e wg ⟨pw,M7,rfl,HA,d8⟩;have cR:=hid (d8.out.2 _ _ cR.out.1);refine hK.out _ _ (HA.out.cl) (λhld=>?_);clear hK K;try simp only [Act.put,ak]
      refine aj 8 λK hK=>?_;refine aY (by rfl) (HA.out.d _ rfl).1.o (off:=0) (by simp) pd ⟨_,_,rfl,rfl,rfl⟩ ?_;rintro ws hn hu;have HB:=hid (HA.out.zR cR.out hn hu);clear hn hu;refine hK.out _ _ (HB.out.cell (g:=gt) (p:=pt) (t:=t) (by simp)) (λhld=>?_);clear hK K;try simp only [Act.put,ak]
      refine aj 9 λK hK=>?_;refine aY (by rfl) (HB.out.own (g:=gw) (p:=none) (t:=.nil) (by simp)) (off:=0) (by simp) pw ⟨_,_,rfl,rfl,rfl⟩ ?_;rintro ws hn hu;have HC:=hid (HA.out.zS HB.out d8.out.1 hn hu);clear hn hu;refine hK.out _ _ (HC.out.cell (g:=gt) (p:=pt) (t:=t) (by simp)) (λhld=>?_);clear hK K;try simp only [Act.put,ak]
      refine aA ?_;go_wp2_with fail
      go_meet
      exact ⟨gd,gw,pd,pw,M7,rfl,rfl,HC⟩
   case rest =>
    obtain ⟨gd,gw,pd,pw,M,rfl,rfl,g9⟩:=hcut;obtain ⟨ws,hws⟩:=au wc
    subst hws;clear pi dl fp;have J5:Hid (ks.length=kn):=hid g9.out.kk.len;go_wp2_with fail
    go_loopw [11,12] (λv0 i wr=>∃ (j:Nat) (v:Value),v=v0/\j<=kn/\i = .int .i64 j/\Hid (Ew.kY ws.heap.size wr v ((ks.map bT).take j))/\Hid (Below ws.heap.size ws wr)) (λ_ i _=>kn-(intOf i).toNat)
    case atStart=>exact ⟨0,_,rfl,Nat.zero_le _,rfl,hid (Ew.kY.nil _ _),hid aG⟩
    case round =>
     obtain ⟨j,v,rfl,hj,rfl,HR,cA⟩:=hrel;by_cases hlt:j<kn
     .have i1:(j:Int)<(kn:Int):=by omega
      obtain ⟨b,off,rfl,hblt,hrg,hkl⟩:=g9.out.kk.at' j hlt;have hjl:j<ks.length:=by rw [J5.out]; exact hlt
      have ky:Hid ((ks.map bT).take (j+1)=(ks.map bT).take j++[bT (ks.getD j [])]):=hid (by
       rw [List.take_succ_eq_append_getElem (by rw [List.length_map]; exact hjl)];simp [List.getD,hjl])
      have Q4:Hid (ks.getD j []∈ks/\(ks.getD j []).length=32):=hid ⟨by rw [List.getD_eq_getElem?_getD,List.getElem?_eq_getElem hjl]; exact List.getElem_mem _,hkl⟩;have s8:Hid (((ks.map bT).take j).length<=1000000):=hid (by rw [List.length_take]; have:=tn.out; omega);have ui:Hid (ws.rangeAt b (off+j*32) ((ks.getD j []).map λb=>Value.int .u8 b.toNat)):=hid hrg;have ww:Hid (wr.rangeAt b (off+j*32) ((ks.getD j []).map λb=>Value.int .u8 b.toNat)):=hid (λi v hv=>aV cA.out (hrg i v hv));obtain ⟨k,hk⟩:=av (ks.getD j [])
      rw [hk] at ky hkl ww ui Q4;have uk:=hid hkl;clear hblt hrg hkl hjl hk;go_wp2_with (first
       | (refine ay (cZ uk.out ww.out ⟨_,rfl,rfl⟩) ?_))
      refine (DY k uk.out wr).mono ?_;rintro e w4 ⟨ra,rm,rc,rfl,hr4,hb4⟩;have hA:=al1 w4 (.cells #[Ew.wv (ra,rm,rc)] 42);have mw:=hid ((HR.out.below hb4).below hA);have ke:Hid (BsP (λz=>v.ownBlock≠some z) (w4.alloc (.cells #[Ew.wv (ra,rm,rc)] 42)) (ra,rm,rc) (bT k)):=hid ⟨(hr4.below hA).1,λad e _ e2=>by
       have h1:=hr4.2 ad e;have h2:=(HR.out.lt _ e2).2;omega⟩
      have dd:Hid (ws.heap.size<=(w4.alloc (.cells #[Ew.wv (ra,rm,rc)] 42)).heap.size):=hid (Nat.le_trans (Nat.le_trans cA.out.size hb4.size) hA.size);have De:Hid (Below ws.heap.size ws (w4.alloc (.cells #[Ew.wv (ra,rm,rc)] 42))):=hid (bst (bst cA.out hb4) hA);have cg:=hid hb4;clear hA hr4 hb4;go_wp2_with (first
       | (refine ay (Ew.tN (h:=(ra,rm,rc)) w4.heap.size rfl ⟨_,rfl,rfl⟩) ?_)
       | (refine Ew.oh mw.out (Rg.Own.new w4 _ _) ke.out s8.out dd.out rfl ⟨_,_,rfl,rfl,rfl⟩ ?_; intro v' w5 ej hg5 _; have ew:=hid ej; have ae:Hid (Below ws.heap.size ws w5):=hid (De.out.grown hg5 dd.out (λg hg=>(mw.out.lt g hg).1)); clear ej hg5))
      have ju:=hid (g9.out.below (bst ae.out (show Below w5.heap.size w5 w5.drew from below_drewN aG 1)));have J6:Hid (w5.drew.rangeAt b (off+j*32) (k.map λb=>Value.int .u8 b.toNat)):=hid (λi v hv=>aV (bst ae.out (show Below w5.heap.size w5 w5.drew from below_drewN aG 1)) (ui.out i v hv));clear ww ui mw ke dd De cg HR cA;refine wp_region_noPanic ?_
      refine wp_region_held_drew (S:=λwz=>wz.cell? ⟨gw,0,none⟩=some (.pointer pw)/\wz.rangeAt b (off+j*32) (k.map λb=>Value.int .u8 b.toNat)) (by kernel_rfl) (⟨ju.out.cell (g:=gw) (p:=pw) (t:=wT) (by simp),J6.out⟩) (λhld=>?_);refine ah 0 ?_ (hy:=by intro wz hSw; (refine aT hSw.1 ?_; exact ⟨_,rfl,rfl⟩));try simp only [Act.put,ak]
      refine ah 1 ?_;try simp only [Act.put,ak]
      refine ah 2 ?_;try simp only [Act.put,ak]
      refine ah 3 ?_;try simp only [Act.put,ak]
      refine ah 4 ?_ (hy:=by intro wz hSw; (refine cZ uk.out hSw.2 ?_; exact ⟨_,rfl,rfl⟩));try simp only [Act.put,ak]
      refine aj 5 λK hK=>?_;go_simp;go_at_call 14
      (with_reducible refine (AW.out _ _ pw k Q4.out ju.out.l.i (ju.out.tr (g:=gw) (p:=pw) (t:=wT) (by simp))).mono ?_)
      rintro e w6 ⟨rfl,hb6⟩;have IM:Hid (w6.cell? ⟨gw,0,none⟩=some (.pointer pw)/\w6.rangeAt b (off+j*32) (k.map λb=>Value.int .u8 b.toNat)):=hid ⟨aV hb6 hld.1,λi v hv=>aV hb6 (hld.2 i v hv)⟩;have lw:=hid (ew.out.below (bst (show Below w5.heap.size w5 w5.drew from below_drewN aG 1) hb6));have cq:=hid (bst ae.out (bst (show Below w5.heap.size w5 w5.drew from below_drewN aG 1) hb6));clear hb6;refine hK.out _ _ (IM.out) (λhld=>?_);clear hK K;try simp only [Act.put,ak]
      refine ah 6 ?_;try simp only [Act.put,ak]
      refine aA ?_;go_wp2;go_roundw
      case rel=>exact ⟨j+1,_,rfl,by omega,by go_num,by rw [ky.out]; exact lw,cq⟩
      case measure=>simp [intOf]; omega
     .obtain rfl:j=kn:=by omega
      have HR':Hid (Ew.kY ws.heap.size wr v (ks.map bT)):=hid (by
       have:=HR.out;rwa [List.take_of_length_le (by rw [List.length_map,J5.out]; exact aF)] at this)
      obtain ⟨ya,yc,rfl,hy⟩:=HR'.out.done;have hlt':=HR'.out.lt;have DE:Hid (Ew.iM wr ya (ks.map bT).length yc (ks.map bT)/\∀ ad,ya=some ad->M.at_ ad.block=none):=hid ⟨hy,λad e=>g9.out.l.i.out (hlt' ad.block (by rw [e]; rfl)).1⟩;have HA:=hid (g9.out.below cA.out);have qu:Hid ((ks.map bT).length<=1000):=hid (by rw [List.length_map,J5.out]; have:=tn.out; omega);have mB:=hid (λW hI=>Bk.out W ia ic hI);have sa:=hid (λW hI hW=>Bm.out W ia ic ya (ks.map bT).length yc hI hW qu.out);clear hy hlt' HR HR' cA g9 Bk Bm AW hlt hj
      generalize ks.map bT=WS at *
      go_wp2_with fail
      try simp only [Act.put,ak]
      go_cut [111] (λv wx=>v = .bool false/\Hid (Sd w M wx gk Kq ka j kc2 ks ia ic I [(gw,pw,wT),(gd,pd,dT),(gt,pt,t)]))
      case first =>
       have HS:Hid (∀ M wz S,Zd w M wz gk Kq ka j kc2 ks ia ic I [(gw,pw,wT),(gd,pd,dT),(gt,pt,t)] ya WS.length yc WS S->wz.cell? ⟨gw,0,none⟩=some (.pointer pw)/\wz.cell? ⟨gd,0,none⟩=some (.pointer pd)/\wz.cell? ⟨gt,0,none⟩=some (.pointer pt)):=hid (λM wz S h=>⟨h.a.cell (g:=gw) (p:=pw) (t:=wT) (by simp),h.a.cell (g:=gd) (p:=pd) (t:=dT) (by simp),h.a.cell (g:=gt) (p:=pt) (t:=t) (by simp)⟩)
       replace HA:Hid (Zd w M wr.drew gk Kq ka j kc2 ks ia ic I [(gw,pw,wT),(gd,pd,dT),(gt,pt,t)] ya WS.length yc WS []):=hid ⟨HA.out.below (show Below wr.heap.size wr wr.drew from below_drewN aG 1),DE.out.1.below (show Below wr.heap.size wr wr.drew from below_drewN aG 1),DE.out.2,λx hx=>(by cases hx)⟩;clear DE;refine wp_region_noPanic ?_
       refine wp_region_held_drew (S:=λwz=>wz.cell? ⟨gw,0,none⟩=some (.pointer pw)/\wz.cell? ⟨gd,0,none⟩=some (.pointer pd)/\wz.cell? ⟨gt,0,none⟩=some (.pointer pt)) (by kernel_rfl) (HS.out _ _ _ HA.out) (λhld=>?_);refine ah 0 ?_ (hy:=by intro wz hSw; (refine aT hSw.2.1 ?_; exact ⟨_,rfl,rfl⟩));try simp only [Act.put,ak]
       refine ah 2 ?_;try simp only [Act.put,ak]
       refine ah 3 ?_;try simp only [Act.put,ak]
       refine aj 1 λK hK=>?_;go_simp;go_at_call 8
       (with_reducible refine (HA.out.refs (eL.out _ _ _ HA.out.a.l.i (HA.out.a.tr (g:=gd) (p:=pd) (t:=dT) (by simp)) HA.out.a.l.t)).mono ?_)
       rintro e wf0 ⟨a0,n0,c0,rfl,HA⟩;refine hK.out _ _ (HS.out _ _ _ HA.out) (λhld=>?_);clear hK K;try simp only [Act.put,ak]
       refine aj 4 λK hK=>?_;go_simp;go_at_call 17
       (with_reducible refine (PP.out _).mono ?_)
       rintro e wf1 ⟨rfl,rfl⟩;refine hK.out _ _ (HS.out _ _ _ HA.out) (λhld=>?_);clear hK K;try simp only [Act.put,ak]
       refine aj 5 λK hK=>?_;go_simp;go_at_call 16
       (with_reducible refine (HA.out.Zm (mB.out _ HA.out.a.i)).mono ?_)
       rintro e wf2 ⟨a2,c2,rfl,HA⟩;refine hK.out _ _ (HS.out _ _ _ HA.out) (λhld=>?_);clear hK K;try simp only [Act.put,ak]
       refine aj 6 λK hK=>?_;go_simp;go_at_call 15
       (with_reducible refine (HA.out.says (zv.out _ _ _ _ _ _ _ _ HA.out.two.1 HA.out.two.2)).mono ?_)
       rintro e W1 ⟨rfl,HA⟩;refine hK.out _ _ (HS.out _ _ _ HA.out) (λhld=>?_);clear hK K;try simp only [Act.put,ak]
       refine ah 7 ?_;try simp only [Act.put,ak]
       refine ah 8 ?_;try simp only [Act.put,ak]
       refine ah 9 ?_ (hy:=by intro wz hSw; (refine aT hSw.1 ?_; exact ⟨_,rfl,rfl⟩));try simp only [Act.put,ak]
       refine ah 11 ?_;try simp only [Act.put,ak]
       refine ah 12 ?_;try simp only [Act.put,ak]
       refine aj 10 λK hK=>?_;go_simp;go_at_call 8
       (with_reducible refine (HA.out.refs (kx.out _ _ _ HA.out.a.l.i (HA.out.a.tr (g:=gw) (p:=pw) (t:=wT) (by simp)) HA.out.a.l.t)).mono ?_)
       rintro e W2 ⟨a4,n4,c4,rfl,HA⟩;refine hK.out _ _ (HS.out _ _ _ HA.out) (λhld=>?_);clear hK K;try simp only [Act.put,ak]
       refine aj 13 λK hK=>?_;go_simp;go_at_call 18
       (with_reducible refine (HA.out.Zm (sa.out _ HA.out.a.i HA.out.p)).mono ?_)
       rintro e W3 ⟨a5,c5,rfl,HA⟩;refine hK.out _ _ (HS.out _ _ _ HA.out) (λhld=>?_);clear hK K;try simp only [Act.put,ak]
       refine aj 14 λK hK=>?_;go_simp;go_at_call 15
       (with_reducible refine (HA.out.says (zv.out _ _ _ _ _ _ _ _ HA.out.two.1 HA.out.two.2)).mono ?_)
       rintro e W4 ⟨rfl,HA⟩;refine hK.out _ _ (HS.out _ _ _ HA.out) (λhld=>?_);clear hK K;try simp only [Act.put,ak]
       refine ah 15 ?_;try simp only [Act.put,ak]
       refine ah 16 ?_;try simp only [Act.put,ak]
       refine ah 17 ?_;try simp only [Act.put,ak]
       refine ah 18 ?_ (hy:=by intro wz hSw; (refine aT hSw.2.1 ?_; exact ⟨_,rfl,rfl⟩));try simp only [Act.put,ak]
       refine ah 20 ?_ (hy:=by intro wz hSw; (refine aT hSw.2.2 ?_; exact ⟨_,rfl,rfl⟩));try simp only [Act.put,ak]
       refine aj 19 λK hK=>?_;go_simp;go_at_call 19
       (with_reducible refine (HA.out.tells (PQ.out _ _ _ HA.out.a.l.i (HA.out.a.tr (g:=gd) (p:=pd) (t:=dT) (by simp)) HA.out.a.l.t)).mono ?_)
       rintro e wf7 ⟨rfl,HA⟩;refine hK.out _ _ (HS.out _ _ _ HA.out) (λhld=>?_);clear hK K;try simp only [Act.put,ak]
       refine aj 21 λK hK=>?_;go_simp;go_at_call 19
       (with_reducible refine (HA.out.tells (xd.out _ _ _ HA.out.a.l.i (HA.out.a.tr (g:=gt) (p:=pt) (t:=t) (by simp)) HA.out.a.l.t)).mono ?_)
       rintro e wf8 ⟨rfl,HA⟩;refine hK.out _ _ (HS.out _ _ _ HA.out) (λhld=>?_);clear hK K;try simp only [Act.put,ak]
       refine ah 22 ?_;try simp only [Act.put,ak]
       refine ah 23 ?_;try simp only [Act.put,ak]
       refine ah 24 ?_;try simp only [Act.put,ak]
       refine ah 25 ?_ (hy:=by intro wz hSw; (refine aT hSw.1 ?_; exact ⟨_,rfl,rfl⟩));try simp only [Act.put,ak]
       refine ah 27 ?_ (hy:=by intro wz hSw; (refine aT hSw.2.2 ?_; exact ⟨_,rfl,rfl⟩));try simp only [Act.put,ak]
       refine aj 26 λK hK=>?_;go_simp;go_at_call 19
       (with_reducible refine (HA.out.tells (PR.out _ _ _ HA.out.a.l.i (HA.out.a.tr (g:=gw) (p:=pw) (t:=wT) (by simp)) HA.out.a.l.t)).mono ?_)
       rintro e wf9 ⟨rfl,HA⟩;refine hK.out _ _ (HS.out _ _ _ HA.out) (λhld=>?_);clear hK K;try simp only [Act.put,ak]
       refine aj 28 λK hK=>?_;go_simp;go_at_call 19
       (with_reducible refine (HA.out.tells (xd.out _ _ _ HA.out.a.l.i (HA.out.a.tr (g:=gt) (p:=pt) (t:=t) (by simp)) HA.out.a.l.t)).mono ?_)
       rintro e Wa ⟨rfl,HA⟩;refine hK.out _ _ (HS.out _ _ _ HA.out) (λhld=>?_);clear hK K;try simp only [Act.put,ak]
       refine ah 29 ?_;try simp only [Act.put,ak]
       refine ah 30 ?_;try simp only [Act.put,ak]
       refine aA ?_;go_wp2_with fail
       go_meet
       exact ⟨rfl,hid HA.out.a⟩
      case rest =>
       obtain ⟨rfl,HA2⟩:=hcut;obtain ⟨pT,J7⟩:=au wc
       subst J7;clear HA DE qu mB sa PP zv xd PQ PR eL kx;go_wp2_with (first
         | (refine ay (aT (HA2.out.cell (g:=gt) (p:=pt) (t:=t) (by simp)) ⟨_,rfl,rfl⟩) ?_)
         | (refine ay (aT (HA2.out.cell (g:=gd) (p:=pd) (t:=dT) (by simp)) ⟨_,rfl,rfl⟩) ?_)
         | (refine ay (aT (HA2.out.cell (g:=gw) (p:=pw) (t:=wT) (by simp)) ⟨_,rfl,rfl⟩) ?_)
         | (refine ay (bO cH.out HA2.out.k.2 ⟨_,rfl,rfl⟩) ?_))
       refine (sb.out _ _ pt HA2.out.l.i (HA2.out.tr (g:=gt) (p:=pt) (t:=t) (by simp))).mono ?_;rintro e w6 ⟨rfl,hb6⟩;have g9:=hid (HA2.out.below hb6);clear hb6 HA2 sb;go_wp2_with (first
         | (refine ay (aT (g9.out.cell (g:=gt) (p:=pt) (t:=t) (by simp)) ⟨_,rfl,rfl⟩) ?_)
         | (refine ay (aT (g9.out.cell (g:=gd) (p:=pd) (t:=dT) (by simp)) ⟨_,rfl,rfl⟩) ?_)
         | (refine ay (aT (g9.out.cell (g:=gw) (p:=pw) (t:=wT) (by simp)) ⟨_,rfl,rfl⟩) ?_)
         | (refine ay (bO cH.out g9.out.k.2 ⟨_,rfl,rfl⟩) ?_))
       refine (PT.out _ _ pd g9.out.l.i (g9.out.tr (g:=gd) (p:=pd) (t:=dT) (by simp))).mono ?_;rintro e w7 ⟨rfl,cP⟩;have fX:=hid (g9.out.below cP);clear cP g9 PT;obtain ⟨⟨hc8,hd⟩,⟨_,hw⟩⟩:=By.out;have hcb:(c==8)=false:=by simp [hc8]
       have th:=hid hw;clear hw By;rcases hd with ⟨hdv,hdn⟩ | ⟨hdv,hdn⟩
       .rw [hdv];rw [hdn] at eC;clear hdv hdn;go_wp2_with (first
         | (refine ay (aT (fX.out.cell (g:=gt) (p:=pt) (t:=t) (by simp)) ⟨_,rfl,rfl⟩) ?_)
         | (refine ay (aT (fX.out.cell (g:=gd) (p:=pd) (t:=dT) (by simp)) ⟨_,rfl,rfl⟩) ?_)
         | (refine ay (aT (fX.out.cell (g:=gw) (p:=pw) (t:=wT) (by simp)) ⟨_,rfl,rfl⟩) ?_)
         | (refine ay (bO cH.out fX.out.k.2 ⟨_,rfl,rfl⟩) ?_))
        refine (DD.out _ _ pw fX.out.l.i (fX.out.tr (g:=gw) (p:=pw) (t:=wT) (by simp))).mono ?_;rintro e w8 ⟨rfl,cJ⟩;have HA:=hid (fX.out.below cJ);clear cJ fX DD;rcases th.out with ⟨hwv,_⟩ | ⟨hwv,_⟩
        .rw [hwv];clear hwv th;go_wp2_with fail
         refine (uw _ HA.out.l.t).mono ?_;rintro e w9 ⟨rfl,bj⟩;have cQ:=hid (HA.out.below bj);clear bj HA;go_wp2_with (first
          | (refine Rg.runW (by rfl) _ _ (aT (cQ.out.cell (g:=gd) (p:=pd) (t:=dT) (by simp)) ⟨_,rfl,rfl⟩) ?_)
          | (refine Rg.runW (by rfl) _ _ (bO cH.out cQ.out.k.2 ⟨_,rfl,rfl⟩) ?_)
          | (refine ay (aT (cQ.out.cell (g:=gd) (p:=pd) (t:=dT) (by simp)) ⟨_,rfl,rfl⟩) ?_)
          | (refine ay (bO cH.out cQ.out.k.2 ⟨_,rfl,rfl⟩) ?_))
         refine (eC.out _ _ pd cQ.out.l.i (cQ.out.tr (g:=gd) (p:=pd) (t:=dT) (by simp))).mono ?_;rintro e wa ⟨rfl,hba⟩;have ul:=hid (cQ.out.below hba).l.b;clear hba cQ;go_wp2;go_ret;exact ⟨by first | rfl | (show Ending.returned (Value.bool (c != 8))=_; rw [show (c != 8)=true by simp [hc8]]),ul.out⟩
        .rw [hwv];clear hwv th;go_wp2_with fail
         refine (uw _ HA.out.l.t).mono ?_;rintro e w9 ⟨rfl,bj⟩;have cQ:=hid (HA.out.below bj);clear bj HA;go_wp2_with (first
          | (refine Rg.runW (by rfl) _ _ (aT (cQ.out.cell (g:=gd) (p:=pd) (t:=dT) (by simp)) ⟨_,rfl,rfl⟩) ?_)
          | (refine Rg.runW (by rfl) _ _ (bO cH.out cQ.out.k.2 ⟨_,rfl,rfl⟩) ?_)
          | (refine ay (aT (cQ.out.cell (g:=gd) (p:=pd) (t:=dT) (by simp)) ⟨_,rfl,rfl⟩) ?_)
          | (refine ay (bO cH.out cQ.out.k.2 ⟨_,rfl,rfl⟩) ?_))
         refine (eC.out _ _ pd cQ.out.l.i (cQ.out.tr (g:=gd) (p:=pd) (t:=dT) (by simp))).mono ?_;rintro e wa ⟨rfl,hba⟩;have ul:=hid (cQ.out.below hba).l.b;clear hba cQ;go_wp2;go_ret;exact ⟨by first | rfl | (show Ending.returned (Value.bool (c != 8))=_; rw [show (c != 8)=true by simp [hc8]]),ul.out⟩
       .rw [hdv];rw [hdn] at eC;clear hdv hdn;go_wp2_with (first
         | (refine ay (aT (fX.out.cell (g:=gt) (p:=pt) (t:=t) (by simp)) ⟨_,rfl,rfl⟩) ?_)
         | (refine ay (aT (fX.out.cell (g:=gd) (p:=pd) (t:=dT) (by simp)) ⟨_,rfl,rfl⟩) ?_)
         | (refine ay (aT (fX.out.cell (g:=gw) (p:=pw) (t:=wT) (by simp)) ⟨_,rfl,rfl⟩) ?_)
         | (refine ay (bO cH.out fX.out.k.2 ⟨_,rfl,rfl⟩) ?_))
        refine (DD.out _ _ pw fX.out.l.i (fX.out.tr (g:=gw) (p:=pw) (t:=wT) (by simp))).mono ?_;rintro e w8 ⟨rfl,cJ⟩;have HA:=hid (fX.out.below cJ);clear cJ fX DD;rcases th.out with ⟨hwv,_⟩ | ⟨hwv,_⟩
        .rw [hwv];clear hwv th;go_wp2_with fail
         refine (uw _ HA.out.l.t).mono ?_;rintro e w9 ⟨rfl,bj⟩;have cQ:=hid (HA.out.below bj);clear bj HA;go_wp2_with (first
          | (refine Rg.runW (by rfl) _ _ (aT (cQ.out.cell (g:=gd) (p:=pd) (t:=dT) (by simp)) ⟨_,rfl,rfl⟩) ?_)
          | (refine Rg.runW (by rfl) _ _ (bO cH.out cQ.out.k.2 ⟨_,rfl,rfl⟩) ?_)
          | (refine ay (aT (cQ.out.cell (g:=gd) (p:=pd) (t:=dT) (by simp)) ⟨_,rfl,rfl⟩) ?_)
          | (refine ay (bO cH.out cQ.out.k.2 ⟨_,rfl,rfl⟩) ?_))
         refine (eC.out _ _ pd cQ.out.l.i (cQ.out.tr (g:=gd) (p:=pd) (t:=dT) (by simp))).mono ?_;rintro e wa ⟨rfl,hba⟩;have ul:=hid (cQ.out.below hba).l.b;clear hba cQ;go_wp2;go_ret;exact ⟨by first | rfl | (show Ending.returned (Value.bool (c != 8))=_; rw [show (c != 8)=true by simp [hc8]]),ul.out⟩
        .rw [hwv];clear hwv th;go_wp2_with fail
         refine (uw _ HA.out.l.t).mono ?_;rintro e w9 ⟨rfl,bj⟩;have cQ:=hid (HA.out.below bj);clear bj HA;go_wp2_with (first
          | (refine Rg.runW (by rfl) _ _ (aT (cQ.out.cell (g:=gd) (p:=pd) (t:=dT) (by simp)) ⟨_,rfl,rfl⟩) ?_)
          | (refine Rg.runW (by rfl) _ _ (bO cH.out cQ.out.k.2 ⟨_,rfl,rfl⟩) ?_)
          | (refine ay (aT (cQ.out.cell (g:=gd) (p:=pd) (t:=dT) (by simp)) ⟨_,rfl,rfl⟩) ?_)
          | (refine ay (bO cH.out cQ.out.k.2 ⟨_,rfl,rfl⟩) ?_))
         refine (eC.out _ _ pd cQ.out.l.i (cQ.out.tr (g:=gd) (p:=pd) (t:=dT) (by simp))).mono ?_;rintro e wa ⟨rfl,hba⟩;have ul:=hid (cQ.out.below hba).l.b;clear hba cQ;go_wp2;go_ret;exact ⟨by first | rfl | (show Ending.returned (Value.bool (c != 8))=_; rw [show (c != 8)=true by simp [hc8]]),ul.out⟩
end Sx
end
end Go.Proofs.YtlcplcgigjagpaaGreatDoor
