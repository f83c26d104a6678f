/-
 VerifyAny: its walk.
-/
import Derived.Test.YtokaiemgjngcoaaGreatDoorVy19
import Derived.Test.YtokaiemgjngcoaaGreatDoorVy25
import Derived.LaidMore
import Derived.ShutString
import Derived.Stop.Joined
open Go.Lib (hid)
open Go.Proofs.Tryz
set_option linter.unusedSimpArgs false
set_option linter.unusedVariables false
set_option maxHeartbeats 40000000
set_option maxRecDepth 100000
namespace Go.Proofs.YtokaiemgjngcoaaGreatDoor
variable {a:aL} {W:World} {P:Program} {v:Value} {base:Nat}
section
open Go.RowKit
namespace Tm
open Tr Ni Pk Ky No Rf Rl
open Sm (Tab)
theorem Nj {w:World} {n cap:Nat} {xs:List aM} (h:IV w a n cap xs):lK w a n cap xs/\∀ s∈xs,s.size<=maxLen:=by
 obtain ⟨h1,h2,h3,h4⟩:=h;refine ⟨⟨h1,h2,h3,λj hj=>?_⟩,λs hs=>?_⟩
 .obtain ⟨b,off,e1,e2,e3,_⟩:=h4 j hj;exact ⟨b,off,e1,e2,e3⟩
 .obtain ⟨j,hj,rfl⟩:=List.getElem_of_mem hs;obtain ⟨_,_,_,_,_,e4⟩:=h4 j (by omega);simpa [List.getD,hj] using e4
theorem Vo (s:pX):(sdV s=sdC eB false true s.2/\IK s = .tuple #[.string eB,.bool false,.int .i64 9]/\MS s = .tuple #[.string eB,.int .i64 9]/\uw s=9)\/
  (∃ v i x f,sdV s=sdC v i false s.2/\IK s = .tuple #[.string v,.bool i,.int .i64 0]/\MS s = .tuple #[.string v,.int .i64 x]/\((x:Int)==0)=i/\uw s=f/\((f:Int)==0) = !i):=by
 match s with
 | (none,u)=>exact .inl ⟨rfl,rfl,rfl,rfl⟩
 | (some none,u)=>exact .inr ⟨eB,false,9,0,rfl,rfl,rfl,rfl,rfl,rfl⟩
 | (some (some v),u)=>exact .inr ⟨v,true,0,9,rfl,rfl,rfl,rfl,rfl,rfl⟩
structure V15 (w0:World) (w:World) (r k:aN) (fa:aL) (fn fc:Nat) (xs:List aM):Prop where
 b:Below w0.heap.size w0 w
 t:Tab w
 r:Rg.Own w w0.heap.size (Sm.kc r) 23
 k:Rg.Own w (w0.heap.size+1) (kc k) 24
 t0:Tab w0
 s0:lK w0 fa fn fc xs
namespace V15
variable {w0 w w':World} {r k:aN} {fa:aL} {fn fc:Nat} {xs:List aM}
theorem s (h:V15 w0 w r k fa fn fc xs):lK w fa fn fc xs:=h.s0.below h.b
theorem below (h:V15 w0 w r k fa fn fc xs) (hb:Below w.heap.size w w'):V15 w0 w' r k fa fn fc xs:=⟨bst h.b hb,h.t.below hb h.t.pos,h.r.below hb,h.k.below hb,h.t0,h.s0⟩
theorem upd {g:Nat} (h:V15 w0 w r k fa fn fc xs) (hu:Rg.Upd w g w') (hg:w0.heap.size+2<=g):V15 w0 w' r k fa fn fc xs:=by
 have hb:=hu.below h.b (by omega);exact ⟨hb,h.t0.below hb h.t0.pos,h.r.upd hu (by omega),h.k.upd hu (by omega),h.t0,h.s0⟩
end V15
theorem Tj (r k:aN) (xs:List aM) (fa:aL) (fn fc:Nat) (w:World) (hr:r.length=32) (hk:k.length=32) (hS0:IV w fa fn fc xs) (hT:Tab w) :
  Calls prog 3 #[.agg (Sm.kc r),.agg (kc k),.slice fa fn fc] w λe w'=>e = .returned (.bool true)/\Below w.heap.size w w':=by
 obtain ⟨hS,hmx⟩:=Nj hS0;obtain ⟨w1,hw1,gm,hK1,hb1,_⟩:=AZ w r k;have yz:Hid (V15 w w1 r k fa fn fc xs):=hid ⟨hb1,hT.below hb1 hT.pos,gm,hK1,hT,hS⟩;have kO:=hid (PK xs fa fn fc w1 (hS.below hb1) hmx);have Pp:=hid GD;have HW:Hid (_=_):=hid hw1;have dg:=hid hr;have bj:=hid hk;obtain ⟨CK,xo⟩:=aA (kc k)
 obtain ⟨CR,xp⟩:=aA (Sm.kc r)
 have tb:=hid xo;have tc:=hid xp;clear hb1 gm hK1 hT hw1 hS0;cases ez:Bz xs with
 | false =>
  rw [ez] at kO;rw [xo,xp];rw [xo,xp] at HW;clear xo xp hS hr hk;go_enter func3,ntmps3;go_wp2_with fail
  rw [<-HW.out];refine kO.out.mono ?_;rintro e w2 ⟨rfl,hb2⟩;have V5:=hid (yz.out.below hb2);clear hb2 yz HW;go_wp2_with fail
  refine (Pp.out w2 V5.out.t).mono ?_;rintro e w3 ⟨rfl,hb3⟩;have YW:=hid (V5.out.below hb3);go_wp2;go_ret;exact ⟨rfl,YW.out.b⟩
 | true =>
  rw [ez] at kO;obtain ⟨hx7,Pr⟩:=Te ez;have hxs:∀ s∈xs,s.size<=900000:=λs hs=>Nat.le_trans (hx7 s hs) (by decide);have hfn:fn<=1000:=by rw [<-hS.len]; omega
  have xr:Hid (∀ W,V15 w W r k fa fn fc xs->Calls prog 8 #[.agg (Sm.kc r),.agg (kc k),.slice fa fn fc] W λe w'=>e = .returned (IK (eU xs r (bO k)))/\Below W.heap.size W w'):=hid (λW h=>AL xs r k fa fn fc W hr hk h.s hxs hfn h.t);have sT:Hid (∀ W,V15 w W r k fa fn fc xs->Calls prog 11 #[.agg (Sm.kc r),.agg (kc k),.slice fa fn fc] W λe w'=>e = .returned (MS (eU xs r (bO k)))/\Below W.heap.size W w'):=hid (λW h=>GI xs r k fa fn fc W hr hk h.s hxs hfn h.t)
  have eo:Hid (∀ W,V15 w W r k fa fn fc xs->Calls prog 12 #[.agg (Sm.kc r),.agg (kc k),.slice fa fn fc] W λe w'=>e = .returned (.int .i64 (uw (eU xs r (bO k))))/\Below W.heap.size W w'):=hid (λW h=>tu xs r k fa fn fc W hr hk h.s hxs hfn h.t);have I3:Hid (∀ W,V15 w W r k fa fn fc xs->Calls prog 13 #[.agg (Sm.kc r),.agg (kc k),.slice fa fn fc] W λe w'=>e = .returned (.int .i64 (eU xs r (bO k)).2)/\Below W.heap.size W w'):=hid (λW h=>Dz xs r k fa fn fc W hr hk h.s hxs hfn h.t)
  have fY:Hid (∀ W,Calls prog 10 #[.agg (kc k)] W λe w'=>∃ qa qn qc,e = .returned (.slice qa qn qc)/\bf w' qa qn qc (bO k)/\Below W.heap.size W w'):=hid (λW=>(OE k hk W).mono λ_ _ ⟨qa,qn,qc,he,hq,hb⟩=>⟨qa,qn,qc,he,hq.1,hb⟩)
  have gr:Hid (∀ W qa qn qc,V15 w W r k fa fn fc xs->bf W qa qn qc (bO k)->Calls prog 9 #[.agg (Sm.kc r),.slice qa qn qc,.slice fa fn fc] W λe w'=>e = .returned (.agg (sdV (eU xs r (bO k))))/\Below W.heap.size W w'):=hid (λW qa qn qc h hq=>Ta xs hxs fa fn fc r hr (bO k) (zI k) (by rw [fZ k hk]; exact aH) qa qn qc W h.s hq);obtain ⟨S,hSS⟩:=aA (eU xs r (bO k))
  rw [hSS] at xr sT eo I3 gr;obtain ⟨Q,hQ⟩:=aA (bO k)
  rw [hQ] at fY gr;rw [xo,xp];rw [xo,xp] at HW;clear ez hx7 Pr hSS hQ xo xp hxs hmx hS hr hk hfn;obtain ⟨u,hu⟩:=aA S.2
  have hall:=Vo S;rw [hu] at I3 hall;rcases hall with ⟨h1,h2,h3,h4⟩ | ⟨v,i,x,f,h1,h2,h3,h4,h5,h6⟩
  .rw [h1] at gr;rw [h2] at xr;rw [h3] at sT;rw [h4] at eo;clear h1 h2 h3 h4 hu;go_enter func3,ntmps3;go_wp2_with fail
   rw [<-HW.out];refine kO.out.mono ?_;rintro e w2 ⟨rfl,hb2⟩;have HV:=hid (yz.out.below hb2);clear hb2 yz HW kO;go_wp2_with (first
    | (refine Rg.run rfl (.agg CR) _ (by rw [<-tc.out]; exact Sm.cu _ _ _ w.heap.size r dg.out ⟨_,rfl,rfl⟩ HV.out.r) ?_)
    | (refine Rg.run rfl (.agg CK) _ (by rw [<-tb.out]; exact bE bj.out HV.out.k.2 ⟨_,rfl,rfl⟩) ?_))
   rw [<-tc.out,<-tb.out];refine (xr.out w2 HV.out).mono ?_;rintro e w3 ⟨rfl,hb3⟩;replace HV:=hid (HV.out.below hb3);clear hb3;go_upto_region 4 with fail
   go_cut [10] (λv10 wx=>∃ g:Nat,v10 = .pointer (some ⟨g,0,none⟩)/\Hid (V15 w wx r k fa fn fc xs)/\Hid (Rg.Own wx g (sdC eB false true u) 33)/\w.heap.size+2<=g)
   case first =>
    replace HV:=hid (HV.out.below (aI.drew));refine aD (S:=λw'=>Rg.Own w' w.heap.size (Sm.kc r) 23/\Rg.Own w' (w.heap.size+1) (kc k) 24) (⟨HV.out.r,HV.out.k⟩) λhld=>?_;refine aj 0 ?_ (hy:=by intro wz hSw; (refine Sm.cu _ _ _ w.heap.size r dg.out ?_ hSw.1; exact ⟨_,rfl,rfl⟩));try simp only [Act.put,au]
    refine aj 1 ?_ (hy:=by intro wz hSw; (refine bE bj.out hSw.2.2 ?_; exact ⟨_,rfl,rfl⟩));try simp only [Act.put,au]
    refine aj 3 ?_;try simp only [Act.put,au]
    refine wpAnyH_ready (rs:=[2,5]) (by kernel_rfl) (by simp) ?_;refine Rg.readyC (i:=2) rfl (λK hK=>?_) (Rg.readyL (i:=5) rfl (λK hK=>?_))
    .go_simp;go_at_call 10
     (with_reducible refine (fY.out _).mono ?_)
     rintro e y1 ⟨qa,qn,qc,rfl,hq,hb⟩;replace HV:=hid (HV.out.below hb);have HQ:=hid hq;clear hq;clear hb;refine hK.out _ _ (⟨HV.out.r,HV.out.k⟩) λhld=>?_;clear hK K;try simp only [Act.put,au]
     refine wpAnyH_ready (rs:=[4,5]) (by kernel_rfl) (by simp) ?_;refine Rg.readyC (i:=4) rfl (λK hK=>?_) (Rg.readyL (i:=5) rfl (λK hK=>?_))
     .go_simp;go_at_call 9
      (with_reducible refine (gr.out _ qa qn qc HV.out HQ.out).mono ?_)
      rintro e y2 ⟨rfl,hb⟩;replace HV:=hid (HV.out.below hb);clear hb;refine hK.out _ _ (⟨HV.out.r,HV.out.k⟩) λhld=>?_;clear hK K;try simp only [Act.put,au]
      refine ak 5 λK hK=>?_;refine Rg.meetAlloc (by rfl) (dz _ _ _ _ rfl rfl) ?_;rintro y3 g hge jn hbx;have hgw:w.heap.size+2<=g:=by rw [hge]; have:=HV.out.k.1; omega
      have dc:=hid jn;replace HV:=hid (HV.out.below hbx);clear hge jn hbx;refine hK.out _ _ (⟨HV.out.r,HV.out.k⟩) λhld=>?_;clear hK K;try simp only [Act.put,au]
      refine ak 6 λK hK=>?_;refine Rg.meetStore (by rfl) dc.out 33 (sdC eB false true u) ⟨_,_,rfl,rfl,rfl⟩ oJ rfl (qm _ _ _ _) ?_;intro y4 jp js;have HG:=hid jp;replace HV:=hid (HV.out.upd js hgw);clear jp js dc;refine hK.out _ _ (⟨HV.out.r,HV.out.k⟩) λhld=>?_;clear hK K;try simp only [Act.put,au]
      refine aC ?_;clear hld;go_wp2;go_meet
      exact ⟨g,rfl,HV,HG,hgw⟩
     .refine Rg.meetAlloc (by rfl) (dz _ _ _ _ rfl rfl) ?_;rintro y5 g hge jn hbx;have hgw:w.heap.size+2<=g:=by rw [hge]; have:=HV.out.k.1; omega
      have dc:=hid jn;replace HV:=hid (HV.out.below hbx);replace HQ:=hid (HQ.out.below hbx);clear hge jn hbx;refine hK.out _ _ (⟨HV.out.r,HV.out.k⟩) λhld=>?_;clear hK K;try simp only [Act.put,au]
      refine ak 4 λK hK=>?_;go_simp;go_at_call 9
      (with_reducible refine (gr.out _ qa qn qc HV.out HQ.out).mono ?_)
      rintro e y6 ⟨rfl,hb⟩;replace HV:=hid (HV.out.below hb);replace dc:=hid (dc.out.below hb);clear hb;refine hK.out _ _ (⟨HV.out.r,HV.out.k⟩) λhld=>?_;clear hK K;try simp only [Act.put,au]
      refine ak 6 λK hK=>?_;refine Rg.meetStore (by rfl) dc.out 33 (sdC eB false true u) ⟨_,_,rfl,rfl,rfl⟩ oJ rfl (qm _ _ _ _) ?_;intro y7 jp js;have HG:=hid jp;replace HV:=hid (HV.out.upd js hgw);clear jp js dc;refine hK.out _ _ (⟨HV.out.r,HV.out.k⟩) λhld=>?_;clear hK K;try simp only [Act.put,au]
      refine aC ?_;clear hld;go_wp2;go_meet
      exact ⟨g,rfl,HV,HG,hgw⟩
    .refine Rg.meetAlloc (by rfl) (dz _ _ _ _ rfl rfl) ?_;rintro y8 g hge jn hbx;have hgw:w.heap.size+2<=g:=by rw [hge]; have:=HV.out.k.1; omega
     have dc:=hid jn;replace HV:=hid (HV.out.below hbx);clear hge jn hbx;refine hK.out _ _ (⟨HV.out.r,HV.out.k⟩) λhld=>?_;clear hK K;try simp only [Act.put,au]
     refine ak 2 λK hK=>?_;go_simp;go_at_call 10
     (with_reducible refine (fY.out _).mono ?_)
     rintro e y9 ⟨qa,qn,qc,rfl,hq,hb⟩;replace HV:=hid (HV.out.below hb);replace dc:=hid (dc.out.below hb);have HQ:=hid hq;clear hq;clear hb;refine hK.out _ _ (⟨HV.out.r,HV.out.k⟩) λhld=>?_;clear hK K;try simp only [Act.put,au]
     refine ak 4 λK hK=>?_;go_simp;go_at_call 9
     (with_reducible refine (gr.out _ qa qn qc HV.out HQ.out).mono ?_)
     rintro e Zu ⟨rfl,hb⟩;replace HV:=hid (HV.out.below hb);replace dc:=hid (dc.out.below hb);clear hb;refine hK.out _ _ (⟨HV.out.r,HV.out.k⟩) λhld=>?_;clear hK K;try simp only [Act.put,au]
     refine ak 6 λK hK=>?_;refine Rg.meetStore (by rfl) dc.out 33 (sdC eB false true u) ⟨_,_,rfl,rfl,rfl⟩ oJ rfl (qm _ _ _ _) ?_;intro Zv jp js;have HG:=hid jp;replace HV:=hid (HV.out.upd js hgw);clear jp js dc;refine hK.out _ _ (⟨HV.out.r,HV.out.k⟩) λhld=>?_;clear hK K;try simp only [Act.put,au]
     refine aC ?_;clear hld;go_wp2;go_meet
     exact ⟨g,rfl,HV,HG,hgw⟩
   case rest =>
    obtain ⟨g,rfl,HV,HG,hgw⟩:=hcut;clear xr fY gr;go_wp2_with (first
     | (refine Rg.run rfl (.agg CR) _ (by rw [<-tc.out]; exact Sm.cu _ _ _ w.heap.size r dg.out ⟨_,rfl,rfl⟩ HV.out.r) ?_)
     | (refine Rg.run rfl (.agg CK) _ (by rw [<-tb.out]; exact bE bj.out HV.out.k.2 ⟨_,rfl,rfl⟩) ?_))
    rw [<-tc.out,<-tb.out];refine (sT.out _ HV.out).mono ?_;rintro e w6 ⟨rfl,hb6⟩;replace HV:=hid (HV.out.below hb6);replace HG:=hid (HG.out.below hb6);have kr:w6.cell? ⟨g,2,none⟩=some (.bool true):=aV (j:=2) HG.out rfl;clear hb6;go_wp2_with fail
    replace HV:=hid (HV.out.below (aI.drew));replace HG:=hid (HG.out.below (aI.drew));clear kr;refine aD (S:=λw'=>Rg.Own w' w.heap.size (Sm.kc r) 23/\Rg.Own w' (w.heap.size+1) (kc k) 24/\Rg.Own w' g (sdC eB false true u) 33) (⟨HV.out.r,HV.out.k,HG.out⟩) λhld=>?_;refine ak 0 λK hK=>?_;go_simp;go_at_call 7
    (with_reducible refine (Pp.out _ HV.out.t).mono ?_)
    rintro e Zw ⟨rfl,hb⟩;replace HV:=hid (HV.out.below hb);replace HG:=hid (HG.out.below hb);clear hb;refine hK.out _ _ (⟨HV.out.r,HV.out.k,HG.out⟩) λhld=>?_;clear hK K;try simp only [Act.put,au]
    refine aj 1 ?_;try simp only [Act.put,au]
    refine aj 2 ?_;try simp only [Act.put,au]
    refine aj 3 ?_;try simp only [Act.put,au]
    refine aj 4 ?_;try simp only [Act.put,au]
    refine aj 5 ?_;try simp only [Act.put,au]
    refine aj 6 ?_;try simp only [Act.put,au]
    refine aj 7 ?_;try simp only [Act.put,au]
    refine aj 8 ?_;try simp only [Act.put,au]
    refine aj 9 ?_;try simp only [Act.put,au]
    refine aj 10 ?_;try simp only [Act.put,au]
    refine aj 11 ?_;try simp only [Act.put,au]
    refine aj 12 ?_;try simp only [Act.put,au]
    refine aj 13 ?_;try simp only [Act.put,au]
    refine aj 14 ?_;try simp only [Act.put,au]
    refine aj 15 ?_;try simp only [Act.put,au]
    refine aj 16 ?_;try simp only [Act.put,au]
    refine aj 17 ?_;try simp only [Act.put,au]
    refine aj 18 ?_;try simp only [Act.put,au]
    refine aj 19 ?_;try simp only [Act.put,au]
    refine aj 20 ?_;try simp only [Act.put,au]
    refine aj 21 ?_;try simp only [Act.put,au]
    refine aj 22 ?_ (hy:=by intro wz hSw; (refine Sm.cu _ _ _ w.heap.size r dg.out ?_ hSw.1; exact ⟨_,rfl,rfl⟩));try simp only [Act.put,au]
    refine aj 23 ?_ (hy:=by intro wz hSw; (refine bE bj.out hSw.2.1.2 ?_; exact ⟨_,rfl,rfl⟩));try simp only [Act.put,au]
    refine aj 24 ?_;try simp only [Act.put,au]
    refine ak 25 λK hK=>?_;go_simp;go_at_call 12
    (with_reducible refine (eo.out _ HV.out).mono ?_)
    rintro e y13 ⟨rfl,hb⟩;replace HV:=hid (HV.out.below hb);replace HG:=hid (HG.out.below hb);clear hb;refine hK.out _ _ (⟨HV.out.r,HV.out.k,HG.out⟩) λhld=>?_;clear hK K;try simp only [Act.put,au]
    refine aj 26 ?_;try simp only [Act.put,au]
    refine aj 27 ?_;try simp only [Act.put,au]
    refine aj 28 ?_;try simp only [Act.put,au]
    refine aj 29 ?_ (hy:=by intro wz hSw; (refine Sm.cu _ _ _ w.heap.size r dg.out ?_ hSw.1; exact ⟨_,rfl,rfl⟩));try simp only [Act.put,au]
    refine aj 30 ?_ (hy:=by intro wz hSw; (refine bE bj.out hSw.2.1.2 ?_; exact ⟨_,rfl,rfl⟩));try simp only [Act.put,au]
    refine aj 31 ?_;try simp only [Act.put,au]
    refine aj 33 ?_;try simp only [Act.put,au]
    refine aj 34 ?_ (hy:=by intro wz hSw; (have q0:=aV (j:=3) hSw.2.2 (show (sdC eB false true u)[3]? = some (.int .i64 u) from rfl); go_simp <;> with_reducible rfl));try simp only [Act.put,au]
    refine ak 32 λK hK=>?_;go_simp;go_at_call 13
    (with_reducible refine (I3.out _ HV.out).mono ?_)
    rintro e Zx ⟨rfl,hb⟩;replace HV:=hid (HV.out.below hb);replace HG:=hid (HG.out.below hb);clear hb;refine hK.out _ _ (⟨HV.out.r,HV.out.k,HG.out⟩) λhld=>?_;clear hK K;try simp only [Act.put,au]
    refine aj 35 ?_;try simp only [Act.put,au]
    refine aj 36 ?_;try simp only [Act.put,au]
    refine aj 37 ?_;try simp only [Act.put,au]
    refine aC ?_;clear hld;go_wp2;go_ret;exact ⟨rfl,HV.out.b⟩
  .rw [h1] at gr;rw [h2] at xr;rw [h3] at sT;rw [h5] at eo;clear h1 h2 h3 h5 hu;go_enter func3,ntmps3;go_wp2_with fail
   rw [<-HW.out];refine kO.out.mono ?_;rintro e w2 ⟨rfl,hb2⟩;have HV:=hid (yz.out.below hb2);clear hb2 yz HW kO;go_wp2_with (first
    | (refine Rg.run rfl (.agg CR) _ (by rw [<-tc.out]; exact Sm.cu _ _ _ w.heap.size r dg.out ⟨_,rfl,rfl⟩ HV.out.r) ?_)
    | (refine Rg.run rfl (.agg CK) _ (by rw [<-tb.out]; exact bE bj.out HV.out.k.2 ⟨_,rfl,rfl⟩) ?_))
   rw [<-tc.out,<-tb.out];refine (xr.out w2 HV.out).mono ?_;rintro e w3 ⟨rfl,hb3⟩;replace HV:=hid (HV.out.below hb3);clear hb3;go_upto_region 4 with fail
   go_cut [10] (λv10 wx=>∃ g:Nat,v10 = .pointer (some ⟨g,0,none⟩)/\Hid (V15 w wx r k fa fn fc xs)/\Hid (Rg.Own wx g (sdC v i false u) 33)/\w.heap.size+2<=g)
   case first =>
    replace HV:=hid (HV.out.below (aI.drew));refine aD (S:=λw'=>Rg.Own w' w.heap.size (Sm.kc r) 23/\Rg.Own w' (w.heap.size+1) (kc k) 24) (⟨HV.out.r,HV.out.k⟩) λhld=>?_;refine aj 0 ?_ (hy:=by intro wz hSw; (refine Sm.cu _ _ _ w.heap.size r dg.out ?_ hSw.1; exact ⟨_,rfl,rfl⟩));try simp only [Act.put,au]
    refine aj 1 ?_ (hy:=by intro wz hSw; (refine bE bj.out hSw.2.2 ?_; exact ⟨_,rfl,rfl⟩));try simp only [Act.put,au]
    refine aj 3 ?_;try simp only [Act.put,au]
    refine wpAnyH_ready (rs:=[2,5]) (by kernel_rfl) (by simp) ?_;refine Rg.readyC (i:=2) rfl (λK hK=>?_) (Rg.readyL (i:=5) rfl (λK hK=>?_))
    .go_simp;go_at_call 10
     (with_reducible refine (fY.out _).mono ?_)
     rintro e Zy ⟨qa,qn,qc,rfl,hq,hb⟩;replace HV:=hid (HV.out.below hb);have HQ:=hid hq;clear hq;clear hb;refine hK.out _ _ (⟨HV.out.r,HV.out.k⟩) λhld=>?_;clear hK K;try simp only [Act.put,au]
     refine wpAnyH_ready (rs:=[4,5]) (by kernel_rfl) (by simp) ?_;refine Rg.readyC (i:=4) rfl (λK hK=>?_) (Rg.readyL (i:=5) rfl (λK hK=>?_))
     .go_simp;go_at_call 9
      (with_reducible refine (gr.out _ qa qn qc HV.out HQ.out).mono ?_)
      rintro e Zz ⟨rfl,hb⟩;replace HV:=hid (HV.out.below hb);clear hb;refine hK.out _ _ (⟨HV.out.r,HV.out.k⟩) λhld=>?_;clear hK K;try simp only [Act.put,au]
      refine ak 5 λK hK=>?_;refine Rg.meetAlloc (by rfl) (dz _ _ _ _ rfl rfl) ?_;rintro ZA g hge jn hbx;have hgw:w.heap.size+2<=g:=by rw [hge]; have:=HV.out.k.1; omega
      have dc:=hid jn;replace HV:=hid (HV.out.below hbx);clear hge jn hbx;refine hK.out _ _ (⟨HV.out.r,HV.out.k⟩) λhld=>?_;clear hK K;try simp only [Act.put,au]
      refine ak 6 λK hK=>?_;refine Rg.meetStore (by rfl) dc.out 33 (sdC v i false u) ⟨_,_,rfl,rfl,rfl⟩ oJ rfl (qm _ _ _ _) ?_;intro ZB jp js;have HG:=hid jp;replace HV:=hid (HV.out.upd js hgw);clear jp js dc;refine hK.out _ _ (⟨HV.out.r,HV.out.k⟩) λhld=>?_;clear hK K;try simp only [Act.put,au]
      refine aC ?_;clear hld;go_wp2;go_meet
      exact ⟨g,rfl,HV,HG,hgw⟩
     .refine Rg.meetAlloc (by rfl) (dz _ _ _ _ rfl rfl) ?_;rintro ZC g hge jn hbx;have hgw:w.heap.size+2<=g:=by rw [hge]; have:=HV.out.k.1; omega
      have dc:=hid jn;replace HV:=hid (HV.out.below hbx);replace HQ:=hid (HQ.out.below hbx);clear hge jn hbx;refine hK.out _ _ (⟨HV.out.r,HV.out.k⟩) λhld=>?_;clear hK K;try simp only [Act.put,au]
      refine ak 4 λK hK=>?_;go_simp;go_at_call 9
      (with_reducible refine (gr.out _ qa qn qc HV.out HQ.out).mono ?_)
      rintro e y20 ⟨rfl,hb⟩;replace HV:=hid (HV.out.below hb);replace dc:=hid (dc.out.below hb);clear hb;refine hK.out _ _ (⟨HV.out.r,HV.out.k⟩) λhld=>?_;clear hK K;try simp only [Act.put,au]
      refine ak 6 λK hK=>?_;refine Rg.meetStore (by rfl) dc.out 33 (sdC v i false u) ⟨_,_,rfl,rfl,rfl⟩ oJ rfl (qm _ _ _ _) ?_;intro y21 jp js;have HG:=hid jp;replace HV:=hid (HV.out.upd js hgw);clear jp js dc;refine hK.out _ _ (⟨HV.out.r,HV.out.k⟩) λhld=>?_;clear hK K;try simp only [Act.put,au]
      refine aC ?_;clear hld;go_wp2;go_meet
      exact ⟨g,rfl,HV,HG,hgw⟩
    .refine Rg.meetAlloc (by rfl) (dz _ _ _ _ rfl rfl) ?_;rintro y22 g hge jn hbx;have hgw:w.heap.size+2<=g:=by rw [hge]; have:=HV.out.k.1; omega
     have dc:=hid jn;replace HV:=hid (HV.out.below hbx);clear hge jn hbx;refine hK.out _ _ (⟨HV.out.r,HV.out.k⟩) λhld=>?_;clear hK K;try simp only [Act.put,au]
     refine ak 2 λK hK=>?_;go_simp;go_at_call 10
     (with_reducible refine (fY.out _).mono ?_)
     rintro e y23 ⟨qa,qn,qc,rfl,hq,hb⟩;replace HV:=hid (HV.out.below hb);replace dc:=hid (dc.out.below hb);have HQ:=hid hq;clear hq;clear hb;refine hK.out _ _ (⟨HV.out.r,HV.out.k⟩) λhld=>?_;clear hK K;try simp only [Act.put,au]
     refine ak 4 λK hK=>?_;go_simp;go_at_call 9
     (with_reducible refine (gr.out _ qa qn qc HV.out HQ.out).mono ?_)
     rintro e y24 ⟨rfl,hb⟩;replace HV:=hid (HV.out.below hb);replace dc:=hid (dc.out.below hb);clear hb;refine hK.out _ _ (⟨HV.out.r,HV.out.k⟩) λhld=>?_;clear hK K;try simp only [Act.put,au]
     refine ak 6 λK hK=>?_;refine Rg.meetStore (by rfl) dc.out 33 (sdC v i false u) ⟨_,_,rfl,rfl,rfl⟩ oJ rfl (qm _ _ _ _) ?_;intro y25 jp js;have HG:=hid jp;replace HV:=hid (HV.out.upd js hgw);clear jp js dc;refine hK.out _ _ (⟨HV.out.r,HV.out.k⟩) λhld=>?_;clear hK K;try simp only [Act.put,au]
     refine aC ?_;clear hld;go_wp2;go_meet
     exact ⟨g,rfl,HV,HG,hgw⟩
   case rest =>
    obtain ⟨g,rfl,HV,HG,hgw⟩:=hcut;clear xr fY gr;go_wp2_with (first
     | (refine Rg.run rfl (.agg CR) _ (by rw [<-tc.out]; exact Sm.cu _ _ _ w.heap.size r dg.out ⟨_,rfl,rfl⟩ HV.out.r) ?_)
     | (refine Rg.run rfl (.agg CK) _ (by rw [<-tb.out]; exact bE bj.out HV.out.k.2 ⟨_,rfl,rfl⟩) ?_))
    rw [<-tc.out,<-tb.out];refine (sT.out _ HV.out).mono ?_;rintro e w6 ⟨rfl,hb6⟩;replace HV:=hid (HV.out.below hb6);replace HG:=hid (HG.out.below hb6);have kr:w6.cell? ⟨g,2,none⟩=some (.bool false):=aV (j:=2) HG.out rfl;clear hb6;go_wp2_with fail
    replace HV:=hid (HV.out.below (aI.drew));replace HG:=hid (HG.out.below (aI.drew));clear kr;refine aD (S:=λw'=>Rg.Own w' w.heap.size (Sm.kc r) 23/\Rg.Own w' (w.heap.size+1) (kc k) 24/\Rg.Own w' g (sdC v i false u) 33) (⟨HV.out.r,HV.out.k,HG.out⟩) λhld=>?_;refine ak 0 λK hK=>?_;go_simp;go_at_call 7
    (with_reducible refine (Pp.out _ HV.out.t).mono ?_)
    rintro e ZD ⟨rfl,hb⟩;replace HV:=hid (HV.out.below hb);replace HG:=hid (HG.out.below hb);clear hb;refine hK.out _ _ (⟨HV.out.r,HV.out.k,HG.out⟩) λhld=>?_;clear hK K;try simp only [Act.put,au]
    refine aj 1 ?_;try simp only [Act.put,au]
    refine aj 2 ?_;try simp only [Act.put,au]
    refine aj 3 ?_;try simp only [Act.put,au]
    refine aj 4 ?_ (hy:=by intro wz hSw; (have q0:=aV (j:=0) hSw.2.2 (show (sdC v i false u)[0]? = some (.string v) from rfl); go_simp <;> with_reducible rfl));try simp only [Act.put,au]
    refine aj 5 ?_;try simp only [Act.put,au]
    refine aj 6 ?_;try simp only [Act.put,au]
    refine aj 7 ?_;try simp only [Act.put,au]
    refine aj 8 ?_;try simp only [Act.put,au]
    refine aj 9 ?_;try simp only [Act.put,au]
    refine aj 10 ?_ (hy:=by intro wz hSw; (have q0:=aV (j:=1) hSw.2.2 (show (sdC v i false u)[1]? = some (.bool i) from rfl); go_simp <;> with_reducible rfl));try simp only [Act.put,au]
    refine aj 11 ?_;try simp only [Act.put,au]
    refine aj 12 ?_;try simp only [Act.put,au]
    refine aj 13 ?_;try simp only [Act.put,au]
    refine aj 14 ?_;try simp only [Act.put,au]
    refine aj 15 ?_;try simp only [Act.put,au]
    refine aj 16 ?_;try simp only [Act.put,au]
    refine aj 17 ?_;try simp only [Act.put,au]
    refine aj 18 ?_;try simp only [Act.put,au]
    refine aj 19 ?_ (hy:=by intro wz hSw; (have q0:=h4; go_simp <;> with_reducible rfl));try simp only [Act.put,au]
    refine aj 20 ?_;try simp only [Act.put,au]
    refine aj 21 ?_ (hy:=by intro wz hSw; (have q0:=aV (j:=1) hSw.2.2 (show (sdC v i false u)[1]? = some (.bool i) from rfl); go_simp <;> with_reducible rfl));try simp only [Act.put,au]
    refine aj 22 ?_;try simp only [Act.put,au]
    refine aj 23 ?_;try simp only [Act.put,au]
    refine aj 24 ?_;try simp only [Act.put,au]
    refine aj 25 ?_;try simp only [Act.put,au]
    refine aj 26 ?_;try simp only [Act.put,au]
    refine aj 27 ?_ (hy:=by intro wz hSw; (have q0:=aV (j:=0) hSw.2.2 (show (sdC v i false u)[0]? = some (.string v) from rfl); go_simp <;> with_reducible rfl));try simp only [Act.put,au]
    refine aj 28 ?_;try simp only [Act.put,au]
    refine aj 29 ?_;try simp only [Act.put,au]
    refine aj 30 ?_;try simp only [Act.put,au]
    refine aj 31 ?_ (hy:=by intro wz hSw; (refine Sm.cu _ _ _ w.heap.size r dg.out ?_ hSw.1; exact ⟨_,rfl,rfl⟩));try simp only [Act.put,au]
    refine aj 32 ?_ (hy:=by intro wz hSw; (refine bE bj.out hSw.2.1.2 ?_; exact ⟨_,rfl,rfl⟩));try simp only [Act.put,au]
    refine aj 33 ?_;try simp only [Act.put,au]
    refine aj 36 ?_;try simp only [Act.put,au]
    refine aj 37 ?_ (hy:=by intro wz hSw; (have q0:=aV (j:=1) hSw.2.2 (show (sdC v i false u)[1]? = some (.bool i) from rfl); go_simp <;> with_reducible rfl));try simp only [Act.put,au]
    refine aj 38 ?_;try simp only [Act.put,au]
    refine ak 34 λK hK=>?_;go_simp;go_at_call 12
    (with_reducible refine (eo.out _ HV.out).mono ?_)
    rintro e y27 ⟨rfl,hb⟩;replace HV:=hid (HV.out.below hb);replace HG:=hid (HG.out.below hb);clear hb;refine hK.out _ _ (⟨HV.out.r,HV.out.k,HG.out⟩) λhld=>?_;clear hK K;try simp only [Act.put,au]
    refine aj 35 ?_ (hy:=by intro wz hSw; (have q0:=h6; go_simp <;> with_reducible rfl));try simp only [Act.put,au]
    refine aj 39 ?_;try simp only [Act.put,au]
    refine aj 40 ?_;try simp only [Act.put,au]
    refine aj 41 ?_;try simp only [Act.put,au]
    refine aj 42 ?_ (hy:=by intro wz hSw; (refine Sm.cu _ _ _ w.heap.size r dg.out ?_ hSw.1; exact ⟨_,rfl,rfl⟩));try simp only [Act.put,au]
    refine aj 43 ?_ (hy:=by intro wz hSw; (refine bE bj.out hSw.2.1.2 ?_; exact ⟨_,rfl,rfl⟩));try simp only [Act.put,au]
    refine aj 44 ?_;try simp only [Act.put,au]
    refine aj 46 ?_;try simp only [Act.put,au]
    refine aj 47 ?_ (hy:=by intro wz hSw; (have q0:=aV (j:=3) hSw.2.2 (show (sdC v i false u)[3]? = some (.int .i64 u) from rfl); go_simp <;> with_reducible rfl));try simp only [Act.put,au]
    refine ak 45 λK hK=>?_;go_simp;go_at_call 13
    (with_reducible refine (I3.out _ HV.out).mono ?_)
    rintro e y28 ⟨rfl,hb⟩;replace HV:=hid (HV.out.below hb);replace HG:=hid (HG.out.below hb);clear hb;refine hK.out _ _ (⟨HV.out.r,HV.out.k,HG.out⟩) λhld=>?_;clear hK K;try simp only [Act.put,au]
    refine aj 48 ?_;try simp only [Act.put,au]
    refine aj 49 ?_;try simp only [Act.put,au]
    refine aj 50 ?_;try simp only [Act.put,au]
    refine aC ?_;clear hld;go_wp2;go_ret;exact ⟨rfl,HV.out.b⟩
end Tm
end
section
open Go.ChangeShapes Go.WideShapes Go.ChangeAt Go.WideMaps Go.WideElems Go.RowKit
namespace Sm
open Sh
theorem Ua : prog.globalNamed "dormouse/sum.rounds" = some 0 := by kernel_rfl
theorem Ui:(prog.globals[0]?).map (·.type)=some 211:=by kernel_rfl
theorem Vp {H:Type}:(Rows.laid_dormouse_sum_rounds:DataW H) = .agg ((List.range 64).map λi=>.lit (.int .u32 (kN i:Nat))):=rfl
theorem Nb:prog.cellsOf 140=1:=by kernel_rfl
theorem xA (h : laidMetH prog [("dormouse/sum.rounds", Rows.laid_dormouse_sum_rounds)] W) : Tab W := by
 rw [MakeChecks.laidMetH_plain _ _ _ (by kernel_rfl)] at h;obtain ⟨ps,⟨g0,t0,cs0,f0,p0,q0,hg0,ht0,hv0,hd0,_⟩,_,_⟩:=h;obtain rfl:=Option.some.inj (Ua.symm.trans hg0);obtain rfl:=Option.some.inj (Ui.symm.trans ht0);obtain ⟨xs,m1,rfl,hx1,hlen,eq,hel⟩:=DataW.trod_array underlying211 hd0;rw [Vp] at hx1;simp only [Prod.mk.injEq,DataW.agg.injEq] at hx1;intro i hi;have h1:=hel i hi;rw [Nb,Nat.mul_one] at h1;have hi2:i<xs.length:=by omega
 rw [List.getElem?_eq_getElem hi2] at h1;obtain ⟨n,e1,e2,_⟩:=DataW.trod_int underlying140 h1;have e3:=congrArg (λl=>l[i]?) hx1.1;simp only [List.getElem?_map,List.getElem?_eq_getElem hi2,List.getElem?_range hi,Option.map_some,e2] at e3;have e4:n=(kN i:Nat):=by
  have:=Option.some.inj e3;simpa using this.symm
 subst e4;rw [World.var?_cell hg0 hv0 i];obtain ⟨l⟩:=cs0;have e5:=congrArg (λl=>l[0]?) e1;simp only [List.getElem?_take,List.getElem?_drop,Nat.add_zero] at e5;simpa using e5
end Sm
end
section
open Go.RowKit Go.ChangeShapes Go.WideShapes
namespace Sm
open Sh
def byteOf:Value->UInt8
 | .int _ n=>UInt8.ofNat n.toNat
 | _=>0
theorem Gf {H:Type} {enc:TypeId × Value->H} {w:World} {t e:TypeId} {d:DataW H} {p:List MemPlace}
  (ht:P.underlying t=some (.array 32 e)) (he:P.underlying e=some (.int .u8)) (hc:P.cellsOf e=1) (hct:P.cellsOf t=32)
  (hv:Value.okWide P w .any base t v) (h:DataW.Trod enc P w 0 (λ_=>true) true t v d p):∃ k:aN,v = .agg (kc k)/\k.length=32:=by
 unfold Value.okWide at hv;rw [ht] at hv;obtain ⟨cs,rfl,hsz,_⟩:=hv;rw [hct] at hsz;obtain ⟨fuel,hf⟩:=h;obtain ⟨xs,m,rfl,_,hcs,hxl,hel⟩:=DataW.trod_array ht hf;have each:∀ i,i<32->∃ n:Int,cs.toList[i]? = some (.int .u8 n)/\0<=n/\n<256:=λi hi=>by
  have hi':=hel i hi;rw [hc,Nat.mul_one] at hi';have hx:i<xs.length:=by omega
  rw [List.getElem?_eq_getElem hx] at hi';obtain ⟨n,hn,_,hw⟩:=DataW.trod_int he hi';have hlen:i<cs.toList.length:=by simpa [hsz] using hi
  have e1:(cs.toList.drop i).take 1=[cs.toList[i]]:=by
   rw [List.drop_eq_getElem_cons hlen]; rfl
  have e2:(Value.agg cs).cells.toList=cs.toList:=rfl;rw [e2,e1] at hn;injection hn with hn;refine ⟨n,?_,VY hw⟩;rw [List.getElem?_eq_getElem hlen,hn]
 refine ⟨cs.toList.map byteOf,?_,by simp [hsz]⟩;congr 1;apply Array.ext';unfold kc;rw [List.map_map];apply List.ext_getElem?;intro i;by_cases hi:i<32
 .obtain ⟨n,hn,h0,h1⟩:=each i hi;rw [hn];simp only [List.getElem?_map,hn,Option.map_some,Function.comp,byteOf];have:((UInt8.ofNat n.toNat).toNat:Int)=n:=by simp only [UInt8.toNat_ofNat']; omega
  rw [this]
 .rw [List.getElem?_eq_none (by simp [hsz]; omega),List.getElem?_eq_none (by simp [hsz]; omega)]
end Sm
end
end Go.Proofs.YtokaiemgjngcoaaGreatDoor
