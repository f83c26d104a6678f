/-
 The contract of the laws' own Pairs.
-/
import Derived.Test.YtlcplcgigjagpaaGreatDoorSg13
open Go.Lib (hid)
open Go.Proofs.Tryz
set_option linter.unusedSimpArgs false
set_option linter.unusedVariables false
set_option maxHeartbeats 40000000
set_option maxRecDepth 100000
namespace Go.Proofs.YtlcplcgigjagpaaGreatDoor
variable {ops:Array Oper} {o:Oper} {B b2 g:Nat} {cs:aM} {v v' z:Value} {ty:TypeId} {Q:Exit->Act->World->Prop} {ev:Operand->Value} {h1:aJ} {d:Int}
section
open Go.RowKit
namespace Tm
open Tr Ni Pk Ky
theorem qZ {l:List Tr.Pair} {j:Nat} (hj:j<l.length) (Z9:j<24):fq (l.take (j+1))=fq (l.take j)++[Fv (l.getD j ([],eB))]:=by
 unfold fq;rw [List.take_take,List.take_take,show min 24 (j+1)=j+1 by omega,show min 24 j=j by omega,take_at hj,List.map_append];rfl
theorem PE {l:List Tr.Pair}:fq (l.take 24)=fq l:=by
 unfold fq;rw [List.take_take,Nat.min_self]
theorem xR (l:List Tr.Pair) (a:aJ) (n c:Nat) (w:World) (h:jM w a n c l) :
  Calls prog 5 #[.slice a n c] w (XD w (fq l)):=by
 obtain ⟨i0,z0,hi,hz,hsz,hby,hzc⟩:=zn;have HI:Hid (_/\_/\_/\_/\_):=hid ⟨hi,hz,hsz,hby,hzc⟩;have hcap:=h.1;have hmx:=h.2.1;unfold maxLen at hmx;have H:=hid h;have HL:=hid h.len;clear h hi hz hsz hby hzc;go_enter func5,ntmps5;go_wp2_with fail
 go_loopw [3,4] (λv i wr=>∃ j:Nat,j<=n/\j<=24/\i = .int .i64 j/\Hid (wr.ownsRow w.heap.size 66 33 v (fq (l.take j)).length (rowP (fq (l.take j))))/\Hid (Below w.heap.size w wr)) (λ_ i _=>n-(intOf i).toNat)
 case atStart=>exact ⟨0,Nat.zero_le _,Nat.zero_le _,rfl,hid (World.ownsRow_nil _ _ _ _),hid aG⟩
 case round =>
  obtain ⟨j,hjn,MD,rfl,HR,HB⟩:=hrel;have hlen:(fq (l.take j)).length<=24:=DF _;by_cases hlt:j<n/\j<24
  .obtain ⟨hlt,pv⟩:=hlt;have i1:(j:Int)<n:=by omega
   have i2:(j:Int)<24:=by omega
   have HJ:Hid (j<l.length):=hid (by rw [HL.out]; exact hlt);obtain ⟨b,off,rfl,hblt,hpa,hk⟩:=H.out.at' j hlt;obtain ⟨x,hx⟩:=av (l.getD j ([],eB))
   rw [hx] at hpa hk;have HX:=hid hx;have uc:=hid (hpa.below HB.out);have hNew:=Rg.Own.new wr (gH (List.replicate 32 0,eB)) 66;have HN:=hid hNew;have HZ:Hid (((List.replicate 32 0,eB):Tr.Pair).1.length=32):=hid rfl;obtain ⟨k,v⟩:=x;have cG:Hid (k.length=32):=hid hk;clear hx hpa hk hNew hblt;by_cases hv0:v.size=0
   .obtain rfl:=No.eF hv0;have s1:decide ((100:Int)<(sv.size:Int))=false:=rfl;have HF:Hid (fq (l.take (j+1))=fq (l.take j)++[(k,sv)]):=hid (by rw [qZ HJ.out pv,HX.out]; unfold Fv; simp [hv0]);go_wp2_with (first
     | (refine ay (gQ (x:=(k,eB)) cG.out uc.out ⟨_,rfl,rfl⟩) ?_)
     | (refine ay (lq _ _ _ wr.heap.size rfl rfl) ?_)
     | (refine jD HN.out HZ.out (k,eB) cG.out rfl _ _ rfl rfl rfl rfl ?_; intro w5 aE ax; have cd:=hid aE; have ag:Hid (Below wr.heap.size wr w5):=hid (ax.below (al1 _ _) aF); have c32:w5.cell? ⟨wr.heap.size,32,none⟩=some (.string _):=(cB.own aE).val cG.out; clear aE ax)
     | (refine ay (dV c32 ⟨_,rfl,rfl⟩) ?_)
     | (refine ay (eH cG.out (cB.own cd.out).key ⟨_,rfl,rfl⟩) ?_)
     | (refine ay (bK (oz k sv cG.out) ⟨_,rfl,rfl⟩) ?_)
     | (refine jD cd.out cG.out (k,sv) cG.out rfl _ _ rfl rfl rfl rfl ?_; intro w6 cI jj; have cM:=hid cI; have cg:Hid (Below wr.heap.size wr w6):=hid (jj.below ag.out aF); have ew:=hid (tN HR.out cg.out); have Ts:w6.cell? ⟨wr.heap.size,32,none⟩=some (.string _):=(cB.own cI).val cG.out; clear cI jj)
     | (refine ay (dV Ts ⟨_,rfl,rfl⟩) ?_)
     | (refine ay (gQ (x:=(k,sv)) cG.out (cB.own cM.out) ⟨_,rfl,rfl⟩) ?_)
     | (refine ay (oN (x:=(k,sv)) cG.out _ rfl ⟨_,rfl,rfl⟩) ?_)
     | (at_builtin; refine wpList_append_own _ rfl _ _ 22 rfl w.heap.size 66 i0 z0 33 48 underlying22 HI.out.1 HI.out.2.1 HI.out.2.2.1 HI.out.2.2.2.1 HI.out.2.2.2.2 (by decide) _ _ _ rfl (ew.out.alloc _) ⟨_,0,none⟩ 1 1 (iM (k,sv)) rfl (fP (x:=(k,sv)) cG.out) ?d1 (qo _) ?d3 ?d4 ?d5 ?_))
    case d1 =>
     intro q u hu;first | (simpa [gH] using hu) | (rw [Addr.add_mid]; exact (cB.own (Rg.Own.new _ (gH (k,sv)) 66)) q u hu)
    case d3=>unfold maxLen; omega
    case d4=>omega
    case d5=>have:=HB.out.size; have:=cg.out.size; simp; omega
    intro v' w7 ef hgrow _;have hlt':=ew.out.lt;have cq:Hid (Below w.heap.size w w7):=hid (((bst HB.out cg.out).alloc (by have:=HB.out.size; have:=cg.out.size; omega) _).grown hgrow (by have:=HB.out.size; have:=cg.out.size; simp; omega) (λg hg=>(hlt' g hg).1));go_wp2;go_roundw
    case rel=>exact ⟨j+1,by omega,by omega,by go_num,hid (by rw [HF.out,uy,List.length_append]; exact ef),cq⟩
    case measure=>simp [intOf]; omega
   .by_cases hv2:100<v.size
    .have hv1:=Ni.dP (s:=v) (by omega);have rd:(100:Int)<=(v.size:Int):=by omega
     have s1:decide ((100:Int)<(v.size:Int))=true:=aI (by omega);go_wp2_with (first
 | (refine ay (gQ (x:=(k,v)) cG.out uc.out ⟨_,rfl,rfl⟩) ?_)
      | (refine ay (lq _ _ _ wr.heap.size rfl rfl) ?_)
      | (refine jD HN.out HZ.out (k,v) cG.out rfl _ _ rfl rfl rfl rfl ?_; intro w5 aE ax; have cd:=hid aE; have ag:Hid (Below wr.heap.size wr w5):=hid (ax.below (al1 _ _) aF); have c32:w5.cell? ⟨wr.heap.size,32,none⟩=some (.string _):=(cB.own aE).val cG.out; clear aE ax)
      | (refine ay (dV c32 ⟨_,rfl,rfl⟩) ?_)
     )
     have ME:wr.heap.size<=wr.heap.size:=aF;have h0:=cd.out;refine aB (S:=λw'=>Below wr.heap.size wr w') (ag.out.drew) λhld=>?_;replace h0:=h0.drew;refine ah 0 ?_;try simp only [Act.put,ak]
     refine ah 2 ?_;try simp only [Act.put,ak]
     refine wpAnyH_ready (rs:=[1,3]) (by kernel_rfl) (by simp) ?_;refine Rg.readyC (i:=1) rfl (λK hK=>?_) (Rg.readyL (i:=3) rfl (λK hK=>?_))
     .refine Rg.meet (by rfl) _ _ (eH cG.out (cB.own h0).key ?_) ?_
      .exact ⟨_,rfl,rfl⟩
      refine hK.out _ _ (hld) λhld=>?_;clear hK K;try simp only [Act.put,ak]
      refine aj 3 λK hK=>?_;refine Rg.meet (by rfl) _ _ (dV (cB.val (cB.own h0) cG.out) ?_) ?_
      .exact ⟨_,rfl,rfl⟩
      refine hK.out _ _ (hld) λhld=>?_;clear hK K;try simp only [Act.put,ak]
      refine ah 4 ?_ (hy:=by intro wz hSw; (have q0:=rd; go_simp <;> with_reducible rfl));try simp only [Act.put,ak]
      refine ah 5 ?_ (hy:=by intro wz hSw; (refine bK (oz k (v.extract 0 100) cG.out) ?_; exact ⟨_,rfl,rfl⟩));try simp only [Act.put,ak]
      refine aj 6 λK hK=>?_;refine Rg.meetStore (by rfl) h0 66 (gH (k,v.extract 0 100)) ⟨_,_,rfl,rfl,rfl⟩ (vo cG.out) (by rw [jW cG.out,jW cG.out]) (xM _) ?_;rintro du hn hu;refine hK.out _ _ ?_ (λhld=>?_)
      .exact hu.below hld ME
      replace h0:=hn;clear hK K hn hu;try simp only [Act.put]
      refine aA ?_;have cd:=hid h0;have eg:Hid (Below wr.heap.size wr _):=hid hld;clear h0 hld;have HF:Hid (fq (l.take (j+1))=fq (l.take j)++[(k,v.extract 0 100)]):=hid (by rw [qZ HJ.out pv,HX.out]; unfold Fv; simp [hv0,hv2]);have ew:=hid (tN HR.out eg.out);go_wp2_with (first
       | (refine ay (gQ (x:=(k,v.extract 0 100)) cG.out (cB.own cd.out) ⟨_,rfl,rfl⟩) ?_)
       | (refine ay (oN (x:=(k,v.extract 0 100)) cG.out _ rfl ⟨_,rfl,rfl⟩) ?_)
       | (at_builtin; refine wpList_append_own _ rfl _ _ 22 rfl w.heap.size 66 i0 z0 33 48 underlying22 HI.out.1 HI.out.2.1 HI.out.2.2.1 HI.out.2.2.2.1 HI.out.2.2.2.2 (by decide) _ _ _ rfl (ew.out.alloc _) ⟨_,0,none⟩ 1 1 (iM (k,v.extract 0 100)) rfl (fP (x:=(k,v.extract 0 100)) cG.out) ?d1 (qo _) ?d3 ?d4 ?d5 ?_))
      case d1 =>
       intro q u hu;first | (simpa [gH] using hu) | (rw [Addr.add_mid]; exact (cB.own (Rg.Own.new _ (gH (k,v.extract 0 100)) 66)) q u hu)
      case d3=>unfold maxLen; omega
      case d4=>omega
      case d5=>have:=HB.out.size; have:=eg.out.size; simp; omega
      intro v' w7 ef hgrow _;have hlt':=ew.out.lt;have cq:Hid (Below w.heap.size w w7):=hid (((bst HB.out eg.out).alloc (by have:=HB.out.size; have:=eg.out.size; omega) _).grown hgrow (by have:=HB.out.size; have:=eg.out.size; simp; omega) (λg hg=>(hlt' g hg).1));go_wp2;go_roundw
      case rel=>exact ⟨j+1,by omega,by omega,by go_num,hid (by rw [HF.out,uy,List.length_append]; exact ef),cq⟩
      case measure=>simp [intOf]; omega
     .refine Rg.meet (by rfl) _ _ (dV (cB.val (cB.own h0) cG.out) ?_) ?_
      .exact ⟨_,rfl,rfl⟩
      refine hK.out _ _ (hld) λhld=>?_;clear hK K;try simp only [Act.put,ak]
      refine ah 4 ?_ (hy:=by intro wz hSw; (have q0:=rd; go_simp <;> with_reducible rfl));try simp only [Act.put,ak]
      refine aj 1 λK hK=>?_;refine Rg.meet (by rfl) _ _ (eH cG.out (cB.own h0).key ?_) ?_
      .exact ⟨_,rfl,rfl⟩
      refine hK.out _ _ (hld) λhld=>?_;clear hK K;try simp only [Act.put,ak]
      refine ah 5 ?_ (hy:=by intro wz hSw; (refine bK (oz k (v.extract 0 100) cG.out) ?_; exact ⟨_,rfl,rfl⟩));try simp only [Act.put,ak]
      refine aj 6 λK hK=>?_;refine Rg.meetStore (by rfl) h0 66 (gH (k,v.extract 0 100)) ⟨_,_,rfl,rfl,rfl⟩ (vo cG.out) (by rw [jW cG.out,jW cG.out]) (xM _) ?_;rintro du hn hu;refine hK.out _ _ ?_ (λhld=>?_)
      .exact hu.below hld ME
      replace h0:=hn;clear hK K hn hu;try simp only [Act.put]
      refine aA ?_;have cd:=hid h0;have eg:Hid (Below wr.heap.size wr _):=hid hld;clear h0 hld;have HF:Hid (fq (l.take (j+1))=fq (l.take j)++[(k,v.extract 0 100)]):=hid (by rw [qZ HJ.out pv,HX.out]; unfold Fv; simp [hv0,hv2]);have ew:=hid (tN HR.out eg.out);go_wp2_with (first
       | (refine ay (gQ (x:=(k,v.extract 0 100)) cG.out (cB.own cd.out) ⟨_,rfl,rfl⟩) ?_)
       | (refine ay (oN (x:=(k,v.extract 0 100)) cG.out _ rfl ⟨_,rfl,rfl⟩) ?_)
       | (at_builtin; refine wpList_append_own _ rfl _ _ 22 rfl w.heap.size 66 i0 z0 33 48 underlying22 HI.out.1 HI.out.2.1 HI.out.2.2.1 HI.out.2.2.2.1 HI.out.2.2.2.2 (by decide) _ _ _ rfl (ew.out.alloc _) ⟨_,0,none⟩ 1 1 (iM (k,v.extract 0 100)) rfl (fP (x:=(k,v.extract 0 100)) cG.out) ?d1 (qo _) ?d3 ?d4 ?d5 ?_))
      case d1 =>
       intro q u hu;first | (simpa [gH] using hu) | (rw [Addr.add_mid]; exact (cB.own (Rg.Own.new _ (gH (k,v.extract 0 100)) 66)) q u hu)
      case d3=>unfold maxLen; omega
      case d4=>omega
      case d5=>have:=HB.out.size; have:=eg.out.size; simp; omega
      intro v' w7 ef hgrow _;have hlt':=ew.out.lt;have cq:Hid (Below w.heap.size w w7):=hid (((bst HB.out eg.out).alloc (by have:=HB.out.size; have:=eg.out.size; omega) _).grown hgrow (by have:=HB.out.size; have:=eg.out.size; simp; omega) (λg hg=>(hlt' g hg).1));go_wp2;go_roundw
      case rel=>exact ⟨j+1,by omega,by omega,by go_num,hid (by rw [HF.out,uy,List.length_append]; exact ef),cq⟩
      case measure=>simp [intOf]; omega
    .have hv1:=Ni.dP (s:=v) (by omega);have s1:decide ((100:Int)<(v.size:Int))=false:=decide_eq_false (by omega);have HF:Hid (fq (l.take (j+1))=fq (l.take j)++[(k,v)]):=hid (by rw [qZ HJ.out pv,HX.out]; unfold Fv; simp [hv0,hv2]);go_wp2_with (first
      | (refine ay (gQ (x:=(k,v)) cG.out uc.out ⟨_,rfl,rfl⟩) ?_)
      | (refine ay (lq _ _ _ wr.heap.size rfl rfl) ?_)
      | (refine jD HN.out HZ.out (k,v) cG.out rfl _ _ rfl rfl rfl rfl ?_; intro w5 aE ax; have cd:=hid aE; have ag:Hid (Below wr.heap.size wr w5):=hid (ax.below (al1 _ _) aF); have ew:=hid (tN HR.out ag.out); have c32:w5.cell? ⟨wr.heap.size,32,none⟩=some (.string _):=(cB.own aE).val cG.out; clear aE ax)
      | (refine ay (dV c32 ⟨_,rfl,rfl⟩) ?_)
      | (refine ay (gQ (x:=(k,v)) cG.out (cB.own cd.out) ⟨_,rfl,rfl⟩) ?_)
      | (refine ay (oN (x:=(k,v)) cG.out _ rfl ⟨_,rfl,rfl⟩) ?_)
      | (at_builtin; refine wpList_append_own _ rfl _ _ 22 rfl w.heap.size 66 i0 z0 33 48 underlying22 HI.out.1 HI.out.2.1 HI.out.2.2.1 HI.out.2.2.2.1 HI.out.2.2.2.2 (by decide) _ _ _ rfl (ew.out.alloc _) ⟨_,0,none⟩ 1 1 (iM (k,v)) rfl (fP (x:=(k,v)) cG.out) ?d1 (qo _) ?d3 ?d4 ?d5 ?_))
     case d1 =>
      intro q u hu;first | (simpa [gH] using hu) | (rw [Addr.add_mid]; exact (cB.own (Rg.Own.new _ (gH (k,v)) 66)) q u hu)
     case d3=>unfold maxLen; omega
     case d4=>omega
     case d5=>have:=HB.out.size; have:=ag.out.size; simp; omega
     intro v' w7 ef hgrow _;have hlt':=ew.out.lt;have cq:Hid (Below w.heap.size w w7):=hid (((bst HB.out ag.out).alloc (by have:=HB.out.size; have:=ag.out.size; omega) _).grown hgrow (by have:=HB.out.size; have:=ag.out.size; simp; omega) (λg hg=>(hlt' g hg).1));go_wp2;go_roundw
     case rel=>exact ⟨j+1,by omega,by omega,by go_num,hid (by rw [HF.out,uy,List.length_append]; exact ef),cq⟩
     case measure=>simp [intOf]; omega
  .have ae:Hid (fq (l.take j)=fq l):=hid (by
    rcases Nat.lt_or_ge j n with h1 | h1
    .obtain rfl:j=24:=by omega
     exact PE
    .obtain rfl:j=n:=by omega
     rw [List.take_of_length_le (by rw [HL.out]; exact aF)])
   have HK:=hid (Ji H.out.keys);have hf:¬ ((j:Int)<n/\(j:Int)<24):=by omega
   rw [ae.out] at HR;rcases Nat.lt_or_ge j n with h1 | h1
   .obtain rfl:j=24:=by omega
    have i1:((24:Nat):Int)<n:=by omega
    go_wp2_with fail
    go_ret;exact zH.ps HK.out.1 ⟨_,rfl,HR.out,HB.out⟩
   .obtain rfl:j=n:=by omega
    go_wp2_with fail
    go_ret;exact zH.ps HK.out.1 ⟨_,rfl,HR.out,HB.out⟩
open No
open Rf
open Rl
open Sm (Tab)
theorem Cx {rest:List Oper} {act:Go.Act} {w:World} {Q:Exit->Go.Act->World->Prop} {b:Nat} {k:aL} (h:Rg.Own w b (kc k) 25) (hk:k.length=32) (y:aL) (hy:y.length=32)
  (hgd:o.guard=none) (p q:Operand) (ho:o.op = .store 25 p q) (hp:act.eval p = .pointer (some ⟨b,0,none⟩)) (hq:act.eval q = .agg (kc y)) (hd:o.dst=none)
  (hQ:∀ w',Rg.Own w' b (kc y) 25->Rg.Upd w b w'->wpList prog ops Q rest act w'):wpList prog ops Q (o::rest) act w :=
 wpList_store_rowTo hgd 25 p q ho hd b _ hp hq 25 _ h.2 (uI y hy) (by rw [mg,mg,hk,hy]) (Lx _) (hQ _ ⟨by simp; exact h.1,setRow_heap _ _ _ _ _ _ h.2⟩ (Rg.Upd.set _ _ _))
section
variable {k:aL} {j:Nat}
end
namespace Tu
variable {w0:World} {M M':Mp} {w w':World} {b0 b1:Nat} {p p' q q':aJ} {t t' s s':T}
end Tu
theorem Ks0.below {M:Mp} {lo:Nat} {w w':World} {a:aJ} {n c:Nat} {l:List T} (h:Ks0 M lo w a n c l) (hb:Below w.heap.size w w'):Ks0 M lo w' a n c l :=
 ⟨h.1,h.2.1,h.2.2.1,h.2.2.2.1,λj hj=>by
  obtain ⟨b,off,p,e,hlt,hf,hc,ht⟩:=h.2.2.2.2 j hj;exact ⟨b,off,p,e,aH hlt hb.size,hf,aV hb hc,ht⟩⟩
theorem Ks0.lo {M:Mp} {lo lo':Nat} {w:World} {a:aJ} {n c:Nat} {l:List T} (h:Ks0 M lo w a n c l) (hl:lo'<=lo):Ks0 M lo' w a n c l :=
 ⟨h.1,h.2.1,h.2.2.1,h.2.2.2.1,λj hj=>by
  obtain ⟨b,off,p,e,hlt,hf,hc,ht⟩:=h.2.2.2.2 j hj;exact ⟨b,off,p,e,hlt,hf.elim Or.inl (λh=>Or.inr (Nat.le_trans hl h)),hc,ht⟩⟩
theorem iV.ks0 {M:Mp} {lo:Nat} {w:World} {a:aJ} {n c:Nat} {ps:List (aJ)} {ts:List T} (h:iV w a n c ps) (hA:Are M ps ts) (hlo:∀ ad,a=some ad->lo<=ad.block):Ks0 M lo w a n c ts :=
 ⟨h.1,h.2.1,by rw [<-hA.1]; exact h.2.2.1,h.2.2.2.1,λj hj=>by
  obtain ⟨b,off,e,hlt,hc⟩:=h.2.2.2.2 j hj;exact ⟨b,off,_,e,hlt,Or.inr (hlo _ e),hc,hA.2 j (by rw [h.2.2.1]; exact hj)⟩⟩
theorem Sy (f:Fin 16->T) (j:Nat) (hj:j<16):(fI (.br f)).getD j .nil=f ⟨j,hj⟩:=by
 show ((List.finRange 16).map f).getD j .nil=_;rw [List.getD_eq_getElem?_getD,List.getElem?_map,List.getElem?_eq_getElem (by simpa using hj)];simp
theorem Ke (M:Mp) (N:Nd) (hl:N.ks.length=16) (pa:aJ) (pn pc:Nat) (ps:List (aJ)) (ts:List T) (hA:Are M ps ts)
  (hkd:N.kd=1/\ts=[]\/N.kd=2/\(∃ s,ts=[s])\/N.kd=3/\ts.length=(bJ N.ks).length) (ka:aJ) (kn kc:Nat) (w:World) (h:iV w ka kn kc ps) (hn:kn<=1000000) :
  Calls prog 152 #[.agg (ndC N pa pn pc),.slice ka kn kc] w λe w'=>∃ va vn vc,e = .returned (.slice va vn vc)/\Ks0 M w.heap.size w' va vn vc (fI (makeT N ts))/\Below w.heap.size w w':=by
 by_cases hk:N.kd=3
 .have hlen:ts.length=(bJ N.ks).length:=by rcases hkd with ⟨h1,_⟩ | ⟨h1,_⟩ | ⟨_,h2⟩; omega; omega; exact h2
  have hpl:ps.length=kn:=h.2.2.1;refine (QC N hk hl pa pn pc ps ka kn kc w h (by rw [<-hlen,<-hA.1,hpl])).mono ?_;rintro e w' ⟨g,rfl,hg,hO,hb⟩;have hm:makeT N ts = .br (DK N.ks ts):=by unfold makeT; rw [if_neg (by omega),if_neg (by omega)]
  have h16:(gD N.ks ps 16).length=16:=iK;have hks:=Ks0.row (M:=M) (lo:=w.heap.size) (l:=fI (makeT N ts)) hg hO (by rw [h16,hm]; simp [fI]) (by rw [h16]; unfold maxLen; omega) (λj hj=>by
   rw [h16] at hj;rw [Km j hj,hm,Sy _ j hj];unfold yG DK;by_cases h0:(N.ks.getD j eB).size=0
   .rw [if_pos h0,if_pos h0]; rfl
   .rw [if_neg h0,if_neg h0];by_cases hx:(bJ (N.ks.take j)).length<ps.length
    .exact hA.2 _ hx
    .have e1:ps.getD (bJ (N.ks.take j)).length none=none:=by rw [List.getD_eq_getElem?_getD,List.getElem?_eq_none (by omega)]; rfl
     have e2:ts.getD (bJ (N.ks.take j)).length .nil = .nil:=by rw [List.getD_eq_getElem?_getD,List.getElem?_eq_none (by rw [<-hA.1]; omega)]; rfl
     rw [e1,e2];rfl)
  rw [h16] at hks;exact ⟨_,_,_,rfl,hks,hb⟩
 .refine (ES N hk hl pa pn pc ps ka kn kc w h hn).mono ?_;rintro e w' ⟨v,rfl,hR,hb⟩;obtain ⟨a,c,rfl,hP,hlo⟩:=hR.ptrs;refine ⟨_,_,_,rfl,?_,hb⟩;have hm:fI (makeT N ts)=ts:=by
   unfold makeT;rcases hkd with ⟨h1,rfl⟩ | ⟨h1,s,rfl⟩ | ⟨h1,_⟩
   .rw [if_pos h1]; rfl
   .rw [if_neg (by omega),if_pos h1]; rfl
   .exact absurd h1 hk
  rw [hm];exact hP.ks0 hA hlo
theorem JW (t:T) (k:Int) (v:aK) (hk:dD t=k) (hv:EI t=v) (hs:¬ dH t) (a:aJ) (n c:Nat) (ka:aJ) (kn kc:Nat) :
  prog.built 108 [(0,.int .i64 k),(1,.slice a n c),(2,.string v),(3,.slice ka kn kc)]=some (iq t a n c ka kn kc 0 (Gl t)):=by
 subst hk hv;rw [Nv hs];unfold iq;generalize dD t=k;generalize EI t=v;kernel_rfl
structure Mk (N:Nd) (ts:List T):Prop where
 ks:N.ks.length=16
 may:fG bP N=true
 v:N.v.size<=maxLen
 pl:N.p.length<=64
 few:∀ k∈N.ks,k.size<=100
 fine:∀ s∈ts,∃ L,Tr.Good s L/\L<=64/\Fine s
 refs:bJ N.ks=ts.map ref
 kd:N.kd=1/\ts=[]\/N.kd=2/\(∃ s,ts=[s]/\dD s≠1/\dD s≠2)\/N.kd=3/\ts.length=(bJ N.ks).length
 k:dD (makeT N ts)=N.kd
 mv:EI (makeT N ts)=N.v
 mp:bT (makeT N ts)=N.p
 ms:¬ dH (makeT N ts)
 mn:makeT N ts ≠ .nil
theorem Mk.kd' {N:Nd} {ts:List T} (h:Mk N ts):N.kd=1/\ts=[]\/N.kd=2/\(∃ s,ts=[s])\/N.kd=3/\ts.length=(bJ N.ks).length:=by
 rcases h.kd with h | ⟨h,s,e,_⟩ | h
 .exact .inl h
 .exact .inr (.inl ⟨h,s,e⟩)
 .exact .inr (.inr h)
theorem Pz {N:Nd} (hl:N.ks.length=16) (hmay:fG bP N=true) (hv:N.v.size<=maxLen) (hks:∀ k∈N.ks,k.size<=100) (a:aJ) (n c:Nat) (w:World) (hB:bq w a n c N.p) :
  Calls prog 70 #[.agg (ndC N a n c)] w λe w'=>e = .returned (.int .i64 0)/\Below w.heap.size w w':=by
 have:=qg N a n c hl w hB hv (λk hk=>No.kX k (by have:=hks k hk; omega));rw [hmay] at this;exact this
end Tm
end
section
open Go.RowKit
namespace No
open Rl Ni
end No
end
section
open Go.RowKit
namespace Rl
end Rl
end
section
open Go.RowKit
namespace No
open Ni
open Rl
end No
end
section
open Go.RowKit
namespace Tm
open Tr Ni Pk Ky No Rf Rl
open Sm (Tab)
theorem lX {ks:Fin 16->T} {s:T} (h:s∈(dU ks).map ks):∃ i,s=ks i/\ks i ≠ .nil:=by
 obtain ⟨i,hi,rfl⟩:=List.mem_map.1 h;refine ⟨i,rfl,λe=>?_⟩;have:=(List.mem_filter.1 hi).2;rw [cu.2 e] at this;cases this
theorem iE {t:T} {L:Nat} (g:Tr.Good t L) (f:Fine t):∀ s∈aZ t,s ≠ .nil/\Fine s/\(Tr.Full t->Tr.Full s)/\∃ L',L'<L/\Tr.Good s L':=by
 intro s hs;cases t with
 | nil=>cases hs
 | leaf p v=>cases hs
 | stub r=>cases hs
 | ext q u =>
  obtain rfl:s=u:=by
   have:s∈[u]:=hs;simpa using this
  obtain ⟨g1,_,g3,g4,g5⟩:=g;have hq:0<q.length:=List.length_pos_iff.2 g1;exact ⟨qM g4,f,λh=>h,L-q.length,by omega,g5⟩
 | br ks =>
  obtain ⟨i,rfl,hn⟩:=lX hs;obtain ⟨g1,_,g3⟩:=g;exact ⟨hn,f i,λh=>h i,L-1,by omega,g3 i⟩
theorem NQ {t:T} (hs:¬ dH t):dD t=(bH t).kd/\EI t=(bH t).v/\bT t=(bH t).p:=by
 cases t with
 | stub r=>exact absurd trivial hs
 | _=>exact ⟨rfl,rfl,rfl⟩
theorem YT {t:T} {L:Nat} (g:Tr.Good t L) (hL:L<=64) (f:Fine t) (hn:t ≠ .nil) (hs:¬ dH t) {ts:List T} (hr:ts.map ref=(aZ t).map ref) (hf:∀ s∈ts,∃ L,Tr.Good s L/\L<=64/\Fine s)
  (hk:∀ q s,t = .ext q s->∀ u∈ts,dD u≠1/\dD u≠2) {t':T} (hm:makeT (bH t) ts=t') (hx:bH t'=bH t) (hs':¬ dH t') (hn':t' ≠ .nil):Mk (bH t) ts:=by
 obtain ⟨h1,_,_,h4,h5,h6⟩:=uG g hL f hn hs;have hrf:bJ (bH t).ks=ts.map ref:=by rw [hr]; exact Db g hL f
 have hlen:ts.length=(aZ t).length:=by have:=congrArg List.length hr; simpa using this
 obtain ⟨k1,k2,k3⟩:=NQ hs';refine ⟨dh t,h1,h4,h5,h6,hf,hrf,?_,by rw [hm,k1,hx],by rw [hm,k2,hx],by rw [hm,k3,hx],by rw [hm]; exact hs',by rw [hm]; exact hn'⟩;cases t with
 | nil=>exact absurd rfl hn
 | stub r=>exact absurd trivial hs
 | leaf p v=>exact .inl ⟨rfl,List.eq_nil_of_length_eq_zero hlen⟩
 | ext q u =>
  have h1:ts.length=1:=hlen;obtain ⟨s,rfl⟩:=List.length_eq_one_iff.1 h1;exact .inr (.inl ⟨rfl,s,rfl,hk q u rfl s (by simp)⟩)
 | br ks=>exact .inr (.inr ⟨rfl,by rw [hrf,List.length_map]⟩)
theorem wP (t:T):(aZ t).length<=16:=by
 cases t with
 | ext q s=>show 1<=16; omega
 | br ks =>
  show ((dU ks).map ks).length<=16;rw [List.length_map];exact Nat.le_trans (List.length_filter_le _ _) (by simp)
 | _=>exact Nat.zero_le _
namespace Ty
variable {w0:World} {M M':Mp} {w w':World} {bk bt:Nat} {K:aL} {p p':aJ} {t t':T}
end Ty
namespace TC
variable {w0:World} {M M':Mp} {w w':World} {bk bt:Nat} {K:aL} {p:aJ} {t:T} {bn:Nat} {N:Nd} {a:aJ} {n c:Nat} {ka:aJ} {Zs:Nat} {ps:List (aJ)}
end TC
end Tm
end
section
namespace Tr
open Rf Rl Ni No
end Tr
end
section
namespace Tm
open Tr Rf Rl Ni No
theorem Qb:bM .nil=[]:=rfl
theorem Ko {t:T} (hn:t ≠ .nil) (hs:¬ dH t):bM t=eU t::((aZ t).map bM).flatten:=by
 cases t with
 | nil=>exact absurd rfl hn
 | stub r=>exact absurd trivial hs
 | leaf p v=>rfl
 | ext q u =>
  show eU (.ext q u)::bM u=_;rw [show aZ (.ext q u)=[u] from rfl];simp
 | br ks =>
  show eU (.br ks)::((List.finRange 16).map λi=>bM (ks i)).flatten=eU (.br ks)::(((dU ks).map ks).map bM).flatten;congr 1;unfold dU;generalize List.finRange 16=l
  induction l with
  | nil=>rfl
  | cons i r ih =>
   rw [List.map_cons,List.flatten_cons,ih];by_cases h:ks i = .nil
   .rw [List.filter_cons_of_neg (by rw [cu.2 h]; decide),h,Qb,List.nil_append]
   .rw [List.filter_cons_of_pos (by
     cases e:isNil (ks i) with
     | true=>exact absurd (cu.1 e) h
     | false=>rfl),List.map_cons,List.map_cons,List.flatten_cons]
structure Whl (t:T):Prop where
 fine:Fine t
 full:Tr.Full t
 good:∃ L,L<=64/\Tr.Good t L
theorem Whl.kids {t:T} (h:Whl t):∀ s∈aZ t,s ≠ .nil/\Whl s:=λs hs=>by
 obtain ⟨L,hL,g⟩:=h.good;obtain ⟨h1,h2,h3,L',hl,h4⟩:=iE g h.fine s hs;exact ⟨h1,h2,h3 h.full,L',by omega,h4⟩
theorem Whl.ns {t:T} (h:Whl t):¬ dH t:=eD h.full
theorem Whl.enc {t:T} (h:Whl t) (hn:t ≠ .nil):eU t≠eB/\(eU t).size<=900000:=by
 obtain ⟨L,hL,g⟩:=h.good;obtain ⟨h1,h2,h3,_⟩:=uG g hL h.fine hn h.ns;refine ⟨λe=>?_,h3⟩;have h4:=put_pos (dh _) h1;rw [h2] at e;have:=congrArg ByteArray.size e;rw [fA] at this;have h5:eB.size=0:=rfl;omega
theorem Whl.few {t:T} (h:Whl t):∀ s∈bM t,s.size<=900000:=by
 have key:∀ (n:Nat) (t:T),sz t<=n->Whl t->∀ s∈bM t,s.size<=900000:=by
  intro n
  induction n with
  | zero =>
   intro t ht h s hs;cases t with
   | nil=>cases hs
   | leaf p v=>exact absurd ht (by show ¬ 1<=0; omega)
   | stub r=>cases hs
   | ext q u=>exact absurd ht (by show ¬ sz u+1<=0; omega)
   | br ks=>exact absurd ht (by show ¬ _+1<=0; omega)
  | succ n ih =>
   intro t ht h s hs;by_cases hn:t = .nil
   .subst hn; cases hs
   .rw [Ko hn h.ns] at hs;rcases List.mem_cons.1 hs with rfl | hs
    .exact (h.enc hn).2
    .obtain ⟨l,hl,hsl⟩:=List.mem_flatten.1 hs;obtain ⟨u,hu,rfl⟩:=List.mem_map.1 hl;refine ih u ?_ (h.kids u hu).2 s hsl;cases t with
     | nil=>exact absurd rfl hn
     | leaf p v=>cases hu
     | stub r=>cases hu
     | ext q x =>
      have hx:u∈[x]:=hu;rw [List.mem_singleton] at hx;subst hx;have:sz u+1<=n+1:=ht;omega
     | br ks =>
      obtain ⟨i,rfl,_⟩:=lX hu;have h1:((List.finRange 16).map λi=>sz (ks i)).sum+1<=n+1:=ht;have h2:=FP ((List.finRange 16).map λi=>sz (ks i)) (sz (ks i)) (List.mem_map.2 ⟨i,List.mem_finRange i,rfl⟩);omega
 exact key (sz t) t aF h
theorem CY:∀ l:List Tr.In,((List.finRange 16).map λc=>(bI l c).length).sum<=l.length
 | []=>by
  have e:((List.finRange 16).map λc=>(bI [] c).length)=(List.finRange 16).map λ_=>0:=rfl;rw [e];decide
 | x::r=>by
  have ih:=CY r;have key:∀ (cs:List (Fin 16)),cs.Nodup->(cs.map λc=>(bI (x::r) c).length).sum<=(cs.map λc=>(bI r c).length).sum+if ∃ c∈cs,(x.1.getD 0 0).toNat=c.val then 1 else 0:=by
   intro cs
   induction cs with
   | nil=>intro _; simp
   | cons c cs ih2 =>
    intro hd;obtain ⟨hc,hd'⟩:=List.nodup_cons.1 hd;have i2:=ih2 hd';rw [List.map_cons,List.map_cons,List.sum_cons,List.sum_cons];by_cases h:(x.1.getD 0 0).toNat=c.val
    .have h1:(bI (x::r) c).length=(bI r c).length+1:=by
      unfold bI;rw [List.filter_cons,if_pos (by simpa using h)];rfl
     have h2:¬ ∃ d∈cs,(x.1.getD 0 0).toNat=d.val:=λ⟨d,hd,e⟩=>hc (by
      have:c=d:=Fin.ext (by omega);rw [this]; exact hd)
     rw [if_neg h2] at i2;rw [if_pos ⟨c,List.mem_cons_self,h⟩,h1];omega
    .have h1:(bI (x::r) c).length=(bI r c).length:=by
      unfold bI;rw [List.filter_cons,if_neg (by simpa using h)]
     rw [h1];by_cases h2:∃ d∈cs,(x.1.getD 0 0).toNat=d.val
     .obtain ⟨d,hd,e⟩:=h2;rw [if_pos ⟨d,hd,e⟩] at i2;rw [if_pos ⟨d,List.mem_cons_of_mem _ hd,e⟩];omega
     .rw [if_neg h2] at i2;omega
  have:=key (List.finRange 16) (List.nodup_finRange 16);rw [List.length_cons];split at this <;> omega
theorem Ea:∀ (L:Nat) (l:List Tr.In),Ok L l->(bM (build L l)).length<=(L+1)*l.length:=by
 intro L
 induction L using Nat.strongRecOn with
 | ind L ih =>
  intro l ok
  match l,ok with
  | [],_=>rw [build]; exact Nat.zero_le _
  | [x],_ =>
   rw [build];show 1<=(L+1)*1;omega
  | x::y::r,ok =>
   have hcl:=kH ok;rw [build];by_cases h:0<bF (x::y::r)/\0<L
   .rw [dif_pos h];have i1:=ih (L-bF (x::y::r)) (by omega) (bR (x::y::r) (bF (x::y::r))) (tJ ok (by omega) (λa ha b hb=>by rw [iF ha,iF hb]));show (bM _).length+1<=_;have e:(bR (x::y::r) (bF (x::y::r))).length=(x::y::r).length:=by unfold bR; rw [List.length_map]
    rw [e] at i1;have h2:(L-bF (x::y::r)+1)*(x::y::r).length<=L*(x::y::r).length:=Nat.mul_le_mul_right _ (by omega);have h3:2<=(x::y::r).length:=by simp
    have h4:(L+1)*(x::y::r).length=L*(x::y::r).length+(x::y::r).length:=Nat.succ_mul _ _;omega
   .rw [dif_neg h];by_cases h2:0<L
    .rw [dif_pos h2];show ((List.finRange 16).map λi=>bM (build (L-1) (bR (bI (x::y::r) i) 1))).flatten.length+1<=_;have hb:∀ cs:List (Fin 16),(cs.map λi=>bM (build (L-1) (bR (bI (x::y::r) i) 1))).flatten.length<=L*(cs.map λc=>(bI (x::y::r) c).length).sum:=by
      intro cs
      induction cs with
      | nil=>exact Nat.zero_le _
      | cons c cs ih2 =>
       have i1:=ih (L-1) (by omega) (bR (bI (x::y::r) c) 1) (og ok h2 c);have e:(bR (bI (x::y::r) c) 1).length=(bI (x::y::r) c).length:=by unfold bR; rw [List.length_map]
       rw [e,show L-1+1=L by omega] at i1;rw [List.map_cons,List.map_cons,List.flatten_cons,List.sum_cons,List.length_append,Nat.mul_add];omega
     have h3:=hb (List.finRange 16);have h4:=CY (x::y::r);have h5:L*((List.finRange 16).map λc=>(bI (x::y::r) c).length).sum<=L*(x::y::r).length:=Nat.mul_le_mul_left _ h4;have h6:(L+1)*(x::y::r).length=L*(x::y::r).length+(x::y::r).length:=Nat.succ_mul _ _;have h7:2<=(x::y::r).length:=by simp
     omega
    .rw [dif_neg h2];exact Nat.zero_le _
end Tm
end
section
namespace Tr
open Rf Rl Ni No
theorem qJ {α β γ:Type} {f : α->List β} {g : α->List γ}:∀ (l:List α),(∀ i∈l,(f i).length<=(g i).length)->((l.map f).flatten).length<=((l.map g).flatten).length
 | [],_=>aF
 | x::l,h=>by
  have h1:=h x List.mem_cons_self;have h2:=qJ l λi hi=>h i (List.mem_cons_of_mem _ hi);simp only [List.map_cons,List.flatten_cons,List.length_append];omega
theorem NU {t:T} (f:Full t) (h:t ≠ .nil):1<=(bM t).length:=by
 cases t with
 | nil=>exact absurd rfl h
 | stub r=>exact f.elim
 | leaf p v=>exact aF
 | ext q t=>exact Nat.succ_le_succ (Nat.zero_le _)
 | br ks=>exact Nat.succ_le_succ (Nat.zero_le _)
theorem Bf:∀ (t:T) (d:Nat),Full t->(yQ d t).length<=(bM t).length
 | .nil,_,_=>Nat.zero_le _
 | .leaf _ _,_,_=>Nat.zero_le _
 | .stub _,_,f=>f.elim
 | .ext q s,d,f=>by
  show (if d<=1/\(ref s).size=32 then [ref s] else yQ (d-1) s).length<=(bM s).length+1;by_cases h:d<=1/\(ref s).size=32
  .rw [if_pos h];show 1<=_;omega
  .rw [if_neg h];have:=Bf s (d-1) f;omega
 | .br ks,d,f=>by
  show (((List.finRange 16).map λi=>if d<=1/\(ref (ks i)).size=32 then [ref (ks i)] else yQ (d-1) (ks i)).flatten).length<=(((List.finRange 16).map λi=>bM (ks i)).flatten).length+1;refine Nat.le_succ_of_le (qJ _ λi _=>?_);by_cases h:d<=1/\(ref (ks i)).size=32
  .rw [if_pos h];exact NU (f i) (om h.2)
  .rw [if_neg h];exact Bf (ks i) (d-1) (f i)
theorem WC (q:Pa) (a b:List Pa):onP q (a++b)=onP q a++onP q b:=by simp [onP]
theorem Vu (q w:Pa):onP q [w]=if q<+:w then [w.drop q.length] else []:=by
 unfold onP;by_cases h:q<+:w
 .simp [h]
 .simp [h]
theorem Td (q:Pa) (ws:List Pa) {j:Nat} (h:j<ws.length):onP q (ws.take (j+1))=onP q (ws.take j)++if q<+:ws.getD j [] then [(ws.getD j []).drop q.length] else []:=by
 rw [List.take_succ_eq_append_getElem h,WC,Vu];simp [List.getD,h]
theorem RF (q:Pa) (ws:List Pa):(onP q ws).length<=ws.length:=by
 unfold onP;rw [List.length_map];exact List.length_filter_le _ _
end Tr
end
section
open Go.RowKit
namespace Sx
open Tr Rf Rl Ni No Tm
def oF (i:Fin 16):Pa:=[UInt8.ofNat i.val]
def dG:T->List Pa
 | .ext q _=>[q]
 | .br ks=>(dU ks).map oF
 | _=>[]
def rO (F:Pa->T->T):T->T
 | .ext q s=>.ext q (F q s)
 | .br ks=>.br λi=>if isNil (ks i) then .nil else F (oF i) (ks i)
 | t=>t
def sU (F:Pa->T->T):T->List T
 | .ext q s=>[F q s]
 | .br ks=>(dU ks).map λi=>F (oF i) (ks i)
 | _=>[]
def jN (C:Pa->T->Nat) (t:T) (j:Nat):Nat:=((List.range j).map λi=>C ((dG t).getD i []) ((aZ t).getD i .nil)).sum
theorem Oa (C:Pa->T->Nat) (t:T) (j:Nat):jN C t (j+1)=jN C t j+C ((dG t).getD j []) ((aZ t).getD j .nil):=by
 unfold jN;rw [List.range_succ,List.map_append,List.sum_append];simp
theorem wm (F:Pa->T->T) (t:T):(sU F t).length=(aZ t).length:=by
 cases t with
 | br ks=>simp [sU,aZ]
 | _=>rfl
theorem getD_map {α β:Type} (f : α->β) (l:List α) (d : β) (j:Nat) (hj:j<l.length):(l.map f).getD j d=f l[j]:=by
 rw [List.getD_eq_getElem?_getD,List.getElem?_map,List.getElem?_eq_getElem hj];rfl
theorem ER (F:Pa->T->T) (t:T) (j:Nat) (hj:j<(aZ t).length):(sU F t).getD j .nil=F ((dG t).getD j []) ((aZ t).getD j .nil):=by
 cases t with
 | nil=>cases hj
 | leaf p v=>cases hj
 | stub r=>cases hj
 | ext q s =>
  obtain rfl:j=0:=by
   have:j<1:=hj;omega
  rfl
 | br ks =>
  have h1:j<(dU ks).length:=by simpa [aZ] using hj
  show ((dU ks).map _).getD j .nil=F (((dU ks).map oF).getD j []) (((dU ks).map ks).getD j .nil);rw [getD_map _ _ _ _ h1,getD_map _ _ _ _ h1,getD_map _ _ _ _ h1]
def OkF (F:Pa->T->T) (C:Pa->T->Nat) (t:T):Prop:=∀ j,j<(aZ t).length->
 ref (F ((dG t).getD j []) ((aZ t).getD j .nil))=ref ((aZ t).getD j .nil)/\(∃ L,Tr.Good (F ((dG t).getD j []) ((aZ t).getD j .nil)) L/\L<=64/\Fine (F ((dG t).getD j []) ((aZ t).getD j .nil)))/\
 (C ((dG t).getD j []) ((aZ t).getD j .nil)=0->F ((dG t).getD j []) ((aZ t).getD j .nil)=(aZ t).getD j .nil)/\
 ((bH t).kd=2->dD (F ((dG t).getD j []) ((aZ t).getD j .nil))≠1/\dD (F ((dG t).getD j []) ((aZ t).getD j .nil))≠2)
theorem Uh {ks:Fin 16->T} {i:Fin 16} (h:ks i ≠ .nil):rank ks i<(aZ (.br ks)).length/\(aZ (.br ks)).getD (rank ks i) .nil=ks i/\(dG (.br ks)).getD (rank ks i) []=oF i:=by
 have h1:=VQ h;have h2:(dU ks)[rank ks i]=i:=by
  have:=xX h;rw [List.getElem?_eq_getElem h1] at this;exact Option.some.inj this
 refine ⟨by simpa [aZ] using h1,?_,?_⟩
 .show ((dU ks).map ks).getD _ _=_;rw [getD_map _ _ _ _ h1,h2]
 .show ((dU ks).map oF).getD _ _=_;rw [getD_map _ _ _ _ h1,h2]
theorem Rb {F:Pa->T->T} {C:Pa->T->Nat} {t:T} (h:OkF F C t):bH (rO F t)=bH t:=by
 cases t with
 | nil=>rfl
 | leaf p v=>rfl
 | stub r=>rfl
 | ext q s =>
  have:=(h 0 (by show 0<1; omega)).1;show (⟨2,q,eB,dI (ref (F q s))⟩:Nd)=⟨2,q,eB,dI (ref s)⟩
  rw [show ref (F q s)=ref s from this]
 | br ks =>
  show (⟨3,[],eB,bU λi=>ref (if isNil (ks i) then .nil else F (oF i) (ks i))⟩:Nd)=⟨3,[],eB,bU λi=>ref (ks i)⟩
  congr 2;funext i;cases hi:isNil (ks i) with
  | true=>rw [if_pos rfl,cu.1 hi]
  | false =>
   have hne:ks i ≠ .nil:=λe=>by rw [cu.2 e] at hi; cases hi
   obtain ⟨h1,h2,h3⟩:=Uh hne;have:=(h _ h1).1;rw [h2,h3] at this;rw [if_neg (by decide),this]
theorem Gc {F:Pa->T->T} {t:T} {L:Nat} (g:Tr.Good t L) (hL:L<=64) (f:Fine t) (hn:t ≠ .nil) (hs:¬ dH t):makeT (bH t) (sU F t)=rO F t:=by
 cases t with
 | nil=>exact absurd rfl hn
 | leaf p v=>rfl
 | stub r=>exact absurd trivial hs
 | ext q s=>rfl
 | br ks =>
  have h:∀ i,(ref (ks i)).size≠0↔ks i ≠ .nil:=λi=>nW (g.2.2 i) (by omega) (f i);show T.br (DK (bU λi=>ref (ks i)) ((dU ks).map λi=>F (oF i) (ks i))) = .br _;congr 1;funext i;rw [Pb h];cases hi:isNil (ks i) with
  | true=>rw [if_pos rfl,if_pos rfl]
  | false =>
   have hne:ks i ≠ .nil:=λe=>by rw [cu.2 e] at hi; cases hi
   rw [if_neg (by decide),if_neg (by decide),List.getD_eq_getElem?_getD,List.getElem?_map,xX hne];rfl
theorem Gq {F:Pa->T->T} {t s:T} (h:s∈sU F t):∃ j,j<(aZ t).length/\s=F ((dG t).getD j []) ((aZ t).getD j .nil):=by
 obtain ⟨j,hj,rfl⟩:=List.getElem_of_mem h;have hj':=hj;rw [wm] at hj';refine ⟨j,hj',?_⟩;rw [<-ER F t j hj',List.getD_eq_getElem?_getD,List.getElem?_eq_getElem hj];rfl
theorem Yz {F:Pa->T->T} {C:Pa->T->Nat} {t:T} {L:Nat} (g:Tr.Good t L) (hL:L<=64) (f:Fine t) (hn:t ≠ .nil) (hs:¬ dH t) (h:OkF F C t):Mk (bH t) (sU F t):=by
 refine YT g hL f hn hs ?_ (λs hm=>?_) (λq s e u hu=>?_) (Gc g hL f hn hs) (Rb h) ?_ ?_
 .apply List.ext_getElem
  .simp [wm]
  .intro j h1 h2;have hj:j<(aZ t).length:=by simpa using h2
   have hj2:j<(sU F t).length:=by rw [wm]; exact hj
   have e1:(sU F t)[j]=(sU F t).getD j .nil:=by rw [List.getD_eq_getElem?_getD,List.getElem?_eq_getElem hj2]; rfl
   have e2:(aZ t)[j]=(aZ t).getD j .nil:=by rw [List.getD_eq_getElem?_getD,List.getElem?_eq_getElem hj]; rfl
   rw [List.getElem_map,List.getElem_map,e1,e2,ER F t j hj];exact (h j hj).1
 .obtain ⟨j,hj,rfl⟩:=Gq hm;exact (h j hj).2.1
 .obtain ⟨j,hj,rfl⟩:=Gq hu;exact (h j hj).2.2.2 (by rw [e]; rfl)
 .cases t with
  | stub r=>exact absurd trivial hs
  | _=>exact λh=>h
 .cases t with
  | nil=>exact absurd rfl hn
  | _=>intro e; cases e
theorem oo:∀ {l:List Nat},l.sum=0->∀ x∈l,x=0
 | [],_,x,h=>by cases h
 | y::l,h,x,hx=>by
  rw [List.sum_cons] at h;rcases List.mem_cons.1 hx with rfl | hx
  .omega
  .exact oo (l:=l) (by omega) x hx
theorem Vo {F:Pa->T->T} {C:Pa->T->Nat} {t:T} (h:OkF F C t) (hz:jN C t (aZ t).length=0):rO F t=t:=by
 have h0:∀ j,j<(aZ t).length->F ((dG t).getD j []) ((aZ t).getD j .nil)=(aZ t).getD j .nil:=λj hj=>(h j hj).2.2.1 (oo hz _ (List.mem_map.2 ⟨j,List.mem_range.2 hj,rfl⟩));cases t with
 | nil=>rfl
 | leaf p v=>rfl
 | stub r=>rfl
 | ext q s =>
  show T.ext q (F q s) = .ext q s;rw [show F q s=s from h0 0 (by show 0<1; omega)]
 | br ks =>
  show T.br _ = .br ks;congr 1;funext i;cases hi:isNil (ks i) with
  | true=>rw [if_pos rfl]; exact (cu.1 hi).symm
  | false =>
   have hne:ks i ≠ .nil:=λe=>by rw [cu.2 e] at hi; cases hi
   obtain ⟨h1,h2,h3⟩:=Uh hne;have:=h0 _ h1;rw [h2,h3] at this;rw [if_neg (by decide),this]
theorem Ay {α:Type} (p : α->Bool) (g : α->Nat):∀ l:List α,(∀ i∈l,p i=false->g i=0)->((l.filter p).map g).sum=(l.map g).sum
 | [],_=>rfl
 | x::l,h=>by
  have ih:=Ay p g l λi hi=>h i (List.mem_cons_of_mem _ hi);cases hp:p x with
  | true=>rw [List.filter_cons_of_pos hp,List.map_cons,List.map_cons,List.sum_cons,List.sum_cons,ih]
  | false =>
   rw [List.filter_cons_of_neg (by rw [hp]; decide),List.map_cons,List.sum_cons,ih,h x List.mem_cons_self hp];omega
theorem Vr (C:Pa->T->Nat) (ks:Fin 16->T):jN C (.br ks) (aZ (.br ks)).length=((List.finRange 16).map λi=>if isNil (ks i) then 0 else C (oF i) (ks i)).sum:=by
 have h1:((List.range (aZ (.br ks)).length).map λi=>C ((dG (.br ks)).getD i []) ((aZ (.br ks)).getD i .nil))=(dU ks).map λi=>C (oF i) (ks i):=by
  apply List.ext_getElem
  .simp [aZ]
  .intro j a b;have hj:j<(dU ks).length:=by simpa using b
   rw [List.getElem_map,List.getElem_map,List.getElem_range];show C (((dU ks).map oF).getD j []) (((dU ks).map ks).getD j .nil)=_;rw [getD_map _ _ _ _ hj,getD_map _ _ _ _ hj]
 unfold jN;rw [h1,<-Ay (λi=>!isNil (ks i)) _ (List.finRange 16) (λi _ hp=>by
  have hi:isNil (ks i)=true:=by simpa using hp
  rw [hi]; rfl)]
 show ((dU ks).map _).sum=((dU ks).map _).sum;congr 1;apply List.map_congr_left;intro i hi;have hne:=Tr.lX.1 hi;rw [if_neg (λe=>hne (cu.1 e))]
theorem NI (C:Pa->T->Nat) (q:Pa) (s:T):jN C (.ext q s) (aZ (.ext q s)).length=C q s:=by
 show (List.map _ (List.range 1)).sum=_;simp [dG,aZ,List.range_succ]
theorem Tp {k:aK} (h:k.size=32):32<=(dS k).bytes.length:=by
 have hp:dB k=true:=aI (.inr h);unfold dS;rw [if_pos hp];have h1:=Rl.lF (It.mk false k []);rw [Rl.inner_mk] at h1;have h2:k.data.toList.length=k.size:=Rl.jg k;simp only [List.map_nil,List.flatten_nil,List.append_nil] at h1;omega
theorem Jj {α β:Type} {f : α->List β} {x : α}:∀ {l:List α},x∈l->(f x).length<=((l.map f).flatten).length
 | y::l,h=>by
  rw [List.map_cons,List.flatten_cons,List.length_append];rcases List.mem_cons.1 h with rfl | h
  .omega
  .have:=Jj (f:=f) h;omega
theorem MP {N:Nd} {k:aK} (h:dS k∈bQ N) (hk:k.size=32):32<=(jP N).length:=by
 have h1:=Rl.lF (gq N);unfold gq at h1;rw [Rl.inner_mk,List.length_append] at h1;have h2:=Jj (f:=It.bytes) h;have h3:=Tp hk;unfold jP gq;omega
theorem zA {N:Nd} (h:32<=(jP N).length):(ofP (iR N)).size=32:=by
 have h1:=xJ N;unfold ofP;rw [if_neg (by omega)];have:(⟨(jI (iR N)).toArray⟩:aK).size=(jI (iR N)).length:=by show (jI (iR N)).toArray.size=_; simp
 rw [this,pE]
theorem tO {q:Pa} {s:T} (h:(ref (.ext q s)).size≠32):(ref s).size≠32:=λe=>h (zA (MP (k:=ref s) (by
 unfold bQ;rw [if_neg (show ¬ (2:Int)=3 by decide),if_neg (show ¬ (2:Int)=1 by decide)];exact List.mem_cons_of_mem _ List.mem_cons_self) e))
theorem wO {ks:Fin 16->T} (h:(ref (.br ks)).size≠32) (i:Fin 16):(ref (ks i)).size≠32:=λe=>h (zA (MP (k:=ref (ks i)) (by
 unfold bQ;rw [if_pos rfl];exact List.mem_append_left _ (List.mem_map.2 ⟨_,List.mem_map.2 ⟨i,List.mem_finRange i,rfl⟩,rfl⟩)) e))
theorem mQ:∀ (t:T) (d:Nat),(ref t).size≠32->bY d t=t
 | .nil,_,_=>rfl
 | .leaf _ _,_,_=>rfl
 | .stub _,_,_=>rfl
 | .ext q s,d,h=>by
  show T.ext q (if d<=1/\(ref s).size=32 then .stub (ref s) else bY (d-1) s)=_;rw [if_neg (λe=>tO h e.2),mQ s _ (tO h)]
 | .br ks,d,h=>by
  show T.br (λi=>if d<=1/\(ref (ks i)).size=32 then .stub (ref (ks i)) else bY (d-1) (ks i))=_;congr 1;funext i;rw [if_neg (λe=>wO h i e.2),mQ (ks i) _ (wO h i)]
theorem vJ:∀ (t:T) (ws:List Pa),(ref t).size≠32->jc ws t=t
 | .nil,_,_=>rfl
 | .leaf _ _,_,_=>rfl
 | .stub _,_,_=>rfl
 | .ext q s,ws,h=>by
  show T.ext q (if onP q ws=[]/\(ref s).size=32 then .stub (ref s) else jc (onP q ws) s)=_;rw [if_neg (λe=>tO h e.2),vJ s _ (tO h)]
 | .br ks,ws,h=>by
  show T.br (λi=>if onC i.val ws=[]/\(ref (ks i)).size=32 then .stub (ref (ks i)) else jc (onC i.val ws) (ks i))=_;congr 1;funext i;rw [if_neg (λe=>wO h i e.2),vJ (ks i) _ (wO h i)]
def oI (D:Nat) (_:Pa) (s:T):T:=if (ref s).size=32 then (if D<=1 then .stub (ref s) else bY (D-1) s) else s
def sJ (ws:List Pa) (st:Pa) (s:T):T:=if (ref s).size=32 then (if onP st ws=[] then .stub (ref s) else jc (onP st ws) s) else s
theorem VY (i:Fin 16) (ws:List Pa):onP (oF i) ws=onC i.val ws:=by
 unfold onP onC oF;have h:∀ w:Pa,(decide ([UInt8.ofNat i.val]<+:w))=decide (w≠[]/\(w.headD 0).toNat=i.val):=λw=>by
  have hi:=i.isLt;have e:(UInt8.ofNat i.val).toNat=i.val:=by simp; omega
  cases w with
  | nil=>simp
  | cons c r =>
   rw [Bool.eq_iff_iff,decide_eq_true_iff,decide_eq_true_iff];constructor
   .rintro ⟨z,hz⟩;simp at hz;refine ⟨by simp,?_⟩;show c.toNat=_;rw [<-hz.1,e]
   .rintro ⟨_,h2⟩;have h2':c.toNat=i.val:=h2;refine ⟨r,?_⟩;have:c=UInt8.ofNat i.val:=UInt8.toNat_inj.1 (by rw [h2',e]);rw [this]; rfl
 rw [show (λw:Pa=>decide ([UInt8.ofNat i.val]<+:w))=λw=>decide (w≠[]/\(w.headD 0).toNat=i.val) from funext h];apply List.map_congr_left;intro w _;show w.drop 1=w.tail;simp
theorem xK (D:Nat) (st:Pa) (s:T):oI D st s=if D<=1/\(ref s).size=32 then .stub (ref s) else bY (D-1) s:=by
 unfold oI;by_cases h:(ref s).size=32
 .rw [if_pos h];by_cases hd:D<=1
  .rw [if_pos hd,if_pos ⟨hd,h⟩]
  .rw [if_neg hd,if_neg (λe=>hd e.1)]
 .rw [if_neg h,if_neg (λe=>h e.2),mQ s _ h]
theorem Aj (ws:List Pa) (st:Pa) (s:T):sJ ws st s=if onP st ws=[]/\(ref s).size=32 then .stub (ref s) else jc (onP st ws) s:=by
 unfold sJ;by_cases h:(ref s).size=32
 .rw [if_pos h];by_cases hd:onP st ws=[]
  .rw [if_pos hd,if_pos ⟨hd,h⟩]
  .rw [if_neg hd,if_neg (λe=>hd e.1)]
 .rw [if_neg h,if_neg (λe=>h e.2),vJ s _ h]
theorem DY (D:Nat) (t:T):rO (oI D) t=bY D t:=by
 cases t with
 | nil=>rfl
 | leaf p v=>rfl
 | stub r=>rfl
 | ext q s =>
  show T.ext q (oI D q s)=_;rw [xK]; rfl
 | br ks =>
  show T.br _=T.br _;congr 1;funext i;cases hi:isNil (ks i) with
  | true=>rw [if_pos rfl,cu.1 hi,if_neg (λe=>om e.2 rfl)]; rfl
  | false=>rw [if_neg (by decide),xK]
theorem Hz (ws:List Pa) (t:T):rO (sJ ws) t=jc ws t:=by
 cases t with
 | nil=>rfl
 | leaf p v=>rfl
 | stub r=>rfl
 | ext q s =>
  show T.ext q (sJ ws q s)=_;rw [Aj]; rfl
 | br ks =>
  show T.br _=T.br _;congr 1;funext i;cases hi:isNil (ks i) with
  | true=>rw [if_pos rfl,cu.1 hi,if_neg (λe=>om e.2 rfl)]; rfl
  | false=>rw [if_neg (by decide),Aj,VY]
theorem Xo {s s':T} (h:Sub s s') (hz:bX s'=0):s'=s:=by
 rcases h with ⟨rfl,_⟩ | h
 .cases hz
 .exact wQ h hz
theorem Kw (D:Nat) (st:Pa) (s:T):Sub s (oI D st s):=by
 rw [xK];by_cases h:D<=1/\(ref s).size=32
 .rw [if_pos h]; exact .inl ⟨rfl,om h.2⟩
 .rw [if_neg h]; exact .inr (nK s _)
theorem OZ (ws:List Pa) (st:Pa) (s:T):Sub s (sJ ws st s):=by
 rw [Aj];by_cases h:onP st ws=[]/\(ref s).size=32
 .rw [if_pos h]; exact .inl ⟨rfl,om h.2⟩
 .rw [if_neg h]; exact .inr (wN s _)
theorem oO {t:T} {j:Nat} (hj:j<(aZ t).length):(aZ t).getD j .nil∈aZ t:=by
 rw [List.getD_eq_getElem?_getD,List.getElem?_eq_getElem hj];exact List.getElem_mem _
theorem EZ {s:T} (h:vD s):dD s≠1/\dD s≠2:=by
 cases s with
 | br ks=>exact ⟨by show (3:Int)≠1; decide,by show (3:Int)≠2; decide⟩
 | stub r=>exact ⟨by show (-1:Int)≠1; decide,by show (-1:Int)≠2; decide⟩
 | _=>exact h.elim
theorem RD {F:Pa->T->T} {t:T} {L:Nat} (g:Tr.Good t L) (hL:L<=64) (f:Fine t) (hF:∀ st s,Sub s (F st s)):OkF F (λst s=>bX (F st s)) t:=by
 intro j hj;have hm:=oO hj;obtain ⟨hne,hf,_,L',hl,hg⟩:=iE g f _ hm;have hS:=hF ((dG t).getD j []) ((aZ t).getD j .nil);generalize (aZ t).getD j .nil=s at *
 refine ⟨hS.ref,?_,λhz=>Xo hS hz,λhk=>?_⟩
 .rcases hS with ⟨e,_⟩ | h
  .rw [e];exact ⟨0,trivial,by omega,(eZ s L' hg (by omega) hf hne).2⟩
  .exact ⟨L',h.good hg,by omega,h.fine hg (by omega) hf⟩
 .have hbr:vD s:=by
   cases t with
   | nil=>cases hm
   | leaf p v=>cases hm
   | stub r=>cases hm
   | ext q u =>
    obtain rfl:s=u:=by
     have:s∈[u]:=hm;simpa using this
    exact g.2.2.2.1
   | br ks=>exact absurd hk (by show (3:Int)≠2; decide)
  rcases hS with ⟨e,_⟩ | h
  .rw [e]; exact EZ trivial
  .exact EZ (h.Zh hbr)
theorem Ed (F:Pa->T->T) (t:T) (hs:¬ dH t):jN (λst s=>bX (F st s)) t (aZ t).length=bX (rO F t):=by
 cases t with
 | nil=>rfl
 | leaf p v=>rfl
 | stub r=>exact absurd trivial hs
 | ext q s=>rw [NI]; rfl
 | br ks =>
  rw [Vr];show _=((List.finRange 16).map λi=>bX (if isNil (ks i) then .nil else F (oF i) (ks i))).sum;congr 1;apply List.map_congr_left;intro i _;cases hi:isNil (ks i) with
  | true=>rfl
  | false=>rfl
def Fits (R:aK) (k:T):T->Nat->Prop
 | .ext q s,L=>(∀ r,s = .stub r->r=R->vD k)/\Fits R k s (L-q.length)
 | .br ks,L=>∀ i,Fits R k (ks i) (L-1)
 | .stub r,L=>r=R->Tr.Good k L
 | _,_=>True
theorem Bw {R:aK} {k:T} (t:T):bZ R t=0->bO R k t=t:=by
 induction t with
 | nil=>intro _; rfl
 | leaf _ _=>intro _; rfl
 | stub r =>
  intro h;have h':(if r=R then 1 else 0)=0:=h;show (if r=R then k else .stub r)=_;by_cases e:r=R
  .rw [if_pos e] at h'; cases h'
  .rw [if_neg e]
 | ext q s ih =>
  intro h;show T.ext q (bO R k s)=_;rw [ih h]
 | br ks ih =>
  intro h;have h':((List.finRange 16).map λi=>bZ R (ks i)).sum=0:=h;rw [bO];refine congrArg T.br (funext λi=>?_);have hm:bZ R (ks i)∈(List.finRange 16).map λi=>bZ R (ks i):=List.mem_map.2 ⟨i,List.mem_finRange i,Eq.refl _⟩;have hz:bZ R (ks i)=0:=oo h' (bZ R (ks i)) hm;exact ih i hz
theorem Jf {R:aK} {k s:T} (hs:vD s) (h:∀ r,s = .stub r->r=R->vD k):vD (bO R k s):=by
 cases s with
 | br ks=>trivial
 | stub r =>
  show vD (if r=R then k else .stub r);by_cases e:r=R
  .rw [if_pos e]; exact h r rfl e
  .rw [if_neg e]; trivial
 | _=>exact hs.elim
theorem IW {R:aK} {k s:T} (hk:k ≠ .nil) (hs:s ≠ .nil):bO R k s ≠ .nil:=by
 cases s with
 | nil=>exact absurd rfl hs
 | stub r =>
  show (if r=R then k else .stub r) ≠ .nil;by_cases e:r=R
  .rw [if_pos e]; exact hk
  .rw [if_neg e]; intro e; cases e
 | leaf p v=>intro e; cases e
 | ext q u=>intro e; cases e
 | br ks=>intro e; cases e
theorem rF {R:aK} {k:T} (hk:k ≠ .nil):∀ (t:T) (L:Nat),Tr.Good t L->Fits R k t L->Tr.Good (bO R k t) L
 | .nil,_,g,_=>g
 | .leaf _ _,_,g,_=>g
 | .stub r,L,_,h=>by
  show Tr.Good (if r=R then k else .stub r) L;by_cases e:r=R
  .rw [if_pos e]; exact h e
  .rw [if_neg e]; trivial
 | .ext q s,L,g,h=>⟨g.1,g.2.1,g.2.2.1,Jf g.2.2.2.1 h.1,rF hk s _ g.2.2.2.2 h.2⟩
 | .br ks,L,g,h=>by
  obtain ⟨i,j,hij,hi,hj⟩:=g.2.1;exact ⟨g.1,⟨i,j,hij,IW hk hi,IW hk hj⟩,λi=>rF hk (ks i) _ (g.2.2 i) (h i)⟩
theorem qY {R:aK} {k:T} (hk:Fine k):∀ t:T,Fine t->Fine (bO R k t)
 | .nil,f=>f
 | .leaf _ _,f=>f
 | .stub r,f=>by
  show Fine (if r=R then k else .stub r);by_cases e:r=R
  .rw [if_pos e]; exact hk
  .rw [if_neg e]; exact f
 | .ext q s,f=>qY hk s f
 | .br ks,f=>λi=>qY hk (ks i) (f i)
theorem JD {R:aK} {k t:T} {L:Nat} (g:Tr.Good t L) (f:Fine t) (h:Fits R k t L):∀ s∈aZ t,∃ L',L'<L/\Tr.Good s L'/\Fits R k s L':=by
 intro s hs;cases t with
 | nil=>cases hs
 | leaf p v=>cases hs
 | stub r=>cases hs
 | ext q u =>
  obtain rfl:s=u:=by
   have:s∈[u]:=hs;simpa using this
  have hq:0<q.length:=List.length_pos_iff.2 g.1;have:=g.2.2.1;exact ⟨L-q.length,by omega,g.2.2.2.2,h.2⟩
 | br ks =>
  obtain ⟨i,rfl,hn⟩:=Tm.lX hs;have:=g.1;exact ⟨L-1,by omega,g.2.2 i,h i⟩
theorem Uz {R:aK} {k t:T} {L:Nat} (hR:ref k=R) (hk:k ≠ .nil) (hf:Fine k) (g:Tr.Good t L) (hL:L<=64) (f:Fine t) (h:Fits R k t L):OkF (λ_ s=>bO R k s) (λ_ s=>bZ R s) t:=by
 intro j hj;have hm:=oO hj;obtain ⟨hne,hf',_,_⟩:=iE g f _ hm;obtain ⟨L',hl,hg,hfit⟩:=JD g f h _ hm;generalize (aZ t).getD j .nil=s at *
 refine ⟨qy hR s,⟨L',rF hk s L' hg hfit,by omega,qY hf s hf'⟩,λhz=>Bw s hz,λhkd=>?_⟩;cases t with
 | nil=>cases hm
 | leaf p v=>cases hm
 | stub r=>cases hm
 | ext q u =>
  obtain rfl:s=u:=by
   have:s∈[u]:=hm;simpa using this
  exact EZ (Jf g.2.2.2.1 h.1)
 | br ks=>exact absurd hkd (by show (3:Int)≠2; decide)
theorem tL {R:aK} {k t:T} (hs:¬ dH t):rO (λ_ s=>bO R k s) t=bO R k t/\jN (λ_ s=>bZ R s) t (aZ t).length=bZ R t:=by
 cases t with
 | nil=>exact ⟨rfl,rfl⟩
 | leaf p v=>exact ⟨rfl,rfl⟩
 | stub r=>exact absurd trivial hs
 | ext q s=>exact ⟨rfl,NI _ q s⟩
 | br ks =>
  constructor
  .show T.br _=T.br _;congr 1;funext i;cases hi:isNil (ks i) with
   | true=>rw [if_pos rfl,cu.1 hi]; rfl
   | false=>rw [if_neg (by decide)]
  .rw [Vr];show _=((List.finRange 16).map λi=>bZ R (ks i)).sum;congr 1;apply List.map_congr_left;intro i _;cases hi:isNil (ks i) with
   | true=>rw [if_pos rfl,cu.1 hi]; rfl
   | false=>rw [if_neg (by decide)]
end Sx
end
section
open Go.RowKit
namespace Rf
open Rl Ni No Sh Sm
def NoC (xs:List aK) (j:Nat):Prop:=∀ p q,p<q->q<j->jI (xs.getD p eB)=jI (xs.getD q eB)->xs.getD p eB=xs.getD q eB
theorem NoC.all {xs:List aK} (h:NoC xs xs.length):∀ x∈xs,∀ y∈xs,jI x=jI y->x=y:=λx hx y hy e=>by
 obtain ⟨p,hp,rfl⟩:=List.getElem_of_mem hx;obtain ⟨q,hq,rfl⟩:=List.getElem_of_mem hy;have ep:xs.getD p eB=xs[p]:=by simp [List.getD,hp]
 have eq:xs.getD q eB=xs[q]:=by simp [List.getD,hq]
 rcases Nat.lt_trichotomy p q with h1 | h1 | h1
 .rw [<-ep,<-eq];exact h p q h1 hq (by rw [ep,eq]; exact e)
 .subst h1; rfl
 .rw [<-ep,<-eq];exact (h q p h1 hp (by rw [ep,eq]; exact e.symm)).symm
theorem VX {s t:aK} (h:jI s=jI t):uJ s=uJ t:=by unfold uJ; rw [h]
theorem Fg (xs:List aK) (hx:∀ k∈xs,k.size<=900000) (a:aJ) (n cap:Nat) (w:World) (h:lW w a n cap xs) (hn:n<=1000000) :
  Calls prog 24 #[.slice a n cap] w λe w'=>∃ b:Bool,e = .returned (.bool b)/\(b=false->NoC xs xs.length)/\Below w.heap.size w w':=by
 have hm:=h.2.1;have hnc:=h.1;have hl:=h.len;unfold maxLen at hm;have H:=hid h;have HL:=hid hl;have HX:=hid hx;clear h hl hx;obtain ⟨i0,hi,hz0,hz1,hz2⟩:=jQ;have HI:Hid (_/\_/\_/\_):=hid ⟨hi,hz0,hz1,hz2⟩;clear hi hz0 hz1 hz2;go_enter func24,ntmps24;go_wp2;go_loopw [3,4] (λv i wr=>∃ j:Nat,j<=n/\i = .int .i64 j/\Hid (wr.ownsRow w.heap.size 9 1 v j (((xs.take j).map uJ).map Value.string))/\Hid (Below w.heap.size w wr)/\Hid (NoC xs j)) (λ_ i _=>n-(intOf i).toNat)
 case atStart=>exact ⟨0,Nat.zero_le _,rfl,hid (World.ownsRow_nil _ _ _ _),hid aG,hid (λp q _ h=>absurd h (Nat.not_lt_zero _))⟩
 case round =>
  obtain ⟨j,hj,rfl,HR,HB,y7⟩:=hrel;have hsz:w.heap.size<=wr.heap.size:=HB.out.size;by_cases hlt:j<n
  .obtain ⟨b,off,rfl,hblt,hcj⟩:=H.out.at' j hlt;have hc':=(Below.cell (p:=⟨b,off+j,none⟩) HB.out hblt).trans hcj;have HM:Hid (j<xs.length):=hid (by rw [HL.out]; exact hlt);have eV:=hid (Nu (xs.getD j eB) (HX.out _ (Xr HM.out)) wr);have jt:=hid (Qn xs j HM.out);obtain ⟨X,hX⟩:=av (xs.getD j eB)
   rw [hX] at eV hc' jt;have Ft:=hid hX;rw [hX] at hcj;have y8:=hid hcj;obtain ⟨S,hS⟩:=av (uJ X)
   rw [hS] at eV jt;have HS:=hid hS;obtain ⟨L,hL⟩:=av ((xs.take j).map uJ)
   rw [hL] at HR jt;clear hX hS hcj hL;go_wp2_with fail
   refine eV.out.mono ?_;rintro e w1 ⟨rfl,hb1⟩;have HR1:=hid (Ij HR.out hb1);have HB1:=hid (bst HB.out hb1);have hsz1:w.heap.size<=w1.heap.size:=HB1.out.size;clear hb1 HR HB eV hc';go_wp2_with (at_builtin; refine wpList_append_own _ rfl _ _ 34 rfl w.heap.size 9 i0 (.string ⟨#[]⟩) 1 16 underlying34 HI.out.1 HI.out.2.1 HI.out.2.2.1 HI.out.2.2.2 rfl (by decide) _ _ _ rfl (HR1.out.alloc _) ⟨w1.heap.size,0,none⟩ 1 1 [.string S] rfl rfl ?d1 ?d2 ?d3 ?d4 ?d5 ?_)
   case d1=>exact Bu.cell_one_new' _ _ _ _
   case d2=>intro u hu; simp at hu; subst hu; rfl
   case d3=>unfold maxLen; omega
   case d4=>omega
   case d5=>simp; omega
   intro v' w2 hown2 hgrow _;have hlt':=HR1.out.lt;have HB2:=hid ((HB1.out.alloc hsz1 _).grown hgrow (by simp; omega) (λg hg=>(hlt' g hg).1));have hown3:w2.ownsRow w.heap.size 9 1 v' (j+1) (((xs.take (j+1)).map uJ).map Value.string):=by rw [jt.out,List.map_append]; exact hown2
   obtain ⟨a2,c2,rfl,hs2⟩:=lW.qx hown3;have HR2:=hid hown3;have HS2:=hid hs2;have hsc:=hs2.1;have hsm:=hs2.2.1;unfold maxLen at hsm;clear hown2 hown3 hgrow hlt' hs2 HR1 HB1 jt;have hB2:=HB2.out;obtain ⟨b2,off2,rfl,re,FA⟩:=HS2.out.at' j (by omega);rw [MV xs (j+1) j HM.out (by omega),Ft.out,HS.out] at FA;have MM:=hid FA;have MT:Hid (w2.cell? ⟨b,off+j,none⟩=some (.string X)):=hid ((Below.cell (p:=⟨b,off+j,none⟩) hB2 hblt).trans y8.out);clear FA hB2;go_wp2_with fail
   go_loopw [5] (λi wq=>∃ k:Nat,k<=j/\i = .int .i64 k/\Hid (Below w2.heap.size w2 wq)/\Hid (∀ p,p<k->jI (xs.getD p eB)=jI (xs.getD j eB)->xs.getD p eB=xs.getD j eB)) (λi _=>j-(intOf i).toNat)
   case atStart=>exact ⟨0,Nat.zero_le _,rfl,hid aG,hid (λp h=>absurd h (Nat.not_lt_zero _))⟩
   case round =>
    obtain ⟨k,hk,rfl,j8,ui⟩:=hrel;by_cases hkj:k<j
    .obtain ⟨b',off',MY,_,hck⟩:=H.out.at' k (by omega);obtain ⟨rfl,rfl⟩:b=b'/\off=off':=by simpa using MY
     obtain ⟨b',off',y9,_,hcs⟩:=HS2.out.at' k (by omega);obtain ⟨rfl,rfl⟩:b2=b'/\off2=off':=by simpa using y9
     rw [MV xs (j+1) k HM.out (by omega)] at hcs;have f1:=(Below.cell (p:=⟨b2,off2+k,none⟩) j8.out re).trans hcs;have f2:=(Below.cell (p:=⟨b2,off2+j,none⟩) j8.out re).trans MM.out;have f3:=((Below.cell (p:=⟨b,off+k,none⟩) j8.out (aH hblt HB2.out.size)).trans (Below.cell (p:=⟨b,off+k,none⟩) HB2.out hblt)).trans hck;have f4:=(Below.cell (p:=⟨b,off+j,none⟩) j8.out (aH hblt HB2.out.size)).trans MT.out;obtain ⟨Xk,FF⟩:=av (xs.getD k eB)
     rw [FF] at f1 f3;obtain ⟨Sk,FG⟩:=av (uJ Xk)
     rw [FG] at f1;have N1:=hid FF;have iv:=hid FG;clear MY y9 hck hcs FF FG;have ey:Hid ((Sk=S->Xk=X)->∀ p,p<k+1->jI (xs.getD p eB)=jI (xs.getD j eB)->xs.getD p eB=xs.getD j eB):=hid (λhh p hp e=>by
      by_cases hpk:p=k
      .subst hpk;rw [N1.out,Ft.out];rw [N1.out,Ft.out] at e;exact hh (by rw [<-iv.out,<-HS.out]; exact VX e)
      .exact ui.out p (by omega) e)
     by_cases hq:Sk=S
     .by_cases hx2:Xk=X
      .have FO:=hid (ey.out λ_=>hx2);subst hq hx2;clear ey;go_wp2;go_quiet (fail)
       go_wp2;go_roundw
       case rel=>exact ⟨k+1,by omega,by go_num,hid (below_drewN j8.out _),FO⟩
       case measure=>simp [intOf]; omega
      .have hs:(Xk.toList != X.toList)=true:=by
        show (!(Xk.toList==X.toList))=true;rw [str_eq,decide_eq_false hx2];rfl
       have hs2:(Xk.toList==X.toList)=false:=by rw [str_eq,decide_eq_false hx2]
       subst hq;have aw:Hid (Below w.heap.size w wr):=hid (HB2.out.trans (j8.out.mono HB2.out.size));clear ey hx2;go_wp2;go_quiet (fail)
       go_wp2;go_ret;exact ⟨true,rfl,λe=>(by cases e),below_drewN aw.out _⟩
     .have hs:(Sk.toList==S.toList)=false:=by rw [str_eq,decide_eq_false hq]
      have FO:=hid (ey.out λe=>absurd e hq);clear hq ey;go_wp2;go_quiet (fail)
      go_wp2;go_roundw
      case rel=>exact ⟨k+1,by omega,by go_num,hid (below_drewN j8.out _),FO⟩
      case measure=>simp [intOf]; omega
    .obtain rfl:k=j:=by omega
     have TE:=hid (Ij HR2.out j8.out);have aw:Hid (Below w.heap.size w wr):=hid (HB2.out.trans (j8.out.mono HB2.out.size));have TO:Hid (NoC xs (k+1)):=hid (λp q hpq hq e=>by
      by_cases hqk:q=k
      .subst hqk;exact ui.out p hpq e
      .exact y7.out p q hpq (by omega) e)
     clear MM MT y8;go_wp2;go_roundw
     case rel=>exact ⟨k+1,by omega,by go_num,TE,aw,TO⟩
     case measure=>simp [intOf]; omega
  .obtain rfl:j=n:=by omega
   go_wp2;go_ret;exact ⟨false,rfl,λ_=>by rw [HL.out]; exact y7.out,HB.out⟩
end Rf
end
section
namespace Sx
open Tr Rf Rl Ni No Tm
def Pl (s:T):Prop:=dH s\/Full s
def Rt:T->Prop
 | .br us=>∀ i,Pl (us i)
 | .ext _ v=>Pl v
 | u=>Full u
def Sh:T->T->Prop
 | .br _,.br _=>True
 | .ext q _,.ext q' _=>q=q'
 | .leaf _ _,.leaf _ _=>True
 | .nil,.nil=>True
 | _,_=>False
theorem uo {R:aK} {k:T}:∀ (s:T) (L:Nat),Full s->Fits R k s L
 | .nil,_,_=>trivial
 | .leaf _ _,_,_=>trivial
 | .stub _,_,f=>f.elim
 | .ext q s,L,f=>⟨λr e=>by
   subst e;exact absurd f (λh=>h),uo s _ f⟩
 | .br ks,L,f=>λi=>uo (ks i) _ (f i)
theorem LY {R:aK} {k s:T} (f:Full s):bO R k s=s/\bZ R s=0:=by
 have h:bZ R s=0:=by
  have:=pQ (R:=R) (p:=.nil) rfl s;rw [oD s f] at this;omega
 exact ⟨Bw s h,h⟩
theorem GK {R:aK} {k s:T} (hk:Full k) (h:Pl s):Pl (bO R k s):=by
 rcases h with h | h
 .cases s with
  | stub r =>
   show Pl (if r=R then k else .stub r);by_cases e:r=R
   .rw [if_pos e]; exact .inr hk
   .rw [if_neg e]; exact .inl trivial
  | _=>exact h.elim
 .rw [(LY h).1]; exact .inr h
theorem Rk {R:aK} {k u:T} (hk:Full k) (h:Rt u):Rt (bO R k u):=by
 cases u with
 | nil=>exact h
 | leaf p v=>exact h
 | stub r=>exact h.elim
 | ext q s=>exact GK hk h
 | br us=>exact λi=>GK hk (h i)
structure Gf (t u:T) (many S:Nat):Prop where
 good:Tr.Good u 64
 fine:Fine u
 rt:Rt u
 sh:Sh t u
 enc:eU u=eU t
 cnt:bX u+S=many
 cut:(∀ s s',Part s t->Part s' t->ref s=ref s'->s=s')->Cut t u
theorem Gf.start {t:T} (g:Tr.Good t 64) (f:Full t) (fi:Fine t):Gf t (bY 1 t) (bX (bY 1 t)) 0:=by
 have hc:Cut t (bY 1 t):=nK _ _;refine ⟨hc.good g,hc.fine g aF fi,?_,?_,hc.enc,rfl,λ_=>hc⟩
 .cases t with
  | nil=>trivial
  | leaf p v=>trivial
  | stub r=>exact f.elim
  | ext q s =>
   show Pl (if 1<=1/\(ref s).size=32 then .stub (ref s) else bY (1-1) s);by_cases h:1<=1/\(ref s).size=32
   .rw [if_pos h]; exact .inl trivial
   .rw [if_neg h,mQ s _ (λe=>h ⟨aF,e⟩)]; exact .inr f
  | br ks =>
   intro i;show Pl (if 1<=1/\(ref (ks i)).size=32 then .stub (ref (ks i)) else bY (1-1) (ks i));by_cases h:1<=1/\(ref (ks i)).size=32
   .rw [if_pos h]; exact .inl trivial
   .rw [if_neg h,mQ (ks i) _ (λe=>h ⟨aF,e⟩)]; exact .inr (f i)
 .cases t with
  | nil=>trivial
  | leaf p v=>trivial
  | stub r=>exact f.elim
  | ext q s=>rfl
  | br ks=>trivial
theorem Gf.fits {t u k:T} {many S:Nat} (h:Gf t u many S) (g:Tr.Good t 64) (hk:k∈aZ t):Fits (ref k) k u 64/\∃ L,Tr.Good k L/\L<=64:=by
 have hr:=h.rt;have hs:=h.sh;clear h;cases t with
 | nil=>cases hk
 | leaf p v=>cases hk
 | stub r=>cases hk
 | ext q s =>
  obtain rfl:k=s:=by simpa [aZ] using hk
  refine ⟨?_,64-q.length,g.2.2.2.2,by omega⟩;cases u with
  | ext q' v =>
   have e:q=q':=hs;subst e;refine ⟨λr _ _=>g.2.2.2.1,?_⟩;rcases hr with h | h
   .cases v with
    | stub r=>exact λ_=>g.2.2.2.2
    | _=>exact h.elim
   .exact uo v _ h
  | _=>exact hs.elim
 | br ks =>
  obtain ⟨i,rfl,hn⟩:=Tm.lX hk;refine ⟨?_,63,g.2.2 i,by omega⟩;cases u with
  | br us =>
   intro j;rcases hr j with h | h
   .generalize us j=v at h;cases v with
    | stub r=>exact λ_=>g.2.2 i
    | _=>exact h.elim
   .exact uo (us j) _ h
  | _=>exact hs.elim
theorem Sl {R:aK} {k t u:T} (f:Rt u) (h:Sh t u):Sh t (bO R k u):=by
 cases u with
 | stub r=>exact f.elim
 | nil=>exact h
 | leaf p v=>exact h
 | ext q s=>cases t <;> exact h
 | br us=>cases t <;> exact h
theorem Gf.step {t u k:T} {many S:Nat} (h:Gf t u many S) (g:Tr.Good t 64) (f:Full t) (fi:Fine t) (hk:k∈aZ t):Gf t (bO (ref k) k u) many (S+bZ (ref k) u)/\bZ (ref k) u<=many:=by
 obtain ⟨hne,hfi,hfu,_⟩:=iE g fi k hk;have hfull:=hfu f;obtain ⟨hfit,_⟩:=h.fits g hk;have hns:¬ dH u:=by
  have:=h.rt;cases u with
  | stub r=>exact this.elim
  | _=>exact λe=>e
 have hcount:=pQ (R:=ref k) (oD k hfull) u;have hc:=h.cnt;refine ⟨⟨rF hne u 64 h.good hfit,qY hfi u h.fine,Rk hfull h.rt,Sl h.rt h.sh,(Qh rfl hns).trans h.enc,by omega,λhi=>xQ (λs hs he=>hi s k hs (SG hk) he) t u (Part.refl t) f (h.cut hi)⟩,by omega⟩
theorem OO {t:T} (g:Tr.Good t 64) (f:Full t) (fi:Fine t) (hc:NoC (bM t) (bM t).length):∀ s s',Part s t->Part s' t->ref s=ref s'->s=s':=by
 intro s s' hs hs' he;obtain ⟨f1,TX,K1,hK1,g1⟩:=tQ hs g f fi;obtain ⟨f2,TZ,K2,hK2,g2⟩:=tQ hs' g f fi;exact VD s K1 s' K2 g1 hK1 f1 TX g2 hK2 f2 TZ (λx hx y hy=>NoC.all hc x (rC hs x hx) y (rC hs' y hy)) he
theorem Gf.done {t u:T} {many S:Nat} (h:Gf t u many S) (hz:bX u=0) (hi:∀ s s',Part s t->Part s' t->ref s=ref s'->s=s'):u=t:=wQ (h.cut hi) hz
end Sx
end
section
namespace Sx
open Tr Rf Rl Ni No Tm Ky
def brK:T->Fin 16->T
 | .br ks=>ks
 | _=>λ_=>.nil
def kAB:Fin 16->T:=brK (bA .nil lAB)
def pz:Pa:=List.replicate 63 0
def sA:T:=.leaf pz sx
def sB:T:=.leaf pz sy
theorem tAB:bA .nil lAB = .br kAB:=by
 have h:=TI;unfold kAB;generalize bA .nil lAB=t at h ⊢;cases t with
 | br ks=>rfl
 | nil=>exact absurd h (by show ¬ (0:Int)=3; decide)
 | leaf p v=>exact absurd h (by show ¬ (1:Int)=3; decide)
 | ext q s=>exact absurd h (by show ¬ (2:Int)=3; decide)
 | stub r=>exact absurd h (by show ¬ (0:Int)=3; decide)
theorem k0:kAB 0=sA:=by kernel_rfl
theorem k1:kAB 1=sB:=by kernel_rfl
theorem Zv:(((List.finRange 16).drop 2).all λi=>isNil (kAB i))=true:=by kernel_rfl
theorem kz (i:Fin 16) (h0:i≠0) (h1:i≠1):kAB i = .nil:=by
 refine cu.1 (List.all_eq_true.1 Zv i ?_);have e:List.finRange 16=0::1::(List.finRange 16).drop 2:=by decide
 have hm:=List.mem_finRange i;rw [e] at hm;rcases List.mem_cons.1 hm with rfl | hm
 .exact absurd rfl h0
 .rcases List.mem_cons.1 hm with rfl | hm
  .exact absurd rfl h1
  .exact hm
theorem Wn:aZ (bA .nil lAB)=[sA,sB]:=by kernel_rfl
theorem Zu:32<=(jP (bH sA)).length:=Nat.le_of_ble_eq_true (by kernel_rfl)
theorem ZF:32<=(jP (bH sB)).length:=Nat.le_of_ble_eq_true (by kernel_rfl)
theorem Zx:(ref sA).size=32:=zA (N:=bH sA) Zu
theorem Zc:(ref sB).size=32:=zA (N:=bH sB) ZF
theorem Fy {f:Fin 16->Nat} (hz:∀ i,i≠0->i≠1->f i=0):((List.finRange 16).map f).sum=f 0+f 1:=by
 have e:List.finRange 16=[0,1,2,3,4,5,6,7,8,9,10,11,12,13,14,15]:=by decide
 rw [e];simp only [List.map_cons,List.map_nil,List.sum_cons,List.sum_nil];have h2:=hz 2 (by decide) (by decide);have h3:=hz 3 (by decide) (by decide);have h4:=hz 4 (by decide) (by decide);have h5:=hz 5 (by decide) (by decide);have h6:=hz 6 (by decide) (by decide);have h7:=hz 7 (by decide) (by decide);have h8:=hz 8 (by decide) (by decide);have h9:=hz 9 (by decide) (by decide);have h10:=hz 10 (by decide) (by decide);have h11:=hz 11 (by decide) (by decide);have h12:=hz 12 (by decide) (by decide);have U0:=hz 13 (by decide) (by decide)
 have U1:=hz 14 (by decide) (by decide);have N3:=hz 15 (by decide) (by decide);rw [h2,h3,h4,h5,h6,h7,h8,h9,h10,h11,h12,U0,U1,N3];rfl
theorem RQ (d:Nat) (ks:Fin 16->T):bY d (.br ks) = .br λi=>if d<=1/\(ref (ks i)).size=32 then .stub (ref (ks i)) else bY (d-1) (ks i):=rfl
theorem Xq (ws:List Pa) (ks:Fin 16->T):jc ws (.br ks) = .br λi=>if onC i.val ws=[]/\(ref (ks i)).size=32 then .stub (ref (ks i)) else jc (onC i.val ws) (ks i):=rfl
theorem IE (ks:Fin 16->T):bX (.br ks)=((List.finRange 16).map λi=>bX (ks i)).sum:=rfl
theorem Qp (R:aK) (k:T) (ks:Fin 16->T):bO R k (.br ks) = .br λi=>bO R k (ks i):=rfl
theorem Ow (R:aK) (ks:Fin 16->T):bZ R (.br ks)=((List.finRange 16).map λi=>bZ R (ks i)).sum:=rfl
theorem Vp:(bN (bY 1 (bA .nil lAB))).length=2:=by
 rw [jX,tAB,RQ,IE,Fy]
 .rw [k0,k1,if_pos ⟨aF,Zx⟩,if_pos ⟨aF,Zc⟩];rfl
 .intro i h0 h1;rw [kz i h0 h1,if_neg (λe=>om e.2 rfl)];rfl
def tW:T:=jc [eY ka] (bA .nil lAB)
def kW:Fin 16->T:=λi=>if i=0 then sA else if i=1 then .stub (ref sB) else .nil
theorem on0:onC 0 [eY ka]≠[]:=by decide
theorem on1:onC 1 [eY ka]=[]:=by decide
theorem En:tW = .br kW:=by
 unfold tW;rw [tAB,Xq];congr 1;funext i;unfold kW;by_cases h0:i=0
 .subst h0;rw [if_neg (λe=>on0 e.1),if_pos rfl,k0];rfl
 .rw [if_neg h0];by_cases h1:i=1
  .subst h1;rw [k1,if_pos ⟨on1,Zc⟩,if_pos rfl]
  .rw [if_neg h1,kz i h0 h1,if_neg (λe=>om e.2 rfl)];rfl
theorem Tv:(bN tW).length=1:=by
 rw [jX,En,IE,Fy]
 .rfl
 .intro i h0 h1;unfold kW;rw [if_neg h0,if_neg h1];rfl
theorem Zb:(Tr.get tW (eY ka)).isSome=true:=by
 rw [En];rfl
theorem YM:(Tr.get tW (eY kb)).isSome=false:=by
 rw [En];rfl
theorem XL:Tr.Good sB 63:=by
 have h:=jS.good;rw [tAB] at h;have:=h.2.2 1;rw [k1] at this;exact this
theorem Zi:Fine sB:=by
 have h:=jS.fine;rw [tAB] at h;have:=h 1;rw [k1] at this;exact this
theorem YO:Fits (ref sB) sB tW 64:=by
 rw [En];intro i;unfold kW;by_cases h0:i=0
 .rw [if_pos h0]; trivial
 .rw [if_neg h0];by_cases h1:i=1
  .rw [if_pos h1];exact λ_=>XL
  .rw [if_neg h1]
   trivial
theorem Yx:bO (ref sB) sB tW=bA .nil lAB:=by
 rw [En,tAB,Qp];congr 1;funext i;unfold kW;by_cases h0:i=0
 .subst h0;rw [if_pos rfl,k0];rfl
 .rw [if_neg h0];by_cases h1:i=1
  .subst h1;rw [if_pos rfl,k1];exact if_pos rfl
  .rw [if_neg h1,kz i h0 h1];rfl
theorem Xi:bZ (ref sB) tW=1:=by
 rw [En,Ow,Fy]
 .show 0+(if ref sB=ref sB then 1 else 0)=1;rw [if_pos rfl]
 .intro i h0 h1;unfold kW;rw [if_neg h0,if_neg h1];rfl
theorem YV:Cut (bA .nil lAB) tW:=wN _ _
theorem Yi:Cut (bA .nil lAB) (bY 1 (bA .nil lAB)):=nK _ _
end Sx
end
section
open Go.RowKit
namespace Tm
open Tr Ni Pk Ky No Rf Rl
open Sm (Tab)
structure Fk (K:Nat->Prop) (M M':Mp) (w w':World):Prop where
 os:w'.os=w.os
 tape:w'.tape=w.tape
 output:w'.output=w.output
 size:w.heap.size<=w'.heap.size
 block:∀ k,k<w.heap.size->M.at_ k=none->¬ K k->w'.heap[k]? = w.heap[k]?
 mono:∀ k t,M.at_ k=some t->M'.at_ k=some t
 fresh:∀ k,k<w.heap.size->M.at_ k=none->M'.at_ k=none
 grow:∀ k,M.ft k->M'.ft k
 foot:∀ k,k<w.heap.size->M'.ft k->M.ft k
 nob:∀ k,K k->k<w.heap.size->M.at_ k=none/\¬ fH w k
def Kc (K:Nat->Prop) (M:Mp) (w:World):Prop:=∀ k,K k->k<w.heap.size->M.at_ k=none/\¬ fH w k
section
variable {K K1:Nat->Prop} {M M1 M2 M':Mp} {w w1 w2 w':World}
theorem Fr.k (f:Fr M M w w') (hK:Kc K M w):Fk K M M w w' :=
 ⟨f.os,f.tape,f.output,f.size,λk hk hm _=>f.block k hk hm,f.mono,f.fresh,f.grow,λ_ _ h=>h,hK⟩
theorem Fk.fr (f:Fk K M M' w w') (h:∀ k,K k->w.heap.size<=k):Fr M M' w w' :=
 ⟨f.os,f.tape,f.output,f.size,λk hk hm=>f.block k hk hm λe=>by have:=h k e; omega,f.mono,f.fresh,f.grow,λk hf=>by
  by_cases hl:k<w.heap.size
  .exact .inl (f.foot k hl hf)
  .exact .inr (.inl (by omega))⟩
abbrev Fnw:=Fk λ_=>False
theorem Fnw.k (f:Fnw M M' w w') (hK:Kc K M w):Fk K M M' w w' :=
 ⟨f.os,f.tape,f.output,f.size,λk hk hm _=>f.block k hk hm λh=>h,f.mono,f.fresh,f.grow,f.foot,hK⟩
theorem Fr.n (f:Fr M M' w w') (h:∀ k,k<w.heap.size->M'.ft k->M.ft k):Fnw M M' w w' :=
 ⟨f.os,f.tape,f.output,f.size,λk hk hm _=>f.block k hk hm,f.mono,f.fresh,f.grow,h,λ_ h=>h.elim⟩
theorem Fnw.of (f:Fr M M w w'):Fnw M M w w':=Fr.n f λ_ _ h=>h
theorem Fk.trans (h:Fk K M M1 w w1) (g:Fk K1 M1 M2 w1 w2) (hk:∀ k,K1 k->K k\/w.heap.size<=k):Fk K M M2 w w2:=by
 have hs:=h.size;have hn1:∀ k,k<w.heap.size->¬ K k->¬ K1 k:=λk hl hn h1=>(hk k h1).elim hn (by omega);exact ⟨g.os.trans h.os,g.tape.trans h.tape,g.output.trans h.output,Nat.le_trans hs g.size,λk hl hm hn=>(g.block k (by omega) (h.fresh k hl hm) (hn1 k hl hn)).trans (h.block k hl hm hn),λk t hm=>g.mono k t (h.mono k t hm),λk hl hm=>g.fresh k (by omega) (h.fresh k hl hm),λk hf=>g.grow k (h.grow k hf),λk hl hf=>h.foot k hl (g.foot k (by omega) hf),h.nob⟩
theorem Fk.box (f:Fk K M M' w w') (hg:¬ M.ft g) (hlt:g<w.heap.size):¬ M'.ft g:=λh=>hg (f.foot g hlt h)
theorem VO {a:aJ} {n c:Nat} {l:aL} (hi:Inv M w) (h:bq w a n c l) (f:Fk K M M' w w'):bq w' a n c l:=by
 refine ⟨h.1,h.2.1,h.2.2.1,h.2.2.2.1,λj hj=>?_⟩;obtain ⟨b,off,e,hlt,hc⟩:=h.2.2.2.2 j hj;exact ⟨b,off,e,aH hlt f.size,by rw [World.cell?_of_block (w:=w) (f.block b hlt (hi.eu hc) λhk=>(f.nob b hk hlt).2 ⟨_,_,hc⟩)]; exact hc⟩
theorem XZ {t:TypeId} (h:Rg.Own w g cs t) (f:Fk K M M' w w') (hm:M.at_ g=none) (hg:¬ K g):Rg.Own w' g cs t:=⟨aH h.1 f.size,(f.block g h.1 hm hg).trans h.2⟩
theorem Bx.fk {t:TypeId} (h:Bx M w g cs t) (hi:Inv M w) (f:Fk K M M' w w') (hg:¬ K g):Bx M' w' g cs t:=⟨XZ h.o f (mR hi h.n) hg,f.box h.n h.o.1,h.h⟩
end
def oJ (w:World) (b:Nat) (R:Value->Value->Prop):Prop:=∃ es clock,w.heap[b]? = some (.map es clock)/\∀ e∈es.toList,R e.key e.val
section
variable {P:Program} {w w':World} {b:Nat} {R R':Value->Value->Prop} {t kt et:TypeId} {fs:Array Field} {key val:Value}
theorem oJ.lt (h:oJ w b R):b<w.heap.size:=by
 obtain ⟨es,cl,h1,_⟩:=h;exact (Array.getElem?_eq_some_iff.1 h1).1
theorem oJ.same (h:oJ w b R) (hb:w'.heap[b]? = w.heap[b]?) (hR:∀ k v,R k v->R' k v):oJ w' b R':=by
 obtain ⟨es,cl,h1,h2⟩:=h;exact ⟨es,cl,hb.trans h1,λe he=>hR _ _ (h2 e he)⟩
theorem oJ.nob (h:oJ w b R):¬ fH w b:=λ⟨j,x,hc⟩=>by
 obtain ⟨es,cl,h1,_⟩:=h;rw [World.cell?,h1] at hc;cases hc
theorem oJ.TP {M:Mp} (h:oJ w b R) (hi:Inv M w):M.at_ b=none:=by
 cases hm:M.at_ b with
 | none=>rfl
 | some t =>
  obtain ⟨_,_,_,_,_,_,_,_,hb,_⟩:=hi.part hm;obtain ⟨es,cl,h1,_⟩:=h;rw [hb] at h1;cases h1
def EqK (P:Program) (kt:TypeId) (w:World) (k k':Value):Prop:=∃ c:Bool,(Op.equal kt k k').run P w = .ok c w/\(c=true->k'=k)
theorem zi:∀ (es:List MapEntry) (i:Nat),(∀ e∈es,EqK P kt w key e.key)->∃ r,(Instr.findAsking kt key es i).run P w = .ok r w/\(r=none\/∃ j e,r=some (i+j,e.val)/\es[j]? = some e/\e.key=key)
 | [],i,_=>⟨none,by simp [Instr.findAsking],.inl rfl⟩
 | e::es,i,h=>by
  obtain ⟨c,h1,h2⟩:=h e List.mem_cons_self;cases c with
  | true=>exact ⟨some (i,e.val),by simp [Instr.findAsking,h1,Result.andThen],.inr ⟨0,e,rfl,rfl,h2 rfl⟩⟩
  | false =>
   obtain ⟨r,h3,h4⟩:=zi es (i+1) λx hx=>h x (List.mem_cons_of_mem _ hx);refine ⟨r,by simp [Instr.findAsking,h1,h3,Result.andThen],?_⟩;rcases h4 with h4 | ⟨j,x,h4,h5,h6⟩
   .exact .inl h4
   .exact .inr ⟨j+1,x,by rw [h4]; congr 2; omega,by simpa using h5,h6⟩
theorem Gn (hk:P.underlying kt=some (.struct fs)) (es:List MapEntry) (h:∀ e∈es,EqK P kt w key e.key):∃ r,(Instr.findKey kt key es).run P w = .ok r w/\(r=none\/∃ j e,r=some (j,e.val)/\es[j]? = some e/\e.key=key):=by
 cases es with
 | nil=>exact ⟨none,by simp [Instr.findKey,Instr.findNow,run_underlying hk],.inl rfl⟩
 | cons e es =>
  obtain ⟨r,h1,h2⟩:=zi (e::es) 0 h;refine ⟨r,by simp [Instr.findKey,Instr.findNow,Instr.sameNow,run_underlying hk,h1],?_⟩;rcases h2 with h2 | ⟨j,x,h2,h3,h4⟩
  .exact .inl h2
  .exact .inr ⟨j,x,by rw [h2,Nat.zero_add],h3,h4⟩
theorem Aa (ht:P.underlying t=some (.map kt et)) (hk:P.underlying kt=some (.struct fs)) (hc:∀ em,(Instr.checkKey em 10000 kt key).run P w = .ok () w) (hz:(zeroValue et).run P w = .ok z w) (hm:oJ w b R) (heq:∀ k v,R k v->EqK P kt w key k) :
  ∃ v ok,(Instr.lookup t (.map (some b)) key true).run P w = .ok (.tuple #[v,.bool ok]) w/\(ok=true->R key v)/\(ok=false->v=z):=by
 obtain ⟨es,cl,h1,h2⟩:=hm;obtain ⟨r,h3,h4⟩:=Gn hk es.toList (λe he=>heq _ _ (h2 e he));rcases h4 with rfl | ⟨j,e,rfl,h5,h6⟩
 .refine ⟨z,false,?_,?_,?_⟩
  .simp [Instr.lookup,run_underlying ht,MapKept.run_getObj_map h1,hc,h3,hz,Result.andThen]
  .intro e; cases e
  .intro _; rfl
 .refine ⟨e.val,true,?_,?_,?_⟩
  .simp [Instr.lookup,run_underlying ht,MapKept.run_getObj_map h1,hc,h3,Result.andThen]
  .intro _;have:=h2 e (List.mem_of_getElem? h5);rwa [h6] at this
  .intro e; cases e
theorem Eu (ht:P.underlying t=some (.map kt et)) (hk:P.underlying kt=some (.struct fs)) (hc:∀ em,(Instr.checkKey em 10000 kt key).run P w = .ok () w) (hs:Instr.sameBits 10000 key key=true) (hm:oJ w b R) (heq:∀ k v,R k v->EqK P kt w key k) (hR:R key val) :
  ∃ w',(Instr.mapUpdate t (.map (some b)) key val).run P w = .ok () w'/\oJ w' b R/\Rg.Upd w b w':=by
 obtain ⟨es,cl,h1,h2⟩:=hm;have hlt:=(Array.getElem?_eq_some_iff.1 h1).1;have hup:∀ o,Rg.Upd w b { w with heap:=w.heap.setIfInBounds b o }:=λo=>⟨rfl,rfl,rfl,by simp,λk hk=>by simp [Array.getElem?_setIfInBounds,Ne.symm hk]⟩
 have hat:∀ o,({ w with heap:=w.heap.setIfInBounds b o }:World).heap[b]? = some o:=λo=>by simp [Array.getElem?_setIfInBounds,hlt]
 obtain ⟨r,h3,h4⟩:=Gn hk es.toList (λe he=>heq _ _ (h2 e he));rcases h4 with rfl | ⟨j,e,rfl,h5,h6⟩
 .refine ⟨_,by simp [Instr.mapUpdate,run_underlying ht,MapKept.run_getObj_map h1,hc,h3,MapKept.run_setObj_map _ h1,Result.andThen]; rfl,⟨_,_,hat _,λe he=>?_⟩,hup _⟩;have he':e∈es\/e={ key:=key,val:=val,born:=cl }:=by simpa using he
  rcases he' with he | he
  .exact h2 e (by simpa using he)
  .rw [he]; exact hR
 .have hj:es[j]? = some e:=by simpa using h5
  have hst:(Instr.keyThatStays key key).run P w = .ok key w:=by simp [Instr.keyThatStays,hs]
  refine ⟨_,by simp [Instr.mapUpdate,run_underlying ht,MapKept.run_getObj_map h1,hc,h3,hj,h6,hst,MapKept.run_setObj_map _ h1,Result.andThen]; rfl,⟨_,_,hat _,λx hx=>?_⟩,hup _⟩;obtain ⟨i,hi,rfl⟩:=List.getElem_of_mem hx;simp only [Array.getElem_toList,Array.getElem_modify];split
  .exact hR
  .exact h2 _ (by simp)
end
end Tm
end
section
open Go.RowKit
namespace Sx
open Tr Ni Pk Ky
open Tm
abbrev Iv:Type:=Pa × aJ
def inC (x:Iv) (h:Hdl):List Value:=[.slice h.1 h.2.1 h.2.2,.pointer x.2]
def inA (x:Iv) (h:Hdl):aM:=#[.slice h.1 h.2.1 h.2.2,.pointer x.2]
theorem ug:(prog.info? 143).map (λi=>(i.zero,i.size,i.bytes))=some (some (.agg #[.slice none 0 0,.pointer none]),2,32):=by kernel_rfl
theorem pV:∃ i z,prog.info? 143=some i/\i.zero=some z/\i.size=2/\i.bytes=32/\z.cells.size=2:=by
 obtain ⟨i0,hi,hz,hs,hby⟩:=info_parts ug;exact ⟨i0,_,hi,hz,hs,hby,rfl⟩
def CJ (w:World) (b o:Nat) (x:Iv) (h:Hdl):Prop:=w.cell? ⟨b,o,none⟩=some (.slice h.1 h.2.1 h.2.2)/\w.cell? ⟨b,o+1,none⟩=some (.pointer x.2)
def dY (w:World) (a:aJ) (n c:Nat) (l:List Iv):Prop :=
 n<=c/\c<=maxLen/\l.length=n/\(a=none->c=0)/\∀ j,j<n->∃ b off h,a=some ⟨b,off,none⟩/\b<w.heap.size/\CJ w b (off+j*2) (l.getD j ([],none)) h/\bq w h.1 h.2.1 h.2.2 (l.getD j ([],none)).1
theorem dY.len {w:World} {a:aJ} {n c:Nat} {l:List Iv} (h:dY w a n c l):l.length=n:=h.2.2.1
theorem dY.at' {w:World} {a:aJ} {n c:Nat} {l:List Iv} (h:dY w a n c l) (j:Nat) (hj:j<n):∃ b off h,a=some ⟨b,off,none⟩/\b<w.heap.size/\CJ w b (off+j*2) (l.getD j ([],none)) h/\bq w h.1 h.2.1 h.2.2 (l.getD j ([],none)).1:=h.2.2.2.2 j hj
theorem dY.nil (w:World):dY w none 0 0 []:=⟨aF,Nat.zero_le _,rfl,λ_=>rfl,λ_ h=>absurd h (Nat.not_lt_zero _)⟩
def gY:List Iv->List Hdl->List Value
 | x::xs,h::hs=>.slice h.1 h.2.1 h.2.2 :: .pointer x.2::gY xs hs
 | _,_=>[]
theorem mK:∀ (xs:List Iv) (hs:List Hdl) (x:Iv) (h:Hdl),hs.length=xs.length->gY (xs++[x]) (hs++[h])=gY xs hs++inC x h
 | [],[],_,_,_=>rfl
 | y::xs,g::hs,x,h,e=>by
  have:=mK xs hs x h (by simpa using e);simp [gY,this]
theorem qh:∀ (xs:List Iv) (hs:List Hdl) (j:Nat) (x:Iv) (h:Hdl),xs[j]? = some x->hs[j]? = some h->
  (gY xs hs)[j*2]? = some (.slice h.1 h.2.1 h.2.2)/\(gY xs hs)[j*2+1]? = some (.pointer x.2)
 | [],_,_,_,_,hx,_=>by simp at hx
 | _::_,[],_,_,_,_,hh=>by simp at hh
 | y::xs,g::hs,0,x,h,hx,hh=>by
  simp at hx hh;subst hx hh;simp [gY]
 | y::xs,g::hs,j+1,x,h,hx,hh=>by
  have:=qh xs hs j x h (by simpa using hx) (by simpa using hh);rw [show (j+1)*2=j*2+2 by omega];simp only [gY,List.getElem?_cons_succ];exact this
def eG (B:Nat) (w:World) (v:Value) (xs:List Iv):Prop :=
 ∃ hs:List Hdl,hs.length=xs.length/\w.ownsRow B 143 2 v xs.length (gY xs hs)/\∀ (j:Nat) (x:Iv) (h:Hdl),xs[j]? = some x->hs[j]? = some h->BsP (λb=>v.ownBlock≠some b) w h x.1
theorem eG.nil (B:Nat) (w:World):eG B w (.slice none 0 0) []:=⟨[],rfl,World.ownsRow_nil _ _ _ _,λ_ _ _ hx _=>by simp at hx⟩
theorem eG.lt {B:Nat} {w:World} {v:Value} {xs:List Iv} (h:eG B w v xs):∀ k,v.ownBlock=some k->B<=k/\k<w.heap.size:=by
 obtain ⟨hs,_,ho,_⟩:=h;exact ho.lt
theorem eG.below {w w':World} {xs:List Iv} (h:eG B w v xs) (hb:Below w.heap.size w w'):eG B w' v xs:=by
 obtain ⟨hs,hlen,ho,hi⟩:=h;exact ⟨hs,hlen,ho.kept (Bu.fu hb) (by cases v.ownBlock <;> simp),λj x h hx hh=>(hi j x h hx hh).kept hb.size λb _ hlt=>hb.block b hlt⟩
theorem eG.push {w w':World} {xs:List Iv} {x:Iv} {h:Hdl} {hs:List Hdl} (hlen:hs.length=xs.length) (hi:∀ (j:Nat) (x:Iv) (h:Hdl),xs[j]? = some x->hs[j]? = some h->BsP (λb=>v.ownBlock≠some b) w h x.1)
  (hI:BsP (λb=>v.ownBlock≠some b) w h x.1) (ho:w'.ownsRow B 143 2 v' (xs.length+1) (gY xs hs++inC x h))
  (hg:w.grownBy w' v.ownBlock) (hat:v'.ownBlock=v.ownBlock\/v'.ownBlock=some w.heap.size):eG B w' v' (xs++[x]):=by
 have keep:∀ {l:aL} {h:Hdl},BsP (λb=>v.ownBlock≠some b) w h l->BsP (λb=>v'.ownBlock≠some b) w' h l:=λ{l h} hh=>by
  have h1:=hh.to (q:=λb=>v'.ownBlock≠some b/\v.ownBlock≠some b) λb hlt hb=>⟨λe=>by
   rcases hat with h2 | h2
   .exact hb (h2 ▸ e)
   .rw [h2] at e;have:=Option.some.inj e;omega,hb⟩
  have h2:=h1.kept (w':=w') hg.size λb hb hlt=>hg.block b hlt (λe=>hb.2 e.symm);exact h2.to λb _ hb=>hb.1
 refine ⟨hs++[h],by simp [hlen],?_,λj y g hy hh=>?_⟩
 .rw [List.length_append,mK xs hs x h hlen];exact ho
 .by_cases hj:j<xs.length
  .rw [List.getElem?_append_left hj] at hy;rw [List.getElem?_append_left (by omega)] at hh;exact keep (hi j y g hy hh)
  .have hj2:j=xs.length:=by
    have:=(List.getElem?_eq_some_iff.1 hy).1;simp at this;omega
   subst hj2;rw [List.getElem?_append_right aF,Nat.sub_self] at hy;rw [List.getElem?_append_right (by omega),hlen,Nat.sub_self] at hh;simp at hy hh;subst hy hh;exact keep hI
theorem eG.done {w:World} {xs:List Iv} (h:eG B w v xs):∃ a n cap,v = .slice a n cap/\dY w a n cap xs:=by
 obtain ⟨hs,hlen,ho,hi⟩:=h;rcases ho.2 with ⟨rfl,hz⟩ | ⟨g,cap,cur,rfl,hbg,hg,hnc,hcm,hcs,htake⟩
 .have:xs=[]:=List.eq_nil_of_length_eq_zero hz;subst this;exact ⟨none,0,0,rfl,dY.nil _⟩
 .refine ⟨_,_,_,rfl,hnc,hcm,rfl,λe=>(by cases e),λj hj=>?_⟩;have hx:xs[j]? = some (xs.getD j ([],none)):=by simp [hj]
  have hh:hs[j]? = some (hs.getD j (none,0,0)):=by simp [show j<hs.length by omega]
  obtain ⟨f0,f1⟩:=qh xs hs j _ _ hx hh;have e:∀ i,(⟨g,0,none⟩:Addr).add i=⟨g,0+i,none⟩:=λi=>Addr.add_mid g 0 i;refine ⟨g,0,hs.getD j (none,0,0),rfl,(Array.getElem?_eq_some_iff.1 hg).1,⟨?_,?_⟩,(hi j _ _ hx hh).1⟩
  .have:=ho.cells (g:=g) rfl _ _ f0;rw [e] at this;exact this
  .have:=ho.cells (g:=g) rfl _ _ f1;rw [e,<-Nat.add_assoc] at this;exact this
theorem pG {w:World} {xs:List Iv} {x:Iv} {h:Hdl} (hR:eG B w v xs) (h2:Rg.Own w b2 (inA x h) 143) (hI:BsP (λb=>v.ownBlock≠some b) w h x.1) (hn:xs.length<=1000000) (hB:B<=w.heap.size) :
  ∃ v' w',(Builtin.append_ #[140,140] ty #[v,.slice (some ⟨b2,0,none⟩) 1 1]).run prog w = .ok v' w'/\eG B w' v' (xs++[x])/\w.grownBy w' v.ownBlock:=by
 obtain ⟨i0,z0,hi,hz,hsz,hby,hzc⟩:=pV;obtain ⟨hs',hlen,hown,hi'⟩:=hR;obtain ⟨v',w',hr,h3,h4,_,h5⟩:=run_append_own_at (P:=prog) w B 140 ty 143 i0 z0 2 32 underlying140 hi hz hsz hby hzc (by decide) v xs.length _ hown ⟨b2,0,none⟩ 1 1 (inC x h) rfl
  (λj u hu=>by
   rw [Addr.add_mid,Nat.zero_add,cell_of_row w b2 _ _ _ _ h2.2];unfold inA;simpa [inC] using hu)
  (λu hu=>by unfold inC at hu; simp at hu; rcases hu with rfl | rfl <;> rfl) (by unfold maxLen; omega) (by omega) hB
 exact ⟨v',w',hr,eG.push hlen hi' hI h3 h4 h5,h4⟩
theorem oZ {rest:List Oper} {a:Act} {w:World} {xs:List Iv} {x:Iv} {h:Hdl} (hgd:o.guard=none)
  (ho:∃ s y,o.op = .call { callee:=.builtin .append,args:=#[s,y],argTypes:=#[140,140] }/\a.eval s=v/\a.eval y = .slice (some ⟨b2,0,none⟩) 1 1)
  (hR:eG B w v xs) (h2:Rg.Own w b2 (inA x h) 143) (hI:BsP (λb=>v.ownBlock≠some b) w h x.1) (hn:xs.length<=1000000) (hB:B<=w.heap.size)
  (H:∀ v' w',eG B w' v' (xs++[x])->w.grownBy w' v.ownBlock->wpList prog ops Q rest (a.put o.dst v') w'):wpList prog ops Q (o::rest) a w:=by
 obtain ⟨s,y,ho,hs,hy⟩:=ho;refine wpList_plain hgd λK hK=>?_;obtain ⟨v',w',hr,h3,h4⟩:=pG (ty:=o.type) hR h2 hI hn hB;unfold Oper.wp execOp;simp only [ho,resolve,invoke,builtin,Sem.run_bind,Sem.run_pure,Result.andThen_ok,List.map_toArray,List.map_cons,List.map_nil,hs,hy,hr];exact hK _ _ (H v' w' h3 h4)
theorem kR {w0 w w':World} {xs:List Iv} (hR:eG B w v xs) (hb:Below B w0 w) (hB:B<=w.heap.size) (hg:w.grownBy w' v.ownBlock):Below B w0 w':=hb.grown hg hB (λg hg=>(hR.lt g hg).1)
theorem Qz {w0 w:World} {xs:List Iv} {h:Hdl} {l:aL} (hR:eG B w v xs) (g:bq w0 h.1 h.2.1 h.2.2 l) (hb:Below w0.heap.size w0 w) (hB:w0.heap.size<=B):BsP (λb=>v.ownBlock≠some b) w h l:=by
 have h1:=(BsP.old g).kept hb.size λb hlt _=>hb.block b hlt;exact h1.to λb _ hlt e=>by have:=(hR.lt b e).1; omega
theorem vG {ev:Operand->Value} {o:Oper} {w:World} {b off:Nat} {x:Iv} {h:Hdl} (g:CJ w b off x h) (ho:∃ y,o.op = .load 143 y/\ev y = .pointer (some ⟨b,off,none⟩)) :
  (execOp ev o).run prog w = .ok (.value (.agg (inA x h))) w:=by
 obtain ⟨y,ho,hx⟩:=ho;have hl:=run_loadAt_mid (P:=prog) w b off 143 (inC x h) _ (λj u hu=>by
  match j,hu with
  | 0,hu=>cases hu; exact g.1
  | 1,hu=>cases hu; exact g.2) underlying143 rfl (by
  obtain ⟨i0,hi,hz,hs,hby⟩:=info_parts ug;rw [hi];simp [hs,inC])
 unfold execOp;simp only [ho,hx,Sem.run_bind,Sem.run_pure,Result.andThen_ok,hl];rfl
end Sx
end
section
open Go.RowKit
namespace Ew
open Tr Ni Pk Ky No Rf Rl Tm
def wv (h:Hdl):Value:=.slice h.1 h.2.1 h.2.2
theorem Wz:(prog.info? 42).map (λi=>(i.zero,i.size,i.bytes))=some (some (.slice none 0 0),1,24):=by kernel_rfl
theorem Cq:∃ i,prog.info? 42=some i/\i.zero=some (.slice none 0 0)/\i.size=1/\i.bytes=24:=by
 obtain ⟨i0,hi,hz,hs,hby⟩:=info_parts Wz;exact ⟨i0,hi,hz,hs,hby⟩
theorem UO {p:Nat->Prop} {w:World} {h:Hdl} {l:aL} (g:BsP p w h l) (i:Nat) (hi:i<=h.2.1):BsP p w (dM h.1 h.2.2 i,h.2.1-i,h.2.2-i) (l.drop i):=by
 refine ⟨vV g.1 i hi,λad e hn=>?_⟩;have hn2:0<h.2.1-i:=hn;have e2:dM h.1 h.2.2 i=some ad:=e;unfold dM at e2;by_cases hc:h.2.2=i
 .rw [if_pos hc] at e2;exact g.2 ad e2 (by omega)
 .rw [if_neg hc] at e2;cases ha:h.1 with
  | none=>rw [ha] at e2; cases e2
  | some a0 =>
   rw [ha] at e2;obtain rfl:=Option.some.inj e2;have hb:(a0.add i).block=a0.block:=by
    unfold Addr.add;split <;> rfl
   show p (a0.add i).block;rw [hb];exact g.2 _ ha (by omega)
def kF (w:World) (a:aJ) (n c:Nat) (l:List Pa):Prop :=
 n<=c/\c<=maxLen/\l.length=n/\(a=none->c=0)/\∀ j,j<n->∃ b off h,a=some ⟨b,off,none⟩/\b<w.heap.size/\w.cell? ⟨b,off+j,none⟩=some (wv h)/\bq w h.1 h.2.1 h.2.2 (l.getD j [])
theorem kF.len {w:World} {a:aJ} {n c:Nat} {l:List Pa} (h:kF w a n c l):l.length=n:=h.2.2.1
theorem kF.at' {w:World} {a:aJ} {n c:Nat} {l:List Pa} (h:kF w a n c l) (j:Nat) (hj:j<n):∃ b off h,a=some ⟨b,off,none⟩/\b<w.heap.size/\w.cell? ⟨b,off+j,none⟩=some (wv h)/\bq w h.1 h.2.1 h.2.2 (l.getD j []):=h.2.2.2.2 j hj
theorem kF.below {w w':World} {a:aJ} {n c:Nat} {l:List Pa} (h:kF w a n c l) (hb:Below w.heap.size w w'):kF w' a n c l :=
 ⟨h.1,h.2.1,h.2.2.1,h.2.2.2.1,λj hj=>by
  obtain ⟨b,off,g,e,hlt,hp,hi⟩:=h.2.2.2.2 j hj;exact ⟨b,off,g,e,aH hlt hb.size,aV hb hp,hi.below hb⟩⟩
theorem kF.nil (w:World):kF w none 0 0 []:=⟨aF,Nat.zero_le _,rfl,λ_=>rfl,λ_ h=>absurd h (Nat.not_lt_zero _)⟩
def nT (B:Nat) (w:World) (v:Value) (xs:List Pa):Prop :=
 ∃ hs:List Hdl,hs.length=xs.length/\w.ownsRow B 42 1 v xs.length (hs.map wv)/\∀ (j:Nat) (x:Pa) (h:Hdl),xs[j]? = some x->hs[j]? = some h->BsP (λb=>v.ownBlock≠some b) w h x
theorem nT.nil (B:Nat) (w:World):nT B w (.slice none 0 0) []:=⟨[],rfl,World.ownsRow_nil _ _ _ _,λ_ _ _ hx _=>by simp at hx⟩
theorem nT.lt {B:Nat} {w:World} {v:Value} {xs:List Pa} (h:nT B w v xs):∀ k,v.ownBlock=some k->B<=k/\k<w.heap.size:=by
 obtain ⟨hs,_,ho,_⟩:=h;exact ho.lt
theorem nT.below {w w':World} {xs:List Pa} (h:nT B w v xs) (hb:Below w.heap.size w w'):nT B w' v xs:=by
 obtain ⟨hs,hlen,ho,hi⟩:=h;exact ⟨hs,hlen,ho.kept (Bu.fu hb) (by cases v.ownBlock <;> simp),λj x h hx hh=>(hi j x h hx hh).kept hb.size λb _ hlt=>hb.block b hlt⟩
theorem nT.push {w w':World} {xs:List Pa} {x:Pa} {h:Hdl} {hs:List Hdl} (hlen:hs.length=xs.length) (hi:∀ (j:Nat) (x:Pa) (h:Hdl),xs[j]? = some x->hs[j]? = some h->BsP (λb=>v.ownBlock≠some b) w h x)
  (hI:BsP (λb=>v.ownBlock≠some b) w h x) (ho:w'.ownsRow B 42 1 v' (xs.length+1) (hs.map wv++[wv h]))
  (hg:w.grownBy w' v.ownBlock) (hat:v'.ownBlock=v.ownBlock\/v'.ownBlock=some w.heap.size):nT B w' v' (xs++[x]):=by
 have keep:∀ {l:aL} {h:Hdl},BsP (λb=>v.ownBlock≠some b) w h l->BsP (λb=>v'.ownBlock≠some b) w' h l:=λ{l h} hh=>by
  have h1:=hh.to (q:=λb=>v'.ownBlock≠some b/\v.ownBlock≠some b) λb hlt hb=>⟨λe=>by
   rcases hat with h2 | h2
   .exact hb (h2 ▸ e)
   .rw [h2] at e;have:=Option.some.inj e;omega,hb⟩
  have h2:=h1.kept (w':=w') hg.size λb hb hlt=>hg.block b hlt (λe=>hb.2 e.symm);exact h2.to λb _ hb=>hb.1
 refine ⟨hs++[h],by simp [hlen],?_,λj y g hy hh=>?_⟩
 .rw [List.length_append,List.map_append];exact ho
 .by_cases hj:j<xs.length
  .rw [List.getElem?_append_left hj] at hy;rw [List.getElem?_append_left (by omega)] at hh;exact keep (hi j y g hy hh)
  .have hj2:j=xs.length:=by
    have:=(List.getElem?_eq_some_iff.1 hy).1;simp at this;omega
   subst hj2;rw [List.getElem?_append_right aF,Nat.sub_self] at hy;rw [List.getElem?_append_right (by omega),hlen,Nat.sub_self] at hh;simp at hy hh;subst hy hh;exact keep hI
theorem nT.done {w:World} {xs:List Pa} (h:nT B w v xs):∃ a cap,v = .slice a xs.length cap/\kF w a xs.length cap xs:=by
 obtain ⟨hs,hlen,ho,hi⟩:=h;rcases ho.2 with ⟨rfl,hz⟩ | ⟨g,cap,cur,rfl,hbg,hg,hnc,hcm,hcs,htake⟩
 .have:xs=[]:=List.eq_nil_of_length_eq_zero hz;subst this;exact ⟨none,0,rfl,kF.nil _⟩
 .refine ⟨_,_,rfl,hnc,hcm,rfl,λe=>(by cases e),λj hj=>?_⟩;have hx:xs[j]? = some (xs.getD j []):=by simp [hj]
  have hh:hs[j]? = some (hs.getD j (none,0,0)):=by simp [show j<hs.length by omega]
  refine ⟨g,0,hs.getD j (none,0,0),rfl,(Array.getElem?_eq_some_iff.1 hg).1,?_,(hi j _ _ hx hh).1⟩;have:=ho.cells (g:=g) rfl j (wv (hs.getD j (none,0,0))) (by rw [List.getElem?_map,hh]; rfl);rw [Addr.add_mid] at this;exact this
theorem Kz {w:World} {xs:List Pa} {x:Pa} {h:Hdl} (hR:nT B w v xs) (h2:Rg.Own w b2 #[wv h] 42) (hI:BsP (λb=>v.ownBlock≠some b) w h x) (hn:xs.length<=1000000) (hB:B<=w.heap.size) :
  ∃ v' w',(Builtin.append_ #[41,41] ty #[v,.slice (some ⟨b2,0,none⟩) 1 1]).run prog w = .ok v' w'/\nT B w' v' (xs++[x])/\w.grownBy w' v.ownBlock/\(v'.ownBlock=v.ownBlock\/v'.ownBlock=some w.heap.size):=by
 obtain ⟨i0,hi,hz,hsz,hby⟩:=Cq;obtain ⟨hs,hlen,ho,hp⟩:=hR;obtain ⟨v',w',hr,h3,h4,_,h5⟩:=run_append_own_at (P:=prog) w B 41 ty 42 i0 (.slice none 0 0) 1 24 underlying41 hi hz hsz hby rfl (by decide) v xs.length _ ho ⟨b2,0,none⟩ 1 1 [wv h] rfl
  (λj u hu=>by
   have hj:j=0:=by
    have:=(List.getElem?_eq_some_iff.1 hu).1;simp at this;omega
   subst hj;have hu':wv h=u:=by simpa using hu
   rw [Addr.add_mid,<-hu'];exact aU h2 rfl)
  (λu hu=>by rw [List.mem_singleton.1 hu]; rfl) (by unfold maxLen; omega) (by omega) hB
 exact ⟨v',w',hr,nT.push hlen hp hI h3 h4 h5,h4,h5⟩
theorem Ae {rest:List Oper} {a:Go.Act} {w:World} {Q:Exit->Go.Act->World->Prop} {xs:List Pa} {x:Pa} {h:Hdl} (hR:nT B w v xs) (h2:Rg.Own w b2 #[wv h] 42) (hI:BsP (λb=>v.ownBlock≠some b) w h x) (hn:xs.length<=1000000) (hB:B<=w.heap.size) (hgd:o.guard=none)
  (ho:∃ s y,o.op = .call { callee:=.builtin .append,args:=#[s,y],argTypes:=#[41,41] }/\a.eval s=v/\a.eval y = .slice (some ⟨b2,0,none⟩) 1 1)
  (H:∀ v' w',nT B w' v' (xs++[x])->w.grownBy w' v.ownBlock->(v'.ownBlock=v.ownBlock\/v'.ownBlock=some w.heap.size)->wpList prog ops Q rest (a.put o.dst v') w'):wpList prog ops Q (o::rest) a w:=by
 obtain ⟨s,y',ho,hs,hy⟩:=ho;obtain ⟨v',w',hr,h3,h4,h5⟩:=Kz (ty:=o.type) hR h2 hI hn hB;refine gU hgd v' w' ?_ (H v' w' h3 h4 h5);unfold execOp;simp only [ho,resolve,invoke,builtin,Sem.run_bind,Sem.run_pure,Result.andThen_ok,List.map_toArray,List.map_cons,List.map_nil,hs,hy,hr]
theorem Im {w:World} {h:Hdl} (b:Nat) (hb:b=w.heap.size) (ho:∃ y,o.op = .buildSlice 41 1 #[(0,y)]/\ev y = .slice h.1 h.2.1 h.2.2) :
  (execOp ev o).run prog w = .ok (.value (.slice (some ⟨b,0,none⟩) 1 1)) (w.alloc (.cells #[wv h] 42)):=by
 obtain ⟨y,ho,hx⟩:=ho;subst hb;unfold execOp;simp only [ho,List.map_toArray,List.map_cons,List.map_nil,hx];obtain ⟨a,n,c⟩:=h;kernel_rfl
theorem tK {w:World} {b off:Nat} {h2 h3:Nat} (hc:w.cell? ⟨b,off,none⟩=some (.slice h1 h2 h3)) (ho:∃ x,o.op = .load 42 x/\ev x = .pointer (some ⟨b,off,none⟩)) :
  (execOp ev o).run prog w = .ok (.value (.slice h1 h2 h3)) w:=by
 obtain ⟨x,ho,hx⟩:=ho;unfold execOp;simp [ho,hx,go_sem,hc]
end Ew
end
section
open Go.RowKit
namespace Sx
open Tr Ni Pk Ky No Rf Rl Tm
open Sm (Tab)
def jq (N:Nd) (j:Nat):Pa:=if N.kd=2 then N.p else [UInt8.ofNat j]
def ji (N:Nd) (ps:List (aJ)):Nat->List Iv
 | 0=>[]
 | j+1=>if (N.ks.getD j eB).size=0 then ji N ps j else ji N ps j++[(jq N j,ps.getD (ji N ps j).length none)]
theorem wS (N:Nd) (ps:List (aJ)) (hl:N.ks.length=16):∀ j,j<=16->(ji N ps j).length=(bJ (N.ks.take j)).length
 | 0,_=>rfl
 | j+1,hj=>by
  have ih:=wS N ps hl j (by omega);rw [qR N.ks j (by omega)];unfold ji;by_cases h:(N.ks.getD j eB).size=0
  .rw [if_pos h,if_neg (by simpa using h),List.append_nil,ih]
  .rw [if_neg h,if_pos h,List.length_append,List.length_append,ih];rfl
theorem Iz (N:Nd) (ps:List (aJ)):∀ j,(ji N ps j).map Prod.fst=((List.range j).filter λi=>decide ((N.ks.getD i eB).size≠0)).map (jq N)
 | 0=>rfl
 | j+1=>by
  have ih:=Iz N ps j;rw [List.range_succ,List.filter_append,List.map_append,<-ih];show List.map Prod.fst (if (N.ks.getD j eB).size=0 then ji N ps j else ji N ps j++[(jq N j,ps.getD (ji N ps j).length none)])=_;by_cases h:(N.ks.getD j eB).size=0
  .rw [if_pos h,List.filter_cons_of_neg (by rw [decide_eq_false (λe=>e h)]; decide)];simp
  .rw [if_neg h,List.filter_cons_of_pos (p:=λi=>decide ((N.ks.getD i eB).size≠0)) (aI h),List.map_append];rfl
theorem GZ (N:Nd) (ps:List (aJ)) (hl:N.ks.length=16) (hp:ps.length=(bJ N.ks).length):∀ j,j<=16->(ji N ps j).map Prod.snd=ps.take (ji N ps j).length
 | 0,_=>rfl
 | j+1,hj=>by
  have ih:=GZ N ps hl hp j (by omega);have hlen:=wS N ps hl (j+1) hj;have hmono:=vH (ks:=N.ks) (j+1);unfold ji;unfold ji at hlen;by_cases h:(N.ks.getD j eB).size=0
  .rw [if_pos h]; exact ih
  .rw [if_neg h] at hlen ⊢;rw [List.length_append,List.length_singleton] at hlen ⊢;have hlt:(ji N ps j).length<ps.length:=by omega
   rw [List.map_append,ih,List.take_succ_eq_append_getElem hlt];simp [List.getD,hlt]
theorem KE {t:T} {L:Nat} (g:Tr.Good t L) (hL:L<=64) (f:Fine t):((List.range 16).filter λi=>decide (((bH t).ks.getD i eB).size≠0)).map (jq (bH t))=dG t:=by
 have hz:∀ (st:Nat->Pa),((List.range 16).filter λi=>decide ((zks.getD i eB).size≠0)).map st=[]:=λst=>by
  have:((List.range 16).filter λi=>decide ((zks.getD i eB).size≠0))=[]:=by decide +kernel
  rw [this]; rfl
 cases t with
 | nil=>exact hz _
 | leaf p v=>exact hz _
 | stub r=>exact hz _
 | ext q s =>
  have hs:(ref s).size≠0:=(nW g.2.2.2.2 (by omega) f).2 (qM g.2.2.2.1);show ((List.range 16).filter λi=>decide (((dI (ref s)).getD i eB).size≠0)).map _=[q]
  have h1:((List.range 16).filter λi=>decide (((dI (ref s)).getD i eB).size≠0))=[0]:=by
   rw [show List.range 16=0::(List.range 15).map (· + 1) from rfl,List.filter_cons_of_pos (by show decide ((ref s).size≠0)=true; exact aI hs)];congr 1
  rw [h1];rfl
 | br ks =>
  have h:∀ i,(ref (ks i)).size≠0↔ks i ≠ .nil:=λi=>nW (g.2.2 i) (by omega) (f i);show ((List.range 16).filter λi=>decide (((bU λi=>ref (ks i)).getD i eB).size≠0)).map _=(dU ks).map oF;have hr:List.range 16=(List.finRange 16).map Fin.val:=by decide
  rw [hr,List.filter_map,List.map_map];unfold dU;have e:((λi:Nat=>decide (((bU λi=>ref (ks i)).getD i eB).size≠0)) ∘ Fin.val)=λi:Fin 16=>!isNil (ks i):=by
   funext i;show decide (((bU λi=>ref (ks i)).getD i.val eB).size≠0)=_;rw [kP];cases hi:isNil (ks i) with
   | true=>rw [cu.1 hi]; rfl
   | false=>exact aI ((h i).2 λe=>by rw [cu.2 e] at hi; cases hi)
  rw [e];apply List.map_congr_left;intro i _;rfl
theorem Jm {w:World} {z:Int} (b:Nat) (hb:b=w.heap.size) (ho:∃ y,o.op = .buildSlice 42 1 #[(0,y)]/\ev y = .int .u8 z) :
  (execOp ev o).run prog w = .ok (.value (.slice (some ⟨b,0,none⟩) 1 1)) (w.alloc (.cells #[.int .u8 z] 5)):=by
 obtain ⟨y,ho,hx⟩:=ho;subst hb;unfold execOp;simp only [ho,List.map_toArray,List.map_cons,List.map_nil,hx];kernel_rfl
theorem Yd {w:World} {b:Nat} {c:UInt8} (h:Rg.Own w b #[.int .u8 c.toNat] 5):bq w (some ⟨b,0,none⟩) 1 1 [c] :=
 ⟨aF,by unfold maxLen; omega,rfl,λe=>(by cases e),λj hj=>by
  obtain rfl:j=0:=by omega
  exact ⟨b,0,rfl,h.1,Tm.aU h rfl⟩⟩
theorem Gw {w:World} {x:Iv} {h:Hdl} (b:Nat) (hb:b=w.heap.size) (ho:∃ y,o.op = .buildSlice 140 1 #[(0,y)]/\ev y = .agg (inA x h)) :
  (execOp ev o).run prog w = .ok (.value (.slice (some ⟨b,0,none⟩) 1 1)) (w.alloc (.cells (inA x h) 143)):=by
 obtain ⟨y,ho,hx⟩:=ho;subst hb;unfold execOp;simp only [ho,List.map_toArray,List.map_cons,List.map_nil,hx];obtain ⟨a,n,c⟩:=h;kernel_rfl
theorem yR (a:aJ) (n c:Nat) (p:aJ) (x:Iv) (hx:x.2=p):prog.built 143 [(0,.slice a n c),(1,tv p)]=some (inA x (a,n,c)):=by
 subst hx;kernel_rfl
def EH (M:Mp) (w:World) (t:T) (e:Ending) (w':World):Prop:=∃ a n c xs,e = .returned (.slice a n c)/\dY w' a n c xs/\(∀ ad,a=some ad->w.heap.size<=ad.block)/\xs.map Prod.fst=dG t/\Are M (xs.map Prod.snd) (aZ t)/\Fr M M w w'/\Inv M w'/\Tab w'
theorem Ld (M:Mp) (p:aJ) (t:T) (L:Nat) (g:Tr.Good t L) (hL:L<=64) (f:Fine t) (w:World) (hi:Inv M w) (ht:IsT M p t) (hT:Tab w) :
  Calls prog 82 #[tv p] w (EH M w t):=by
 obtain ⟨w1,hw1⟩:=au (w.alloc (.cells #[.pointer p] 31))
 have af:Rg.Own w1 w.heap.size #[.pointer p] 31:=by rw [hw1]; exact Rg.Own.new _ _ _
 have hb1:Below w.heap.size w w1:=by rw [hw1]; exact al1 _ _
 have gi:=hid (tu M p t L g hL f w1 (hi.below hb1) ht (hT.below hb1 hT.pos));have bd:=hid af;have HB1:=hid hb1;have HI:=hid hi;have cJ:Hid ((bH t).ks.length=16):=hid (dh t);have cS:=hid (KE g hL f);have uk:=hid (Db g hL f);obtain ⟨N,hN⟩:=av (bH t)
 have HN:=hid hN;rw [hN] at cJ cS uk;clear af hb1 hi g f hN;have hgo:Calls prog 82 #[.agg #[.pointer p]] w (EH M w t):=by
  subst hw1;go_enter func82,ntmps82;go_wp2_with (first
   | (refine ay (aT (Tm.aU (j:=0) bd.out rfl) ⟨_,rfl,rfl⟩) ?_))
  refine gi.out.mono ?_;rintro e w2 ⟨na,nn,nc,ka,kc,ps,rfl,_,hbs,gj,cR,hka,f2,i2,t2⟩;rw [HN.out] at hbs ⊢;have hlen:ps.length=(bJ N.ks).length:=by rw [uk.out,List.length_map,cR.1]
  have lw:=hid hbs;have cU:=hid gj;have fl:=hid cR;have eC:Hid (Fr M M w w2/\Inv M w2/\Tab w2):=hid ⟨(Fr.below M HB1.out).trans HI.out f2,i2,t2⟩;have HLen:=hid hlen;have lL:dJ (w2.alloc (.cells (ndC nd0 none 0 0) 56)) w2.heap.size nd0 none 0 0:=Rg.Own.new _ _ _;have gm:=hid lL;have hs1:w.heap.size<=w2.heap.size:=eC.out.1.size;have HS2:=hid hs1;clear hbs gj cR hka f2 i2 t2 hlen lL gi bd hs1;go_wp2_with (first
   | (refine ay (aY _ _ _ w2.heap.size rfl rfl) ?_)
   | (refine bD gm.out rfl N na nn nc cJ.out rfl _ _ rfl rfl rfl rfl ?_)
   | (refine ay (nY (dz gm.out) cJ.out ⟨_,rfl,rfl⟩) ?_))
  obtain ⟨w3,hw3⟩:=au ((w2.alloc (.cells (ndC nd0 none 0 0) 56)).setRow w2.heap.size (ndC N na nn nc))
  have HB3:Hid (Below w2.heap.size w2 w3):=hid (by rw [hw3]; exact bS (al1 _ _) aF _);have am:Hid (dJ w3 w2.heap.size N na nn nc):=hid (by rw [hw3]; exact dz gm.out);rw [<-hw3];clear hw3 gm;obtain ⟨gN,hgN⟩:=av w2.heap.size
  rw [hgN];rw [hgN] at am;have eh:=hid (lw.out.1.below HB3.out);have sn:=hid (cU.out.below HB3.out);clear hgN;go_loopw [5,16] (λv0 i wr=>∃ (j:Nat) (v:Value),v=v0/\j<=16/\i = .int .i64 j/\Hid (eG w3.heap.size wr v (ji N ps j))/\Hid (Below w3.heap.size w3 wr)) (λ_ i _=>16-(intOf i).toNat)
  case atStart=>exact ⟨0,_,rfl,Nat.zero_le _,rfl,hid (eG.nil _ _),hid aG⟩
  case round =>
   obtain ⟨j,v,rfl,hj,rfl,HR,HB⟩:=hrel;by_cases hlt:j<16
   .have i1:(j:Int)<16:=by omega
    by_cases hkz:(N.ks.getD j eB).size=0
    .have iv:Hid (ji N ps (j+1)=ji N ps j):=hid (by rw [ji,if_pos hkz]);have HE:Hid (N.ks.getD j eB=eB):=hid (eF hkz);clear hkz;go_wp2_with (refine Rg.run rfl (.string (N.ks.getD j eB)) _ (fO cJ.out hlt ⟨_,_,rfl,rfl,rfl⟩) ?_; rw [HE.out])
     go_roundw
     case rel=>exact ⟨j+1,_,rfl,by omega,by go_num,by rw [iv.out]; exact HR,HB⟩
     case measure=>simp [intOf]; omega
    .have iv:Hid (ji N ps (j+1)=ji N ps j++[(jq N j,ps.getD (ji N ps j).length none)]):=hid (by rw [ji,if_neg hkz]);have hne:=Ni.dP (s:=N.ks.getD j eB) (by omega);have hel:(ji N ps j).length<ps.length:=by
      have h1:=wS N ps cJ.out (j+1) (by omega);rw [iv.out,List.length_append,List.length_singleton] at h1;have h2:=vH (ks:=N.ks) (j+1);have h3:=HLen.out;omega
     have yb:ps.length<=16:=by rw [fl.out.1]; exact wP t
     obtain ⟨b,off,rfl,hblt,hcc⟩:=sn.out.2.2.2.2 _ hel;obtain ⟨q,hq⟩:=av (ps.getD (ji N ps j).length none)
     rw [hq] at hcc iv;have hcr:=aV HB.out hcc;obtain ⟨va,vc,rfl⟩:∃ a c,v = .slice a (ji N ps j).length c:=by
      obtain ⟨_,_,ho,_⟩:=HR.out;rcases ho.2 with ⟨rfl,h0⟩ | ⟨g,cap,cur,rfl,_⟩
      .exact ⟨_,_,by rw [h0]⟩
      .exact ⟨_,_,rfl⟩
     have HU:Hid (((UInt8.ofNat j).toNat:Int)=(j:Int)):=hid (by
      have:(UInt8.ofNat j).toNat=j:=by simp; omega
      rw [this])
     obtain ⟨K,hK⟩:=av (N.ks.getD j eB)
     have HK:=hid hK;rw [hK] at hne;clear hkz hK hcc hblt hq;by_cases hk2:N.kd=2
     .have k0:N.kd=2:=hk2;have k1:(N.kd==2)=true:=by rw [beq_iff_eq]; exact hk2
      have k2:decide (N.kd=2)=true:=aI hk2;have sp:Hid (jq N j=N.p):=hid (if_pos hk2);have hA:Rg.Own (wr.alloc (.cells #[.int .u8 (j:Int)] 5)) wr.heap.size #[.int .u8 (UInt8.ofNat j).toNat] 5:=by rw [HU.out]; exact Rg.Own.new _ _ _
      have gp:Below wr.heap.size wr (wr.alloc (.cells #[.int .u8 (j:Int)] 5)):=al1 _ _;obtain ⟨wa,iz⟩:=au (wr.alloc (.cells #[.int .u8 (j:Int)] 5))
      rw [<-iz] at hA gp;have nd:BsP (λk=>(Value.slice va (ji N ps j).length vc).ownBlock≠some k) wa (na,nn,nc) (jq N j):=(by
       rw [sp.out];exact Qz (h:=(na,nn,nc)) (HR.out.below gp) eh.out (HB.out.trans (gp.mono HB.out.size)) aF)
      obtain ⟨w4,hw4⟩:=au (wa.alloc (.cells (inA (jq N j,q) (na,nn,nc)) 143))
      have hO4:Rg.Own w4 wa.heap.size (inA (jq N j,q) (na,nn,nc)) 143:=by rw [hw4]; exact Rg.Own.new _ _ _
      have hb4:Below wa.heap.size wa w4:=by rw [hw4]; exact al1 _ _
      have hbW:Below wr.heap.size wr w4:=gp.trans (hb4.mono gp.size);have eM:Hid (BsP (λk=>(Value.slice va (ji N ps j).length vc).ownBlock≠some k) w4 (na,nn,nc) (jq N j)):=hid (nd.kept hb4.size λk _ hl=>hb4.block k hl);have ch:=hid hO4;have HR4:=hid (HR.out.below hbW);have FS:=hid hbW;have G0:Hid (_=_):=hid iz;have G4:Hid (_=_):=hid hw4;have yd:Hid (wa.cell? ⟨gN,0,none⟩=some (.int .i64 N.kd)):=hid (bW ((am.out.below HB.out).below gp)).1
      have N5:Hid (wa.cell? ⟨gN,1,none⟩=some (.slice na nn nc)):=hid (bW ((am.out.below HB.out).below gp)).2.1;have HC:Hid (wa.cell? ⟨b,off+(ji N ps j).length,none⟩=some (.pointer q)):=hid (aV gp hcr);have py:Hid (w3.heap.size<=w4.heap.size/\(ji N ps j).length<=1000000):=hid ⟨Nat.le_trans HB.out.size hbW.size,by omega⟩;obtain ⟨xs,hxs⟩:=av (ji N ps j)
      rw [hxs] at hel iv HC py HR4 eM;rw [hxs];obtain ⟨n0,hn0⟩:=av xs.length
      have U2:=hid hn0;rw [hn0] at hel HC HR4 eM ⊢;have h0:=yd.out;clear hA gp nd hO4 hb4 hbW iz hw4 hxs hk2 hcr am eh sn hn0;go_wp2_with (first
       | (refine Rg.run rfl (.string (N.ks.getD j eB)) _ (fO cJ.out hlt ⟨_,_,rfl,rfl,rfl⟩) ?_; rw [HK.out])
       | (refine ay (Jm wr.heap.size rfl ⟨_,rfl,rfl⟩) ?_; rw [<-G0.out])
       | (refine Rg.run rfl (.slice na nn nc) _ (Ew.tK (h1:=na) (h2:=nn) (h3:=nc) N5.out ⟨_,rfl,rfl⟩) ?_)
       | (refine ay (aT HC.out ⟨_,rfl,rfl⟩) ?_)
       | (refine ay (bK (yR na nn nc q (jq N j,q) rfl) ⟨_,rfl,rfl⟩) ?_)
       | (refine ay (Gw wa.heap.size rfl ⟨_,rfl,rfl⟩) ?_; rw [<-G4.out])
       | (refine oZ rfl ⟨_,_,rfl,rfl,rfl⟩ HR4.out ch.out eM.out py.out.2 py.out.1 ?_))
      intro v' w5 eo hg5;have ew:=hid eo;have ag:Hid (Below w3.heap.size w3 w5):=hid (kR HR4.out (HB.out.trans (FS.out.mono HB.out.size)) py.out.1 hg5);clear eo hg5;go_wp2;go_roundw
      case rel=>exact ⟨j+1,_,rfl,by omega,by go_num,by rw [iv.out]; exact ew,ag⟩
      case measure=>simp [intOf]; omega
     .have k1:(N.kd==2)=false:=by rw [beq_eq_false_iff_ne]; exact hk2
      have k2:decide (N.kd=2)=false:=decide_eq_false hk2;have sp:Hid (jq N j=[UInt8.ofNat j]):=hid (if_neg hk2);have hA:Rg.Own (wr.alloc (.cells #[.int .u8 (j:Int)] 5)) wr.heap.size #[.int .u8 (UInt8.ofNat j).toNat] 5:=by rw [HU.out]; exact Rg.Own.new _ _ _
      have gp:Below wr.heap.size wr (wr.alloc (.cells #[.int .u8 (j:Int)] 5)):=al1 _ _;obtain ⟨wa,iz⟩:=au (wr.alloc (.cells #[.int .u8 (j:Int)] 5))
      rw [<-iz] at hA gp;have nd:BsP (λk=>(Value.slice va (ji N ps j).length vc).ownBlock≠some k) wa (some ⟨wr.heap.size,0,none⟩,1,1) (jq N j):=(by
       rw [sp.out];refine ⟨Yd hA,λad e _ e2=>?_⟩;cases e;exact absurd (HR.out.lt _ e2).2 (Nat.lt_irrefl _))
      obtain ⟨w4,hw4⟩:=au (wa.alloc (.cells (inA (jq N j,q) (some ⟨wr.heap.size,0,none⟩,1,1)) 143))
      have hO4:Rg.Own w4 wa.heap.size (inA (jq N j,q) (some ⟨wr.heap.size,0,none⟩,1,1)) 143:=by rw [hw4]; exact Rg.Own.new _ _ _
      have hb4:Below wa.heap.size wa w4:=by rw [hw4]; exact al1 _ _
      have hbW:Below wr.heap.size wr w4:=gp.trans (hb4.mono gp.size);have eM:Hid (BsP (λk=>(Value.slice va (ji N ps j).length vc).ownBlock≠some k) w4 (some ⟨wr.heap.size,0,none⟩,1,1) (jq N j)):=hid (nd.kept hb4.size λk _ hl=>hb4.block k hl);have ch:=hid hO4;have HR4:=hid (HR.out.below hbW);have FS:=hid hbW;have G0:Hid (_=_):=hid iz;have G4:Hid (_=_):=hid hw4;have yd:Hid (wa.cell? ⟨gN,0,none⟩=some (.int .i64 N.kd)):=hid (bW ((am.out.below HB.out).below gp)).1
      have N5:Hid (wa.cell? ⟨gN,1,none⟩=some (.slice na nn nc)):=hid (bW ((am.out.below HB.out).below gp)).2.1;have HC:Hid (wa.cell? ⟨b,off+(ji N ps j).length,none⟩=some (.pointer q)):=hid (aV gp hcr);have py:Hid (w3.heap.size<=w4.heap.size/\(ji N ps j).length<=1000000):=hid ⟨Nat.le_trans HB.out.size hbW.size,by omega⟩;obtain ⟨xs,hxs⟩:=av (ji N ps j)
      rw [hxs] at hel iv HC py HR4 eM;rw [hxs];obtain ⟨n0,hn0⟩:=av xs.length
      have U2:=hid hn0;rw [hn0] at hel HC HR4 eM ⊢;have h0:=yd.out;clear hA gp nd hO4 hb4 hbW iz hw4 hxs hk2 hcr am eh sn hn0;go_wp2_with (first
       | (refine Rg.run rfl (.string (N.ks.getD j eB)) _ (fO cJ.out hlt ⟨_,_,rfl,rfl,rfl⟩) ?_; rw [HK.out])
       | (refine ay (Jm wr.heap.size rfl ⟨_,rfl,rfl⟩) ?_; rw [<-G0.out])
       | (refine ay (aT HC.out ⟨_,rfl,rfl⟩) ?_)
       | (refine ay (bK (yR (some ⟨wr.heap.size,0,none⟩) 1 1 q (jq N j,q) rfl) ⟨_,rfl,rfl⟩) ?_)
       | (refine ay (Gw wa.heap.size rfl ⟨_,rfl,rfl⟩) ?_; rw [<-G4.out])
       | (refine oZ rfl ⟨_,_,rfl,rfl,rfl⟩ HR4.out ch.out eM.out py.out.2 py.out.1 ?_))
      intro v' w5 eo hg5;have ew:=hid eo;have ag:Hid (Below w3.heap.size w3 w5):=hid (kR HR4.out (HB.out.trans (FS.out.mono HB.out.size)) py.out.1 hg5);clear eo hg5;go_wp2;go_roundw
      case rel=>exact ⟨j+1,_,rfl,by omega,by go_num,by rw [iv.out]; exact ew,ag⟩
      case measure=>simp [intOf]; omega
   .obtain rfl:j=16:=by omega
    have hR:=HR.out;obtain ⟨a,n,c,rfl,ye⟩:=hR.done;have hlo:∀ ad,a=some ad->w3.heap.size<=ad.block:=λad e=>by
     subst e;exact (hR.lt ad.block rfl).1
    have iS:=wS N ps cJ.out 16 aF;have htk:N.ks.take 16=N.ks:=by rw [<-cJ.out]; exact List.take_length
    rw [htk,<-HLen.out] at iS;have yf:(ji N ps 16).map Prod.snd=ps:=by
     rw [GZ N ps cJ.out HLen.out 16 aF,iS,List.take_length]
    have ae:Hid (EH M w t (.returned (.slice a n c)) wr):=hid ⟨a,n,c,_,rfl,ye,λad e=>Nat.le_trans (Nat.le_trans HS2.out HB3.out.size) (hlo ad e),by rw [Iz]; exact cS.out,by rw [yf]; exact fl.out,eC.out.1.trans HI.out (Fr.below M (bst HB3.out HB.out)),(eC.out.2.1.below HB3.out).below HB.out,(eC.out.2.2.below HB3.out eC.out.2.2.pos).below HB.out (aH eC.out.2.2.pos HB3.out.size)⟩;clear ye hlo iS htk yf hR HR;go_wp2;go_ret;exact ae.out
 exact hgo
def fJ (n:Nat):Int:=((min n 9223372036854775807:Nat):Int)
def chA (q:aJ) (c:Int):aM:=#[.pointer q,.int .i64 c]
def plA (p:aJ) (d:Int):aM:=#[.pointer p,.int .i64 d]
theorem Sr (n:Nat):0<=fJ n/\fJ n<=9223372036854775807:=by unfold fJ; omega
theorem Au {n:Nat}:fJ n=0↔n=0:=by unfold fJ; omega
theorem Xm (a b:Nat):fJ a+min (fJ b) (9223372036854775807-fJ a)=fJ (a+b):=by unfold fJ; omega
theorem Mj:(prog.info? 81).map (·.size)=some 2:=by kernel_rfl
theorem VL:(prog.info? 79).map (·.size)=some 2:=by kernel_rfl
theorem UU:(prog.info? 143).map (·.size)=some 2:=by kernel_rfl
theorem Xy (q:aJ) (c:Int):(chA q c).all (·.oneCell')=true:=by simp [chA,Value.oneCell']
theorem Wu (x:Iv) (h:Hdl):(inA x h).all (·.oneCell')=true:=by simp [inA,Value.oneCell']
theorem bE (ev:Operand->Value) (o:Oper) (w:World) (b:Nat) (hb:b=w.heap.size) (ho:o.op = .alloc 81):(execOp ev o).run prog w = .ok (.value (.pointer (some ⟨b,0,none⟩))) (w.alloc (.cells (chA none 0) 81)):=by
 subst hb;unfold execOp;rw [ho];kernel_rfl
theorem FI (ev:Operand->Value) (o:Oper) (w:World) (b:Nat) (hb:b=w.heap.size) (ho:o.op = .alloc 143):(execOp ev o).run prog w = .ok (.value (.pointer (some ⟨b,0,none⟩))) (w.alloc (.cells (inA ([],none) (none,0,0)) 143)):=by
 subst hb;unfold execOp;rw [ho];kernel_rfl
theorem bB {rest:List Oper} {act:Go.Act} {w:World} {Q:Exit->Go.Act->World->Prop} {b:Nat} (h:Rg.Own w b cs 81) (hs:cs.size=2) (q:aJ) (c:Int)
  (hgd:o.guard=none) (x y:Operand) (ho:o.op = .store 81 x y) (hx:act.eval x = .pointer (some ⟨b,0,none⟩)) (hy:act.eval y = .agg (chA q c)) (hd:o.dst=none)
  (hQ:∀ w',Rg.Own w' b (chA q c) 81->Rg.Upd w b w'->wpList prog ops Q rest act w'):wpList prog ops Q (o::rest) act w :=
 wpList_store_rowTo hgd 81 x y ho hd b _ hx hy 81 _ h.2 Mj hs (Xy _ _) (hQ _ ⟨by simp; exact h.1,setRow_heap _ _ _ _ _ _ h.2⟩ (Rg.Upd.set _ _ _))
theorem Ey {rest:List Oper} {act:Go.Act} {w:World} {Q:Exit->Go.Act->World->Prop} {b:Nat} (h:Rg.Own w b cs 143) (hs:cs.size=2) (x0:Iv) (h0:Hdl)
  (hgd:o.guard=none) (x y:Operand) (ho:o.op = .store 143 x y) (hx:act.eval x = .pointer (some ⟨b,0,none⟩)) (hy:act.eval y = .agg (inA x0 h0)) (hd:o.dst=none)
  (hQ:∀ w',Rg.Own w' b (inA x0 h0) 143->Rg.Upd w b w'->wpList prog ops Q rest act w'):wpList prog ops Q (o::rest) act w :=
 wpList_store_rowTo hgd 143 x y ho hd b _ hx hy 143 _ h.2 UU hs (Wu _ _) (hQ _ ⟨by simp; exact h.1,setRow_heap _ _ _ _ _ _ h.2⟩ (Rg.Upd.set _ _ _))
theorem Fh {w:World} {b:Nat} {q:aJ} {c:Int} (h:Rg.Own w b (chA q c) 81):(loadVar 81 ⟨b,0,none⟩).run prog w = .ok (.agg (chA q c)) w :=
 run_loadVar_row (P:=prog) w b 81 81 (chA q c) (0,0) _ h.2 underlying81 rfl Mj
theorem kg {w:World} {b:Nat} {q:aJ} {c:Int} (h:Rg.Own w b (chA q c) 81) (ho:∃ x,o.op = .load 81 x/\ev x = .pointer (some ⟨b,0,none⟩)):(execOp ev o).run prog w = .ok (.value (.agg (chA q c))) w:=by
 obtain ⟨x,ho,hx⟩:=ho;unfold execOp;simp only [ho,hx,Instr.loadAt,Instr.sureAddr,Sem.run_bind,Sem.run_pure,Result.andThen_ok,Fh h]
theorem Wx {w:World} {b:Nat} {p:aJ} (h:Rg.Own w b (plA p d) 79):(loadVar 79 ⟨b,0,none⟩).run prog w = .ok (.agg (plA p d)) w :=
 run_loadVar_row (P:=prog) w b 79 79 (plA p d) (0,0) _ h.2 underlying79 rfl VL
theorem rA {w:World} {b:Nat} {p:aJ} (h:Rg.Own w b (plA p d) 79) (ho:∃ x,o.op = .load 79 x/\ev x = .pointer (some ⟨b,0,none⟩)):(execOp ev o).run prog w = .ok (.value (.agg (plA p d))) w:=by
 obtain ⟨x,ho,hx⟩:=ho;unfold execOp;simp only [ho,hx,Instr.loadAt,Instr.sureAddr,Sem.run_bind,Sem.run_pure,Result.andThen_ok,Wx h]
theorem yU {w:World} {q:aJ} {c:Int} (ho:∃ x,o.op = .field 81 x 0/\ev x = .agg (chA q c)):(execOp ev o).run prog w = .ok (.value (tv q)) w:=by
 obtain ⟨x,ho,hx⟩:=ho;unfold execOp;simp only [ho,hx];kernel_rfl
theorem DC:prog.built 81 []=some (chA none 0):=by kernel_rfl
theorem CU (q:aJ):prog.built 81 [(0,tv q)]=some (chA q 0):=by kernel_rfl
theorem zY (q:aJ) (c:Int):prog.built 81 [(0,tv q),(1,.int .i64 c)]=some (chA q c):=by kernel_rfl
theorem Gj (q:aJ) (d:Int):prog.built 79 [(0,tv q),(1,.int .i64 d)]=some (plA q d):=by kernel_rfl
theorem jO {fn:Func} {u:Tmp} (hf:fn.results = #[.cell u 81]) (tmps:aM) {w:World} {b:Nat} {q:aJ} {c:Int} (hp:tmps.getD u undef = .pointer (some ⟨b,0,none⟩)) (h:Rg.Own w b (chA q c) 81) :
  (results fn tmps).run prog w = .ok (.agg (chA q c)) w:=by
 have hp':tmps[u]?.getD undef = .pointer (some ⟨b,0,none⟩):=by simpa using hp
 simp [results,hf,hp',asAddr,Fh h]
theorem zx {fn:Func} {u v:Tmp} (hf:fn.results = #[.cell u 81,.tmp v]) (tmps:aM) {w:World} {b:Nat} {q:aJ} {c:Int} (hp:tmps.getD u undef = .pointer (some ⟨b,0,none⟩)) (h:Rg.Own w b (chA q c) 81) :
  (results fn tmps).run prog w = .ok (.tuple #[.agg (chA q c),tmps.getD v undef]) w:=by
 have hp':tmps[u]?.getD undef = .pointer (some ⟨b,0,none⟩):=by simpa using hp
 simp [results,hf,hp',asAddr,Fh h]
theorem ku (q:aJ) (c:Int):∀ (j:Nat) (x:Int),(chA q c)[j]? ≠ some (Value.int .u8 x):=λj x h=>by
 match j,h with
 | 0,h=>simp [chA] at h
 | 1,h=>simp [chA] at h
 | j+2,h=>simp [chA] at h
theorem MO (w:World):(zeroValue 81).run prog w = .ok (.agg (chA none 0)) w:=by kernel_rfl
theorem OP (w:World):(zeroValue 69).run prog w = .ok (.agg #[]) w:=by kernel_rfl
theorem ru (em:Bool) (p:aJ) (w:World):(Instr.checkKey em 10000 31 (tv p)).run prog w = .ok () w:=by cases em <;> kernel_rfl
theorem Iw (em:Bool) (p:aJ) (d:Int) (w:World):(Instr.checkKey em 10000 79 (.agg (plA p d))).run prog w = .ok () w:=by cases em <;> kernel_rfl
theorem Ep (p:aJ):Instr.sameBits 10000 (tv p) (tv p)=true:=by simp [Instr.sameBits]
theorem WB (p:aJ) (d:Int):Instr.sameBits 10000 (.agg (plA p d)) (.agg (plA p d))=true:=by simp [Instr.sameBits,plA]
theorem Yy {M:Mp} {w:World} (hi:Inv M w) {p q:aJ} {x y:T} (hp:IsT M p x) (hq:IsT M q y) (d:Nat):∃ c:Bool,(Op.equalIn (d+1) 29 (.pointer p) (.pointer q)).run prog w = .ok c w/\(c=true->q=p):=by
 cases p with
 | none =>
  refine ⟨q.isNone,by simp [Op.equalIn,run_underlying underlying29],λh=>?_⟩;cases q with
  | none=>rfl
  | some a=>cases h
 | some a =>
  cases q with
  | none=>exact ⟨false,by simp [Op.equalIn,run_underlying underlying29],λh=>by cases h⟩
  | some b =>
   have hsz:(prog.info? 108).map (·.size)=some 8:=by kernel_rfl
   cases hj:prog.info? 108 with
   | none=>rw [hj] at hsz; cases hsz
   | some j =>
    rw [hj] at hsz;have hs:j.size=8:=by simpa using hsz
    by_cases e:a=b
    .subst e;exact ⟨true,by simp [Op.equalIn,run_underlying underlying29,sizeOf,typeInfo,hj,run_sameAddr_same,hs],λ_=>rfl⟩
    .obtain ⟨ba,rfl,ma,_⟩:=hp;obtain ⟨bb,rfl,mb,_⟩:=hq;obtain ⟨_,_,_,_,_,_,_,_,ha,_⟩:=hi.part ma;obtain ⟨_,_,_,_,_,_,_,_,hb,_⟩:=hi.part mb;exact ⟨false,by simp [Op.equalIn,run_underlying underlying29,sizeOf,typeInfo,hj,hs,run_sameAddr_other w e ha hb],λh=>by cases h⟩
theorem Ib : ((prog.fieldsOf 31).toList.map fun f => (f.name, f.type, f.offset)) = [("part", 29, 0)] := by kernel_rfl
theorem OD (p:aJ) (w:World):(part 29 #[.pointer p] 0).run prog w = .ok (.pointer p) w:=by kernel_rfl
theorem MK {M:Mp} {w:World} (hi:Inv M w) {p q:aJ} {x y:T} (hp:IsT M p x) (hq:IsT M q y) (d:Nat):∃ c:Bool,(Op.equalIn (d+2) 31 (tv p) (tv q)).run prog w = .ok c w/\(c=true->q=p):=by
 obtain ⟨c,h1,h2⟩:=Yy hi hp hq d;refine ⟨c,?_,h2⟩;rw [run_equalIn_struct w (d+1) 31 #[.pointer p] #[.pointer q] (by kernel_rfl) (by kernel_rfl)];have hf:=Ib;generalize (prog.fieldsOf 31).toList=fs at hf;obtain ⟨f,rfl⟩:∃ f,fs=[f]:=by
  have h:=congrArg List.length hf;rw [List.length_map] at h;exact List.length_eq_one_iff.1 h
 simp only [List.map_cons,List.map_nil,List.cons.injEq,Prod.mk.injEq,and_true] at hf;obtain ⟨f1,f2,f3⟩:=hf;unfold Op.eqFields Op.eqFields;rw [f1,f2,f3,if_pos (by decide)];simp only [Sem.run_bind,OD,Result.andThen_ok,h1];cases c <;> simp
theorem wR {M:Mp} {w:World} (hi:Inv M w) {p q:aJ} {x y:T} (hp:IsT M p x) (hq:IsT M q y):EqK prog 31 w (tv p) (tv q):=by
 obtain ⟨c,h1,h2⟩:=MK hi hp hq 9998;exact ⟨c,h1,λe=>by rw [h2 e]⟩
theorem Pf : ((prog.fieldsOf 79).toList.map fun f => (f.name, f.type, f.offset)) = [("tree", 31, 0), ("depth", 3, 1)] := by kernel_rfl
theorem TH (p:aJ) (d:Int) (w:World):(part 31 (plA p d) 0).run prog w = .ok (tv p) w:=by kernel_rfl
theorem Hg (p:aJ) (d:Int) (w:World):(part 3 (plA p d) 1).run prog w = .ok (.int .i64 d) w:=by kernel_rfl
theorem Vi {M:Mp} {w:World} (hi:Inv M w) {p q:aJ} {x y:T} (hp:IsT M p x) (hq:IsT M q y) (d e:Int):EqK prog 79 w (.agg (plA p d)) (.agg (plA q e)):=by
 obtain ⟨c,h1,h2⟩:=MK hi hp hq 9997;refine ⟨c&&(d==e),?_,λhe=>?_⟩
 .show (Op.equalIn (9999+1) _ _ _).run _ _=_;rw [run_equalIn_struct w 9999 79 (plA p d) (plA q e) (by kernel_rfl) (by kernel_rfl)];have hf:=Pf;generalize (prog.fieldsOf 79).toList=fs at hf;obtain ⟨f,g,rfl⟩:∃ f g,fs=[f,g]:=by
   have h:=congrArg List.length hf;rw [List.length_map] at h
   match fs,h with
   | [f,g],_=>exact ⟨f,g,rfl⟩
  simp only [List.map_cons,List.map_nil,List.cons.injEq,Prod.mk.injEq,and_true] at hf;obtain ⟨⟨f1,f2,f3⟩,g1,g2,g3⟩:=hf;have hd:=run_equalIn_int (P:=prog) w 9998 3 .i64 .i64 d e underlying3;unfold Op.eqFields Op.eqFields Op.eqFields;rw [f1,f2,f3,g1,g2,g3,if_pos (by decide),if_pos (by decide)];simp only [Sem.run_bind,TH,Hg,Result.andThen_ok,h1];cases c
  .simp
  .simp only [Bool.not_true,Bool.false_eq_true,if_false,Sem.run_bind,Hg,Result.andThen_ok,hd,Bool.true_and];cases (d==e) <;> simp
 .cases c with
  | false=>cases he
  | true =>
   have:d=e:=by simpa using he
   rw [h2 rfl,this]
structure JOk (B:Nat) (K:Nat->Prop) (J:Mp->World->Prop):Prop where
 fr:∀ M M' w w',J M w->Inv M w->w.heap.size<=w'.heap.size->(∀ k,k<B->M.at_ k=none->w'.heap[k]? = w.heap[k]?)->(∀ k t,M.at_ k=some t->M'.at_ k=some t)->(∀ k,k<B->M'.ft k->M.ft k)->(∀ k,k<B->M.at_ k=none->M'.at_ k=none)->J M' w'
 kc:∀ M w,J M w->Inv M w->Kc K M w
 lt:∀ k,K k->k<B
 sz:∀ M w,J M w->B<=w.heap.size
theorem JOk.fn {K:Nat->Prop} {J:Mp->World->Prop} (h:JOk B K J) {M M':Mp} {w w':World} (j:J M w) (i:Inv M w) (f:Fnw M M' w w'):J M' w' :=
 h.fr M M' w w' j i f.size (λk hk hm=>f.block k (aH hk (h.sz M w j)) hm λe=>e) f.mono (λk hk=>f.foot k (aH hk (h.sz M w j))) (λk hk=>f.fresh k (aH hk (h.sz M w j)))
theorem JOk.below {B:Nat} {K:Nat->Prop} {J:Mp->World->Prop} (h:JOk B K J) {M:Mp} {w w':World} (j:J M w) (i:Inv M w) (hb:Below w.heap.size w w'):J M w':=h.fn j i (Fnw.of (Fr.below M hb))
def iw (K:Nat->Prop) (J:Mp->World->Prop) (M:Mp) (w:World) (t:T) (n:Nat) (e:Ending) (w':World):Prop :=
 ∃ q M',e = .returned (.agg (chA q (fJ n)))/\IsT M' q t/\Fk K M M' w w'/\Inv M' w'/\Tab w'/\J M' w'
def EG (K:Nat->Prop) (J:Mp->World->Prop) (fo:Nat) (co:aM) (st:Pa) (s t':T) (n:Nat):Prop :=
 ∀ (M:Mp) (w:World) (a:aJ) (m c:Nat) (p:aJ),J M w->Inv M w->Tab w->bq w a m c st->IsT M p s->Calls prog fo (#[.slice a m c,tv p]++co) w (iw K J M w t' n)
end Sx
end
end Go.Proofs.YtlcplcgigjagpaaGreatDoor
