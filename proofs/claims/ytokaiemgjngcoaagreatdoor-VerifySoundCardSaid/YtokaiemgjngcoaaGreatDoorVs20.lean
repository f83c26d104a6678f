/-
 The contract of the laws' own Pairs.
-/
import Derived.Test.YtokaiemgjngcoaaGreatDoorVs19
import Derived.RangeFuncBound
import Derived.RangeFuncCalls
import Derived.OrdersIn
open Go.Lib (hid)
open Go.Proofs.Tryz
set_option linter.unusedSimpArgs false
set_option linter.unusedVariables false
set_option maxHeartbeats 40000000
set_option maxRecDepth 100000
namespace Go.Proofs.YtokaiemgjngcoaaGreatDoor
variable {w2:World} {B id u us:Nat} {e ty:TypeId} {o:Oper} {Q:Exit->Act->World->Prop} {P:Program} {ops:Array Oper} {args:aO} {ev:Operand->Value} {i r:Bool} {E R:aM}
section
open Go.RowKit
namespace Tm
open Tr Ni Pk Ky
theorem qm {l:List Tr.Pair} {j:Nat} (hj:j<l.length) (h24:j<24):fA (l.take (j+1))=fA (l.take j)++[ER (l.getD j ([],eB))]:=by
 unfold fA;rw [List.take_take,List.take_take,show min 24 (j+1)=j+1 by omega,show min 24 j=j by omega,take_at hj,List.map_append];rfl
theorem OD {l:List Tr.Pair}:fA (l.take 24)=fA l:=by
 unfold fA;rw [List.take_take,Nat.min_self]
theorem wU (l:List Tr.Pair) (a:aL) (n c:Nat) (w:World) (h:fT w a n c l) :
  Calls prog 14 #[.slice a n c] w (Ua w (fA l)):=by
 obtain ⟨i0,z0,hi,hz,hsz,hby,hzc⟩:=qP;have HI:Hid (_/\_/\_/\_/\_):=hid ⟨hi,hz,hsz,hby,hzc⟩;have hcap:=h.1;have hmx:=h.2.1;unfold maxLen at hmx;have H:=hid h;have HL:=hid h.len;clear h hi hz hsz hby hzc;go_enter func14,ntmps14;go_wp2_with fail
 go_loopw [3,4] (λv i wr=>∃ j:Nat,j<=n/\j<=24/\i = .int .i64 j/\Hid (wr.ownsRow w.heap.size 60 33 v (fA (l.take j)).length (rowP (fA (l.take j))))/\Hid (Below w.heap.size w wr)) (λ_ i _=>n-(intOf i).toNat)
 case atStart=>exact ⟨0,Nat.zero_le _,Nat.zero_le _,rfl,hid (World.ownsRow_nil _ _ _ _),hid aI⟩
 case round =>
  obtain ⟨j,hjn,T3,rfl,HR,HB⟩:=hrel;have hlen:(fA (l.take j)).length<=24:=Ey _;by_cases hlt:j<n/\j<24
  .obtain ⟨hlt,qe⟩:=hlt;have i1:(j:Int)<n:=by omega
   have i2:(j:Int)<24:=by omega
   have HJ:Hid (j<l.length):=hid (by rw [HL.out]; exact hlt);obtain ⟨b,off,rfl,hblt,hpa,hk⟩:=H.out.at' j hlt;obtain ⟨x,hx⟩:=aA (l.getD j ([],eB))
   rw [hx] at hpa hk;have HX:=hid hx;have m7:=hid (hpa.below HB.out);have hNew:=Rg.Own.new wr (dN (List.replicate 32 0,eB)) 60;have HN:=hid hNew;have HZ:Hid (((List.replicate 32 0,eB):Tr.Pair).1.length=32):=hid rfl;obtain ⟨k,v⟩:=x;have bi:Hid (k.length=32):=hid hk;clear hx hpa hk hNew hblt;by_cases hv0:v.size=0
   .obtain rfl:=No.dI hv0;have s1:decide ((100:Int)<(sv.size:Int))=false:=rfl;have HF:Hid (fA (l.take (j+1))=fA (l.take j)++[(k,sv)]):=hid (by rw [qm HJ.out qe,HX.out]; unfold ER; simp [hv0]);go_wp2_with (first
     | (refine aB (dU (x:=(k,eB)) bi.out m7.out ⟨_,rfl,rfl⟩) ?_)
     | (refine aB (lI _ _ _ wr.heap.size rfl rfl) ?_)
     | (refine jq HN.out HZ.out (k,eB) bi.out rfl _ _ rfl rfl rfl rfl ?_; intro w5 bo bd; have cf:=hid bo; have ae:Hid (Below wr.heap.size wr w5):=hid (bd.below (al1 _ _) aH); have c32:w5.cell? ⟨wr.heap.size,32,none⟩=some (.string _):=(cK.own bo).val bi.out; clear bo bd)
     | (refine aB (eH c32 ⟨_,rfl,rfl⟩) ?_)
     | (refine aB (bH bi.out (cK.own cf.out).key ⟨_,rfl,rfl⟩) ?_)
     | (refine aB (bQ (oC k sv bi.out) ⟨_,rfl,rfl⟩) ?_)
     | (refine jq cf.out bi.out (k,sv) bi.out rfl _ _ rfl rfl rfl rfl ?_; intro w6 bj cm; have cF:=hid bj; have ax:Hid (Below wr.heap.size wr w6):=hid (cm.below ae.out aH); have dt:=hid (iE HR.out ax.out); have d32:w6.cell? ⟨wr.heap.size,32,none⟩=some (.string _):=(cK.own bj).val bi.out; clear bj cm)
     | (refine aB (eH d32 ⟨_,rfl,rfl⟩) ?_)
     | (refine aB (dU (x:=(k,sv)) bi.out (cK.own cF.out) ⟨_,rfl,rfl⟩) ?_)
     | (refine aB (jh (x:=(k,sv)) bi.out _ rfl ⟨_,rfl,rfl⟩) ?_)
     | (at_builtin; refine wpList_append_own _ rfl _ _ 42 rfl w.heap.size 60 i0 z0 33 48 underlying42 HI.out.1 HI.out.2.1 HI.out.2.2.1 HI.out.2.2.2.1 HI.out.2.2.2.2 (by decide) _ _ _ rfl (dt.out.alloc _) ⟨_,0,none⟩ 1 1 (iF (k,sv)) rfl (fD (x:=(k,sv)) bi.out) ?d1 (nJ _) ?d3 ?d4 ?d5 ?_))
    case d1 =>
     intro q u hu;first | (simpa [dN] using hu) | (rw [Addr.add_mid]; exact (cK.own (Rg.Own.new _ (dN (k,sv)) 60)) q u hu)
    case d3=>unfold maxLen; omega
    case d4=>omega
    case d5=>have:=HB.out.size; have:=ax.out.size; simp; omega
    intro v' w7 d9 hgrow _;have hlt':=dt.out.lt;have cA:Hid (Below w.heap.size w w7):=hid (((bst HB.out ax.out).alloc (by have:=HB.out.size; have:=ax.out.size; omega) _).grown hgrow (by have:=HB.out.size; have:=ax.out.size; simp; omega) (λg hg=>(hlt' g hg).1));go_wp2;go_roundw
    case rel=>exact ⟨j+1,by omega,by omega,by go_num,hid (by rw [HF.out,sI,List.length_append]; exact d9),cA⟩
    case measure=>simp [intOf]; omega
   .by_cases hv2:100<v.size
    .have hv1:=Ni.dJ (s:=v) (by omega);have sg:(100:Int)<=(v.size:Int):=by omega
     have s1:decide ((100:Int)<(v.size:Int))=true:=aK (by omega);go_wp2_with (first
 | (refine aB (dU (x:=(k,v)) bi.out m7.out ⟨_,rfl,rfl⟩) ?_)
      | (refine aB (lI _ _ _ wr.heap.size rfl rfl) ?_)
      | (refine jq HN.out HZ.out (k,v) bi.out rfl _ _ rfl rfl rfl rfl ?_; intro w5 bo bd; have cf:=hid bo; have ae:Hid (Below wr.heap.size wr w5):=hid (bd.below (al1 _ _) aH); have c32:w5.cell? ⟨wr.heap.size,32,none⟩=some (.string _):=(cK.own bo).val bi.out; clear bo bd)
      | (refine aB (eH c32 ⟨_,rfl,rfl⟩) ?_)
     )
     have T4:wr.heap.size<=wr.heap.size:=aH;have h0:=cf.out;refine aD (S:=λw'=>Below wr.heap.size wr w') (ae.out.drew) λhld=>?_;replace h0:=h0.drew;refine aj 0 ?_;try simp only [Act.put,au]
     refine aj 2 ?_;try simp only [Act.put,au]
     refine wpAnyH_ready (rs:=[1,3]) (by kernel_rfl) (by simp) ?_;refine Rg.readyC (i:=1) rfl (λK hK=>?_) (Rg.readyL (i:=3) rfl (λK hK=>?_))
     .refine Rg.meet (by rfl) _ _ (bH bi.out (cK.own h0).key ?_) ?_
      .exact ⟨_,rfl,rfl⟩
      refine hK.out _ _ (hld) λhld=>?_;clear hK K;try simp only [Act.put,au]
      refine ak 3 λK hK=>?_;refine Rg.meet (by rfl) _ _ (eH (cK.val (cK.own h0) bi.out) ?_) ?_
      .exact ⟨_,rfl,rfl⟩
      refine hK.out _ _ (hld) λhld=>?_;clear hK K;try simp only [Act.put,au]
      refine aj 4 ?_ (hy:=by intro wz hSw; (have q0:=sg; go_simp <;> with_reducible rfl));try simp only [Act.put,au]
      refine aj 5 ?_ (hy:=by intro wz hSw; (refine bQ (oC k (v.extract 0 100) bi.out) ?_; exact ⟨_,rfl,rfl⟩));try simp only [Act.put,au]
      refine ak 6 λK hK=>?_;refine Rg.meetStore (by rfl) h0 60 (dN (k,v.extract 0 100)) ⟨_,_,rfl,rfl,rfl⟩ (uH bi.out) (by rw [ku bi.out,ku bi.out]) (wS _) ?_;rintro bc hn hu;refine hK.out _ _ ?_ (λhld=>?_)
      .exact hu.below hld T4
      replace h0:=hn;clear hK K hn hu;try simp only [Act.put]
      refine aC ?_;have cf:=hid h0;have ex:Hid (Below wr.heap.size wr _):=hid hld;clear h0 hld;have HF:Hid (fA (l.take (j+1))=fA (l.take j)++[(k,v.extract 0 100)]):=hid (by rw [qm HJ.out qe,HX.out]; unfold ER; simp [hv0,hv2]);have dt:=hid (iE HR.out ex.out);go_wp2_with (first
       | (refine aB (dU (x:=(k,v.extract 0 100)) bi.out (cK.own cf.out) ⟨_,rfl,rfl⟩) ?_)
       | (refine aB (jh (x:=(k,v.extract 0 100)) bi.out _ rfl ⟨_,rfl,rfl⟩) ?_)
       | (at_builtin; refine wpList_append_own _ rfl _ _ 42 rfl w.heap.size 60 i0 z0 33 48 underlying42 HI.out.1 HI.out.2.1 HI.out.2.2.1 HI.out.2.2.2.1 HI.out.2.2.2.2 (by decide) _ _ _ rfl (dt.out.alloc _) ⟨_,0,none⟩ 1 1 (iF (k,v.extract 0 100)) rfl (fD (x:=(k,v.extract 0 100)) bi.out) ?d1 (nJ _) ?d3 ?d4 ?d5 ?_))
      case d1 =>
       intro q u hu;first | (simpa [dN] using hu) | (rw [Addr.add_mid]; exact (cK.own (Rg.Own.new _ (dN (k,v.extract 0 100)) 60)) q u hu)
      case d3=>unfold maxLen; omega
      case d4=>omega
      case d5=>have:=HB.out.size; have:=ex.out.size; simp; omega
      intro v' w7 d9 hgrow _;have hlt':=dt.out.lt;have cA:Hid (Below w.heap.size w w7):=hid (((bst HB.out ex.out).alloc (by have:=HB.out.size; have:=ex.out.size; omega) _).grown hgrow (by have:=HB.out.size; have:=ex.out.size; simp; omega) (λg hg=>(hlt' g hg).1));go_wp2;go_roundw
      case rel=>exact ⟨j+1,by omega,by omega,by go_num,hid (by rw [HF.out,sI,List.length_append]; exact d9),cA⟩
      case measure=>simp [intOf]; omega
     .refine Rg.meet (by rfl) _ _ (eH (cK.val (cK.own h0) bi.out) ?_) ?_
      .exact ⟨_,rfl,rfl⟩
      refine hK.out _ _ (hld) λhld=>?_;clear hK K;try simp only [Act.put,au]
      refine aj 4 ?_ (hy:=by intro wz hSw; (have q0:=sg; go_simp <;> with_reducible rfl));try simp only [Act.put,au]
      refine ak 1 λK hK=>?_;refine Rg.meet (by rfl) _ _ (bH bi.out (cK.own h0).key ?_) ?_
      .exact ⟨_,rfl,rfl⟩
      refine hK.out _ _ (hld) λhld=>?_;clear hK K;try simp only [Act.put,au]
      refine aj 5 ?_ (hy:=by intro wz hSw; (refine bQ (oC k (v.extract 0 100) bi.out) ?_; exact ⟨_,rfl,rfl⟩));try simp only [Act.put,au]
      refine ak 6 λK hK=>?_;refine Rg.meetStore (by rfl) h0 60 (dN (k,v.extract 0 100)) ⟨_,_,rfl,rfl,rfl⟩ (uH bi.out) (by rw [ku bi.out,ku bi.out]) (wS _) ?_;rintro bc hn hu;refine hK.out _ _ ?_ (λhld=>?_)
      .exact hu.below hld T4
      replace h0:=hn;clear hK K hn hu;try simp only [Act.put]
      refine aC ?_;have cf:=hid h0;have ex:Hid (Below wr.heap.size wr _):=hid hld;clear h0 hld;have HF:Hid (fA (l.take (j+1))=fA (l.take j)++[(k,v.extract 0 100)]):=hid (by rw [qm HJ.out qe,HX.out]; unfold ER; simp [hv0,hv2]);have dt:=hid (iE HR.out ex.out);go_wp2_with (first
       | (refine aB (dU (x:=(k,v.extract 0 100)) bi.out (cK.own cf.out) ⟨_,rfl,rfl⟩) ?_)
       | (refine aB (jh (x:=(k,v.extract 0 100)) bi.out _ rfl ⟨_,rfl,rfl⟩) ?_)
       | (at_builtin; refine wpList_append_own _ rfl _ _ 42 rfl w.heap.size 60 i0 z0 33 48 underlying42 HI.out.1 HI.out.2.1 HI.out.2.2.1 HI.out.2.2.2.1 HI.out.2.2.2.2 (by decide) _ _ _ rfl (dt.out.alloc _) ⟨_,0,none⟩ 1 1 (iF (k,v.extract 0 100)) rfl (fD (x:=(k,v.extract 0 100)) bi.out) ?d1 (nJ _) ?d3 ?d4 ?d5 ?_))
      case d1 =>
       intro q u hu;first | (simpa [dN] using hu) | (rw [Addr.add_mid]; exact (cK.own (Rg.Own.new _ (dN (k,v.extract 0 100)) 60)) q u hu)
      case d3=>unfold maxLen; omega
      case d4=>omega
      case d5=>have:=HB.out.size; have:=ex.out.size; simp; omega
      intro v' w7 d9 hgrow _;have hlt':=dt.out.lt;have cA:Hid (Below w.heap.size w w7):=hid (((bst HB.out ex.out).alloc (by have:=HB.out.size; have:=ex.out.size; omega) _).grown hgrow (by have:=HB.out.size; have:=ex.out.size; simp; omega) (λg hg=>(hlt' g hg).1));go_wp2;go_roundw
      case rel=>exact ⟨j+1,by omega,by omega,by go_num,hid (by rw [HF.out,sI,List.length_append]; exact d9),cA⟩
      case measure=>simp [intOf]; omega
    .have hv1:=Ni.dJ (s:=v) (by omega);have s1:decide ((100:Int)<(v.size:Int))=false:=decide_eq_false (by omega);have HF:Hid (fA (l.take (j+1))=fA (l.take j)++[(k,v)]):=hid (by rw [qm HJ.out qe,HX.out]; unfold ER; simp [hv0,hv2]);go_wp2_with (first
      | (refine aB (dU (x:=(k,v)) bi.out m7.out ⟨_,rfl,rfl⟩) ?_)
      | (refine aB (lI _ _ _ wr.heap.size rfl rfl) ?_)
      | (refine jq HN.out HZ.out (k,v) bi.out rfl _ _ rfl rfl rfl rfl ?_; intro w5 bo bd; have cf:=hid bo; have ae:Hid (Below wr.heap.size wr w5):=hid (bd.below (al1 _ _) aH); have dt:=hid (iE HR.out ae.out); have c32:w5.cell? ⟨wr.heap.size,32,none⟩=some (.string _):=(cK.own bo).val bi.out; clear bo bd)
      | (refine aB (eH c32 ⟨_,rfl,rfl⟩) ?_)
      | (refine aB (dU (x:=(k,v)) bi.out (cK.own cf.out) ⟨_,rfl,rfl⟩) ?_)
      | (refine aB (jh (x:=(k,v)) bi.out _ rfl ⟨_,rfl,rfl⟩) ?_)
      | (at_builtin; refine wpList_append_own _ rfl _ _ 42 rfl w.heap.size 60 i0 z0 33 48 underlying42 HI.out.1 HI.out.2.1 HI.out.2.2.1 HI.out.2.2.2.1 HI.out.2.2.2.2 (by decide) _ _ _ rfl (dt.out.alloc _) ⟨_,0,none⟩ 1 1 (iF (k,v)) rfl (fD (x:=(k,v)) bi.out) ?d1 (nJ _) ?d3 ?d4 ?d5 ?_))
     case d1 =>
      intro q u hu;first | (simpa [dN] using hu) | (rw [Addr.add_mid]; exact (cK.own (Rg.Own.new _ (dN (k,v)) 60)) q u hu)
     case d3=>unfold maxLen; omega
     case d4=>omega
     case d5=>have:=HB.out.size; have:=ae.out.size; simp; omega
     intro v' w7 d9 hgrow _;have hlt':=dt.out.lt;have cA:Hid (Below w.heap.size w w7):=hid (((bst HB.out ae.out).alloc (by have:=HB.out.size; have:=ae.out.size; omega) _).grown hgrow (by have:=HB.out.size; have:=ae.out.size; simp; omega) (λg hg=>(hlt' g hg).1));go_wp2;go_roundw
     case rel=>exact ⟨j+1,by omega,by omega,by go_num,hid (by rw [HF.out,sI,List.length_append]; exact d9),cA⟩
     case measure=>simp [intOf]; omega
  .have cN:Hid (fA (l.take j)=fA l):=hid (by
    rcases Nat.lt_or_ge j n with h1 | h1
    .obtain rfl:j=24:=by omega
     exact OD
    .obtain rfl:j=n:=by omega
     rw [List.take_of_length_le (by rw [HL.out]; exact aH)])
   have HK:=hid (Jg H.out.keys);have hf:¬ ((j:Int)<n/\(j:Int)<24):=by omega
   rw [cN.out] at HR;rcases Nat.lt_or_ge j n with h1 | h1
   .obtain rfl:j=24:=by omega
    have i1:((24:Nat):Int)<n:=by omega
    go_wp2_with fail
    go_ret;exact wB.ps HK.out.1 ⟨_,rfl,HR.out,HB.out⟩
   .obtain rfl:j=n:=by omega
    go_wp2_with fail
    go_ret;exact wB.ps HK.out.1 ⟨_,rfl,HR.out,HB.out⟩
open No
open Rf
open Rl
open Sm (Tab)
section
variable {k:aN} {j:Nat}
end
namespace ZG
variable {w0:World} {M M':Mp} {w w':World} {b0 b1:Nat} {p p' q q':aL} {t t' s s':T}
end ZG
end Tm
end
section
open Go.RowKit
namespace Tm
open Tr Ni Pk Ky No Rf Rl
open Sm (Tab)
theorem jV {ks:Fin 16->T} {s:T} (h:s∈(dx ks).map ks):∃ i,s=ks i/\ks i ≠ .nil:=by
 obtain ⟨i,hi,rfl⟩:=List.mem_map.1 h;refine ⟨i,rfl,λe=>?_⟩;have:=(List.mem_filter.1 hi).2;rw [fU.2 e] at this;cases this
theorem Nk {t:T} {L:Nat} (g:Tr.Good t L) (f:Fine t):∀ s∈qV t,s ≠ .nil/\Fine s/\(Tr.Full t->Tr.Full s)/\∃ L',L'<L/\Tr.Good s L':=by
 intro s hs;cases t with
 | nil=>cases hs
 | leaf p v=>cases hs
 | stub r=>cases hs
 | ext q u =>
  obtain rfl:s=u:=by
   have:s∈[u]:=hs;simpa using this
  obtain ⟨g1,_,g3,g4,g5⟩:=g;have hq:0<q.length:=List.length_pos_iff.2 g1;exact ⟨mE g4,f,λh=>h,L-q.length,by omega,g5⟩
 | br ks =>
  obtain ⟨i,rfl,hn⟩:=jV hs;obtain ⟨g1,_,g3⟩:=g;exact ⟨hn,f i,λh=>h i,L-1,by omega,g3 i⟩
theorem Sc (t:T):(qV t).length<=16:=by
 cases t with
 | ext q s=>show 1<=16; omega
 | br ks =>
  show ((dx ks).map ks).length<=16;rw [List.length_map];exact Nat.le_trans (List.length_filter_le _ _) (by simp)
 | _=>exact Nat.zero_le _
namespace ZH
variable {w0:World} {M M':Mp} {w w':World} {bk bt:Nat} {K:aN} {p p':aL} {t t':T}
end ZH
namespace ZI
variable {w0:World} {M M':Mp} {w w':World} {bk bt:Nat} {K:aN} {p:aL} {t:T} {bn:Nat} {N:Nd} {a:aL} {n c:Nat} {ka:aL} {kc':Nat} {ps:List (aL)}
end ZI
end Tm
end
section
namespace Tm
open Tr Rf Rl Ni No
theorem Nq:cu .nil=[]:=rfl
theorem KU {t:T} (hn:t ≠ .nil) (hs:¬ eY t):cu t=bP t::((qV t).map cu).flatten:=by
 cases t with
 | nil=>exact absurd rfl hn
 | stub r=>exact absurd trivial hs
 | leaf p v=>rfl
 | ext q u =>
  show bP (.ext q u)::cu u=_;rw [show qV (.ext q u)=[u] from rfl];simp
 | br ks =>
  show bP (.br ks)::((List.finRange 16).map λi=>cu (ks i)).flatten=bP (.br ks)::(((dx ks).map ks).map cu).flatten;congr 1;unfold dx;generalize List.finRange 16=l
  induction l with
  | nil=>rfl
  | cons i r ih =>
   rw [List.map_cons,List.flatten_cons,ih];by_cases h:ks i = .nil
   .rw [List.filter_cons_of_neg (by rw [fU.2 h]; decide),h,Nq,List.nil_append]
   .rw [List.filter_cons_of_pos (by
     cases e:isNil (ks i) with
     | true=>exact absurd (fU.1 e) h
     | false=>rfl),List.map_cons,List.map_cons,List.flatten_cons]
structure Whl (t:T):Prop where
 fine:Fine t
 full:Tr.Full t
 good:∃ L,L<=64/\Tr.Good t L
theorem Whl.kids {t:T} (h:Whl t):∀ s∈qV t,s ≠ .nil/\Whl s:=λs hs=>by
 obtain ⟨L,hL,g⟩:=h.good;obtain ⟨h1,h2,h3,L',hl,h4⟩:=Nk g h.fine s hs;exact ⟨h1,h2,h3 h.full,L',by omega,h4⟩
theorem Whl.ns {t:T} (h:Whl t):¬ eY t:=dK h.full
theorem Whl.enc {t:T} (h:Whl t) (hn:t ≠ .nil):bP t≠eB/\(bP t).size<=900000:=by
 obtain ⟨L,hL,g⟩:=h.good;obtain ⟨h1,h2,h3,_⟩:=pX g hL h.fine hn h.ns;refine ⟨λe=>?_,h3⟩;have h4:=put_pos (dY _) h1;rw [h2] at e;have:=congrArg ByteArray.size e;rw [fq] at this;have h5:eB.size=0:=rfl;omega
theorem Whl.few {t:T} (h:Whl t):∀ s∈cu t,s.size<=900000:=by
 have key:∀ (n:Nat) (t:T),sz t<=n->Whl t->∀ s∈cu t,s.size<=900000:=by
  intro n
  induction n with
  | zero =>
   intro t ht h s hs;cases t with
   | nil=>cases hs
   | leaf p v=>exact absurd ht (by show ¬ 1<=0; omega)
   | stub r=>cases hs
   | ext q u=>exact absurd ht (by show ¬ sz u+1<=0; omega)
   | br ks=>exact absurd ht (by show ¬ _+1<=0; omega)
  | succ n ih =>
   intro t ht h s hs;by_cases hn:t = .nil
   .subst hn; cases hs
   .rw [KU hn h.ns] at hs;rcases List.mem_cons.1 hs with rfl | hs
    .exact (h.enc hn).2
    .obtain ⟨l,hl,hsl⟩:=List.mem_flatten.1 hs;obtain ⟨u,hu,rfl⟩:=List.mem_map.1 hl;refine ih u ?_ (h.kids u hu).2 s hsl;cases t with
     | nil=>exact absurd rfl hn
     | leaf p v=>cases hu
     | stub r=>cases hu
     | ext q x =>
      have hx:u∈[x]:=hu;rw [List.mem_singleton] at hx;subst hx;have:sz u+1<=n+1:=ht;omega
     | br ks =>
      obtain ⟨i,rfl,_⟩:=jV hu;have h1:((List.finRange 16).map λi=>sz (ks i)).sum+1<=n+1:=ht;have h2:=Fu ((List.finRange 16).map λi=>sz (ks i)) (sz (ks i)) (List.mem_map.2 ⟨i,List.mem_finRange i,rfl⟩);omega
 exact key (sz t) t aH h
theorem DK:∀ l:List Tr.In,((List.finRange 16).map λc=>(bK l c).length).sum<=l.length
 | []=>by
  have e:((List.finRange 16).map λc=>(bK [] c).length)=(List.finRange 16).map λ_=>0:=rfl;rw [e];decide
 | x::r=>by
  have ih:=DK r;have key:∀ (cs:List (Fin 16)),cs.Nodup->(cs.map λc=>(bK (x::r) c).length).sum<=(cs.map λc=>(bK r c).length).sum+if ∃ c∈cs,(x.1.getD 0 0).toNat=c.val then 1 else 0:=by
   intro cs
   induction cs with
   | nil=>intro _; simp
   | cons c cs ih2 =>
    intro hd;obtain ⟨hc,hd'⟩:=List.nodup_cons.1 hd;have i2:=ih2 hd';rw [List.map_cons,List.map_cons,List.sum_cons,List.sum_cons];by_cases h:(x.1.getD 0 0).toNat=c.val
    .have h1:(bK (x::r) c).length=(bK r c).length+1:=by
      unfold bK;rw [List.filter_cons,if_pos (by simpa using h)];rfl
     have h2:¬ ∃ d∈cs,(x.1.getD 0 0).toNat=d.val:=λ⟨d,hd,e⟩=>hc (by
      have:c=d:=Fin.ext (by omega);rw [this]; exact hd)
     rw [if_neg h2] at i2;rw [if_pos ⟨c,List.mem_cons_self,h⟩,h1];omega
    .have h1:(bK (x::r) c).length=(bK r c).length:=by
      unfold bK;rw [List.filter_cons,if_neg (by simpa using h)]
     rw [h1];by_cases h2:∃ d∈cs,(x.1.getD 0 0).toNat=d.val
     .obtain ⟨d,hd,e⟩:=h2;rw [if_pos ⟨d,hd,e⟩] at i2;rw [if_pos ⟨d,List.mem_cons_of_mem _ hd,e⟩];omega
     .rw [if_neg h2] at i2;omega
  have:=key (List.finRange 16) (List.nodup_finRange 16);rw [List.length_cons];split at this <;> omega
theorem xG:∀ (L:Nat) (l:List Tr.In),Ok L l->(cu (build L l)).length<=(L+1)*l.length:=by
 intro L
 induction L using Nat.strongRecOn with
 | ind L ih =>
  intro l ok
  match l,ok with
  | [],_=>rw [build]; exact Nat.zero_le _
  | [x],_ =>
   rw [build];show 1<=(L+1)*1;omega
  | x::y::r,ok =>
   have hcl:=kR ok;rw [build];by_cases h:0<bE (x::y::r)/\0<L
   .rw [dif_pos h];have i1:=ih (L-bE (x::y::r)) (by omega) (bR (x::y::r) (bE (x::y::r))) (sV ok (by omega) (λa ha b hb=>by rw [iq ha,iq hb]));show (cu _).length+1<=_;have e:(bR (x::y::r) (bE (x::y::r))).length=(x::y::r).length:=by unfold bR; rw [List.length_map]
    rw [e] at i1;have h2:(L-bE (x::y::r)+1)*(x::y::r).length<=L*(x::y::r).length:=Nat.mul_le_mul_right _ (by omega);have h3:2<=(x::y::r).length:=by simp
    have h4:(L+1)*(x::y::r).length=L*(x::y::r).length+(x::y::r).length:=Nat.succ_mul _ _;omega
   .rw [dif_neg h];by_cases h2:0<L
    .rw [dif_pos h2];show ((List.finRange 16).map λi=>cu (build (L-1) (bR (bK (x::y::r) i) 1))).flatten.length+1<=_;have hb:∀ cs:List (Fin 16),(cs.map λi=>cu (build (L-1) (bR (bK (x::y::r) i) 1))).flatten.length<=L*(cs.map λc=>(bK (x::y::r) c).length).sum:=by
      intro cs
      induction cs with
      | nil=>exact Nat.zero_le _
      | cons c cs ih2 =>
       have i1:=ih (L-1) (by omega) (bR (bK (x::y::r) c) 1) (oo ok h2 c);have e:(bR (bK (x::y::r) c) 1).length=(bK (x::y::r) c).length:=by unfold bR; rw [List.length_map]
       rw [e,show L-1+1=L by omega] at i1;rw [List.map_cons,List.map_cons,List.flatten_cons,List.sum_cons,List.length_append,Nat.mul_add];omega
     have h3:=hb (List.finRange 16);have h4:=DK (x::y::r);have h5:L*((List.finRange 16).map λc=>(bK (x::y::r) c).length).sum<=L*(x::y::r).length:=Nat.mul_le_mul_left _ h4;have h6:(L+1)*(x::y::r).length=L*(x::y::r).length+(x::y::r).length:=Nat.succ_mul _ _;have h7:2<=(x::y::r).length:=by simp
     omega
    .rw [dif_neg h2];exact Nat.zero_le _
end Tm
end
section
open Go.RowKit
namespace Tm
open Tr Ni Pk Ky No Rf Rl
open Sm (Tab)
structure FrK (M:Mp) (K:Nat->Prop) (w w':World):Prop where
 os:w'.os=w.os
 tape:w'.tape=w.tape
 output:w'.output=w.output
 size:w.heap.size<=w'.heap.size
 block:∀ k,k<w.heap.size->M.at_ k=none->¬ K k->w'.heap[k]? = w.heap[k]?
theorem FrK.refl (M:Mp) (K:Nat->Prop) (w:World):FrK M K w w:=⟨rfl,rfl,rfl,aH,λ_ _ _ _=>rfl⟩
theorem FrK.trans {M:Mp} {K K1:Nat->Prop} {w w1 w2:World} (h:FrK M K w w1) (g:FrK M K1 w1 w2) (hk:∀ k,K1 k->K k\/w.heap.size<=k):FrK M K w w2 :=
 ⟨g.os.trans h.os,g.tape.trans h.tape,g.output.trans h.output,Nat.le_trans h.size g.size,λk hl hm hn=>(g.block k (aJ hl h.size) hm λh1=>(hk k h1).elim hn (by omega)).trans (h.block k hl hm hn)⟩
theorem FrK.of {M:Mp} {K:Nat->Prop} {w w':World} (f:Fr M M w w'):FrK M K w w':=⟨f.os,f.tape,f.output,f.size,λk hl hm _=>f.block k hl hm⟩
theorem FrK.below {M:Mp} {K:Nat->Prop} {w w1:World} (h:FrK M K w w1) (hb:Below B w1 w2) (hB:w.heap.size<=B):FrK M K w w2 :=
 ⟨hb.os.trans h.os,hb.tape.trans h.tape,hb.output.trans h.output,Nat.le_trans h.size hb.size,λk hl hm hn=>(hb.block k (by omega)).trans (h.block k hl hm hn)⟩
theorem Inv.keep {M:Mp} {w w':World} (h:Inv M w) (hs:w.heap.size<=w'.heap.size) (hk:∀ k,M.ft k->w'.heap[k]? = w.heap[k]?):Inv M w':=by
 refine ⟨λk hk=>aJ (h.lt_ k hk) hs,λb t hm=>?_⟩;obtain ⟨h1,h2,h3⟩:=h.part_ b t hm;refine ⟨h1,h2,?_⟩;obtain ⟨a,n,c,ka,kn,kc,d,r,hb,hB,hK,hd⟩:=h3;refine ⟨a,n,c,ka,kn,kc,d,r,(hk b h2).trans hb,⟨⟨hB.1.1,hB.1.2.1,hB.1.2.2.1,hB.1.2.2.2.1,λj hj=>?_⟩,hB.2⟩,⟨hK.1,hK.2.1,hK.2.2.1,hK.2.2.2.1,λj hj=>?_⟩,hd⟩
 .obtain ⟨b',off,e,hlt,hc⟩:=hB.1.2.2.2.2 j hj;exact ⟨b',off,e,aJ hlt hs,by rw [World.cell?_of_block (hk b' (hB.2 _ e (by omega)))]; exact hc⟩
 .obtain ⟨b',off,p,e,hlt,hf,hc,ht⟩:=hK.at' j hj;exact ⟨b',off,p,e,aJ hlt hs,hf,by rw [World.cell?_of_block (hk b' hf)]; exact hc,ht⟩
theorem eX {sz n:Nat} {w w':World} {v:Value} {xs:List Value} (h:w.ownsRow B e sz v n xs) (hk:∀ k,v.ownBlock=some k->w'.heap[k]? = w.heap[k]?):w'.ownsRow B e sz v n xs:=by
 obtain ⟨h1,h2⟩:=h;refine ⟨h1,?_⟩;rcases h2 with h2 | ⟨g,cap,cur,rfl,hg,hh,hr⟩
 .exact .inl h2
 .exact .inr ⟨g,cap,cur,rfl,hg,(hk g rfl).trans hh,hr⟩
theorem kG {sz n:Nat} {w:World} {v:Value} {xs:List Value} (h:w.ownsRow B e sz v n xs):∃ a c,v = .slice a n c:=by
 rcases h.2 with ⟨rfl,rfl⟩ | ⟨g,cap,cur,rfl,_⟩
 .exact ⟨_,_,rfl⟩
 .exact ⟨_,_,rfl⟩
def LD (M:Mp):aL->T
 | none=>.nil
 | some ad=>(M.at_ ad.block).getD .nil
theorem IsT.LD {M:Mp} {p:aL} {t:T} (h:IsT M p t):Tm.LD M p=t:=by
 cases p with
 | none=>exact Eq.symm h
 | some ad =>
  obtain ⟨b,rfl,hm,_⟩:=h;show (M.at_ b).getD .nil=t;rw [hm]; rfl
section
variable {M:Mp} {J:List T->(Nat->Prop)->World->Prop} {K0:Nat->Prop} {w0 w:World} {t:T} {v:Value} {V S:List T} {ps:List (aL)} {K:Nat->Prop}
end
end Tm
end
section
open Go.RowKit
namespace da
abbrev FW (r:Option Nat):Fence:={ Fence.wide with round:=r }
def jQ (o:Oper):Bool:=match o.op with
 | .defer _=>false
 | _=>true
theorem uX (h:jQ o=true):∀ c,o.op ≠ .defer c:=λc e=>by
 unfold jQ at h;rw [e] at h;cases h
theorem Tc {P:Program} {r:Option Nat} {n:Nat} {o:Oper} {a:Act} {w:World} {K K':Act->World->Prop} {Q Q':Exit->Act->World->Prop} (hd:jQ o=true) (hK:∀ a w,K a w->K' a w) (hQ:∀ c a w,Q (.panic c) a w->Q' (.panic c) a w) (hL:¬ LetsOut Q)
  (h:o.wp P a w K Q):o.wpIn (FW r) n P a w K' Q':=by
 refine ⟨λ_ _=>trivial,?_⟩;have e:o.semAt (FW r).round a.eval=execOp a.eval o:=Oper.semAt_eq _ _ _ (uX hd);rw [e];unfold Oper.wp at h;revert h;generalize (execOp a.eval o).run P w=res;intro h;cases res with
 | ok nx w' =>
  cases nx with
  | value v=>exact hK _ _ h
  | skip=>exact hK _ _ h
  | defer d=>exact hK _ _ h
  | enter f args =>
   refine ⟨λhh=>(by cases hh),callsIn_wide.2 (Calls.mono h λe w2 he=>?_)⟩;cases e with
   | returned v=>exact hK _ _ he
   | panicked c=>exact hQ _ _ _ he
   | outgrown=>exact absurd he hL
  | row row args =>
   refine ⟨λhh=>(by cases hh),λc cs _=>?_⟩;obtain ⟨v,w2,hr,hs⟩:=h c cs;exact ⟨v,w2,hK _ _ hr,stepsIn_wide.2 hs⟩
  | _=>exact h.elim
 | halt x w' =>
  cases x with
  | panic v=>exact hQ _ _ _ h
  | _=>exact h.elim
theorem nZ {P:Program} {r:Option Nat} {n:Nat} {ops:Array Oper} {Q Q1:Exit->Act->World->Prop} (hQ:∀ c a w,Q1 (.panic c) a w->Q (.panic c) a w) (hL:¬ LetsOut Q1) (l2:List Oper) (hK:∀ a w,Q1 .normal a w->wpListIn (FW r) n P ops Q l2 a w) :
  ∀ (l1:List Oper) (a:Act) (w:World),l1.all jQ=true->wpList P ops Q1 l1 a w->wpListIn (FW r) n P ops Q (l1++l2) a w
 | [],a,w,_,h=>hK a w h
 | o::l1,a,w,hd,h=>by
  rw [List.all_cons,Bool.and_eq_true] at hd;unfold wpList at h;show wpListIn (FW r) n P ops Q (o::(l1++l2)) a w;unfold wpListIn;by_cases hw:Region.wanted o (yielded ops a.tmps)=true
  .rw [if_pos hw] at h ⊢;rcases h with h | h
   .exact Tc hd.1 (λa w g=>nZ hQ hL l2 hK l1 a w hd.2 g) hQ hL h
   .exact absurd h.2 hL
  .rw [if_neg hw] at h ⊢;exact ⟨λ_ _=>trivial,nZ hQ hL l2 hK l1 _ w hd.2 h⟩
theorem NW {K:Act->World->Prop} (h:¬ LetsOut Q):¬ LetsOut (Exit.then K Q):=h
theorem rV {r:Option Nat} {n:Nat} {a:Act} {w:World} {l:List Oper} (hd:l.all jQ=true) (hL:¬ LetsOut Q) (h:wpList P l.toArray Q l a w):(Code.region id l.toArray false).wpIn (FW r) n P Q a w:=by
 have:=nZ (P:=P) (r:=r) (n:=n) (ops:=l.toArray) (λ_ _ _ h=>h) hL [] (λ_ _ h=>h) l a w hd h;rw [List.append_nil] at this;exact wpIn_region_lit this
theorem vv {r:Option Nat} {n:Nat} {a:Act} {w:World} {l:List Oper} (hd:l.all jQ=true) (hL:¬ LetsOut Q) (h:wpList P ops Q l a w):wpListIn (FW r) n P ops Q l a w:=by
 have:=nZ (P:=P) (r:=r) (n:=n) (ops:=ops) (λ_ _ _ h=>h) hL [] (λ_ _ h=>h) l a w hd h;rw [List.append_nil] at this;exact this
theorem YK {P:Program} {r:Option Nat} {n:Nat} {ops:Array Oper} {Q:Exit->Act->World->Prop} {K:Act->World->Prop} {i:Nat} {a:Act} {w:World} (hd:∀ o∈ops,jQ o=true) (hL:¬ LetsOut Q) (h:wpOp P ops Q i K a w):wpOpIn (FW r) n P ops Q i K a w:=by
 unfold wpOp at h;unfold wpOpIn;cases ho:ops[i]? with
 | none=>rw [ho] at h; exact h
 | some o =>
  rw [ho] at h;dsimp only at h ⊢;by_cases hw:Region.wanted o (yielded ops a.tmps)=true
  .rw [if_pos hw] at h ⊢;rcases h with h | h
   .exact Tc (hd o (Array.mem_of_getElem? ho)) (λ_ _ g=>g) (λ_ _ _ g=>g) hL h
   .exact absurd h.2 hL
  .rw [if_neg hw] at h ⊢;exact ⟨λ_ _=>trivial,h⟩
theorem Xo {P:Program} {r:Option Nat} {n:Nat} {md:Region.Mode} {ops:Array Oper} {Q:Exit->Act->World->Prop} (hd:∀ o∈ops,jQ o=true) (hL:¬ LetsOut Q):∀ (fuel:Nat) (listed:Array Bool) (a:Act) (w:World),wpAny P md ops Q fuel listed a w->wpAnyIn (FW r) n P md ops Q fuel listed a w
 | 0,_,_,_,h=>h
 | fuel+1,_,_,_,h=>⟨h.1,λi hi=>wpOpIn_mono (λa w g=>Xo hd hL fuel _ a w g) (YK hd hL (h.2 i hi))⟩
theorem XK {r:Option Nat} {n:Nat} {S:World->Prop} {a:Act} {w:World} (hm:P.follows .mixedOrders=true) (hd:ops.toList.all jQ=true) (hL:¬ LetsOut Q) (hS:S w.drew)
  (h:S w.drew->wpAnyH P .any ops Q S ops.size (Array.replicate ops.size false) a w.drew):(Code.region id ops true).wpIn (FW r) n P Q a w :=
 wpIn_region_any hm (Xo (λo ho=>List.all_eq_true.1 hd o (by simpa using ho)) hL _ _ _ _ (wpAny_of_held _ _ _ _ (h hS)))
theorem WC {r:Option Nat} {n:Nat} {rest:List Oper} {a:Act} {w:World} {l:Nat} {R:Ending->World->Prop} (hw:Region.wanted o (yielded ops a.tmps)=true) (hd:jQ o=true)
  (ho:(execOp a.eval o).run P w=(Instr.yield l args).run P w) (hY:YieldAt Fence.wide 0 P l args w R)
  (h:∀ e w',R e w'->∃ v,e = .returned v/\wpListIn (FW r) 0 P ops Q rest (a.put o.dst v) w'):wpListIn (FW r) 0 P ops Q (o::rest) a w:=by
 unfold wpListIn;rw [if_pos hw];refine ⟨λ_ _=>trivial,?_⟩;have e:o.semAt (FW r).round a.eval=execOp a.eval o:=Oper.semAt_eq _ _ _ (uX hd);rw [e,ho];obtain ⟨fn,tmps,assign,body,hy,hR⟩:=hY;rw [hy];refine ⟨λhh=>(by cases hh),RoundIn.mono hR λe w' hr=>?_⟩;obtain ⟨v,rfl,g⟩:=h e w' hr;exact g
theorem yR {f:FuncId} {fn:Func} {c:Code} {w:World} {R:Ending->World->Prop} (hf:P.funcs[f]? = some fn) (hb:fn.body=some c)
  (h:c.wp P (bodyPostM Fence.wide 0 P fn R) { tmps:=args++Array.replicate (fn.ntmps-args.size) undef,defers:=[] } w):Calls P f args w R :=
 callsIn_wide.1 (callsIn_of_wp_marks (n:=0) hf hb trivial (wpIn_wide.2 h))
def marks (Ds:List Nat):List Deferred:=Ds.map λD=>{ target:=.collected D,args:=#[] }
def shut (w:World):List Nat->World
 | []=>w
 | D::Ds=>shut (w.putObj D (.deferred none)) Ds
theorem sW:∀ (Ds:List Nat) (w:World),(shut w Ds).heap.size=w.heap.size
 | [],_=>rfl
 | D::Ds,w=>by
  show (shut (w.putObj D (.deferred none)) Ds).heap.size=_;rw [sW,World.putObj_size]
theorem qE:∀ (Ds:List Nat) (w:World) (k:Nat),k ∉ Ds->(shut w Ds).heap[k]? = w.heap[k]?
 | [],_,_,_=>rfl
 | D::Ds,w,k,h=>by
  show (shut (w.putObj D (.deferred none)) Ds).heap[k]? = _;rw [qE Ds _ k (λg=>h (List.mem_cons_of_mem _ g)),World.putObj_heap_other (λe=>h (by rw [e]; exact List.mem_cons_self))]
theorem DR:∀ (Ds:List Nat) (w:World),(shut w Ds).os=w.os/\(shut w Ds).tape=w.tape/\(shut w Ds).output=w.output
 | [],_=>⟨rfl,rfl,rfl⟩
 | D::Ds,w=>DR Ds (w.putObj D (.deferred none))
theorem nE {P:Program} {fn:Func} {tmps:aO} {R:Ending->World->Prop}:∀ (Ds:List Nat) (w:World),Ds.Nodup->(∀ D∈Ds,w.heap[D]? = some (.deferred (some [])))->LeavesIn Fence.wide 0 P fn tmps R [] .returning (shut w Ds)->LeavesInM Fence.wide 0 P fn tmps R (marks Ds) .returning w
 | [],_,_,_,h=>h
 | D::Ds,w,hn,hD,h=>by
  obtain ⟨h1,h2⟩:=List.nodup_cons.1 hn;refine ⟨by simp,.inl ⟨_,_,rfl,run_takeDeferred (hD D List.mem_cons_self),nE Ds _ h2 (λE hE=>?_) h⟩⟩;rw [World.putObj_heap_other (λe=>h1 (by rw [<-e]; exact hE))];exact hD E (List.mem_cons_of_mem _ hE)
end da
namespace Tm
open Tr Ni Pk Ky No Rf Rl da
open Sm (Tab)
structure Sta {α:Type} (M:Mp) (J:List α->(Nat->Prop)->World->Prop):Prop where
 st:∀ V K w w',J V K w->w.heap.size<=w'.heap.size->(∀ k,K k->w'.heap[k]? = w.heap[k]?)->J V K w'
 lt:∀ V K w,J V K w->∀ k,K k->k<w.heap.size/\M.at_ k=none/\¬ M.ft k
structure Rnd {α:Type} (M:Mp) (J:List α->(Nat->Prop)->World->Prop) (V:List α) (K:Nat->Prop) (n:Nat) (x : α) (w w':World) (K':Nat->Prop):Prop where
 j:J (V++[x]) K' w'
 sub:∀ k,K' k->K k\/n<=k
 f:FrK M K w w'
 i:Inv M w'
 t:Tab w'
def Yh {α:Type} (M:Mp) (gf:Nat) (lb:aO) (A : α->World->aO->Prop) (G:List α) (Pre:World->(Nat->Prop)->Prop):Prop :=
 ∀ (l:Nat) (J Js:List α->(Nat->Prop)->World->Prop) (K0:Nat->Prop) (w:World),Sta M J->Sta M Js->Pre w K0->Inv M w->Tab w->J [] K0 w->
  (∀ V K x args wx,J V K wx->FrK M K0 w wx->Inv M wx->Tab wx->V++[x]<+:G->A x wx args->YieldAt Fence.wide 0 prog l args wx λe w'=>∃ K',(e = .returned (.bool true)/\Rnd M J V K wx.heap.size x wx w' K')\/(e = .returned (.bool false)/\Rnd M Js V K wx.heap.size x wx w' K'))->
  Calls prog gf (#[.func (.yield l) #[] #[]]++lb) w λe w'=>(∃ v,e = .returned v)/\∃ V K,(V=G/\J V K w'\/V<+:G/\Js V K w')/\FrK M K0 w w'/\Inv M w'/\Tab w'/\∀ k,K k->K0 k\/w.heap.size<=k
structure Turn (l:Nat) (w w':World):Prop where
 u:Rg.Upd w l w'
 r:∃ r,w.heap[l]? = some (.loop r)
theorem Turn.cell {l:Nat} {w w':World} (h:Turn l w w') {p:Addr} {v:Value} (hc:w.cell? p=some v):w'.cell? p=some v:=by
 obtain ⟨r,hr⟩:=h.r;have hne:p.block≠l:=λe=>by
  unfold World.cell? at hc;rw [e,hr] at hc;cases hc
 rw [World.cell?_of_block (h.u.block p.block hne)];exact hc
theorem Turn.own {l:Nat} {w w':World} (h:Turn l w w') {b:Nat} {cs:aO} {T:TypeId} (ho:Rg.Own w b cs T):Rg.Own w' b cs T:=by
 obtain ⟨r,hr⟩:=h.r;refine ho.upd h.u (λe=>?_);have h1:=ho.2;rw [e,hr] at h1;cases h1
def Ws {α:Type} (M:Mp) (I:List α->(Nat->Prop)->World->Prop) (Ix:Code->List α->(Nat->Prop)->World->Prop) (V:List α) (K:Nat->Prop) (n:Nat) (x : α) (w:World):Exit->Go.Act->World->Prop
 | .normal,_,w3=>∃ K',Rnd M I V K n x w w3 K'
 | .ret,_,w3=>∃ K',Rnd M (Ix .ret) V K n x w w3 K'
 | .exit id,_,w3=>∃ K',Rnd M (Ix (.exit id)) V K n x w w3 K'
 | .goto t,_,w3=>∃ K',Rnd M (Ix (.goto t)) V K n x w w3 K'
 | .panic _,_,_=>False
 | .outgrown,_,_=>False
theorem Rk {α:Type} {M:Mp} {g:Operand} {ps:Array Tmp} {assign body:Code} {Q:Exit->Go.Act->World->Prop} {a:Go.Act} {w:World} {gf:Nat} {lb:aO} (hg:a.eval g = .func (.func gf) #[] lb) (eg:∀ args w,(callFunc gf args).run prog w = .ok (.enter gf args) w)
  {A : α->World->aO->Prop} {G:List α} {Pre:World->(Nat->Prop)->Prop} (hseq:Yh M gf lb A G Pre) (hps:∀ x W args,A x W args->args.size=ps.size) {K0:Nat->Prop} (hpre:∀ W1 K1,Below w.heap.size w W1->(∀ k,K1 k->K0 k\/w.heap.size<=k)->Pre W1 K1) (hi:Inv M w) (hT:Tab w)
  {I:List α->(Nat->Prop)->World->Prop} (hI:Sta M I) {Ix:Code->List α->(Nat->Prop)->World->Prop} (hIx:∀ c,Sta M (Ix c)) (h0:I [] K0 w)
  (ey:∀ (l:Nat) (V:List α) (K:Nat->Prop) (x : α) (args:aO) (W:World) (S:Go.Act->World->Prop),w.heap.size<=l->l<W.heap.size->¬ K l->I V K W->FrK M K0 w W->(∀ k,K k->K0 k\/w.heap.size<=k)->Inv M W->Tab W->V++[x]<+:G->A x W args->
   (∀ a' W',Below W.heap.size W W'->(∀ W2,Turn l W' W2->body.wpIn (FW (some l)) 0 prog (Ws M I Ix V K W.heap.size x W2) a' W2)->S a' W')->
   assign.wpIn (FW (some l)) 0 prog (Exit.then S (λ_ _ _=>False)) { tmps:=(ps.zip args).foldl (λt (p,v)=>t.setIfInBounds p v) a.tmps,defers:=[] } W)
  (hdone:∀ K W,I G K W->FrK M K0 w W->Inv M W->Tab W->(∀ k,K k->K0 k\/w.heap.size<=k)->W.heap[w.heap.size]? = some (.deferred (some []))->¬ K w.heap.size->Q .normal { a with defers:={ target:=.collected w.heap.size,args:=#[] }::a.defers } W)
  (hstop:∀ c V K W,V<+:G->Ix c V K W->FrK M K0 w W->Inv M W->Tab W->(∀ k,K k->K0 k\/w.heap.size<=k)->W.heap[w.heap.size]? = some (.deferred (some []))->¬ K w.heap.size->c.wp prog Q { a with defers:={ target:=.collected w.heap.size,args:=#[] }::a.defers } W) :
  (Code.rangeFunc g ps assign body).wp prog Q a w:=by
 refine (wpIn_wide (n:=0)).1 (wpIn_rangeFunc λfn hfn=>?_);obtain ⟨rec,hrec⟩:∃ rec:LoopState->Option Code->Loop,rec=λst pe=>{ state:=st,pending:=pe,fn,tmps:=a.tmps,params:=ps,assign,body,defers:=w.heap.size }:=⟨_,rfl⟩
 obtain ⟨W1,hW1⟩:=aA ((w.alloc (.deferred (some []))).alloc (.loop (rec .ready none)))
 have hL1:W1.heap[w.heap.size+1]? = some (.loop (rec .ready none)):=by
  rw [<-hW1]; have:=World.alloc_heap_new (w.alloc (.deferred (some []))) (.loop (rec .ready none)); rwa [World.size_alloc] at this
 have hK1:W1.heap[w.heap.size]? = some (.deferred (some [])):=by
  rw [<-hW1]; exact (Below.heap_alloc _ _ _ (by simp)).trans (World.alloc_heap_new w _)
 have hb1:Below w.heap.size w W1:=by rw [<-hW1]; exact ((Below.refl _ w).alloc aH _).alloc (by simp) _
 have hs1:W1.heap.size=w.heap.size+2:=by rw [<-hW1]; simp
 obtain ⟨D,hD⟩:=aA w.heap.size
 have hout:∀ k,D<=k->M.at_ k=none/\¬ M.ft k:=λk hk=>⟨hi.out (by omega),hi.free (by omega)⟩
 have hz:0<D:=by rw [<-hD]; exact hT.pos
 have ld:=hI.lt _ _ _ h0;refine ⟨w.heap.size+1,[{ target:=.collected w.heap.size,args:=#[] }],W1,{ target:=.fn (.func gf) lb,args:=#[.func (.yield (w.heap.size+1)) #[] #[]] },W1,gf,
  #[.func (.yield (w.heap.size+1)) #[] #[]]++lb,W1,?_,?_,λ_ _=>trivial,?_,λhh=>(by cases hh),?_⟩
 .rw [<-hW1,hrec]; exact run_enterLoop_outer _ _ _ _ _
 .simp only [resolve,hg];simp [go_sem]
 .simp [invoke,go_sem,eg]
 .rw [hD] at hL1 hK1 hb1 hs1 ⊢;simp only [hD] at ey hdone hstop hpre hrec hT;have ui:∀ (I:List α->(Nat->Prop)->World->Prop) (st:LoopState) (pe:Option Code),Sta M I->Sta M (λV K' W=>∃ K,I V K W/\(∀ k,K' k↔K k\/k=D\/k=D+1)/\¬ K D/\¬ K (D+1)/\(∀ k,K k->K0 k\/D<=k)/\W.heap[D+1]? = some (.loop (rec st pe))/\W.heap[D]? = some (.deferred (some []))):=λI st pe hI=>by
   refine ⟨λV K' W W' ⟨K,h1,h2,h3,h4,h5,h6,h7⟩ hs hk=>⟨K,hI.st _ _ _ _ h1 hs λk hk'=>hk k ((h2 k).2 (.inl hk')),h2,h3,h4,h5,(hk _ ((h2 _).2 (.inr (.inr rfl)))).trans h6,(hk _ ((h2 _).2 (.inr (.inl rfl)))).trans h7⟩,λV K' W ⟨K,h1,h2,h3,h4,h5,h6,h7⟩ k hk=>?_⟩;rcases (h2 k).1 hk with h | rfl | rfl
   .exact hI.lt _ _ _ h1 k h
   .exact ⟨(Array.getElem?_eq_some_iff.1 h7).1,hout _ aH⟩
   .exact ⟨(Array.getElem?_eq_some_iff.1 h6).1,hout _ (Nat.le_succ _)⟩
  have Ly:Sta M (λV K' W=>∃ c K,Ix c V K W/\(∀ k,K' k↔K k\/k=D\/k=D+1)/\¬ K D/\¬ K (D+1)/\(∀ k,K k->K0 k\/D<=k)/\W.heap[D+1]? = some (.loop (rec .done (some c)))/\W.heap[D]? = some (.deferred (some []))) :=
   ⟨λV K' W W' ⟨c,h⟩ hs hk=>⟨c,(ui (Ix c) .done (some c) (hIx c)).st V K' W W' h hs hk⟩,λV K' W ⟨c,h⟩=>(ui (Ix c) .done (some c) (hIx c)).lt V K' W h⟩
  have hi1:Inv M W1:=hi.keep hb1.size λk hk=>hb1.block k (by rw [<-hD]; exact hi.lt_ k hk);have hT1:Tab W1:=hT.below hb1 hz;refine callsIn_wide.2 ((hseq (D+1) _ _ (λk=>K0 k\/k=D\/k=D+1) W1 (ui I .ready none hI) Ly (hpre W1 _ hb1 λk hk=>hk.elim Or.inl λh=>.inr (by omega)) hi1 hT1
   ⟨K0,hI.st _ _ _ _ h0 hb1.size λk hk=>hb1.block k (by have:=(ld k hk).1; omega),λk=>Iff.rfl,λh=>by have:=(ld _ h).1; omega,λh=>by have:=(ld _ h).1; omega,λk hk=>.inl hk,hL1,hK1⟩ ?_).mono ?_)
  .-- one round
   rintro V K' x args W ⟨K,hj,lz,qf,i5,hKs,hl,hd⟩ lj sh qi hpf hA;have hf0:FrK M K0 w W:=⟨lj.os.trans hb1.os,lj.tape.trans hb1.tape,lj.output.trans hb1.output,by have:=lj.size; omega,λk hk hm hn=>by
    have Lz:k<D:=by omega
    rw [lj.block k (by omega) hm (λg=>g.elim hn (by omega)),hb1.block k (by omega)]⟩
   have hlt:D+1<W.heap.size:=(Array.getElem?_eq_some_iff.1 hl).1;have hy:=run_yield (P:=prog) (args:=args) hl (by rw [hrec]; exact hps x W args hA);rw [hrec] at hy;refine ⟨fn,_,assign,body,hy,roundIn_of_wpIn trivial (ey (D+1) V K x args W _ (Nat.le_succ _) hlt i5 hj hf0 hKs sh qi hpf hA λa' W' hb' hbody=>?_)⟩;have hl':W'.heap[D+1]? = some (.loop (rec .ready none)):=(hb'.block _ hlt).trans hl;have hd':W'.heap[D]? = some (.deferred (some [])):=(hb'.block _ (by omega)).trans hd;refine ⟨_,run_beginRound hl' (by rw [hrec]),?_⟩
   have hu2:Rg.Upd W' (D+1) (W'.putObj (D+1) (.loop { rec .ready none with state:=.busy })):=⟨rfl,rfl,rfl,World.putObj_size,λk hk=>World.putObj_heap_other hk⟩
   have hl2:(W'.putObj (D+1) (.loop { rec .ready none with state:=.busy })).heap[D+1]? = some (.loop { rec .ready none with state:=.busy }):=World.putObj_heap_same (Array.getElem?_eq_some_iff.1 hl').1;have hd2:=(hu2.block D (by omega)).trans hd';refine wpIn_mono (hbody _ ⟨hu2,_,hl'⟩) ?_;generalize hW2:W'.putObj (D+1) (.loop { rec .ready none with state:=.busy })=W2 at hu2 hl2 hd2;have fin:∀ (c:Option Code) (I':List α->(Nat->Prop)->World->Prop) (W3:World) (K3:Nat->Prop),Sta M I'->Rnd M I' V K W.heap.size x W2 W3 K3->
     (Instr.endRound (D+1) c).run prog W3 = .ok (.bool c.isNone) (W3.putObj (D+1) (.loop (rec (if c.isNone then .ready else .done) c)))/\
     Rnd M (λV K' W=>∃ K,I' V K W/\(∀ k,K' k↔K k\/k=D\/k=D+1)/\¬ K D/\¬ K (D+1)/\(∀ k,K k->K0 k\/D<=k)/\W.heap[D+1]? = some (.loop (rec (if c.isNone then .ready else .done) c))/\W.heap[D]? = some (.deferred (some []))) V K' W.heap.size x W (W3.putObj (D+1) (.loop (rec (if c.isNone then .ready else .done) c))) (λk=>K3 k\/k=D\/k=D+1):=λc I' W3 K3 hI' h=>by
    have hs2:W2.heap.size=W'.heap.size:=hu2.size;have hs':=hb'.size;have hl3:W3.heap[D+1]? = some (.loop { rec .ready none with state:=.busy }):=(h.f.block _ (by omega) (hout _ (by omega)).1 i5).trans hl2;have hd3:W3.heap[D]? = some (.deferred (some [])):=(h.f.block _ (by omega) (hout _ (by omega)).1 qf).trans hd2;have hr:=run_endRound (P:=prog) c hl3;rw [hrec] at hr ⊢
    have hu3:Rg.Upd W3 (D+1) (W3.putObj (D+1) (.loop { state:=(if c.isNone then .ready else .done),pending:=c,fn,tmps:=a.tmps,params:=ps,assign,body,defers:=D })):=⟨rfl,rfl,rfl,World.putObj_size,λk hk=>World.putObj_heap_other hk⟩
    have hnD:¬ K3 D:=λhk=>(h.sub _ hk).elim qf (by omega);have C9:¬ K3 (D+1):=λhk=>(h.sub _ hk).elim i5 (by omega);refine ⟨hr,⟨⟨K3,hI'.st _ _ _ _ h.j (by rw [hu3.size]; exact aH) λk hk=>hu3.block k λe=>C9 (by rw [<-e]; exact hk),λk=>Iff.rfl,hnD,C9,λk hk=>(h.sub k hk).elim (hKs k) (by omega),World.putObj_heap_same (Array.getElem?_eq_some_iff.1 hl3).1,(hu3.block D (by omega)).trans hd3⟩,λk hk=>?_,?_,h.i.upd hu3 (hout _ (by omega)).2,λj hj=>?_⟩⟩
    .rcases hk with hk | hk
     .exact (h.sub k hk).elim (λg=>.inl ((lz k).2 (.inl g))) .inr
     .exact .inl ((lz k).2 (.inr hk))
    .refine ⟨hu3.os.trans (h.f.os.trans (hu2.os.trans hb'.os)),hu3.tape.trans (h.f.tape.trans (hu2.tape.trans hb'.tape)),hu3.output.trans (h.f.output.trans (hu2.output.trans hb'.output)),by rw [hu3.size]; exact Nat.le_trans (by omega) h.f.size,λk hk hm hn=>?_⟩;have hne:k≠D+1:=λe=>hn ((lz k).2 (.inr (.inr e)));rw [hu3.block k hne,h.f.block k (by omega) hm (λg=>hn ((lz k).2 (.inl g))),hu2.block k hne,hb'.block k hk]
    .rw [World.cell?_of_block (hu3.block 0 (by omega))];exact h.t j hj
   rintro e a3 W3 hp;cases e with
   | normal =>
    obtain ⟨K3,hp⟩:=hp;obtain ⟨h1,h2⟩:=fin none I W3 K3 hI hp;exact ⟨_,_,h1,_,.inl ⟨rfl,h2⟩⟩
   | ret =>
    obtain ⟨K3,hp⟩:=hp;obtain ⟨h1,h2⟩:=fin (some .ret) (Ix .ret) W3 K3 (hIx _) hp;exact ⟨_,_,h1,_,.inr ⟨rfl,⟨_,h2.j⟩,h2.sub,h2.f,h2.i,h2.t⟩⟩
   | exit id =>
    obtain ⟨K3,hp⟩:=hp;obtain ⟨h1,h2⟩:=fin (some (.exit id)) (Ix (.exit id)) W3 K3 (hIx _) hp;exact ⟨_,_,h1,_,.inr ⟨rfl,⟨_,h2.j⟩,h2.sub,h2.f,h2.i,h2.t⟩⟩
   | goto t =>
    obtain ⟨K3,hp⟩:=hp;obtain ⟨h1,h2⟩:=fin (some (.goto t)) (Ix (.goto t)) W3 K3 (hIx _) hp;exact ⟨_,_,h1,_,.inr ⟨rfl,⟨_,h2.j⟩,h2.sub,h2.f,h2.i,h2.t⟩⟩
   | panic ch=>exact hp.elim
   | outgrown=>exact hp.elim
  .-- behind the iterator
   rintro e W2 ⟨⟨v,rfl⟩,V,K',hV,f2,i2,t2,hsub⟩;have key:∀ (c:Option Code) (st:LoopState) (I':List α->(Nat->Prop)->World->Prop),Sta M I'->st ≠ .busy->(∃ K,I' V K W2/\(∀ k,K' k↔K k\/k=D\/k=D+1)/\¬ K D/\¬ K (D+1)/\(∀ k,K k->K0 k\/D<=k)/\W2.heap[D+1]? = some (.loop (rec st c))/\W2.heap[D]? = some (.deferred (some [])))->
     ∃ W4 K,(Instr.endLoop (D+1)).run prog W2 = .ok c W4/\I' V K W4/\FrK M K0 w W4/\Inv M W4/\Tab W4/\(∀ k,K k->K0 k\/D<=k)/\W4.heap[D]? = some (.deferred (some []))/\¬ K D:=λc st I' hI' hst ⟨K,hj,lz,qf,i5,hKs,hl,hd⟩=>by
    have hr:=run_endLoop (P:=prog) hl (by rw [hrec]; exact hst);rw [hrec] at hr;have hu3:Rg.Upd W2 (D+1) (W2.putObj (D+1) (.loop { state:=.exhausted,pending:=c,fn,tmps:=a.tmps,params:=ps,assign,body,defers:=D })):=⟨rfl,rfl,rfl,World.putObj_size,λk hk=>World.putObj_heap_other hk⟩
    refine ⟨_,K,hr,hI'.st _ _ _ _ hj (by rw [hu3.size]; exact aH) (λk hk=>hu3.block k λe=>i5 (by rw [<-e]; exact hk)),?_,i2.upd hu3 (hout _ (by omega)).2,λj hj=>?_,hKs,(hu3.block D (by omega)).trans hd,qf⟩
    .have hs2:=f2.size;refine ⟨hu3.os.trans (f2.os.trans hb1.os),hu3.tape.trans (f2.tape.trans hb1.tape),hu3.output.trans (f2.output.trans hb1.output),by rw [hu3.size]; omega,λk hk hm hn=>?_⟩;have Lz:k<D:=by omega
     rw [hu3.block k (by omega),f2.block k (by omega) hm (λg=>g.elim hn (by omega)),hb1.block k (by omega)]
    .rw [World.cell?_of_block (hu3.block 0 (by omega))];exact t2 j hj
   rcases hV with ⟨rfl,h⟩ | ⟨hpf,c,h⟩
   .obtain ⟨W4,K,hr,g1,g2,g3,g4,g5,g6,g7⟩:=key none .ready I hI (by simp) h;exact ⟨none,W4,hr,hdone K W4 g1 g2 g3 g4 g5 g6 g7⟩
   .obtain ⟨W4,K,hr,g1,g2,g3,g4,g5,g6,g7⟩:=key (some c) .done (Ix c) (hIx c) (by simp) h;exact ⟨some c,W4,hr,(wpIn_wide (n:=0)).2 (hstop c V K W4 hpf g1 g2 g3 g4 g5 g6 g7)⟩
end Tm
end
section
namespace Tr
open Rf Rl Ni No
def tF:List Pair->Pair->List Pair
 | [],x=>[x]
 | y::r,x=>if ltP y.1 x.1=true then y::tF r x else if y.1=x.1 then x::r else x::y::r
def iQ (l:List Pair):List Pair:=l.foldl tF []
theorem AU:∀ {l:List Pair},wN l->(∀ y∈l,y.1.length=32)->∀ {x:Pair},x.1.length=32->∀ z:Pair,z∈tF l x↔z=x\/z∈l/\z.1≠x.1
 | [],_,_,x,_,z=>by simp [tF]
 | y::r,h,hk,x,hx,z=>by
  obtain ⟨h1,h2⟩:=List.pairwise_cons.1 h;unfold tF;by_cases hl:ltP y.1 x.1=true
  .rw [if_pos hl,List.mem_cons,AU h2 (λw hw=>hk w (List.mem_cons_of_mem _ hw)) hx z,List.mem_cons];have hne:y.1≠x.1:=λe=>by rw [e,lS] at hl; cases hl
   constructor
   .rintro (rfl | rfl | ⟨g1,g2⟩)
    .exact .inr ⟨.inl rfl,hne⟩
    .exact .inl rfl
    .exact .inr ⟨.inr g1,g2⟩
   .rintro (rfl | ⟨rfl | g1,g2⟩)
    .exact .inr (.inl rfl)
    .exact .inl rfl
    .exact .inr (.inr ⟨g1,g2⟩)
  .rw [if_neg hl];by_cases he:y.1=x.1
   .rw [if_pos he,List.mem_cons,List.mem_cons];constructor
    .rintro (rfl | g)
     .exact .inl rfl
     .refine .inr ⟨.inr g,λe=>?_⟩;have:=h1 z g;rw [he,e,lS] at this;cases this
    .rintro (rfl | ⟨rfl | g1,g2⟩)
     .exact .inl rfl
     .exact absurd he g2
     .exact .inr g1
   .rw [if_neg he,List.mem_cons];have hxy:ltP x.1 y.1=true:=by
     rcases xu (p:=x.1) (q:=y.1) (by rw [hx,hk y List.mem_cons_self]) (λe=>he e.symm) with g | g
     .exact g
     .exact absurd g hl
    constructor
    .rintro (rfl | g)
     .exact .inl rfl
     .refine .inr ⟨g,λe=>?_⟩;rcases List.mem_cons.1 g with rfl | g
      .exact he e
      .have:=xD hxy (h1 z g);rw [e,lS] at this;cases this
    .rintro (rfl | ⟨g1,g2⟩)
     .exact .inl rfl
     .exact .inr g1
theorem yO:∀ {l:List Pair},wN l->(∀ y∈l,y.1.length=32)->∀ {x:Pair},x.1.length=32->wN (tF l x)
 | [],_,_,x,_=>List.pairwise_singleton _ _
 | y::r,h,hk,x,hx=>by
  obtain ⟨h1,h2⟩:=List.pairwise_cons.1 h;have hk':∀ w∈r,w.1.length=32:=λw hw=>hk w (List.mem_cons_of_mem _ hw);unfold tF;by_cases hl:ltP y.1 x.1=true
  .rw [if_pos hl];refine List.pairwise_cons.2 ⟨λz hz=>?_,yO h2 hk' hx⟩;rcases (AU h2 hk' hx z).1 hz with rfl | ⟨g,_⟩
   .exact hl
   .exact h1 z g
  .rw [if_neg hl];by_cases he:y.1=x.1
   .rw [if_pos he];exact List.pairwise_cons.2 ⟨λz hz=>by rw [<-he]; exact h1 z hz,h2⟩
   .rw [if_neg he];have hxy:ltP x.1 y.1=true:=by
     rcases xu (p:=x.1) (q:=y.1) (by rw [hx,hk y List.mem_cons_self]) (λe=>he e.symm) with g | g
     .exact g
     .exact absurd g hl
    refine List.pairwise_cons.2 ⟨λz hz=>?_,h⟩;rcases List.mem_cons.1 hz with rfl | hz
    .exact hxy
    .exact xD hxy (h1 z hz)
theorem Ap (l:List Pair) (x:Pair):iQ (l++[x])=tF (iQ l) x:=by
 unfold iQ;rw [List.foldl_append];rfl
theorem sorted:∀ (n:Nat) (l:List Pair),l.length=n->(∀ x∈l,x.1.length=32)->wN (iQ l)/\∀ z:Pair,z∈iQ l↔dQ l z.1=some z.2
 | 0,l,hl,_=>by
  obtain rfl:=List.eq_nil_of_length_eq_zero hl;exact ⟨List.Pairwise.nil,λz=>by simp [iQ,dQ]⟩
 | n+1,l,hl,h=>by
  have hne:l≠[]:=λe=>by rw [e] at hl; cases hl
  obtain ⟨r,x,rfl⟩:∃ r x,l=r++[x]:=⟨l.dropLast,l.getLast hne,(List.dropLast_concat_getLast hne).symm⟩
  rw [List.length_append,List.length_singleton] at hl;obtain ⟨h1,h2⟩:=sorted n r (by omega) (λy hy=>h y (List.mem_append_left _ hy));have hx:=h x (by simp);have hk:∀ y∈iQ r,y.1.length=32:=λy hy=>by
   have:=(h2 y).1 hy;rcases Classical.em (∀ z∈r,z.1≠y.1) with g | g
   .rw [kI.2 g] at this; cases this
   .rw [Classical.not_forall] at g;obtain ⟨z,g⟩:=g;rw [Classical.not_imp] at g;have e:z.1=y.1:=Classical.byContradiction g.2;rw [<-e];exact h z (List.mem_append_left _ g.1)
  rw [Ap];refine ⟨yO h1 hk hx,λz=>?_⟩;rw [AU h1 hk hx z,xg,h2 z];by_cases e:z.1=x.1
  .rw [if_pos e];constructor
   .rintro (rfl | ⟨_,g⟩)
    .rfl
    .exact absurd e g
   .intro g;exact .inl (Prod.ext e (Option.some.inj g).symm)
  .rw [if_neg e];constructor
   .rintro (rfl | ⟨g,_⟩)
    .exact absurd rfl e
    .exact g
   .intro g;exact .inr ⟨g,e⟩
end Tr
end
section
namespace Tr
open Rf Rl Ni No
abbrev Pl:=T × Nat × Pa
def eF:Pl->List Pl
 | (.ext q s,o,a)=>[(s,o+1,a++q)]
 | (.br ks,o,a)=>(dx ks).map λi=>(ks i,o+1,a++[dG i])
 | _=>[]
def goL (I:Pa->Bool):T->Nat->Pa->List Pl
 | .nil,o,a=>if I a then [(.nil,o,a)] else []
 | .leaf p v,o,a=>if I a then [(.leaf p v,o,a)] else []
 | .stub r,o,a=>if I a then [(.stub r,o,a)] else []
 | .ext q s,o,a=>if I a then (.ext q s,o,a)::goL I s (o+1) (a++q) else []
 | .br ks,o,a=>if I a then (.br ks,o,a)::((dx ks).map λi=>goL I (ks i) (o+1) (a++[dG i])).flatten else []
def goP (I:Pa->Bool) (x:Pl):List Pl:=goL I x.1 x.2.1 x.2.2
theorem Gp (I:Pa->Bool) (x:Pl):goP I x=if I x.2.2 then x::((eF x).map (goP I)).flatten else []:=by
 obtain ⟨t,o,a⟩:=x;cases t with
 | nil=>rfl
 | leaf p v=>rfl
 | stub r=>rfl
 | ext q s =>
  show (if I a then _::goL I s (o+1) (a++q) else [])=if I a then _::([(s,o+1,a++q)].map (goP I)).flatten else []
  simp [goP]
 | br ks =>
  show (if I a then _::((dx ks).map λi=>goL I (ks i) (o+1) (a++[dG i])).flatten else [])=if I a then _::(((dx ks).map λi=>(ks i,o+1,a++[dG i])).map (goP I)).flatten else []
  rw [List.map_map];rfl
theorem nT (x:Pl):(eF x).map (·.1)=qV x.1:=by
 obtain ⟨t,o,a⟩:=x;cases t with
 | br ks =>
  show ((dx ks).map λi=>(ks i,o+1,a++[dG i])).map (·.1)=(dx ks).map ks;rw [List.map_map];rfl
 | _=>rfl
theorem GI (x:Pl):∀ y∈eF x,y.2.1=x.2.1+1:=λy hy=>by
 obtain ⟨t,o,a⟩:=x;cases t with
 | nil=>cases hy
 | leaf p v=>cases hy
 | stub r=>cases hy
 | ext q s=>rw [List.mem_singleton.1 hy]
 | br ks =>
  obtain ⟨i,_,rfl⟩:=List.mem_map.1 hy;rfl
def jI (I:Pa->Bool) (S:List Pl):List Pl:=(S.reverse.map (goP I)).flatten
theorem Kg (I:Pa->Bool) (x:Pl):jI I [x]=goP I x:=by simp [jI]
theorem OB {I:Pa->Bool} (S:List Pl) {x:Pl} (h:I x.2.2=true):jI I (S++[x])=x::jI I (S++(eF x).reverse):=by
 unfold jI;rw [List.reverse_append,List.reverse_append,List.reverse_reverse,List.map_append,List.map_append,List.flatten_append,List.flatten_append];rw [List.reverse_singleton,List.map_singleton,List.flatten_singleton,Gp,if_pos h];rfl
theorem JC {I:Pa->Bool} (S:List Pl) {x:Pl} (h:I x.2.2=false):jI I (S++[x])=jI I S:=by
 unfold jI;rw [List.reverse_append,List.map_append,List.flatten_append,List.reverse_singleton,List.map_singleton,List.flatten_singleton,Gp,if_neg (by rw [h]; decide)];rfl
def jC:T->Nat
 | .nil=>1
 | .leaf _ _=>1
 | .stub _=>1
 | .ext _ s=>1+jC s
 | .br ks=>1+((dx ks).map λi=>jC (ks i)).sum
theorem Mx (t:T):1<=jC t:=by
 cases t with
 | nil=>exact aH
 | leaf p v=>exact aH
 | stub r=>exact aH
 | ext q s=>exact Nat.le_add_right _ _
 | br ks=>exact Nat.le_add_right _ _
theorem RX (t:T):jC t=1+((qV t).map jC).sum:=by
 cases t with
 | nil=>rfl
 | leaf p v=>rfl
 | stub r=>rfl
 | ext q s=>show 1+jC s=1+([s].map jC).sum; simp
 | br ks =>
  show 1+((dx ks).map λi=>jC (ks i)).sum=1+(((dx ks).map ks).map jC).sum;rw [List.map_map];rfl
def nu (S:List Pl):Nat:=(S.map λx=>jC x.1).sum
theorem BA (S:List Pl) (x:Pl):nu (S++[x])=nu S+jC x.1:=by simp [nu]
theorem EF (S:List Pl) (x:Pl):nu S<nu (S++[x]):=by
 have:=Mx x.1;rw [BA];omega
theorem Ih (S:List Pl) (x:Pl):nu (S++(eF x).reverse)<nu (S++[x]):=by
 rw [BA,RX,<-nT];unfold nu;rw [List.map_append,List.sum_append,List.map_reverse,List.sum_reverse,List.map_map];show _<_+(1+((eF x).map λy=>jC y.1).sum)
 omega
theorem Nt (S:List Pl):S.length<=nu S:=by
 unfold nu
 induction S with
 | nil=>exact aH
 | cons x r ih =>
  have:=Mx x.1;rw [List.map_cons,List.sum_cons,List.length_cons];omega
theorem Oi {α:Type} {ks:Fin 16->T} {f:Fin 16->List α} (h:∀ i,ks i = .nil->f i=[]):((dx ks).map f).flatten=((List.finRange 16).map f).flatten:=by
 unfold dx;generalize List.finRange 16=l
 induction l with
 | nil=>rfl
 | cons i r ih =>
  rw [List.map_cons,List.flatten_cons,<-ih];by_cases hn:ks i = .nil
  .rw [List.filter_cons_of_neg (by rw [fU.2 hn]; decide),h i hn,List.nil_append]
  .rw [List.filter_cons_of_pos (by
    cases e:isNil (ks i) with
    | true=>exact absurd (fU.1 e) hn
    | false=>rfl),List.map_cons,List.flatten_cons]
theorem xM:∀ (t:T) (L:Nat),Good t L->Full t->t ≠ .nil->jC t=(cu t).length
 | .nil,_,_,_,h=>absurd rfl h
 | .leaf _ _,_,_,_,_=>rfl
 | .ext q s,L,g,f,_=>by
  have:=xM s _ g.2.2.2.2 f (mE g.2.2.2.1);show 1+jC s=(_::cu s).length;rw [List.length_cons];omega
 | .br ks,L,g,f,_=>by
  have e:((List.finRange 16).map λi=>(cu (ks i))).flatten=((dx ks).map λi=>cu (ks i)).flatten:=(Oi λi hi=>by rw [hi]; rfl).symm;show 1+((dx ks).map λi=>jC (ks i)).sum=(_::((List.finRange 16).map λi=>cu (ks i)).flatten).length;rw [e,List.length_cons,List.length_flatten,List.map_map];have e2:((dx ks).map λi=>jC (ks i))=(dx ks).map (List.length ∘ λi=>cu (ks i)):=List.map_congr_left λi hi=>xM (ks i) _ (g.2.2 i) (f i) (jV.1 hi);rw [e2];omega
 | .stub _,_,_,f,_=>f.elim
theorem Cu {f g:Fin 16->Nat}:∀ l:List (Fin 16),(∀ i∈l,f i<=g i)->(l.map f).sum<=(l.map g).sum
 | [],_=>aH
 | i::l,h=>by
  have h1:=h i List.mem_cons_self;have h2:=Cu l λj hj=>h j (List.mem_cons_of_mem _ hj);rw [List.map_cons,List.map_cons,List.sum_cons,List.sum_cons];omega
def xQ (x:Pl):Prop:=∃ L,x.2.2.length+L=64/\Good x.1 L/\Fine x.1/\Nib x.2.2/\x.2.1<=x.2.2.length
theorem xQ.root {t:T} (g:Good t 64) (f:Fine t):xQ (t,0,[]):=⟨64,rfl,g,f,Nib.nil,aH⟩
theorem xQ.kids {x:Pl} (h:xQ x):∀ y∈eF x,xQ y/\y.1 ≠ .nil:=λy hy=>by
 obtain ⟨t,o,a⟩:=x;obtain ⟨L,hl,g,f,hn,ho⟩:=h;cases t with
 | nil=>cases hy
 | leaf p v=>cases hy
 | stub r=>cases hy
 | ext q s =>
  rw [List.mem_singleton.1 hy];obtain ⟨h1,h2,h3,h4,h5⟩:=g;have hq:0<q.length:=List.length_pos_iff.2 h1;refine ⟨⟨L-q.length,?_,h5,f,hn.append h2,?_⟩,mE h4⟩
  .show (a++q).length+_=64;rw [List.length_append];have:a.length+L=64:=hl;omega
  .show o+1<=(a++q).length;rw [List.length_append];have:o<=a.length:=ho;omega
 | br ks =>
  obtain ⟨i,hi,rfl⟩:=List.mem_map.1 hy;obtain ⟨h1,_,h3⟩:=g;refine ⟨⟨L-1,?_,h3 i,f i,hn.append (.cons (iP i) .nil),?_⟩,jV.1 hi⟩
  .show (a++[dG i]).length+_=64;rw [List.length_append];have:a.length+L=64:=hl;show a.length+1+_=64;omega
  .show o+1<=(a++[dG i]).length;rw [List.length_append];have:o<=a.length:=ho;show _<=a.length+1;omega
def isNode:T->Bool
 | .nil=>false
 | .stub _=>false
 | _=>true
def leads (P:Pa):Pa->Bool:=λa=>decide (a<+:P)
theorem Kc {P:Pa}:∀ (t:T) (o:Nat) (a:Pa),¬ a<+:P->goL (leads P) t o a=[]
 | .nil,_,a,h=>by unfold goL; rw [if_neg]; unfold leads; simpa using h
 | .leaf _ _,_,a,h=>by unfold goL; rw [if_neg]; unfold leads; simpa using h
 | .stub _,_,a,h=>by unfold goL; rw [if_neg]; unfold leads; simpa using h
 | .ext _ _,_,a,h=>by unfold goL; rw [if_neg]; unfold leads; simpa using h
 | .br _,_,a,h=>by unfold goL; rw [if_neg]; unfold leads; simpa using h
theorem Vq:∀ (t:T) (o:Nat) (a w:Pa),Nib w->((goL (leads (a++w)) t o a).filter λx=>isNode x.1).map (λx=>bg x.1)=bD t w:=by
 have hI:∀ a w:Pa,leads (a++w) a=true:=λa w=>aK (List.prefix_append a w);intro t
 induction t with
 | nil=>intro o a w _; unfold goL; rw [if_pos (hI a w)]; rfl
 | leaf p v=>intro o a w _; unfold goL; rw [if_pos (hI a w)]; rfl
 | stub r=>intro o a w _; unfold goL; rw [if_pos (hI a w)]; rfl
 | ext q s ih =>
  intro o a w hw;unfold goL;rw [if_pos (hI a w)];show bg (.ext q s)::((goL (leads (a++w)) s (o+1) (a++q)).filter λx=>isNode x.1).map (λx=>bg x.1)=bg (.ext q s)::if q<+:w then bD s (w.drop q.length) else []
  congr 1;by_cases h:q<+:w
  .rw [if_pos h];have e:=UO h;have:=ih (o+1) (a++q) (w.drop q.length) (hw.drop _);rw [List.append_assoc,<-e] at this;exact this
  .rw [if_neg h,Kc s (o+1) (a++q) (λg=>h ((List.prefix_append_right_inj a).1 g))];rfl
 | br ks ih =>
  intro o a w hw;unfold goL;rw [if_pos (hI a w)];show bg (.br ks)::((((dx ks).map λi=>goL (leads (a++w)) (ks i) (o+1) (a++[dG i])).flatten).filter λx=>isNode x.1).map (λx=>bg x.1)=bD (.br ks) w;cases w with
  | nil =>
   have e:((dx ks).map λi=>goL (leads (a++[])) (ks i) (o+1) (a++[dG i]))=(dx ks).map λ_=>[]:=List.map_congr_left λi _=>Kc _ _ _ λh=>by
    have:=h.length_le;rw [List.append_nil,List.length_append] at this;exact absurd this (Nat.not_succ_le_self _)
   rw [e];have:∀ l:List (Fin 16),(l.map λ_=>([]:List Pl)).flatten=[]:=λl=>by simp
   rw [this];rfl
  | cons c r =>
   show _=bg (.br ks)::bD (ks (nb c)) r;congr 1;have hc:c.toNat<16:=hw.head;have h1:=ih (nb c) (o+1) (a++[c]) r hw.tail;have e0:a++[c]++r=a++c::r:=by simp
   rw [e0] at h1;have hoff:∀ i,i≠nb c->goL (leads (a++c::r)) (ks i) (o+1) (a++[dG i])=[]:=λi hi=>Kc _ _ _ λh=>by
    have h2:=(List.prefix_append_right_inj a).1 h;have h3:=(List.cons_prefix_cons.1 h2).1;exact hi (by rw [<-h3,IL])
   have hon:goL (leads (a++c::r)) (ks (nb c)) (o+1) (a++[dG (nb c)])=goL (leads (a++c::r)) (ks (nb c)) (o+1) (a++[c]):=by rw [RA hc]
   by_cases hn:ks (nb c) = .nil
   .have e:((dx ks).map λi=>goL (leads (a++c::r)) (ks i) (o+1) (a++[dG i]))=(dx ks).map λ_=>[]:=List.map_congr_left λi hi=>hoff i λe=>jV.1 hi (by rw [e]; exact hn);have h2:∀ l:List (Fin 16),(l.map λ_=>([]:List Pl)).flatten=[]:=λl=>by simp
    rw [e,h2,hn];rfl
   .have key:∀ l:List (Fin 16),l.Nodup->(l.map λi=>goL (leads (a++c::r)) (ks i) (o+1) (a++[dG i])).flatten=if nb c∈l then goL (leads (a++c::r)) (ks (nb c)) (o+1) (a++[c]) else []:=by
     intro l
     induction l with
     | nil=>intro _; rfl
     | cons i l ih2 =>
      intro hd;obtain ⟨hi,hd'⟩:=List.nodup_cons.1 hd;rw [List.map_cons,List.flatten_cons,ih2 hd'];by_cases e:i=nb c
      .subst e;rw [hon,if_neg hi,if_pos List.mem_cons_self,List.append_nil]
      .rw [hoff i e,List.nil_append];by_cases e2:nb c∈l
       .rw [if_pos e2,if_pos (List.mem_cons_of_mem _ e2)]
       .rw [if_neg e2,if_neg (λh=>(List.mem_cons.1 h).elim (λe3=>e e3.symm) e2)]
    rw [key (dx ks) ((List.nodup_finRange 16).filter _),if_pos (jV.2 hn)];exact h1
end Tr
end
section
open Go.RowKit
namespace Tm
open Tr Ni Pk Ky No Rf Rl da
open Sm (Tab)
def plC (p:aL) (o:Nat) (h:Hdl):List Value:=[.pointer p,.int .i64 o,.slice h.1 h.2.1 h.2.2]
def plA (p:aL) (o:Nat) (h:Hdl):aO:=#[.pointer p,.int .i64 o,.slice h.1 h.2.1 h.2.2]
theorem WU:(prog.info? 111).map (λi=>(i.zero,i.size,i.bytes))=some (some (.agg #[.pointer none,.int .i64 0,.slice none 0 0]),3,40):=by kernel_rfl
theorem CX:∃ i z,prog.info? 111=some i/\i.zero=some z/\i.size=3/\i.bytes=40/\z.cells.size=3:=by
 obtain ⟨i0,hi,hz,hs,hby⟩:=info_parts WU;exact ⟨i0,_,hi,hz,hs,hby,rfl⟩
theorem wC:(prog.info? 111).map (·.size)=some 3:=by kernel_rfl
def Ji (w:World) (b o:Nat) (p:aL) (n:Nat) (h:Hdl):Prop:=w.cell? ⟨b,o,none⟩=some (.pointer p)/\w.cell? ⟨b,o+1,none⟩=some (.int .i64 n)/\w.cell? ⟨b,o+2,none⟩=some (.slice h.1 h.2.1 h.2.2)
theorem Ji.own {w:World} {b:Nat} {p:aL} {n:Nat} {h:Hdl} {t:TypeId} (g:Rg.Own w b (plA p n h) t):Ji w b 0 p n h:=⟨aV (j:=0) g rfl,aV (j:=1) g rfl,aV (j:=2) g rfl⟩
theorem lU {ev:Operand->Value} {o:Oper} {w:World} {b off:Nat} {p:aL} {n:Nat} {h:Hdl} (g:Ji w b off p n h) (ho:∃ y,o.op = .load 111 y/\ev y = .pointer (some ⟨b,off,none⟩)) :
  (execOp ev o).run prog w = .ok (.value (.agg (plA p n h))) w:=by
 obtain ⟨y,ho,hx⟩:=ho;have hl:=run_loadAt_mid (P:=prog) w b off 111 (plC p n h) _ (λj u hu=>by
  match j,hu with
  | 0,hu=>cases hu; exact g.1
  | 1,hu=>cases hu; exact g.2.1
  | 2,hu=>cases hu; exact g.2.2) underlying111 rfl (by
  rw [wC]; rfl)
 unfold execOp;simp only [ho,hx,Sem.run_bind,Sem.run_pure,Result.andThen_ok,hl];rfl
theorem Fy (ev:Operand->Value) (o:Oper) (w:World) (b:Nat) (hb:b=w.heap.size) (ho:o.op = .alloc 111) :
  (execOp ev o).run prog w = .ok (.value (.pointer (some ⟨b,0,none⟩))) (w.alloc (.cells (plA none 0 (none,0,0)) 111)):=by
 subst hb;unfold execOp;rw [ho];kernel_rfl
theorem EO {rest:List Oper} {act:Go.Act} {w:World} {Q:Exit->Go.Act->World->Prop} {b:Nat} {p:aL} {n:Nat} {h:Hdl} (g:Rg.Own w b (plA p n h) 111) (p':aL) (n':Nat) (h':Hdl)
  (hgd:o.guard=none) (x y:Operand) (ho:o.op = .store 111 x y) (hx:act.eval x = .pointer (some ⟨b,0,none⟩)) (hy:act.eval y = .agg (plA p' n' h')) (hd:o.dst=none)
  (hQ:∀ w',Rg.Own w' b (plA p' n' h') 111->Rg.Upd w b w'->wpList prog ops Q rest act w'):wpList prog ops Q (o::rest) act w :=
 wpList_store_rowTo hgd 111 x y ho hd b _ hx hy 111 _ g.2 wC rfl (by simp [plA,Value.oneCell']) (hQ _ ⟨by simp; exact g.1,setRow_heap _ _ _ _ _ _ g.2⟩ (Rg.Upd.set _ _ _))
theorem OL (p:aL):prog.built 111 [(0,tv p)]=some (plA p 0 (none,0,0)):=by kernel_rfl
theorem UC (p:aL) (n:Nat) (h:Hdl):prog.built 111 [(0,tv p),(1,.int .i64 n),(2,.slice h.1 h.2.1 h.2.2)]=some (plA p n h):=by kernel_rfl
theorem xJ {w:World} {p:aL} {n:Nat} {h:Hdl} (b:Nat) (hb:b=w.heap.size) (ho:∃ y,o.op = .buildSlice 154 1 #[(0,y)]/\ev y = .agg (plA p n h)) :
  (execOp ev o).run prog w = .ok (.value (.slice (some ⟨b,0,none⟩) 1 1)) (w.alloc (.cells (plA p n h) 111)):=by
 obtain ⟨y,ho,hx⟩:=ho;subst hb;unfold execOp;simp only [ho,List.map_toArray,List.map_cons,List.map_nil,hx];kernel_rfl
theorem IX {w:World} {g n c i:Nat} (hi:i<n) (h:∃ x y,o.op = .indexAddr 154 x y/\ev x = .slice (some ⟨g,0,none⟩) n c/\ev y = .int .i64 i) :
  (execOp ev o).run prog w = .ok (.value (.pointer (some ⟨g,i*3,none⟩))) w:=by
 obtain ⟨x,y,ho,hx,hy⟩:=h;have h1:(i:Int)<(n:Int):=by omega
 unfold execOp;simp [ho,hx,hy,go_sem,h1]
structure Pc where
 p:aL
 h:Hdl
 x:Pl
def Pc.cs (y:Pc):List Value:=plC y.p y.x.2.1 y.h
def tX (l:List Pc):List Value:=l.flatMap Pc.cs
theorem uP (l:List Pc) (y:Pc):tX (l++[y])=tX l++y.cs:=by simp [tX]
theorem lZ:∀ l:List Pc,(tX l).length=l.length*3
 | []=>rfl
 | y::l=>by
  show (y.cs++tX l).length=_;rw [List.length_append,lZ l,List.length_cons];show 3+_=_;omega
def jN (B:Nat) (w:World) (v:Value) (l:List Pc):Prop:=w.ownsRow B 111 3 v l.length (tX l)
theorem jN.last {w:World} {v:Value} {l:List Pc} {y:Pc} (h:jN B w v (l++[y])):∃ g cap,v = .slice (some ⟨g,0,none⟩) (l.length+1) cap/\B<=g/\g<w.heap.size/\l.length+1<=cap/\cap<=maxLen/\Ji w g (l.length*3) y.p y.x.2.1 y.h:=by
 obtain ⟨h1,h2⟩:=h;rcases h2 with ⟨_,h2⟩ | ⟨g,cap,cur,rfl,hg,hh,hnc,hcm,hsz,htk⟩
 .simp at h2
 .rw [List.length_append] at hnc;have hc:∀ i,i<3->w.cell? ⟨g,l.length*3+i,none⟩=y.cs[i]? := λi hi=>by
   rw [cell_of_row w g _ _ _ _ hh,<-Array.getElem?_toList];have hlt:l.length*3+i<(tX (l++[y])).length:=by rw [lZ,List.length_append]; show _<(l.length+1)*3; omega
   have h3:cur.toList[l.length*3+i]? = (tX (l++[y]))[l.length*3+i]? := by
    rw [<-htk,List.getElem?_take_of_lt (by rw [lZ] at hlt; exact hlt)]
   rw [h3,uP,List.getElem?_append_right (by rw [lZ]; omega),lZ,show l.length*3+i-l.length*3=i by omega]
  exact ⟨g,cap,by simp,hg,(Array.getElem?_eq_some_iff.1 hh).1,hnc,hcm,hc 0 (by omega),hc 1 (by omega),hc 2 (by omega)⟩
theorem jN.init {g cap:Nat} {w:World} {l:List Pc} {y:Pc} (h:jN B w (.slice (some ⟨g,0,none⟩) (l.length+1) cap) (l++[y])):jN B w (.slice (some ⟨g,0,none⟩) l.length cap) l:=by
 obtain ⟨h1,h2⟩:=h;rcases h2 with ⟨h2,_⟩ | ⟨g',cap',cur,e,hg,hh,hnc,hcm,hsz,htk⟩
 .cases h2
 .injection e with e1 e2 e3;injection e1 with e1;injection e1 with e1;subst e1 e3;rw [List.length_append] at hnc;refine ⟨lZ l,.inr ⟨g,cap,cur,rfl,hg,hh,by omega,hcm,hsz,?_⟩⟩;have h3:=congrArg (List.take (l.length*3)) htk;rw [List.take_take,List.length_append,uP,List.take_left' (lZ l)] at h3;rw [show l.length*3=min (l.length*3) ((l.length+[y].length)*3) by simp];exact h3
theorem Ga {w:World} {b2:Nat} {v:Value} {l:List Pc} {y:Pc} (hR:jN B w v l) (h2:Rg.Own w b2 (plA y.p y.x.2.1 y.h) 111) (hn:l.length<=1000000) (hB:B<=w.heap.size) :
  ∃ v' w',(Builtin.append_ #[154,154] ty #[v,.slice (some ⟨b2,0,none⟩) 1 1]).run prog w = .ok v' w'/\jN B w' v' (l++[y])/\w.grownBy w' v.ownBlock/\(v'.ownBlock=v.ownBlock\/v'.ownBlock=some w.heap.size):=by
 obtain ⟨i0,z0,hi,hz,hsz,hby,hzc⟩:=CX;obtain ⟨v',w',hr,h3,h4,_,h5⟩:=run_append_own_at (P:=prog) w B 154 ty 111 i0 z0 3 40 underlying154 hi hz hsz hby hzc (by decide) v l.length _ hR ⟨b2,0,none⟩ 1 1 y.cs rfl
  (λj u hu=>by
   rw [Addr.add_mid,Nat.zero_add,cell_of_row w b2 _ _ _ _ h2.2];unfold plA;simpa [Pc.cs,plC] using hu)
  (λu hu=>by unfold Pc.cs plC at hu; simp at hu; rcases hu with rfl | rfl | rfl <;> rfl) (by unfold maxLen; omega) (by omega) hB
 exact ⟨v',w',hr,by unfold jN; rw [List.length_append,uP]; exact h3,h4,h5⟩
end Tm
end
section
open Go.RowKit
namespace Tm
open Tr Ni Pk Ky
open No
open Rf
open Rl
open da
open Sm (Tab)
theorem um (a b:aL) (n m c d:Nat) (x y:aN) (w:World) (ha:bf w a n c x) (hb:bf w b m d y) :
  Calls prog 77 #[.slice a n c,.slice b m d] w λe w'=>e = .returned (.bool (decide (x=y)))/\w=w':=by
 have h1:=lF ha;have h2:=lF hb;have HE:Hid (((⟨x.toArray⟩:aM).toList==(⟨y.toArray⟩:aM).toList)=decide (x=y)):=hid (by
  rw [str_eq];by_cases e:x=y
  .subst e; simp
  .rw [decide_eq_false e,decide_eq_false (λg=>e (by
    have:=congrArg (λb:aM=>b.data.toList) g;simpa using this))])
 clear ha hb;generalize hX:(⟨x.toArray⟩:aM)=X at *
 generalize hY:(⟨y.toArray⟩:aM)=Y at *
 go_enter func77,ntmps77;go_wp2;go_ret;exact ⟨by rw [<-HE.out]; rfl,rfl⟩
theorem Ao (a b:aL) (n m c d:Nat) (x y:aN) (hn:n<=m) (hm:m<=1000000) (w:World) (ha:bf w a n c x) (hb:bf w b m d y) :
  Calls prog 44 #[.slice b m d,.slice a n c] w λe w'=>e = .returned (.bool (leads y x))/\w=w':=by
 have HL:=hid (um b a n n d c (y.take n) x w (MZ hb n hn) ha);have HR:Hid (decide (y.take n=x)=leads y x):=hid (by
  unfold leads;have:=ha.len;by_cases e:x<+:y
  .rw [aK e,aK];rw [<-this];exact (List.prefix_iff_eq_take.1 e).symm
  .rw [decide_eq_false e,decide_eq_false];intro g;exact e (by rw [<-g]; exact List.take_prefix _ _))
 have hmd:=hb.1;have hi:(n:Int)<=(m:Int):=by omega
 have hc:n<=d:=by omega
 clear ha hb;go_enter func44,ntmps44;go_wp2_with (first
  | (refine Rg.runW (by rfl) _ _ (vT (j:=n) fZ iL hc ⟨_,_,rfl,rfl,rfl⟩) ?_))
 refine HL.out.mono ?_;rintro e w1 ⟨rfl,rfl⟩;go_wp2;go_ret;exact ⟨by rw [<-HR.out]; rfl,rfl⟩
theorem Uo (w:World) (p:aL) (o:Nat) (h:Hdl):(w.alloc (.cells (plA p o h) 111)).cell? ⟨w.heap.size,2,none⟩=some (.slice h.1 h.2.1 h.2.2):=aV (j:=2) (Rg.Own.new w (plA p o h) _) rfl
theorem Oq (bx:Nat) (q:Hdl) (P:Pa) (hP:P.length=64) (w:World) (hc:w.cell? ⟨bx,0,none⟩=some (.slice q.1 q.2.1 q.2.2)) (hq:bf w q.1 q.2.1 q.2.2 P) (p:aL) (o:Nat) (h:Hdl) (a:Pa) (ha:bf w h.1 h.2.1 h.2.2 a) (hl:a.length<=64) :
  Calls prog 58 #[.agg (plA p o h),.pointer (some ⟨bx,0,none⟩)] w λe w'=>e = .returned (.bool (leads P a))/\Below w.heap.size w w':=by
 have hA1:=al1 w (.cells (plA p o h) 111);have c0:=Uo w p o h;have c1:=aX hA1 hc;have HR:=hid (Ao h.1 q.1 h.2.1 q.2.1 h.2.2 q.2.2 a P (by rw [<-ha.len,<-hq.len]; omega) (by rw [<-hq.len]; omega) _ (ha.below hA1) (hq.below hA1));have HB:=hid hA1;obtain ⟨A,hA⟩:=aA (plA p o h)
 rw [hA] at c0 c1 HR HB ⊢;clear hA1 hc hq ha hA;go_enter func58,ntmps58;go_wp2_with fail
 refine HR.out.mono ?_;rintro e w2 ⟨rfl,rfl⟩;go_wp2;go_ret;exact ⟨rfl,HB.out⟩
end Tm
end
section
open Go.RowKit
namespace Tm
open Tr Ni Pk Ky No Rf Rl
open Sm (Tab)
def vdC (v:aM) (h:Bool) (u:Nat) (r:Bool):aO:=#[.string v,.bool h,.int .i64 u,.bool r]
theorem Mc (v:aM) (h:Bool) (u:Nat) (r:Bool):(vdC v h u r).all (·.oneCell')=true:=by simp [vdC,Value.oneCell']
theorem EG:(prog.info? 62).map (·.size)=some 4:=by kernel_rfl
theorem dW (ev:Operand->Value) (o:Oper) (w:World) (b:Nat) (hb:b=w.heap.size) (ho:o.op = .alloc 62):(execOp ev o).run prog w = .ok (.value (.pointer (some ⟨b,0,none⟩))) (w.alloc (.cells (vdC eB false 0 false) 62)):=by
 subst hb;unfold execOp;rw [ho];kernel_rfl
theorem bS {rest:List Oper} {act:Go.Act} {w:World} {Q:Exit->Go.Act->World->Prop} {b:Nat} {cs:aO} (h:Rg.Own w b cs 62) (hs:cs.size=4) (v:aM) (i:Bool) (u:Nat) (r:Bool)
  (hgd:o.guard=none) (x y:Operand) (ho:o.op = .store 62 x y) (hx:act.eval x = .pointer (some ⟨b,0,none⟩)) (hy:act.eval y = .agg (vdC v i u r)) (hd:o.dst=none)
  (hQ:∀ w',Rg.Own w' b (vdC v i u r) 62->Rg.Upd w b w'->wpList prog ops Q rest act w'):wpList prog ops Q (o::rest) act w :=
 wpList_store_rowTo hgd 62 x y ho hd b _ hx hy 62 _ h.2 EG hs (Mc _ _ _ _) (hQ _ ⟨by simp; exact h.1,setRow_heap _ _ _ _ _ _ h.2⟩ (Rg.Upd.set _ _ _))
theorem LV {w:World} {b:Nat} {v:aM} (h:Rg.Own w b (vdC v i u r) 62):(loadVar 62 ⟨b,0,none⟩).run prog w = .ok (.agg (vdC v i u r)) w :=
 run_loadVar_row (P:=prog) w b 62 62 (vdC v i u r) (0,0) _ h.2 underlying62 rfl EG
theorem uI {w:World} {b:Nat} {v:aM} (h:Rg.Own w b (vdC v i u r) 62) (ho:∃ x,o.op = .load 62 x/\ev x = .pointer (some ⟨b,0,none⟩)):(execOp ev o).run prog w = .ok (.value (.agg (vdC v i u r))) w:=by
 obtain ⟨x,ho,hx⟩:=ho;unfold execOp;simp only [ho,hx,Instr.loadAt,Instr.sureAddr,Sem.run_bind,Sem.run_pure,Result.andThen_ok,LV h]
theorem Dr:prog.built 62 []=some (vdC eB false 0 false):=by kernel_rfl
theorem Nw (r:Bool):prog.built 62 [(3,.bool r)]=some (vdC eB false 0 r):=by kernel_rfl
theorem wK (u:Nat):prog.built 62 [(2,.int .i64 u)]=some (vdC eB false u false):=by kernel_rfl
theorem wY (u:Nat) (r:Bool):prog.built 62 [(2,.int .i64 u),(3,.bool r)]=some (vdC eB false u r):=by kernel_rfl
theorem jX {fn:Func} {q:Tmp} (hf:fn.results = #[.cell q 62]) (tmps:aO) {w:World} {b:Nat} {v:aM} (hp:tmps.getD q undef = .pointer (some ⟨b,0,none⟩)) (h:Rg.Own w b (vdC v i u r) 62) :
  (results fn tmps).run prog w = .ok (.agg (vdC v i u r)) w:=by
 have hp':tmps[q]?.getD undef = .pointer (some ⟨b,0,none⟩):=by simpa using hp
 simp [results,hf,hp',asAddr,LV h]
theorem Dj {w:World} {b off:Nat} {cs:aO} {t:TypeId} (h:Rg.Own w b cs t) (hof:off<cs.size) (x:Int) (ho:∃ p q,o.op = .store 3 p q/\ev p = .pointer (some ⟨b,off,none⟩)/\ev q = .int .i64 x):(execOp ev o).run prog w = .ok .skip (w.setCell ⟨b,off,none⟩ (.int .i64 x)):=by
 obtain ⟨p,q,ho,hp,hq⟩:=ho;have hc:w.cell? ⟨b,off,none⟩=some cs[off]:=aV h (Array.getElem?_eq_getElem hof);have hz:w.frozen? ⟨b,off,none⟩=false:=fJ h;have hst:(Instr.storeAt 3 (.pointer (some ⟨b,off,none⟩)) (.int .i64 x)).run prog w = .ok () (w.setCell ⟨b,off,none⟩ (.int .i64 x)):=by
  simp [go_sem,hc,hz]
 unfold execOp;simp only [ho,hp,hq,Sem.run_bind,Sem.run_pure,Result.andThen_ok,hst]
theorem CU (ev:Operand->Value) (o:Oper) (w:World) (b:Nat) (hb:b=w.heap.size) (ho:o.op = .alloc 3):(execOp ev o).run prog w = .ok (.value (.pointer (some ⟨b,0,none⟩))) (w.alloc (.cells #[.int .i64 0] 3)):=by
 subst hb;unfold execOp;rw [ho];kernel_rfl
def nxP (l:List aM) (us:Nat) (R:aM):Option (aM × Nat) :=
 if R.size<32 then some (R,us) else if us<l.length/\(l.getD us eB).size≠0/\ofP (l.getD us eB)=R then some (l.getD us eB,us+1) else none
theorem AB {l:List aM} {s:Nat} {q:Pa} {b:Bool} {N:Nd} (hg:kW E.data.toList=some N) (hr:¬ (b=true/\N.kd≠3)) {q2:Pa} (ho:onward N q=(R,q2)) (hR:R.size≠0) :
  jA l (s+1) E q us b=match nxP l us R with | some (X,u)=>jA l s X q2 u (decide (N.kd=2)) | none=>(none,us):=by
 rw [Hy hg hr ho,if_neg hR];unfold nxP;by_cases h:R.size<32
 .rw [if_pos h,if_pos h]
 .rw [if_neg h,if_neg h];split <;> rfl
def Xq (l:List aM) (g us:Nat) (R:aM) (w:World) (e:Ending) (w':World):Prop:=∃ X th us' w2 w3,e = .returned (.tuple #[.string X,.bool th])/\(th=true->nxP l us R=some (X,us'))/\(th=false->nxP l us R=none/\us'=us)/\Below w.heap.size w w2/\Rg.Upd w2 g w3/\Below w3.heap.size w3 w'/\Rg.Own w' g #[.int .i64 us'] 3
theorem Jy (la:aL) (ln lc g:Nat) (w:World) :
  Calls prog 41 #[.slice la ln lc,.pointer (some ⟨g,0,none⟩)] w λe w'=>∃ bp bu,e = .returned (.func (Fn.func 72) #[] #[.pointer (some ⟨bu,0,none⟩),.pointer (some ⟨bp,0,none⟩)])/\w.heap.size<=bp/\w.heap.size<=bu/\Rg.Own w' bu #[.pointer (some ⟨g,0,none⟩)] 89/\Rg.Own w' bp #[.slice la ln lc] 26/\Below w.heap.size w w':=by
 have h1:Rg.Own ((w.alloc (.cells #[.slice la ln lc] 26)).alloc (.cells #[.pointer (some ⟨g,0,none⟩)] 89)) w.heap.size #[.slice la ln lc] 26:=(Rg.Own.new _ _ _).below (al1 _ _);have h2:Rg.Own ((w.alloc (.cells #[.slice la ln lc] 26)).alloc (.cells #[.pointer (some ⟨g,0,none⟩)] 89)) (w.heap.size+1) #[.pointer (some ⟨g,0,none⟩)] 89:=by
  have:=Rg.Own.new (w.alloc (.cells #[.slice la ln lc] 26)) #[.pointer (some ⟨g,0,none⟩)] 89;simpa using this
 have H1:=hid h1;have H2:=hid h2;clear h1 h2;go_enter func41,ntmps41;go_wp2;go_ret;exact ⟨w.heap.size,w.heap.size+1,by simp,aH,by omega,H2.out,H1.out,al2 _ _ _⟩
def zi (N:Nd) (q:Pa) (us ln:Nat):aO:=if N.kd=1/\N.p=q then vdC N.v true us (decide (us=ln)) else vdC eB false us (decide (us=ln))
theorem pV (N:Nd) (na:aL) (nn nc:Nat) (hN:N.ks.length=16) (q:Pa) (pa:aL) (pn pc us ln:Nat) (w:World) (hp:bf w na nn nc N.p) (hq:bf w pa pn pc q) :
  Calls prog 45 #[.agg (ndC N na nn nc),.slice pa pn pc,.int .i64 us,.int .i64 ln] w λe w'=>e = .returned (.agg (zi N q us ln))/\Below w.heap.size w w':=by
 obtain ⟨w1,hw1⟩:=ay ((w.alloc (.cells (ndC N na nn nc) 67)).alloc (.cells (vdC eB false 0 false) 62))
 have hb1:Below w.heap.size w w1:=by rw [hw1]; exact al2 _ _ _
 have hs1:w1.heap.size=w.heap.size+2:=by rw [hw1]; simp
 have hN1:dZ w1 w.heap.size N na nn nc:=by rw [hw1]; exact (Rg.Own.new _ _ _).below (al1 _ _)
 have gO:Rg.Own w1 (w.heap.size+1) (vdC eB false 0 false) 62:=by
  have:=Rg.Own.new (w.alloc (.cells (ndC N na nn nc) 67)) (vdC eB false 0 false) 62;rw [hw1];simpa using this
 have j2:Hid (Rg.Own (w1.alloc (.cells (vdC eB false 0 false) 62)) (w.heap.size+2) (vdC eB false 0 false) 62):=hid (by
  have:=Rg.Own.new w1 (vdC eB false 0 false) 62;rw [hs1] at this;exact this)
 have HB1:=hid hb1;have LE:=hid hN1;have HR1:=hid gO;have HW:Hid (_=_):=hid hw1;have HP:=hid (hp.below hb1);have HQ:=hid (hq.below hb1);have HK:=hid hN;obtain ⟨rb,hrb⟩:=aA ((us:Int)==(ln:Int))
 have LF:Hid (decide (us=ln)=rb):=hid (by
  rw [<-hrb];by_cases e:us=ln
  .simp [e]
  .have e2:¬ (us:Int)=(ln:Int):=by omega
   simp [e,e2])
 clear hb1 hN1 gO hw1 hp hq hN;by_cases hk:N.kd=1
 .have GO:Hid ((ndC N na nn nc)[0]? = some (.int .i64 1)):=hid (by rw [<-hk]; rfl);by_cases hpq:N.p=q
  .have HV:Hid (zi N q us ln=vdC N.v true us rb):=hid (by unfold zi; rw [if_pos ⟨hk,hpq⟩,LF.out]);have HE:Hid (∀ W,Below w1.heap.size w1 W->Calls prog 77 #[.slice na nn nc,.slice pa pn pc] W λe w'=>e = .returned (.bool true)/\W=w'):=hid (λW hb=>by
    have:=um na pa nn pn nc pc N.p q W (HP.out.below hb) (HQ.out.below hb);rw [aK hpq] at this;exact this)
   rw [HV.out];clear hk hpq HV;go_enter func45,ntmps45;go_wp2_with (first
    | (refine aB (dW _ _ _ (w.heap.size+1) (by simp) rfl) ?_; rw [<-HW.out])
    | (refine aB (dW _ _ _ (w.heap.size+2) (by rw [hs1]) rfl) ?_)
    | (refine aB (bQ (wY us rb) ⟨_,rfl,rfl⟩) ?_)
    | (refine bS j2.out rfl _ _ _ _ rfl _ _ rfl rfl rfl rfl ?_; intro w3 hO3 hu3; have cr:Hid (Below w1.heap.size w1 w3):=hid (hu3.below (al1 _ _) (by omega)); have H8:=hid hO3; have lk:=hid (LE.out.below cr.out); have HR3:=hid (HR1.out.below cr.out); have mz:=hid (bst HB1.out cr.out); have k0:=aV (j:=0) lk.out GO.out; have k1:=aV (j:=1) lk.out (rz N na nn nc); have k2:=aV (j:=2) lk.out (WB N na nn nc); clear hO3 hu3))
   refine (HE.out _ cr.out).mono ?_;rintro e y ⟨rfl,rfl⟩;obtain ⟨w4,hw4⟩:=aA (w3.setCell ⟨w.heap.size+2,0,none⟩ (.string N.v))
   have cC:Hid (Rg.Own w4 (w.heap.size+2) (vdC N.v false us rb) 62):=hid (by rw [<-hw4]; exact bZ (o:=0) H8.out (.string N.v));have fl:Rg.Upd w3 (w.heap.size+2) w4:=by rw [<-hw4]; exact bM _ _ _ _
   obtain ⟨w5,qa⟩:=aA (w4.setCell ⟨w.heap.size+2,1,none⟩ (.bool true))
   have cf:Hid (Rg.Own w5 (w.heap.size+2) (vdC N.v true us rb) 62):=hid (by rw [<-qa]; exact bZ (o:=1) cC.out (.bool true));have bd:Rg.Upd w3 (w.heap.size+2) w5:=by rw [<-qa]; exact pW fl (bM _ _ _ _)
   have dt:=hid (HR3.out.upd bd (by omega));have ae:=hid (bd.below mz.out (by omega));have LI:=hid hw4;have ZJ:=hid qa;clear hw4 qa fl bd k0 k1;go_wp2_with (first
    | (refine zw rfl _ (Qx (off:=0) H8.out (show 0<4 by decide) N.v ⟨_,_,rfl,rfl,rfl⟩) ?_; rw [LI.out])
    | (refine zw rfl _ (Nu (off:=1) cC.out (show 1<4 by decide) true ⟨_,_,rfl,rfl,rfl⟩) ?_; rw [ZJ.out])
    | (refine aB (uI cf.out ⟨_,rfl,rfl⟩) ?_)
    | (refine bS dt.out rfl _ _ _ _ rfl _ _ rfl rfl rfl rfl ?_; intro w9 aw b8; have cl:=hid aw; have cX:=hid (b8.below ae.out (by omega)); clear aw b8))
   exact bodyPost_ret (jX (q:=8) rfl _ rfl cl.out) rfl ⟨rfl,cX.out⟩
  .have HV:Hid (zi N q us ln=vdC eB false us rb):=hid (by unfold zi; rw [if_neg (λh=>hpq h.2),LF.out]);have HE:Hid (∀ W,Below w1.heap.size w1 W->Calls prog 77 #[.slice na nn nc,.slice pa pn pc] W λe w'=>e = .returned (.bool false)/\W=w'):=hid (λW hb=>by
    have:=um na pa nn pn nc pc N.p q W (HP.out.below hb) (HQ.out.below hb);rw [decide_eq_false hpq] at this;exact this)
   rw [HV.out];clear hk hpq HV;go_enter func45,ntmps45;go_wp2_with (first
    | (refine aB (dW _ _ _ (w.heap.size+1) (by simp) rfl) ?_; rw [<-HW.out])
    | (refine aB (dW _ _ _ (w.heap.size+2) (by rw [hs1]) rfl) ?_)
    | (refine aB (bQ (wY us rb) ⟨_,rfl,rfl⟩) ?_)
    | (refine bS j2.out rfl _ _ _ _ rfl _ _ rfl rfl rfl rfl ?_; intro w3 hO3 hu3; have cr:Hid (Below w1.heap.size w1 w3):=hid (hu3.below (al1 _ _) (by omega)); have H8:=hid hO3; have lk:=hid (LE.out.below cr.out); have HR3:=hid (HR1.out.below cr.out); have mz:=hid (bst HB1.out cr.out); have k0:=aV (j:=0) lk.out GO.out; have k1:=aV (j:=1) lk.out (rz N na nn nc); clear hO3 hu3))
   refine (HE.out _ cr.out).mono ?_;rintro e y ⟨rfl,rfl⟩;go_wp2_with (first
    | (refine aB (uI H8.out ⟨_,rfl,rfl⟩) ?_)
    | (refine bS HR3.out rfl _ _ _ _ rfl _ _ rfl rfl rfl rfl ?_; intro w9 aw b8; have cl:=hid aw; have cX:=hid (b8.below mz.out (by omega)); clear aw b8))
   exact bodyPost_ret (jX (q:=8) rfl _ rfl cl.out) rfl ⟨rfl,cX.out⟩
 .have HV:Hid (zi N q us ln=vdC eB false us rb):=hid (by unfold zi; rw [if_neg (λh=>hk h.1),LF.out]);have hk0:(N.kd==1)=false:=by simpa using hk
  rw [HV.out];clear hk HV;go_enter func45,ntmps45;go_wp2_with (first
   | (refine aB (dW _ _ _ (w.heap.size+1) (by simp) rfl) ?_; rw [<-HW.out])
   | (refine aB (dW _ _ _ (w.heap.size+2) (by rw [hs1]) rfl) ?_)
   | (refine aB (bQ (wY us rb) ⟨_,rfl,rfl⟩) ?_)
   | (refine bS j2.out rfl _ _ _ _ rfl _ _ rfl rfl rfl rfl ?_; intro w3 hO3 hu3; have cr:Hid (Below w1.heap.size w1 w3):=hid (hu3.below (al1 _ _) (by omega)); have H8:=hid hO3; have lk:=hid (LE.out.below cr.out); have HR3:=hid (HR1.out.below cr.out); have mz:=hid (bst HB1.out cr.out); have k0:w3.cell? ⟨w.heap.size,0,none⟩=some (.int .i64 N.kd):=aV (j:=0) lk.out rfl; clear hO3 hu3)
   | (refine aB (uI H8.out ⟨_,rfl,rfl⟩) ?_)
   | (refine bS HR3.out rfl _ _ _ _ rfl _ _ rfl rfl rfl rfl ?_; intro w9 aw b8; have cl:=hid aw; have cX:=hid (b8.below mz.out (by omega)); clear aw b8))
  exact bodyPost_ret (jX (q:=8) rfl _ rfl cl.out) rfl ⟨rfl,cX.out⟩
theorem wV (l:List aM) (hx:∀ s∈l,s.size<=900000) (la:aL) (ln lc:Nat) (R:aM) (us g bu bp:Nat) (w:World) (hl:kD w la ln lc l) (hR:R.size<=900000) (p7:us<=ln) (y0:ln<=1000)
  (hg:Rg.Own w g #[.int .i64 us] 3) (hu:Rg.Own w bu #[.pointer (some ⟨g,0,none⟩)] 89) (hp:Rg.Own w bp #[.slice la ln lc] 26) (hgb:bu≠g) (ZK:bp≠g) (T5:∀ ad,la=some ad->ad.block≠g) (hT:Tab w) :
  Calls prog 72 #[.string R,.pointer (some ⟨bu,0,none⟩),.pointer (some ⟨bp,0,none⟩)] w (Xq l g us R w):=by
 have HU:=hid hu;have pd:=hid hp;have HG:=hid hg;have mA:=hid hl.len;have eM:=hid hl;by_cases h32:R.size<32
 .have LL:decide ((R.size:Int)<32)=true:=aK (by omega);have LN:decide (R.size<32)=true:=aK h32;have HN:Hid (nxP l us R=some (R,us)):=hid (by unfold nxP; rw [if_pos h32]);clear hl hg hu hp hT;go_enter func72,ntmps72;go_wp2;exact bodyPost_ret (results_tmp2 (t:=4) (u:=5) rfl _ _ _) rfl ⟨R,true,us,w,w,rfl,λ_=>HN.out,λe=>(by cases e),aI,sj _ _,aI,HG.out⟩
 have LL:decide ((R.size:Int)<32)=false:=decide_eq_false (by omega);have LN:decide (R.size<32)=false:=decide_eq_false h32;by_cases hlt:us<ln;rotate_left
 .obtain rfl:us=ln:=by omega
  have HN:Hid (nxP l us R=none):=hid (by
   unfold nxP;rw [if_neg h32,if_neg (λh=>by have h1:=h.1; have:=mA.out; omega)])
  clear hl hg hu hp hT;go_enter func72,ntmps72;go_wp2_with fail
  refine aD (S:=λw'=>Below w.heap.size w w') (aI.drew) λhld=>?_;refine aj 0 ?_ (hy:=by intro wz hSw; (have q0:=aV (j:=0) (HU.out.below hSw) rfl; go_simp <;> with_reducible rfl));try simp only [Act.put,au]
  refine aj 1 ?_;try simp only [Act.put,au]
  refine aj 2 ?_ (hy:=by intro wz hSw; (have q0:=aV (j:=0) (HG.out.below hSw) rfl; go_simp <;> with_reducible rfl));try simp only [Act.put,au]
  refine aj 3 ?_ (hy:=by intro wz hSw; (have q0:=aV (j:=0) (pd.out.below hSw) rfl; go_simp <;> with_reducible rfl));try simp only [Act.put,au]
  refine aj 4 ?_;try simp only [Act.put,au]
  refine aj 5 ?_;try simp only [Act.put,au]
  refine aj 6 ?_;try simp only [Act.put,au]
  refine Rg.takeL (i:=7) (v:=undef) rfl (by kernel_rfl) (by kernel_rfl) (by kernel_rfl) (λ_ _ _ h=>h) (Or.inr ⟨by rfl,rfl⟩) (by assumption) ?_;try simp only [Act.put,au]
  refine Rg.takeL (i:=8) (v:=undef) rfl (by kernel_rfl) (by kernel_rfl) (by kernel_rfl) (λ_ _ _ h=>h) (Or.inr ⟨by rfl,rfl⟩) (by assumption) ?_;try simp only [Act.put,au]
  refine Rg.takeL (i:=9) (v:=undef) rfl (by kernel_rfl) (by kernel_rfl) (by kernel_rfl) (λ_ _ _ h=>h) (Or.inr ⟨by rfl,rfl⟩) (by assumption) ?_;try simp only [Act.put,au]
  refine Rg.takeL (i:=10) (v:=undef) rfl (by kernel_rfl) (by kernel_rfl) (by kernel_rfl) (λ_ _ _ h=>h) (Or.inr ⟨by rfl,rfl⟩) (by assumption) ?_;try simp only [Act.put,au]
  refine Rg.takeL (i:=11) (v:=undef) rfl (by kernel_rfl) (by kernel_rfl) (by kernel_rfl) (λ_ _ _ h=>h) (Or.inr ⟨by rfl,rfl⟩) (by assumption) ?_;try simp only [Act.put,au]
  refine Rg.takeL (i:=12) (v:=undef) rfl (by kernel_rfl) (by kernel_rfl) (by kernel_rfl) (λ_ _ _ h=>h) (Or.inr ⟨by rfl,rfl⟩) (by assumption) ?_;try simp only [Act.put,au]
  refine Rg.takeL (i:=13) (v:=undef) rfl (by kernel_rfl) (by kernel_rfl) (by kernel_rfl) (λ_ _ _ h=>h) (Or.inr ⟨by rfl,rfl⟩) (by assumption) ?_;try simp only [Act.put,au]
  refine Rg.takeL (i:=14) (v:=undef) rfl (by kernel_rfl) (by kernel_rfl) (by kernel_rfl) (λ_ _ _ h=>h) (Or.inr ⟨by rfl,rfl⟩) (by assumption) ?_;try simp only [Act.put,au]
  refine Rg.takeL (i:=15) (v:=undef) rfl (by kernel_rfl) (by kernel_rfl) (by kernel_rfl) (λ_ _ _ h=>h) (Or.inr ⟨by rfl,rfl⟩) (by assumption) ?_;try simp only [Act.put,au]
  refine aj 16 ?_;try simp only [Act.put,au]
  refine aC ?_;have cD:=hid hld;clear hld;go_wp2;exact bodyPost_ret (results_tmp2 (t:=4) (u:=5) rfl _ _ _) rfl ⟨eB,false,us,w,w,rfl,λe=>(by cases e),λ_=>⟨HN.out,rfl⟩,aI,sj _ _,cD.out,HG.out.below cD.out⟩
 obtain ⟨b0,o0,rfl,hb0,hc0⟩:=hl.at' us hlt;have hm:l.getD us eB∈l:=Rf.jL (by rw [mA.out]; exact hlt);have hsz:=hx _ hm;obtain ⟨Y,hY⟩:=aA (l.getD us eB)
 rw [hY] at hsz hc0;have yi:=hid hc0;have LO:b0≠g:=T5 _ rfl;obtain ⟨m,hmm⟩:=aA (rQ R Y)
 have HM:Hid (∀ W,Below w.heap.size w W->Calls prog 73 #[.string R,.string Y] W λe w'=>e = .returned (.bool m)/\Below W.heap.size W w'):=hid (λW hb=>by
  have:=JE R Y hsz W (hT.below hb hT.pos);rw [hmm] at this;exact this)
 have T6:(Y.size≠0/\ofP Y=R)↔m=true:=by
  rw [<-hmm];unfold rQ;simp
 have yk:=hid T6;have HY:=hid hY;have LR:(us:Int)<(ln:Int):=by omega
 have hu0:(0:Int)<=(us:Int):=by omega
 have hne:((us:Int)==(ln:Int))=false:=by
  have:¬ (us:Int)=(ln:Int):=by omega
  simp [this]
 have hne2:(us==ln)=false:=by
  have:¬ us=ln:=by omega
  simp [this]
 have mB:¬ us=ln:=by omega
 clear hl hg hu hp hT hx hm hsz hY hmm T6 hc0 T5;cases m with
 | false =>
  have HN:Hid (nxP l us R=none):=hid (by
   unfold nxP;rw [if_neg h32,HY.out,if_neg (λh=>by have:=yk.out.1 h.2; cases this)])
  clear yk HY;go_enter func72,ntmps72;go_wp2_with fail
  refine aD (S:=λw'=>Below w.heap.size w w') (aI.drew) λhld=>?_;refine aj 0 ?_ (hy:=by intro wz hSw; (have q0:=aV (j:=0) (HU.out.below hSw) rfl; go_simp <;> with_reducible rfl));try simp only [Act.put,au]
  refine aj 1 ?_;try simp only [Act.put,au]
  refine aj 2 ?_ (hy:=by intro wz hSw; (have q0:=aV (j:=0) (HG.out.below hSw) rfl; go_simp <;> with_reducible rfl));try simp only [Act.put,au]
  refine aj 3 ?_ (hy:=by intro wz hSw; (have q0:=aV (j:=0) (pd.out.below hSw) rfl; go_simp <;> with_reducible rfl));try simp only [Act.put,au]
  refine aj 4 ?_;try simp only [Act.put,au]
  refine aj 5 ?_ (hy:=by intro wz hSw; (have q0:=hne; have q1:=hne2; have q2:=mB; go_simp <;> with_reducible rfl));try simp only [Act.put,au]
  refine aj 6 ?_;try simp only [Act.put,au]
  refine aj 7 ?_;try simp only [Act.put,au]
  refine aj 8 ?_ (hy:=by intro wz hSw; (have q0:=aV (j:=0) (pd.out.below hSw) rfl; go_simp <;> with_reducible rfl));try simp only [Act.put,au]
  refine aj 9 ?_ (hy:=by intro wz hSw; (have q0:=aV (j:=0) (HU.out.below hSw) rfl; go_simp <;> with_reducible rfl));try simp only [Act.put,au]
  refine aj 10 ?_;try simp only [Act.put,au]
  refine aj 11 ?_ (hy:=by intro wz hSw; (have q0:=aV (j:=0) (HG.out.below hSw) rfl; go_simp <;> with_reducible rfl));try simp only [Act.put,au]
  refine aj 12 ?_ (hy:=by intro wz hSw; (have q0:=LR; have q1:=hu0; have q2:=hlt; go_simp <;> with_reducible rfl));try simp only [Act.put,au]
  refine aj 13 ?_ (hy:=by intro wz hSw; (have q0:=aX hSw yi.out; go_simp <;> with_reducible rfl));try simp only [Act.put,au]
  refine ak 14 λK hK=>?_;go_simp;go_at_call 73
  (with_reducible refine (HM.out _ hld).mono ?_)
  rintro e y1 ⟨rfl,hbx⟩;refine hK.out _ _ (Below.trans hld (hbx.mono hld.size)) λhld=>?_;clear hK K hbx;try simp only [Act.put,au]
  refine aj 15 ?_;try simp only [Act.put,au]
  refine aj 16 ?_;try simp only [Act.put,au]
  refine aC ?_;obtain ⟨wv,hwv⟩:=aA y1
  rw [hwv] at hld;rw [hwv];have cD:=hid hld;clear hld hwv;go_wp2;exact bodyPost_ret (results_tmp2 (t:=4) (u:=5) rfl _ _ _) rfl ⟨eB,false,us,w,w,rfl,λe=>(by cases e),λ_=>⟨HN.out,rfl⟩,aI,sj _ _,cD.out,HG.out.below cD.out⟩
 | true =>
  have HN:Hid (nxP l us R=some (Y,us+1)):=hid (by
   unfold nxP;rw [if_neg h32,HY.out,if_pos ⟨by rw [mA.out]; exact hlt,yk.out.2 rfl⟩])
  clear yk HY;go_enter func72,ntmps72;go_wp2_with fail
  refine aD (S:=λw'=>Below w.heap.size w w') (aI.drew) λhld=>?_;refine aj 0 ?_ (hy:=by intro wz hSw; (have q0:=aV (j:=0) (HU.out.below hSw) rfl; go_simp <;> with_reducible rfl));try simp only [Act.put,au]
  refine aj 1 ?_;try simp only [Act.put,au]
  refine aj 2 ?_ (hy:=by intro wz hSw; (have q0:=aV (j:=0) (HG.out.below hSw) rfl; go_simp <;> with_reducible rfl));try simp only [Act.put,au]
  refine aj 3 ?_ (hy:=by intro wz hSw; (have q0:=aV (j:=0) (pd.out.below hSw) rfl; go_simp <;> with_reducible rfl));try simp only [Act.put,au]
  refine aj 4 ?_;try simp only [Act.put,au]
  refine aj 5 ?_ (hy:=by intro wz hSw; (have q0:=hne; have q1:=hne2; have q2:=mB; go_simp <;> with_reducible rfl));try simp only [Act.put,au]
  refine aj 6 ?_;try simp only [Act.put,au]
  refine aj 7 ?_;try simp only [Act.put,au]
  refine aj 8 ?_ (hy:=by intro wz hSw; (have q0:=aV (j:=0) (pd.out.below hSw) rfl; go_simp <;> with_reducible rfl));try simp only [Act.put,au]
  refine aj 9 ?_ (hy:=by intro wz hSw; (have q0:=aV (j:=0) (HU.out.below hSw) rfl; go_simp <;> with_reducible rfl));try simp only [Act.put,au]
  refine aj 10 ?_;try simp only [Act.put,au]
  refine aj 11 ?_ (hy:=by intro wz hSw; (have q0:=aV (j:=0) (HG.out.below hSw) rfl; go_simp <;> with_reducible rfl));try simp only [Act.put,au]
  refine aj 12 ?_ (hy:=by intro wz hSw; (have q0:=LR; have q1:=hu0; have q2:=hlt; go_simp <;> with_reducible rfl));try simp only [Act.put,au]
  refine aj 13 ?_ (hy:=by intro wz hSw; (have q0:=aX hSw yi.out; go_simp <;> with_reducible rfl));try simp only [Act.put,au]
  refine ak 14 λK hK=>?_;go_simp;go_at_call 73
  (with_reducible refine (HM.out _ hld).mono ?_)
  rintro e y1 ⟨rfl,hbx⟩;refine hK.out _ _ (Below.trans hld (hbx.mono hld.size)) λhld=>?_;clear hK K hbx;try simp only [Act.put,au]
  refine aj 15 ?_;try simp only [Act.put,au]
  refine aj 16 ?_;try simp only [Act.put,au]
  refine aC ?_;obtain ⟨wv,hwv⟩:=aA y1
  rw [hwv] at hld;rw [hwv];have cD:=hid hld;clear hld hwv;obtain ⟨w7,hw7⟩:=aA (wv.setCell ⟨g,0,none⟩ (.int .i64 ((us+1:Nat):Int)))
  have C8:=hid (HG.out.below cD.out);have eK:Hid (Rg.Own w7 g #[.int .i64 ((us+1:Nat):Int)] 3):=hid (by rw [<-hw7]; exact bZ (o:=0) C8.out _);have e9:Rg.Upd wv g w7:=by rw [<-hw7]; exact bM _ _ _ _
  have ZL:=hid ((HU.out.below cD.out).upd e9 hgb);have ZM:=hid ((pd.out.below cD.out).upd e9 ZK);have T7:=(World.cell?_of_block (a:=⟨b0,o0+us,none⟩) (e9.block b0 LO)).trans (aX cD.out yi.out);have LS:=hid e9;have Cd:=hid hw7;have k1:=aV (j:=0) (HU.out.below cD.out) rfl;have k2:=aV (j:=0) C8.out rfl;have hwr:IntKind.i64.wrap ((us:Int)+1)=(us:Int)+1:=IntWalk.i64_in _ (by omega);have hwr2:IntKind.i64.wrap (((us+1:Nat):Int)-1)=(us:Int):=by rw [show ((us+1:Nat):Int)-1=(us:Int) by omega]; exact IntWalk.i64_in _ (by omega)
  have LT:IntKind.i64.wrap ((us:Int)+1-1)=(us:Int):=by rw [show (us:Int)+1-1=(us:Int) by omega]; exact IntWalk.i64_in _ (by omega)
  have M3:IntKind.i64.wrap (us:Int)=(us:Int):=IntWalk.i64_in _ (by omega);have hcast:((us+1:Nat):Int)=(us:Int)+1:=by omega
  clear hw7 e9;go_wp2_with (first
   | (refine zw rfl _ (Dj (off:=0) C8.out (show 0<1 by decide) ((us+1:Nat):Int) ⟨_,_,rfl,rfl,by rw [hcast]; first | rfl | (go_simp <;> with_reducible rfl)⟩) ?_; rw [Cd.out]; have ZN:=hid T7; clear T7 k1 k2))
  refine aD (S:=λw'=>Below w7.heap.size w7 w') (aI.drew) λhld=>?_;refine aj 0 ?_ (hy:=by intro wz hSw; (have q0:=aV (j:=0) (ZM.out.below hSw) rfl; go_simp <;> with_reducible rfl));try simp only [Act.put,au]
  refine aj 1 ?_ (hy:=by intro wz hSw; (have q0:=aV (j:=0) (ZL.out.below hSw) rfl; go_simp <;> with_reducible rfl));try simp only [Act.put,au]
  refine aj 2 ?_;try simp only [Act.put,au]
  refine aj 3 ?_ (hy:=by intro wz hSw; (have q0:=aV (j:=0) (eK.out.below hSw) rfl; go_simp <;> with_reducible rfl));try simp only [Act.put,au]
  refine aj 4 ?_ (hy:=by intro wz hSw; (have q0:=hwr2; have q1:=LT; have q2:=M3; go_simp <;> with_reducible rfl));try simp only [Act.put,au]
  refine aj 5 ?_ (hy:=by intro wz hSw; (have q0:=LR; have q1:=hu0; have q2:=hlt; go_simp <;> with_reducible rfl));try simp only [Act.put,au]
  refine aj 6 ?_ (hy:=by intro wz hSw; (have q0:=aX hSw ZN.out; go_simp <;> with_reducible rfl));try simp only [Act.put,au]
  refine aj 7 ?_;try simp only [Act.put,au]
  refine aj 8 ?_;try simp only [Act.put,au]
  refine aC ?_;have cA:=hid hld;clear hld;go_wp2;exact bodyPost_ret (results_tmp2 (t:=4) (u:=5) rfl _ _ _) rfl ⟨Y,true,us+1,wv,w7,rfl,λ_=>HN.out,λe=>(by cases e),cD.out,LS.out,cA.out,eK.out.below cA.out⟩
open da
theorem Ux {w:World} {a1 a2:aL} {n1 c1 n2 c2:Nat} {l1 l2:aN} (h1:bf w a1 n1 c1 l1) (h2:bf w a2 n2 c2 l2) :
  Cc.BR (w.alloc (.cells #[.slice a1 n1 c1,.slice a2 n2 c2] 35)) (some ⟨w.heap.size,0,none⟩) 2 [l1,l2]:=by
 refine ⟨rfl,λj hj=>⟨w.heap.size,0,rfl,by simp,?_⟩⟩
 match j,hj with
 | 0,_=>exact ⟨a1,n1,c1,by simp,h1.alloc _⟩
 | 1,_=>exact ⟨a2,n2,c2,by simp,h2.alloc _⟩
def Ta (w:World) (l:aN) (e:Ending) (w':World):Prop:=∃ r:Hdl,e = .returned (.slice r.1 r.2.1 r.2.2)/\BsP (λb=>w.heap.size<=b) w' r l/\Below w.heap.size w w'
theorem RZ (a:aL) (n cap:Nat) (ls:List (aN)) (hn:n<=1000000) (hL:ls.flatten.length<=1099511627776) (w:World) (h:Cc.BR w a n ls) :
  Calls prog 147 #[.slice a n cap] w (Ta w ls.flatten):=by
 have hc:=Cc.Cm a n cap ls hn hL w h;obtain ⟨r,hr⟩:=aA ls.flatten
 rw [hr] at hc ⊢;have HC:=hid hc;clear hc hr hL h;go_enter func147,ntmps147;go_wp2_with fail
 refine HC.out.mono ?_;rintro e w1 ⟨v,rfl,hown,hb⟩;have hlt:=hown.lt;obtain ⟨a',cap',rfl,hx⟩:=bf.ny hown;clear hown;go_wp2;go_ret;exact ⟨(a',r.length,cap'),rfl,⟨hx,λad e hn=>(hlt ad.block (by have e3:a'=some ad:=e; obtain ⟨b,off,e2,_⟩:=hx.at' 0 hn; rw [e3] at e2 ⊢; cases e2; rfl)).1⟩,hb⟩
theorem Je (p:aL) (o:Nat) (h m:Hdl) (a l:Pa) (w:World) (ha:bf w h.1 h.2.1 h.2.2 a) (hm:bf w m.1 m.2.1 m.2.2 l) (hl:a.length+l.length<=64) :
  Calls prog 132 #[.agg (plA p o h),.slice m.1 m.2.1 m.2.2] w (Ta w (a++l)):=by
 obtain ⟨w1,hw1⟩:=ay (w.alloc (.cells (plA p o h) 111))
 have hb1:Below w.heap.size w w1:=by rw [hw1]; exact al1 _ _
 have c0:w1.cell? ⟨w.heap.size,2,none⟩=some (.slice h.1 h.2.1 h.2.2):=by rw [hw1]; exact Uo w p o h
 have hb2:=al1 w1 (.cells #[.slice h.1 h.2.1 h.2.2,.slice m.1 m.2.1 m.2.2] 35);have HJ:=hid (RZ _ 2 2 _ (by omega) (by simp; omega) _ (Ux (ha.below hb1) (hm.below hb1)));rw [show [a,l].flatten=a++l by simp] at HJ;have hlen:(a++l).length<=64:=by rw [List.length_append]; exact hl
 have HB:Hid (∀ w2,Below (w1.alloc (.cells #[.slice h.1 h.2.1 h.2.2,.slice m.1 m.2.1 m.2.2] 35)).heap.size (w1.alloc (.cells #[.slice h.1 h.2.1 h.2.2,.slice m.1 m.2.1 m.2.2] 35)) w2->Below w.heap.size w w2):=hid (λw2 hb=>bst (bst hb1 hb2) hb);have hs:w.heap.size<=(w1.alloc (.cells #[.slice h.1 h.2.1 h.2.2,.slice m.1 m.2.1 m.2.2] 35)).heap.size:=Nat.le_trans hb1.size hb2.size;obtain ⟨L,hL⟩:=aA (a++l)
 rw [hL] at HJ hlen ⊢;clear ha hm hl hb1 hb2 hL;obtain ⟨A,hA⟩:=aA (plA p o h)
 rw [hA] at hw1 ⊢;clear hA;subst hw1;rw [show (w.alloc (.cells A 111)).heap.size=w.heap.size+1 by simp] at HJ;go_enter func132,ntmps132;go_wp2_with fail
 refine HJ.out.mono ?_;rintro e w2 ⟨r,rfl,hr,hb⟩;have hrl:=hr.1.len;have hrn:r.2.1<=64:=by omega
 have hrc:=hr.1.1;have hmin:min (r.2.1:Int) 65=(r.2.1:Int):=by omega
 have hR:BsP (λb=>w.heap.size<=b) w2 r L:=hr.to λb _ hb=>Nat.le_trans hs hb;have HR:=hid hR;have HB2:=hid (HB.out w2 hb);clear hr hb HJ HB hR c0 hs;go_wp2_with (first
  | (refine aB (vT (j:=r.2.1) fZ iL hrc ⟨_,_,rfl,rfl,rfl⟩) ?_))
 go_ret;exact ⟨r,rfl,HR.out,HB2.out⟩
theorem Om (p:aL) (w:World):Calls prog 57 #[tv p] w λe w'=>e = .returned (.func (Fn.func 90) #[] #[.pointer (some ⟨w.heap.size,0,none⟩)])/\Rg.Own w' w.heap.size #[.pointer p] 46/\Below w.heap.size w w':=by
 have dT:∀ (fn:Fn) (first cap:aO) (w:World),(Instr.makeFunc fn first cap).run prog w = .ok (.func fn first cap) w:=λ_ _ _ _=>rfl;have hO:=Rg.Own.new w #[.pointer p] 46;have hb:=al1 w (.cells #[.pointer p] 46);go_enter func57,ntmps57;go_wp2;go_ret;exact ⟨rfl,hO,hb⟩
theorem JO (into:Value) (g:Nat) (w:World) (hin:into.oneCell'=true):Calls prog 90 #[into,.pointer (some ⟨g,0,none⟩)] w λe w'=>e = .returned (.func (Fn.func 91) #[] #[.pointer (some ⟨g,0,none⟩),.pointer (some ⟨w.heap.size,0,none⟩)])/\Rg.Own w' w.heap.size #[into] 112/\Below w.heap.size w w':=by
 have dT:∀ (fn:Fn) (first cap:aO) (w:World),(Instr.makeFunc fn first cap).run prog w = .ok (.func fn first cap) w:=λ_ _ _ _=>rfl;have hO:=Rg.Own.new w #[into] 112;have hb:=al1 w (.cells #[into] 112);go_enter func90,ntmps90;go_wp2;go_ret;exact ⟨rfl,hO,hb⟩
def hv (h:Hdl):Value:=.slice h.1 h.2.1 h.2.2
def hd0:Hdl:=(none,0,0)
theorem Xb:(prog.info? 35).map (λi=>(i.zero,i.size,i.bytes))=some (some (.slice none 0 0),1,24):=by kernel_rfl
theorem CW:∃ i,prog.info? 35=some i/\i.zero=some (.slice none 0 0)/\i.size=1/\i.bytes=24:=by
 obtain ⟨i0,hi,hz,hs,hby⟩:=info_parts Xb;exact ⟨i0,hi,hz,hs,hby⟩
structure rD (B:Nat) (w:World) (v:Value) (hs:List Hdl) (l:List Pa):Prop where
 row:w.ownsRow B 35 1 v hs.length (hs.map hv)
 len:hs.length=l.length
 bs:∀ j,j<hs.length->BsP (λb=>B<=b/\v.ownBlock≠some b) w (hs.getD j hd0) (l.getD j [])
theorem rD.nil (B:Nat) (w:World):rD B w (.slice none 0 0) [] []:=⟨World.ownsRow_nil _ _ _ _,rfl,λj hj=>absurd hj (Nat.not_lt_zero _)⟩
theorem rD.keep {w w':World} {v:Value} {hs:List Hdl} {l:List Pa} (h:rD B w v hs l) (hz:w.heap.size<=w'.heap.size) (hk:∀ b,B<=b->b<w.heap.size->w'.heap[b]? = w.heap[b]?):rD B w' v hs l :=
 ⟨eX h.row λk e=>hk k (h.row.lt k e).1 (h.row.lt k e).2,h.len,λj hj=>(h.bs j hj).kept hz λb hb hlt=>hk b hb.1 hlt⟩
theorem rD.push {w w3:World} {v v':Value} {hs:List Hdl} {l:List Pa} {r:Hdl} {a:Pa} (h:rD B w v hs l) (hB:B<=w.heap.size) (hb:Below w.heap.size w w2) (hr:BsP (λb=>w.heap.size<=b) w2 r a)
  (hown:w3.ownsRow B 35 1 v' (hs.length+1) (hs.map hv++[hv r])) (hg:w2.grownBy w3 v.ownBlock) (hloc:v'.ownBlock=v.ownBlock\/v'.ownBlock=some w2.heap.size):rD B w3 v' (hs++[r]) (l++[a]):=by
 have hs2:=hb.size;have hv':∀ b,b<w2.heap.size->v.ownBlock≠some b->v'.ownBlock≠some b:=λb hlt hn=>by
  rcases hloc with e | e
  .rw [e]; exact hn
  .rw [e]; intro g; have:=Option.some.inj g; omega
 refine ⟨by rw [List.length_append,List.map_append]; exact hown,by rw [List.length_append,List.length_append,h.len]; rfl,λj hj=>?_⟩;by_cases hlt:j<hs.length
 .have e1:(hs++[r]).getD j hd0=hs.getD j hd0:=by simp [List.getD,List.getElem?_append_left hlt]
  have e2:(l++[a]).getD j []=l.getD j []:=by simp [List.getD,List.getElem?_append_left (show j<l.length by rw [<-h.len]; exact hlt)]
  rw [e1,e2];have h1:=(h.bs j hlt).kept hs2 λb _ hl=>hb.block b hl;have h2:BsP (λb=>(B<=b/\v.ownBlock≠some b)/\b<w2.heap.size) w2 (hs.getD j hd0) (l.getD j []):=h1.to λb hl hp=>⟨hp,hl⟩
  exact (h2.kept hg.size λb hp hl=>hg.block b hl λe=>hp.1.2 e.symm).to λb _ hp=>⟨hp.1.1,hv' b hp.2 hp.1.2⟩
 .have hj':j=hs.length:=by rw [List.length_append] at hj; simp at hj; omega
  subst hj';have e1:(hs++[r]).getD hs.length hd0=r:=by simp [List.getD]
  have e2:(l++[a]).getD hs.length []=a:=by rw [h.len]; simp [List.getD]
  rw [e1,e2];have T8:∀ b,w.heap.size<=b->v.ownBlock≠some b:=λb hb e=>by have:=(h.row.lt b e).2; omega
  have h2:BsP (λb=>w.heap.size<=b/\b<w2.heap.size) w2 r a:=hr.to λb hl hp=>⟨hp,hl⟩
  exact (h2.kept hg.size λb hp hl=>hg.block b hl λe=>T8 b hp.1 e.symm).to λb _ hp=>⟨by omega,hv' b hp.2 (T8 b hp.1)⟩
def sD (N:Nd) (a:Pa) (i:Nat):List Pa:=if (N.ks.getD i eB).size=0 then [] else [a++if N.kd=3 then [UInt8.ofNat i] else N.p]
def lM (N:Nd) (a:Pa) (j:Nat):List Pa:=((List.range j).map (sD N a)).flatten
theorem qw (N:Nd) (a:Pa) (j:Nat):lM N a (j+1)=lM N a j++sD N a j:=by
 unfold lM;rw [List.range_succ];simp
theorem Ez (N:Nd) (a:Pa):∀ j,(lM N a j).length<=j
 | 0=>aH
 | j+1=>by
  rw [qw,List.length_append];have:=Ez N a j;have:(sD N a j).length<=1:=by unfold sD; split <;> simp
  omega
theorem OE:List.range 16=(List.finRange 16).map (·.val):=by decide
theorem Jm (n i:Nat):(List.replicate n eB).getD i eB=eB:=by
 rw [List.getD_eq_getElem?_getD,List.getElem?_replicate];split <;> rfl
theorem OQ {x:Pl} (h:xQ x):lM (bg x.1) x.2.2 16=(eF x).map (·.2.2):=by
 obtain ⟨t,o,a⟩:=x;obtain ⟨L,hl,g,f,hn,ho⟩:=h;have hL:L<=64:=by omega
 unfold lM;rw [OE,List.map_map];have hz:∀ N:Nd,N.ks=zks->((List.finRange 16).map (sD N a ∘ λi=>i.val)).flatten=[]:=λN hN=>by
  have:(List.finRange 16).map (sD N a ∘ λi=>i.val)=(List.finRange 16).map λ_=>[]:=List.map_congr_left λi _=>by
   have hi:(N.ks.getD i.val eB).size=0:=by
    rw [hN];have:zks.getD i.val eB=eB:=Jm 16 _;rw [this]; rfl
   show sD N a i.val=[]
   unfold sD;rw [if_pos hi]
  rw [this];simp
 cases t with
 | nil=>exact hz _ rfl
 | leaf p v=>exact hz _ rfl
 | stub r=>exact hz _ rfl
 | ext q s =>
  have hs:(ref s).size≠0:=(IQ g.2.2.2.2 (by omega) f).2 (mE g.2.2.2.1);have e:(List.finRange 16).map (sD (bg (.ext q s)) a ∘ λi=>i.val)=(List.finRange 16).map λi=>if i.val=0 then [a++q] else []:=List.map_congr_left λi _=>by
   show sD _ a i.val=_;unfold sD;have hk:(bg (.ext q s)).ks.getD i.val eB=if i.val=0 then ref s else eB:=by
    show (ref s::List.replicate 15 eB).getD i.val eB=_;by_cases h0:i.val=0
    .rw [h0]; rfl
    .obtain ⟨j,hj⟩:∃ j,i.val=j+1:=⟨i.val-1,by omega⟩
     rw [hj,if_neg (by omega)];exact Jm 15 j
   rw [hk];by_cases h0:i.val=0
   .rw [if_pos h0,if_pos h0,if_neg hs];rfl
   .rw [if_neg h0,if_neg h0];rfl
  rw [e];rfl
 | br ks =>
  have hr:∀ i,(ref (ks i)).size≠0↔ks i ≠ .nil:=λi=>IQ (g.2.2 i) (by omega) (f i);show _=((dx ks).map λi=>(ks i,o+1,a++[dG i])).map (·.2.2);rw [List.map_map];have e:(List.finRange 16).map (sD (bg (.br ks)) a ∘ λi=>i.val)=(List.finRange 16).map λi=>if isNil (ks i) then [] else [a++[dG i]]:=List.map_congr_left λi _=>by
   show sD _ a i.val=_;unfold sD;have hk:(bg (.br ks)).ks.getD i.val eB=ref (ks i):=mJ (λi=>ref (ks i)) i;rw [hk];by_cases h0:ks i = .nil
   .rw [if_pos (fU.2 h0),if_pos (by rw [h0]; rfl)]
   .rw [if_neg (λk=>h0 (fU.1 k)),if_neg ((hr i).2 h0)];rfl
  rw [e];unfold dx;generalize List.finRange 16=l
  induction l with
  | nil=>rfl
  | cons i r ih =>
   rw [List.map_cons,List.flatten_cons,ih];by_cases h0:ks i = .nil
   .rw [if_pos (fU.2 h0),List.filter_cons_of_neg (by rw [fU.2 h0]; decide)];rfl
   .rw [if_neg (λk=>h0 (fU.1 k)),List.filter_cons_of_pos (by
     cases e:isNil (ks i) with
     | true=>exact absurd (fU.1 e) h0
     | false=>rfl)]
    rfl
end Tm
end
end Go.Proofs.YtokaiemgjngcoaaGreatDoor
