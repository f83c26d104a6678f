/-
 The contract of the laws' own Pairs.
-/
import Derived.Test.YtlcplcgigjagpaaGreatDoorSd13
open Go.Lib (hid)
open Go.Proofs.Tryz
set_option linter.unusedSimpArgs false
set_option linter.unusedVariables false
set_option maxHeartbeats 40000000
set_option maxRecDepth 100000
namespace Go.Proofs.YtlcplcgigjagpaaGreatDoor
variable {ops:Array Oper} {o:Oper} {B b2 g:Nat} {cs:aM} {v v' z:Value} {e ty:TypeId} {Q:Exit->Act->World->Prop} {ev:Operand->Value} {h1:aJ} {d:Int}
section
open Go.RowKit
namespace Tm
open Tr Ni Pk Ky
theorem qX {l:List Tr.Pair} {j:Nat} (hj:j<l.length) (ZD:j<24):fq (l.take (j+1))=fq (l.take j)++[FJ (l.getD j ([],eB))]:=by
 unfold fq;rw [List.take_take,List.take_take,show min 24 (j+1)=j+1 by omega,show min 24 j=j by omega,take_at hj,List.map_append];rfl
theorem NS {l:List Tr.Pair}:fq (l.take 24)=fq l:=by
 unfold fq;rw [List.take_take,Nat.min_self]
theorem yY (l:List Tr.Pair) (a:aJ) (n c:Nat) (w:World) (h:mq w a n c l) :
  Calls prog 5 #[.slice a n c] w (XQ w (fq l)):=by
 obtain ⟨i0,z0,hi,hz,hsz,hby,hzc⟩:=zV;have HI:Hid (_/\_/\_/\_/\_):=hid ⟨hi,hz,hsz,hby,hzc⟩;have hcap:=h.1;have hmx:=h.2.1;unfold maxLen at hmx;have H:=hid h;have HL:=hid h.len;clear h hi hz hsz hby hzc;go_enter func5,ntmps5;go_wp2_with fail
 go_loopw [3,4] (λv i wr=>∃ j:Nat,j<=n/\j<=24/\i = .int .i64 j/\Hid (wr.ownsRow w.heap.size 66 33 v (fq (l.take j)).length (rowP (fq (l.take j))))/\Hid (Below w.heap.size w wr)) (λ_ i _=>n-(intOf i).toNat)
 case atStart=>exact ⟨0,Nat.zero_le _,Nat.zero_le _,rfl,hid (World.ownsRow_nil _ _ _ _),hid aG⟩
 case round =>
  obtain ⟨j,hjn,N9,rfl,HR,HB⟩:=hrel;have hlen:(fq (l.take j)).length<=24:=Es _;by_cases hlt:j<n/\j<24
  .obtain ⟨hlt,qv⟩:=hlt;have i1:(j:Int)<n:=by omega
   have i2:(j:Int)<24:=by omega
   have HJ:Hid (j<l.length):=hid (by rw [HL.out]; exact hlt);obtain ⟨b,off,rfl,hblt,hpa,hk⟩:=H.out.at' j hlt;obtain ⟨x,hx⟩:=av (l.getD j ([],eB))
   rw [hx] at hpa hk;have HX:=hid hx;have vy:=hid (hpa.below HB.out);have hNew:=Rg.Own.new wr (gU (List.replicate 32 0,eB)) 66;have HN:=hid hNew;have HZ:Hid (((List.replicate 32 0,eB):Tr.Pair).1.length=32):=hid rfl;obtain ⟨k,v⟩:=x;have cV:Hid (k.length=32):=hid hk;clear hx hpa hk hNew hblt;by_cases hv0:v.size=0
   .obtain rfl:=No.dU hv0;have s1:decide ((100:Int)<(sv.size:Int))=false:=rfl;have HF:Hid (fq (l.take (j+1))=fq (l.take j)++[(k,sv)]):=hid (by rw [qX HJ.out qv,HX.out]; unfold FJ; simp [hv0]);go_wp2_with (first
     | (refine ay (gZ (x:=(k,eB)) cV.out vy.out ⟨_,rfl,rfl⟩) ?_)
     | (refine ay (lu _ _ _ wr.heap.size rfl rfl) ?_)
     | (refine jE HN.out HZ.out (k,eB) cV.out rfl _ _ rfl rfl rfl rfl ?_; intro w5 b8 ax; have bz:=hid b8; have ae:Hid (Below wr.heap.size wr w5):=hid (ax.below (al1 _ _) aF); have c32:w5.cell? ⟨wr.heap.size,32,none⟩=some (.string _):=(dx.own b8).val cV.out; clear b8 ax)
     | (refine ay (dZ c32 ⟨_,rfl,rfl⟩) ?_)
     | (refine ay (cZ cV.out (dx.own bz.out).key ⟨_,rfl,rfl⟩) ?_)
     | (refine ay (bK (oD k sv cV.out) ⟨_,rfl,rfl⟩) ?_)
     | (refine jE bz.out cV.out (k,sv) cV.out rfl _ _ rfl rfl rfl rfl ?_; intro w6 di ob; have cS:=hid di; have cq:Hid (Below wr.heap.size wr w6):=hid (ob.below ae.out aF); have ew:=hid (uQ HR.out cq.out); have U3:w6.cell? ⟨wr.heap.size,32,none⟩=some (.string _):=(dx.own di).val cV.out; clear di ob)
     | (refine ay (dZ U3 ⟨_,rfl,rfl⟩) ?_)
     | (refine ay (gZ (x:=(k,sv)) cV.out (dx.own cS.out) ⟨_,rfl,rfl⟩) ?_)
     | (refine ay (pF (x:=(k,sv)) cV.out _ rfl ⟨_,rfl,rfl⟩) ?_)
     | (at_builtin; refine wpList_append_own _ rfl _ _ 22 rfl w.heap.size 66 i0 z0 33 48 underlying22 HI.out.1 HI.out.2.1 HI.out.2.2.1 HI.out.2.2.2.1 HI.out.2.2.2.2 (by decide) _ _ _ rfl (ew.out.alloc _) ⟨_,0,none⟩ 1 1 (ji (k,sv)) rfl (fQ (x:=(k,sv)) cV.out) ?d1 (qJ _) ?d3 ?d4 ?d5 ?_))
    case d1 =>
     intro q u hu;first | (simpa [gU] using hu) | (rw [Addr.add_mid]; exact (dx.own (Rg.Own.new _ (gU (k,sv)) 66)) q u hu)
    case d3=>unfold maxLen; omega
    case d4=>omega
    case d5=>have:=HB.out.size; have:=cq.out.size; simp; omega
    intro v' w7 eV hgrow _;have hlt':=ew.out.lt;have cC:Hid (Below w.heap.size w w7):=hid (((bst HB.out cq.out).alloc (by have:=HB.out.size; have:=cq.out.size; omega) _).grown hgrow (by have:=HB.out.size; have:=cq.out.size; simp; omega) (λg hg=>(hlt' g hg).1));go_wp2;go_roundw
    case rel=>exact ⟨j+1,by omega,by omega,by go_num,hid (by rw [HF.out,uJ,List.length_append]; exact eV),cC⟩
    case measure=>simp [intOf]; omega
   .by_cases hv2:100<v.size
    .have hv1:=Ni.dz (s:=v) (by omega);have rL:(100:Int)<=(v.size:Int):=by omega
     have s1:decide ((100:Int)<(v.size:Int))=true:=aI (by omega);go_wp2_with (first
 | (refine ay (gZ (x:=(k,v)) cV.out vy.out ⟨_,rfl,rfl⟩) ?_)
      | (refine ay (lu _ _ _ wr.heap.size rfl rfl) ?_)
      | (refine jE HN.out HZ.out (k,v) cV.out rfl _ _ rfl rfl rfl rfl ?_; intro w5 b8 ax; have bz:=hid b8; have ae:Hid (Below wr.heap.size wr w5):=hid (ax.below (al1 _ _) aF); have c32:w5.cell? ⟨wr.heap.size,32,none⟩=some (.string _):=(dx.own b8).val cV.out; clear b8 ax)
      | (refine ay (dZ c32 ⟨_,rfl,rfl⟩) ?_)
     )
     have Nm:wr.heap.size<=wr.heap.size:=aF;have h0:=bz.out;refine aB (S:=λw'=>Below wr.heap.size wr w') (ae.out.drew) λhld=>?_;replace h0:=h0.drew;refine ah 0 ?_;try simp only [Act.put,ak]
     refine ah 2 ?_;try simp only [Act.put,ak]
     refine wpAnyH_ready (rs:=[1,3]) (by kernel_rfl) (by simp) ?_;refine Rg.readyC (i:=1) rfl (λK hK=>?_) (Rg.readyL (i:=3) rfl (λK hK=>?_))
     .refine Rg.meet (by rfl) _ _ (cZ cV.out (dx.own h0).key ?_) ?_
      .exact ⟨_,rfl,rfl⟩
      refine hK.out _ _ (hld) λhld=>?_;clear hK K;try simp only [Act.put,ak]
      refine aj 3 λK hK=>?_;refine Rg.meet (by rfl) _ _ (dZ (dx.val (dx.own h0) cV.out) ?_) ?_
      .exact ⟨_,rfl,rfl⟩
      refine hK.out _ _ (hld) λhld=>?_;clear hK K;try simp only [Act.put,ak]
      refine ah 4 ?_ (hy:=by intro wz hSw; (have q0:=rL; go_simp <;> with_reducible rfl));try simp only [Act.put,ak]
      refine ah 5 ?_ (hy:=by intro wz hSw; (refine bK (oD k (v.extract 0 100) cV.out) ?_; exact ⟨_,rfl,rfl⟩));try simp only [Act.put,ak]
      refine aj 6 λK hK=>?_;refine Rg.meetStore (by rfl) h0 66 (gU (k,v.extract 0 100)) ⟨_,_,rfl,rfl,rfl⟩ (vT cV.out) (by rw [kH cV.out,kH cV.out]) (yB _) ?_;rintro eq hn hu;refine hK.out _ _ ?_ (λhld=>?_)
      .exact hu.below hld Nm
      replace h0:=hn;clear hK K hn hu;try simp only [Act.put]
      refine aA ?_;have bz:=hid h0;have eW:Hid (Below wr.heap.size wr _):=hid hld;clear h0 hld;have HF:Hid (fq (l.take (j+1))=fq (l.take j)++[(k,v.extract 0 100)]):=hid (by rw [qX HJ.out qv,HX.out]; unfold FJ; simp [hv0,hv2]);have ew:=hid (uQ HR.out eW.out);go_wp2_with (first
       | (refine ay (gZ (x:=(k,v.extract 0 100)) cV.out (dx.own bz.out) ⟨_,rfl,rfl⟩) ?_)
       | (refine ay (pF (x:=(k,v.extract 0 100)) cV.out _ rfl ⟨_,rfl,rfl⟩) ?_)
       | (at_builtin; refine wpList_append_own _ rfl _ _ 22 rfl w.heap.size 66 i0 z0 33 48 underlying22 HI.out.1 HI.out.2.1 HI.out.2.2.1 HI.out.2.2.2.1 HI.out.2.2.2.2 (by decide) _ _ _ rfl (ew.out.alloc _) ⟨_,0,none⟩ 1 1 (ji (k,v.extract 0 100)) rfl (fQ (x:=(k,v.extract 0 100)) cV.out) ?d1 (qJ _) ?d3 ?d4 ?d5 ?_))
      case d1 =>
       intro q u hu;first | (simpa [gU] using hu) | (rw [Addr.add_mid]; exact (dx.own (Rg.Own.new _ (gU (k,v.extract 0 100)) 66)) q u hu)
      case d3=>unfold maxLen; omega
      case d4=>omega
      case d5=>have:=HB.out.size; have:=eW.out.size; simp; omega
      intro v' w7 eV hgrow _;have hlt':=ew.out.lt;have cC:Hid (Below w.heap.size w w7):=hid (((bst HB.out eW.out).alloc (by have:=HB.out.size; have:=eW.out.size; omega) _).grown hgrow (by have:=HB.out.size; have:=eW.out.size; simp; omega) (λg hg=>(hlt' g hg).1));go_wp2;go_roundw
      case rel=>exact ⟨j+1,by omega,by omega,by go_num,hid (by rw [HF.out,uJ,List.length_append]; exact eV),cC⟩
      case measure=>simp [intOf]; omega
     .refine Rg.meet (by rfl) _ _ (dZ (dx.val (dx.own h0) cV.out) ?_) ?_
      .exact ⟨_,rfl,rfl⟩
      refine hK.out _ _ (hld) λhld=>?_;clear hK K;try simp only [Act.put,ak]
      refine ah 4 ?_ (hy:=by intro wz hSw; (have q0:=rL; go_simp <;> with_reducible rfl));try simp only [Act.put,ak]
      refine aj 1 λK hK=>?_;refine Rg.meet (by rfl) _ _ (cZ cV.out (dx.own h0).key ?_) ?_
      .exact ⟨_,rfl,rfl⟩
      refine hK.out _ _ (hld) λhld=>?_;clear hK K;try simp only [Act.put,ak]
      refine ah 5 ?_ (hy:=by intro wz hSw; (refine bK (oD k (v.extract 0 100) cV.out) ?_; exact ⟨_,rfl,rfl⟩));try simp only [Act.put,ak]
      refine aj 6 λK hK=>?_;refine Rg.meetStore (by rfl) h0 66 (gU (k,v.extract 0 100)) ⟨_,_,rfl,rfl,rfl⟩ (vT cV.out) (by rw [kH cV.out,kH cV.out]) (yB _) ?_;rintro eq hn hu;refine hK.out _ _ ?_ (λhld=>?_)
      .exact hu.below hld Nm
      replace h0:=hn;clear hK K hn hu;try simp only [Act.put]
      refine aA ?_;have bz:=hid h0;have eW:Hid (Below wr.heap.size wr _):=hid hld;clear h0 hld;have HF:Hid (fq (l.take (j+1))=fq (l.take j)++[(k,v.extract 0 100)]):=hid (by rw [qX HJ.out qv,HX.out]; unfold FJ; simp [hv0,hv2]);have ew:=hid (uQ HR.out eW.out);go_wp2_with (first
       | (refine ay (gZ (x:=(k,v.extract 0 100)) cV.out (dx.own bz.out) ⟨_,rfl,rfl⟩) ?_)
       | (refine ay (pF (x:=(k,v.extract 0 100)) cV.out _ rfl ⟨_,rfl,rfl⟩) ?_)
       | (at_builtin; refine wpList_append_own _ rfl _ _ 22 rfl w.heap.size 66 i0 z0 33 48 underlying22 HI.out.1 HI.out.2.1 HI.out.2.2.1 HI.out.2.2.2.1 HI.out.2.2.2.2 (by decide) _ _ _ rfl (ew.out.alloc _) ⟨_,0,none⟩ 1 1 (ji (k,v.extract 0 100)) rfl (fQ (x:=(k,v.extract 0 100)) cV.out) ?d1 (qJ _) ?d3 ?d4 ?d5 ?_))
      case d1 =>
       intro q u hu;first | (simpa [gU] using hu) | (rw [Addr.add_mid]; exact (dx.own (Rg.Own.new _ (gU (k,v.extract 0 100)) 66)) q u hu)
      case d3=>unfold maxLen; omega
      case d4=>omega
      case d5=>have:=HB.out.size; have:=eW.out.size; simp; omega
      intro v' w7 eV hgrow _;have hlt':=ew.out.lt;have cC:Hid (Below w.heap.size w w7):=hid (((bst HB.out eW.out).alloc (by have:=HB.out.size; have:=eW.out.size; omega) _).grown hgrow (by have:=HB.out.size; have:=eW.out.size; simp; omega) (λg hg=>(hlt' g hg).1));go_wp2;go_roundw
      case rel=>exact ⟨j+1,by omega,by omega,by go_num,hid (by rw [HF.out,uJ,List.length_append]; exact eV),cC⟩
      case measure=>simp [intOf]; omega
    .have hv1:=Ni.dz (s:=v) (by omega);have s1:decide ((100:Int)<(v.size:Int))=false:=decide_eq_false (by omega);have HF:Hid (fq (l.take (j+1))=fq (l.take j)++[(k,v)]):=hid (by rw [qX HJ.out qv,HX.out]; unfold FJ; simp [hv0,hv2]);go_wp2_with (first
      | (refine ay (gZ (x:=(k,v)) cV.out vy.out ⟨_,rfl,rfl⟩) ?_)
      | (refine ay (lu _ _ _ wr.heap.size rfl rfl) ?_)
      | (refine jE HN.out HZ.out (k,v) cV.out rfl _ _ rfl rfl rfl rfl ?_; intro w5 b8 ax; have bz:=hid b8; have ae:Hid (Below wr.heap.size wr w5):=hid (ax.below (al1 _ _) aF); have ew:=hid (uQ HR.out ae.out); have c32:w5.cell? ⟨wr.heap.size,32,none⟩=some (.string _):=(dx.own b8).val cV.out; clear b8 ax)
      | (refine ay (dZ c32 ⟨_,rfl,rfl⟩) ?_)
      | (refine ay (gZ (x:=(k,v)) cV.out (dx.own bz.out) ⟨_,rfl,rfl⟩) ?_)
      | (refine ay (pF (x:=(k,v)) cV.out _ rfl ⟨_,rfl,rfl⟩) ?_)
      | (at_builtin; refine wpList_append_own _ rfl _ _ 22 rfl w.heap.size 66 i0 z0 33 48 underlying22 HI.out.1 HI.out.2.1 HI.out.2.2.1 HI.out.2.2.2.1 HI.out.2.2.2.2 (by decide) _ _ _ rfl (ew.out.alloc _) ⟨_,0,none⟩ 1 1 (ji (k,v)) rfl (fQ (x:=(k,v)) cV.out) ?d1 (qJ _) ?d3 ?d4 ?d5 ?_))
     case d1 =>
      intro q u hu;first | (simpa [gU] using hu) | (rw [Addr.add_mid]; exact (dx.own (Rg.Own.new _ (gU (k,v)) 66)) q u hu)
     case d3=>unfold maxLen; omega
     case d4=>omega
     case d5=>have:=HB.out.size; have:=ae.out.size; simp; omega
     intro v' w7 eV hgrow _;have hlt':=ew.out.lt;have cC:Hid (Below w.heap.size w w7):=hid (((bst HB.out ae.out).alloc (by have:=HB.out.size; have:=ae.out.size; omega) _).grown hgrow (by have:=HB.out.size; have:=ae.out.size; simp; omega) (λg hg=>(hlt' g hg).1));go_wp2;go_roundw
     case rel=>exact ⟨j+1,by omega,by omega,by go_num,hid (by rw [HF.out,uJ,List.length_append]; exact eV),cC⟩
     case measure=>simp [intOf]; omega
  .have af:Hid (fq (l.take j)=fq l):=hid (by
    rcases Nat.lt_or_ge j n with h1 | h1
    .obtain rfl:j=24:=by omega
     exact NS
    .obtain rfl:j=n:=by omega
     rw [List.take_of_length_le (by rw [HL.out]; exact aF)])
   have HK:=hid (Jz H.out.keys);have hf:¬ ((j:Int)<n/\(j:Int)<24):=by omega
   rw [af.out] at HR;rcases Nat.lt_or_ge j n with h1 | h1
   .obtain rfl:j=24:=by omega
    have i1:((24:Nat):Int)<n:=by omega
    go_wp2_with fail
    go_ret;exact AA.ps HK.out.1 ⟨_,rfl,HR.out,HB.out⟩
   .obtain rfl:j=n:=by omega
    go_wp2_with fail
    go_ret;exact AA.ps HK.out.1 ⟨_,rfl,HR.out,HB.out⟩
open No
open Rf
open Rl
open Sm (Tab)
theorem Df {rest:List Oper} {act:Go.Act} {w:World} {Q:Exit->Go.Act->World->Prop} {b:Nat} {k:aL} (h:Rg.Own w b (kc k) 25) (hk:k.length=32) (y:aL) (hy:y.length=32)
  (hgd:o.guard=none) (p q:Operand) (ho:o.op = .store 25 p q) (hp:act.eval p = .pointer (some ⟨b,0,none⟩)) (hq:act.eval q = .agg (kc y)) (hd:o.dst=none)
  (hQ:∀ w',Rg.Own w' b (kc y) 25->Rg.Upd w b w'->wpList prog ops Q rest act w'):wpList prog ops Q (o::rest) act w :=
 wpList_store_rowTo hgd 25 p q ho hd b _ hp hq 25 _ h.2 (rO y hy) (by rw [jX,jX,hk,hy]) (Ga _) (hQ _ ⟨by simp; exact h.1,setRow_heap _ _ _ _ _ _ h.2⟩ (Rg.Upd.set _ _ _))
section
variable {k:aL} {j:Nat}
end
theorem QE (q:aJ) (j:Nat) (a:aJ) (n c:Nat):(#[Value.pointer q]:aM)[j]? ≠ some (Value.slice a n c):=λh=>by
 match j,h with
 | 0,h=>simp at h
 | j+1,h=>simp at h
theorem cK.upd {w w':World} {q:aJ} {t:TypeId} {a:aJ} {n c:Nat} {l:List Tr.In} (h:cK w a n c l) (hu:Rg.Upd w g w') (ho:Rg.Own w g #[.pointer q] t):cK w' a n c l :=
 ⟨h.1,h.2.1,h.2.2.1,h.2.2.2.1,λj hj=>by
  obtain ⟨b,off,hd,e,hlt,hp,hb⟩:=h.at' j hj;have hne:b≠g:=by
   rintro rfl;exact QE q _ _ _ _ (mG ho.2 hp.1)
  exact ⟨b,off,hd,e,by rw [hu.size]; exact hlt,⟨by rw [World.cell?_of_block (hu.block b hne)]; exact hp.1,by rw [World.cell?_of_block (hu.block b hne)]; exact hp.2⟩,sN hb (eG ho (bX _)) hu⟩⟩
namespace U4
variable {w0:World} {M M':Mp} {w w':World} {b0 b1:Nat} {p p' q q':aJ} {t t' s s':T}
end U4
theorem Ks0.below {M:Mp} {lo:Nat} {w w':World} {a:aJ} {n c:Nat} {l:List T} (h:Ks0 M lo w a n c l) (hb:Below w.heap.size w w'):Ks0 M lo w' a n c l :=
 ⟨h.1,h.2.1,h.2.2.1,h.2.2.2.1,λj hj=>by
  obtain ⟨b,off,p,e,hlt,hf,hc,ht⟩:=h.2.2.2.2 j hj;exact ⟨b,off,p,e,aH hlt hb.size,hf,aV hb hc,ht⟩⟩
theorem Ks0.lo {M:Mp} {lo lo':Nat} {w:World} {a:aJ} {n c:Nat} {l:List T} (h:Ks0 M lo w a n c l) (hl:lo'<=lo):Ks0 M lo' w a n c l :=
 ⟨h.1,h.2.1,h.2.2.1,h.2.2.2.1,λj hj=>by
  obtain ⟨b,off,p,e,hlt,hf,hc,ht⟩:=h.2.2.2.2 j hj;exact ⟨b,off,p,e,hlt,hf.elim Or.inl (λh=>Or.inr (Nat.le_trans hl h)),hc,ht⟩⟩
theorem jD.ks0 {M:Mp} {lo:Nat} {w:World} {a:aJ} {n c:Nat} {ps:List (aJ)} {ts:List T} (h:jD w a n c ps) (hA:Are M ps ts) (hlo:∀ ad,a=some ad->lo<=ad.block):Ks0 M lo w a n c ts :=
 ⟨h.1,h.2.1,by rw [<-hA.1]; exact h.2.2.1,h.2.2.2.1,λj hj=>by
  obtain ⟨b,off,e,hlt,hc⟩:=h.2.2.2.2 j hj;exact ⟨b,off,_,e,hlt,Or.inr (hlo _ e),hc,hA.2 j (by rw [h.2.2.1]; exact hj)⟩⟩
theorem Tp (f:Fin 16->T) (j:Nat) (hj:j<16):(fH (.br f)).getD j .nil=f ⟨j,hj⟩:=by
 show ((List.finRange 16).map f).getD j .nil=_;rw [List.getD_eq_getElem?_getD,List.getElem?_map,List.getElem?_eq_getElem (by simpa using hj)];simp
theorem LP (M:Mp) (N:Nd) (hl:N.ks.length=16) (pa:aJ) (pn pc:Nat) (ps:List (aJ)) (ts:List T) (hA:Are M ps ts)
  (hkd:N.kd=1/\ts=[]\/N.kd=2/\(∃ s,ts=[s])\/N.kd=3/\ts.length=(bL N.ks).length) (ka:aJ) (kn kc:Nat) (w:World) (h:jD w ka kn kc ps) (hn:kn<=1000000) :
  Calls prog 152 #[.agg (ndC N pa pn pc),.slice ka kn kc] w λe w'=>∃ va vn vc,e = .returned (.slice va vn vc)/\Ks0 M w.heap.size w' va vn vc (fH (makeT N ts))/\Below w.heap.size w w':=by
 by_cases hk:N.kd=3
 .have hlen:ts.length=(bL N.ks).length:=by rcases hkd with ⟨h1,_⟩ | ⟨h1,_⟩ | ⟨_,h2⟩; omega; omega; exact h2
  have hpl:ps.length=kn:=h.2.2.1;refine (Qa N hk hl pa pn pc ps ka kn kc w h (by rw [<-hlen,<-hA.1,hpl])).mono ?_;rintro e w' ⟨g,rfl,hg,hO,hb⟩;have hm:makeT N ts = .br (EJ N.ks ts):=by unfold makeT; rw [if_neg (by omega),if_neg (by omega)]
  have h16:(gI N.ks ps 16).length=16:=iQ;have hks:=Ks0.row (M:=M) (lo:=w.heap.size) (l:=fH (makeT N ts)) hg hO (by rw [h16,hm]; simp [fH]) (by rw [h16]; unfold maxLen; omega) (λj hj=>by
   rw [h16] at hj;rw [Ml j hj,hm,Tp _ j hj];unfold zy EJ;by_cases h0:(N.ks.getD j eB).size=0
   .rw [if_pos h0,if_pos h0]; rfl
   .rw [if_neg h0,if_neg h0];by_cases hx:(bL (N.ks.take j)).length<ps.length
    .exact hA.2 _ hx
    .have e1:ps.getD (bL (N.ks.take j)).length none=none:=by rw [List.getD_eq_getElem?_getD,List.getElem?_eq_none (by omega)]; rfl
     have e2:ts.getD (bL (N.ks.take j)).length .nil = .nil:=by rw [List.getD_eq_getElem?_getD,List.getElem?_eq_none (by rw [<-hA.1]; omega)]; rfl
     rw [e1,e2];rfl)
  rw [h16] at hks;exact ⟨_,_,_,rfl,hks,hb⟩
 .refine (Fe N hk hl pa pn pc ps ka kn kc w h hn).mono ?_;rintro e w' ⟨v,rfl,hR,hb⟩;obtain ⟨a,c,rfl,hP,hlo⟩:=hR.ptrs;refine ⟨_,_,_,rfl,?_,hb⟩;have hm:fH (makeT N ts)=ts:=by
   unfold makeT;rcases hkd with ⟨h1,rfl⟩ | ⟨h1,s,rfl⟩ | ⟨h1,_⟩
   .rw [if_pos h1]; rfl
   .rw [if_neg (by omega),if_pos h1]; rfl
   .exact absurd h1 hk
  rw [hm];exact hP.ks0 hA hlo
theorem Kk (t:T) (k:Int) (v:aK) (hk:dG t=k) (hv:Fz t=v) (hs:¬ eX t) (a:aJ) (n c:Nat) (ka:aJ) (kn kc:Nat) :
  prog.built 108 [(0,.int .i64 k),(1,.slice a n c),(2,.string v),(3,.slice ka kn kc)]=some (iy t a n c ka kn kc 0 (Jk t)):=by
 subst hk hv;rw [MX hs];unfold iy;generalize dG t=k;generalize Fz t=v;kernel_rfl
structure Mk (N:Nd) (ts:List T):Prop where
 ks:N.ks.length=16
 may:fC bR N=true
 v:N.v.size<=maxLen
 pl:N.p.length<=64
 few:∀ k∈N.ks,k.size<=100
 fine:∀ s∈ts,∃ L,Tr.Good s L/\L<=64/\Fine s
 refs:bL N.ks=ts.map ref
 kd:N.kd=1/\ts=[]\/N.kd=2/\(∃ s,ts=[s]/\dG s≠1/\dG s≠2)\/N.kd=3/\ts.length=(bL N.ks).length
 k:dG (makeT N ts)=N.kd
 mv:Fz (makeT N ts)=N.v
 mp:bV (makeT N ts)=N.p
 ms:¬ eX (makeT N ts)
 mn:makeT N ts ≠ .nil
theorem Mk.kd' {N:Nd} {ts:List T} (h:Mk N ts):N.kd=1/\ts=[]\/N.kd=2/\(∃ s,ts=[s])\/N.kd=3/\ts.length=(bL N.ks).length:=by
 rcases h.kd with h | ⟨h,s,e,_⟩ | h
 .exact .inl h
 .exact .inr (.inl ⟨h,s,e⟩)
 .exact .inr (.inr h)
theorem QL {N:Nd} (hl:N.ks.length=16) (hmay:fC bR N=true) (hv:N.v.size<=maxLen) (hks:∀ k∈N.ks,k.size<=100) (a:aJ) (n c:Nat) (w:World) (hB:bA w a n c N.p) :
  Calls prog 70 #[.agg (ndC N a n c)] w λe w'=>e = .returned (.int .i64 0)/\Below w.heap.size w w':=by
 have:=qG N a n c hl w hB hv (λk hk=>No.lK k (by have:=hks k hk; omega));rw [hmay] at this;exact this
end Tm
end
section
open Go.RowKit
namespace No
open Rl Ni
end No
end
section
open Go.RowKit
namespace Rl
end Rl
end
section
open Go.RowKit
namespace No
open Ni
open Rl
end No
end
section
open Go.RowKit
namespace Tm
open Tr Ni Pk Ky No Rf Rl
open Sm (Tab)
theorem qL {ks:Fin 16->T} {s:T} (h:s∈(eH ks).map ks):∃ i,s=ks i/\ks i ≠ .nil:=by
 obtain ⟨i,hi,rfl⟩:=List.mem_map.1 h;refine ⟨i,rfl,λe=>?_⟩;have:=(List.mem_filter.1 hi).2;rw [cO.2 e] at this;cases this
theorem kL {t:T} {L:Nat} (g:Tr.Good t L) (f:Fine t):∀ s∈bC t,s ≠ .nil/\Fine s/\(Tr.Full t->Tr.Full s)/\∃ L',L'<L/\Tr.Good s L':=by
 intro s hs;cases t with
 | nil=>cases hs
 | leaf p v=>cases hs
 | stub r=>cases hs
 | ext q u =>
  obtain rfl:s=u:=by
   have:s∈[u]:=hs;simpa using this
  obtain ⟨g1,_,g3,g4,g5⟩:=g;have hq:0<q.length:=List.length_pos_iff.2 g1;exact ⟨pQ g4,f,λh=>h,L-q.length,by omega,g5⟩
 | br ks =>
  obtain ⟨i,rfl,hn⟩:=qL hs;obtain ⟨g1,_,g3⟩:=g;exact ⟨hn,f i,λh=>h i,L-1,by omega,g3 i⟩
theorem Ra {t:T} (hs:¬ eX t):dG t=(bM t).kd/\Fz t=(bM t).v/\bV t=(bM t).p:=by
 cases t with
 | stub r=>exact absurd trivial hs
 | _=>exact ⟨rfl,rfl,rfl⟩
theorem Zx {t:T} {L:Nat} (g:Tr.Good t L) (hL:L<=64) (f:Fine t) (hn:t ≠ .nil) (hs:¬ eX t) {ts:List T} (hr:ts.map ref=(bC t).map ref) (hf:∀ s∈ts,∃ L,Tr.Good s L/\L<=64/\Fine s)
  (hk:∀ q s,t = .ext q s->∀ u∈ts,dG u≠1/\dG u≠2) {t':T} (hm:makeT (bM t) ts=t') (hx:bM t'=bM t) (hs':¬ eX t') (hn':t' ≠ .nil):Mk (bM t) ts:=by
 obtain ⟨h1,_,_,h4,h5,h6⟩:=xR g hL f hn hs;have hrf:bL (bM t).ks=ts.map ref:=by rw [hr]; exact EF g hL f
 have hlen:ts.length=(bC t).length:=by have:=congrArg List.length hr; simpa using this
 obtain ⟨k1,k2,k3⟩:=Ra hs';refine ⟨dP t,h1,h4,h5,h6,hf,hrf,?_,by rw [hm,k1,hx],by rw [hm,k2,hx],by rw [hm,k3,hx],by rw [hm]; exact hs',by rw [hm]; exact hn'⟩;cases t with
 | nil=>exact absurd rfl hn
 | stub r=>exact absurd trivial hs
 | leaf p v=>exact .inl ⟨rfl,List.eq_nil_of_length_eq_zero hlen⟩
 | ext q u =>
  have h1:ts.length=1:=hlen;obtain ⟨s,rfl⟩:=List.length_eq_one_iff.1 h1;exact .inr (.inl ⟨rfl,s,rfl,hk q u rfl s (by simp)⟩)
 | br ks=>exact .inr (.inr ⟨rfl,by rw [hrf,List.length_map]⟩)
theorem Cj (t:T):(bC t).length<=16:=by
 cases t with
 | ext q s=>show 1<=16; omega
 | br ks =>
  show ((eH ks).map ks).length<=16;rw [List.length_map];exact Nat.le_trans (List.length_filter_le _ _) (by simp)
 | _=>exact Nat.zero_le _
namespace U5
variable {w0:World} {M M':Mp} {w w':World} {bk bt:Nat} {K:aL} {p p':aJ} {t t':T}
end U5
namespace U6
variable {w0:World} {M M':Mp} {w w':World} {bk bt:Nat} {K:aL} {p:aJ} {t:T} {bn:Nat} {N:Nd} {a:aJ} {n c:Nat} {ka:aJ} {ZQ:Nat} {ps:List (aJ)}
end U6
end Tm
end
section
namespace Tr
open Rf Rl Ni No
theorem mh (L:Nat):build L [] = .nil:=by rw [build]
end Tr
end
section
namespace Tm
open Tr Rf Rl Ni No
theorem DL:∀ l:List Tr.In,((List.finRange 16).map λc=>(bB l c).length).sum<=l.length
 | []=>by
  have e:((List.finRange 16).map λc=>(bB [] c).length)=(List.finRange 16).map λ_=>0:=rfl;rw [e];decide
 | x::r=>by
  have ih:=DL r;have key:∀ (cs:List (Fin 16)),cs.Nodup->(cs.map λc=>(bB (x::r) c).length).sum<=(cs.map λc=>(bB r c).length).sum+if ∃ c∈cs,(x.1.getD 0 0).toNat=c.val then 1 else 0:=by
   intro cs
   induction cs with
   | nil=>intro _; simp
   | cons c cs ih2 =>
    intro hd;obtain ⟨hc,hd'⟩:=List.nodup_cons.1 hd;have i2:=ih2 hd';rw [List.map_cons,List.map_cons,List.sum_cons,List.sum_cons];by_cases h:(x.1.getD 0 0).toNat=c.val
    .have h1:(bB (x::r) c).length=(bB r c).length+1:=by
      unfold bB;rw [List.filter_cons,if_pos (by simpa using h)];rfl
     have h2:¬ ∃ d∈cs,(x.1.getD 0 0).toNat=d.val:=λ⟨d,hd,e⟩=>hc (by
      have:c=d:=Fin.ext (by omega);rw [this]; exact hd)
     rw [if_neg h2] at i2;rw [if_pos ⟨c,List.mem_cons_self,h⟩,h1];omega
    .have h1:(bB (x::r) c).length=(bB r c).length:=by
      unfold bB;rw [List.filter_cons,if_neg (by simpa using h)]
     rw [h1];by_cases h2:∃ d∈cs,(x.1.getD 0 0).toNat=d.val
     .obtain ⟨d,hd,e⟩:=h2;rw [if_pos ⟨d,hd,e⟩] at i2;rw [if_pos ⟨d,List.mem_cons_of_mem _ hd,e⟩];omega
     .rw [if_neg h2] at i2;omega
  have:=key (List.finRange 16) (List.nodup_finRange 16);rw [List.length_cons];split at this <;> omega
theorem xW:∀ (L:Nat) (l:List Tr.In),Ok L l->(lq (build L l)).length<=(L+1)*l.length:=by
 intro L
 induction L using Nat.strongRecOn with
 | ind L ih =>
  intro l ok
  match l,ok with
  | [],_=>rw [build]; exact Nat.zero_le _
  | [x],_ =>
   rw [build];show 1<=(L+1)*1;omega
  | x::y::r,ok =>
   have hcl:=kV ok;rw [build];by_cases h:0<bI (x::y::r)/\0<L
   .rw [dif_pos h];have i1:=ih (L-bI (x::y::r)) (by omega) (bD (x::y::r) (bI (x::y::r))) (uN ok (by omega) (λa ha b hb=>by rw [iG ha,iG hb]));show (lq _).length+1<=_;have e:(bD (x::y::r) (bI (x::y::r))).length=(x::y::r).length:=by unfold bD; rw [List.length_map]
    rw [e] at i1;have h2:(L-bI (x::y::r)+1)*(x::y::r).length<=L*(x::y::r).length:=Nat.mul_le_mul_right _ (by omega);have h3:2<=(x::y::r).length:=by simp
    have h4:(L+1)*(x::y::r).length=L*(x::y::r).length+(x::y::r).length:=Nat.succ_mul _ _;omega
   .rw [dif_neg h];by_cases h2:0<L
    .rw [dif_pos h2];show ((List.finRange 16).map λi=>lq (build (L-1) (bD (bB (x::y::r) i) 1))).flatten.length+1<=_;have hb:∀ cs:List (Fin 16),(cs.map λi=>lq (build (L-1) (bD (bB (x::y::r) i) 1))).flatten.length<=L*(cs.map λc=>(bB (x::y::r) c).length).sum:=by
      intro cs
      induction cs with
      | nil=>exact Nat.zero_le _
      | cons c cs ih2 =>
       have i1:=ih (L-1) (by omega) (bD (bB (x::y::r) c) 1) (nC ok h2 c);have e:(bD (bB (x::y::r) c) 1).length=(bB (x::y::r) c).length:=by unfold bD; rw [List.length_map]
       rw [e,show L-1+1=L by omega] at i1;rw [List.map_cons,List.map_cons,List.flatten_cons,List.sum_cons,List.length_append,Nat.mul_add];omega
     have h3:=hb (List.finRange 16);have h4:=DL (x::y::r);have h5:L*((List.finRange 16).map λc=>(bB (x::y::r) c).length).sum<=L*(x::y::r).length:=Nat.mul_le_mul_left _ h4;have h6:(L+1)*(x::y::r).length=L*(x::y::r).length+(x::y::r).length:=Nat.succ_mul _ _;have h7:2<=(x::y::r).length:=by simp
     omega
    .rw [dif_neg h2];exact Nat.zero_le _
end Tm
end
section
namespace Tr
open Rf Rl Ni No
theorem zm {L:Nat} {l:List In} (ok:Ok L l) (hne:l≠[]) :
  (∃ p v,build L l = .leaf p v)\/
  (∃ K q,0<K/\K<=L/\q.length=K/\build L l = .ext q (build (L-K) (bD l K))/\Ok (L-K) (bD l K))\/
  (0<L/\build L l = .br λd=>build (L-1) (bD (bB l d) 1)):=by
 match l,hne with
 | [x],_ =>
  rw [build];exact .inl ⟨_,_,rfl⟩
 | x::y::r,_ =>
  have hcl:=kV ok;have hxl:=(ok.1 x List.mem_cons_self).1;rw [build];by_cases h:0<bI (x::y::r)/\0<L
  .rw [dif_pos h];refine .inr (.inl ⟨bI (x::y::r),_,h.1,by omega,?_,rfl,uN ok (by omega) (λz hz z' hz'=>by rw [iG hz,iG hz'])⟩);rw [List.length_take];omega
  .rw [dif_neg h,dif_pos (by omega)];exact .inr (.inr ⟨by omega,rfl⟩)
theorem pO {α β γ:Type} {f : α->List β} {g : α->List γ}:∀ (l:List α),(∀ i∈l,(f i).length<=(g i).length)->((l.map f).flatten).length<=((l.map g).flatten).length
 | [],_=>aF
 | x::l,h=>by
  have h1:=h x List.mem_cons_self;have h2:=pO l λi hi=>h i (List.mem_cons_of_mem _ hi);simp only [List.map_cons,List.flatten_cons,List.length_append];omega
theorem Eh {t:T} (f:Full t) (h:t ≠ .nil):1<=(lq t).length:=by
 cases t with
 | nil=>exact absurd rfl h
 | stub r=>exact f.elim
 | leaf p v=>exact aF
 | ext q t=>exact Nat.succ_le_succ (Nat.zero_le _)
 | br ks=>exact Nat.succ_le_succ (Nat.zero_le _)
theorem wX:∀ (t:T) (d:Nat),Full t->(jN d t).length<=(lq t).length
 | .nil,_,_=>Nat.zero_le _
 | .leaf _ _,_,_=>Nat.zero_le _
 | .stub _,_,f=>f.elim
 | .ext q s,d,f=>by
  show (if d<=1/\(ref s).size=32 then [ref s] else jN (d-1) s).length<=(lq s).length+1;by_cases h:d<=1/\(ref s).size=32
  .rw [if_pos h];show 1<=_;omega
  .rw [if_neg h];have:=wX s (d-1) f;omega
 | .br ks,d,f=>by
  show (((List.finRange 16).map λi=>if d<=1/\(ref (ks i)).size=32 then [ref (ks i)] else jN (d-1) (ks i)).flatten).length<=(((List.finRange 16).map λi=>lq (ks i)).flatten).length+1;refine Nat.le_succ_of_le (pO _ λi _=>?_);by_cases h:d<=1/\(ref (ks i)).size=32
  .rw [if_pos h];exact Eh (f i) (nI h.2)
  .rw [if_neg h];exact wX (ks i) (d-1) (f i)
theorem xJ:∀ (t:T) (ws:List Pa),Full t->(jO ws t).length<=(lq t).length
 | .nil,_,_=>Nat.zero_le _
 | .leaf _ _,_,_=>Nat.zero_le _
 | .stub _,_,f=>f.elim
 | .ext q s,ws,f=>by
  show (if onP q ws=[]/\(ref s).size=32 then [ref s] else jO (onP q ws) s).length<=(lq s).length+1;by_cases h:onP q ws=[]/\(ref s).size=32
  .rw [if_pos h];show 1<=_;omega
  .rw [if_neg h];have:=xJ s (onP q ws) f;omega
 | .br ks,ws,f=>by
  show (((List.finRange 16).map λi=>if onC i.val ws=[]/\(ref (ks i)).size=32 then [ref (ks i)] else jO (onC i.val ws) (ks i)).flatten).length<=(((List.finRange 16).map λi=>lq (ks i)).flatten).length+1;refine Nat.le_succ_of_le (pO _ λi _=>?_);by_cases h:onC i.val ws=[]/\(ref (ks i)).size=32
  .rw [if_pos h];exact Eh (f i) (nI h.2)
  .rw [if_neg h];exact xJ (ks i) (onC i.val ws) (f i)
theorem VK (q:Pa) (a b:List Pa):onP q (a++b)=onP q a++onP q b:=by simp [onP]
theorem Ws (c:Nat) (a b:List Pa):onC c (a++b)=onC c a++onC c b:=by simp [onC]
theorem Xg (q w:Pa):onP q [w]=if q<+:w then [w.drop q.length] else []:=by
 unfold onP;by_cases h:q<+:w
 .simp [h]
 .simp [h]
theorem VJ (c:Nat) (w:Pa):onC c [w]=if w≠[]/\(w.headD 0).toNat=c then [w.tail] else []:=by
 unfold onC;by_cases h:w≠[]/\(w.headD 0).toNat=c
 .rw [if_pos h,List.filter_cons_of_pos (p:=λw:Pa=>decide (w≠[]/\(w.headD 0).toNat=c)) (aI h)];rfl
 .rw [if_neg h,List.filter_cons_of_neg (p:=λw:Pa=>decide (w≠[]/\(w.headD 0).toNat=c)) (λe=>h (of_decide_eq_true e))];rfl
theorem Jq (q:Pa) (ws:List Pa) {j:Nat} (h:j<ws.length):onP q (ws.take (j+1))=onP q (ws.take j)++if q<+:ws.getD j [] then [(ws.getD j []).drop q.length] else []:=by
 rw [List.take_succ_eq_append_getElem h,VK,Xg];simp [List.getD,h]
theorem RZ (c:Nat) (ws:List Pa) {j:Nat} (h:j<ws.length):onC c (ws.take (j+1))=onC c (ws.take j)++if ws.getD j []≠[]/\((ws.getD j []).headD 0).toNat=c then [(ws.getD j []).tail] else []:=by
 rw [List.take_succ_eq_append_getElem h,Ws,VJ];have e:ws.getD j []=ws[j]:=by simp [List.getD,h]
 rw [e]
theorem Gm (q:Pa) (ws:List Pa):(onP q ws).length<=ws.length:=by
 unfold onP;rw [List.length_map];exact List.length_filter_le _ _
theorem RL (c:Nat) (ws:List Pa):(onC c ws).length<=ws.length:=by
 unfold onC;rw [List.length_map];exact List.length_filter_le _ _
end Tr
end
section
open Go.RowKit
namespace Sx
open Tr Rf Rl Ni No Tm
def oK (i:Fin 16):Pa:=[UInt8.ofNat i.val]
def dK:T->List Pa
 | .ext q _=>[q]
 | .br ks=>(eH ks).map oK
 | _=>[]
def rW (F:Pa->T->T):T->T
 | .ext q s=>.ext q (F q s)
 | .br ks=>.br λi=>if isNil (ks i) then .nil else F (oK i) (ks i)
 | t=>t
def sS (F:Pa->T->T):T->List T
 | .ext q s=>[F q s]
 | .br ks=>(eH ks).map λi=>F (oK i) (ks i)
 | _=>[]
def jQ (C:Pa->T->Nat) (t:T) (j:Nat):Nat:=((List.range j).map λi=>C ((dK t).getD i []) ((bC t).getD i .nil)).sum
theorem Qq (C:Pa->T->Nat) (t:T) (j:Nat):jQ C t (j+1)=jQ C t j+C ((dK t).getD j []) ((bC t).getD j .nil):=by
 unfold jQ;rw [List.range_succ,List.map_append,List.sum_append];simp
theorem wY (F:Pa->T->T) (t:T):(sS F t).length=(bC t).length:=by
 cases t with
 | br ks=>simp [sS,bC]
 | _=>rfl
theorem getD_map {α β:Type} (f : α->β) (l:List α) (d : β) (j:Nat) (hj:j<l.length):(l.map f).getD j d=f l[j]:=by
 rw [List.getD_eq_getElem?_getD,List.getElem?_map,List.getElem?_eq_getElem hj];rfl
theorem Fq (F:Pa->T->T) (t:T) (j:Nat) (hj:j<(bC t).length):(sS F t).getD j .nil=F ((dK t).getD j []) ((bC t).getD j .nil):=by
 cases t with
 | nil=>cases hj
 | leaf p v=>cases hj
 | stub r=>cases hj
 | ext q s =>
  obtain rfl:j=0:=by
   have:j<1:=hj;omega
  rfl
 | br ks =>
  have h1:j<(eH ks).length:=by simpa [bC] using hj
  show ((eH ks).map _).getD j .nil=F (((eH ks).map oK).getD j []) (((eH ks).map ks).getD j .nil);rw [getD_map _ _ _ _ h1,getD_map _ _ _ _ h1,getD_map _ _ _ _ h1]
def OkF (F:Pa->T->T) (C:Pa->T->Nat) (t:T):Prop:=∀ j,j<(bC t).length->
 ref (F ((dK t).getD j []) ((bC t).getD j .nil))=ref ((bC t).getD j .nil)/\(∃ L,Tr.Good (F ((dK t).getD j []) ((bC t).getD j .nil)) L/\L<=64/\Fine (F ((dK t).getD j []) ((bC t).getD j .nil)))/\
 (C ((dK t).getD j []) ((bC t).getD j .nil)=0->F ((dK t).getD j []) ((bC t).getD j .nil)=(bC t).getD j .nil)/\
 ((bM t).kd=2->dG (F ((dK t).getD j []) ((bC t).getD j .nil))≠1/\dG (F ((dK t).getD j []) ((bC t).getD j .nil))≠2)
theorem SV {ks:Fin 16->T} {i:Fin 16} (h:ks i ≠ .nil):rank ks i<(bC (.br ks)).length/\(bC (.br ks)).getD (rank ks i) .nil=ks i/\(dK (.br ks)).getD (rank ks i) []=oK i:=by
 have h1:=VF h;have h2:(eH ks)[rank ks i]=i:=by
  have:=yI h;rw [List.getElem?_eq_getElem h1] at this;exact Option.some.inj this
 refine ⟨by simpa [bC] using h1,?_,?_⟩
 .show ((eH ks).map ks).getD _ _=_;rw [getD_map _ _ _ _ h1,h2]
 .show ((eH ks).map oK).getD _ _=_;rw [getD_map _ _ _ _ h1,h2]
theorem UR {F:Pa->T->T} {C:Pa->T->Nat} {t:T} (h:OkF F C t):bM (rW F t)=bM t:=by
 cases t with
 | nil=>rfl
 | leaf p v=>rfl
 | stub r=>rfl
 | ext q s =>
  have:=(h 0 (by show 0<1; omega)).1;show (⟨2,q,eB,eZ (ref (F q s))⟩:Nd)=⟨2,q,eB,eZ (ref s)⟩
  rw [show ref (F q s)=ref s from this]
 | br ks =>
  show (⟨3,[],eB,dn λi=>ref (if isNil (ks i) then .nil else F (oK i) (ks i))⟩:Nd)=⟨3,[],eB,dn λi=>ref (ks i)⟩
  congr 2;funext i;cases hi:isNil (ks i) with
  | true=>rw [if_pos rfl,cO.1 hi]
  | false =>
   have hne:ks i ≠ .nil:=λe=>by rw [cO.2 e] at hi; cases hi
   obtain ⟨h1,h2,h3⟩:=SV hne;have:=(h _ h1).1;rw [h2,h3] at this;rw [if_neg (by decide),this]
theorem JL {F:Pa->T->T} {t:T} {L:Nat} (g:Tr.Good t L) (hL:L<=64) (f:Fine t) (hn:t ≠ .nil) (hs:¬ eX t):makeT (bM t) (sS F t)=rW F t:=by
 cases t with
 | nil=>exact absurd rfl hn
 | leaf p v=>rfl
 | stub r=>exact absurd trivial hs
 | ext q s=>rfl
 | br ks =>
  have h:∀ i,(ref (ks i)).size≠0↔ks i ≠ .nil:=λi=>mX (g.2.2 i) (by omega) (f i);show T.br (EJ (dn λi=>ref (ks i)) ((eH ks).map λi=>F (oK i) (ks i))) = .br _;congr 1;funext i;rw [Oc h];cases hi:isNil (ks i) with
  | true=>rw [if_pos rfl,if_pos rfl]
  | false =>
   have hne:ks i ≠ .nil:=λe=>by rw [cO.2 e] at hi; cases hi
   rw [if_neg (by decide),if_neg (by decide),List.getD_eq_getElem?_getD,List.getElem?_map,yI hne];rfl
theorem Hq {F:Pa->T->T} {t s:T} (h:s∈sS F t):∃ j,j<(bC t).length/\s=F ((dK t).getD j []) ((bC t).getD j .nil):=by
 obtain ⟨j,hj,rfl⟩:=List.getElem_of_mem h;have hj':=hj;rw [wY] at hj';refine ⟨j,hj',?_⟩;rw [<-Fq F t j hj',List.getD_eq_getElem?_getD,List.getElem?_eq_getElem hj];rfl
theorem Yk {F:Pa->T->T} {C:Pa->T->Nat} {t:T} {L:Nat} (g:Tr.Good t L) (hL:L<=64) (f:Fine t) (hn:t ≠ .nil) (hs:¬ eX t) (h:OkF F C t):Mk (bM t) (sS F t):=by
 refine Zx g hL f hn hs ?_ (λs hm=>?_) (λq s e u hu=>?_) (JL g hL f hn hs) (UR h) ?_ ?_
 .apply List.ext_getElem
  .simp [wY]
  .intro j h1 h2;have hj:j<(bC t).length:=by simpa using h2
   have hj2:j<(sS F t).length:=by rw [wY]; exact hj
   have e1:(sS F t)[j]=(sS F t).getD j .nil:=by rw [List.getD_eq_getElem?_getD,List.getElem?_eq_getElem hj2]; rfl
   have e2:(bC t)[j]=(bC t).getD j .nil:=by rw [List.getD_eq_getElem?_getD,List.getElem?_eq_getElem hj]; rfl
   rw [List.getElem_map,List.getElem_map,e1,e2,Fq F t j hj];exact (h j hj).1
 .obtain ⟨j,hj,rfl⟩:=Hq hm;exact (h j hj).2.1
 .obtain ⟨j,hj,rfl⟩:=Hq hu;exact (h j hj).2.2.2 (by rw [e]; rfl)
 .cases t with
  | stub r=>exact absurd trivial hs
  | _=>exact λh=>h
 .cases t with
  | nil=>exact absurd rfl hn
  | _=>intro e; cases e
theorem oq:∀ {l:List Nat},l.sum=0->∀ x∈l,x=0
 | [],_,x,h=>by cases h
 | y::l,h,x,hx=>by
  rw [List.sum_cons] at h;rcases List.mem_cons.1 hx with rfl | hx
  .omega
  .exact oq (l:=l) (by omega) x hx
theorem Rm {F:Pa->T->T} {C:Pa->T->Nat} {t:T} (h:OkF F C t) (hz:jQ C t (bC t).length=0):rW F t=t:=by
 have h0:∀ j,j<(bC t).length->F ((dK t).getD j []) ((bC t).getD j .nil)=(bC t).getD j .nil:=λj hj=>(h j hj).2.2.1 (oq hz _ (List.mem_map.2 ⟨j,List.mem_range.2 hj,rfl⟩));cases t with
 | nil=>rfl
 | leaf p v=>rfl
 | stub r=>rfl
 | ext q s =>
  show T.ext q (F q s) = .ext q s;rw [show F q s=s from h0 0 (by show 0<1; omega)]
 | br ks =>
  show T.br _ = .br ks;congr 1;funext i;cases hi:isNil (ks i) with
  | true=>rw [if_pos rfl]; exact (cO.1 hi).symm
  | false =>
   have hne:ks i ≠ .nil:=λe=>by rw [cO.2 e] at hi; cases hi
   obtain ⟨h1,h2,h3⟩:=SV hne;have:=h0 _ h1;rw [h2,h3] at this;rw [if_neg (by decide),this]
theorem Ct {α:Type} (p : α->Bool) (g : α->Nat):∀ l:List α,(∀ i∈l,p i=false->g i=0)->((l.filter p).map g).sum=(l.map g).sum
 | [],_=>rfl
 | x::l,h=>by
  have ih:=Ct p g l λi hi=>h i (List.mem_cons_of_mem _ hi);cases hp:p x with
  | true=>rw [List.filter_cons_of_pos hp,List.map_cons,List.map_cons,List.sum_cons,List.sum_cons,ih]
  | false =>
   rw [List.filter_cons_of_neg (by rw [hp]; decide),List.map_cons,List.sum_cons,ih,h x List.mem_cons_self hp];omega
theorem TD (C:Pa->T->Nat) (ks:Fin 16->T):jQ C (.br ks) (bC (.br ks)).length=((List.finRange 16).map λi=>if isNil (ks i) then 0 else C (oK i) (ks i)).sum:=by
 have h1:((List.range (bC (.br ks)).length).map λi=>C ((dK (.br ks)).getD i []) ((bC (.br ks)).getD i .nil))=(eH ks).map λi=>C (oK i) (ks i):=by
  apply List.ext_getElem
  .simp [bC]
  .intro j a b;have hj:j<(eH ks).length:=by simpa using b
   rw [List.getElem_map,List.getElem_map,List.getElem_range];show C (((eH ks).map oK).getD j []) (((eH ks).map ks).getD j .nil)=_;rw [getD_map _ _ _ _ hj,getD_map _ _ _ _ hj]
 unfold jQ;rw [h1,<-Ct (λi=>!isNil (ks i)) _ (List.finRange 16) (λi _ hp=>by
  have hi:isNil (ks i)=true:=by simpa using hp
  rw [hi]; rfl)]
 show ((eH ks).map _).sum=((eH ks).map _).sum;congr 1;apply List.map_congr_left;intro i hi;have hne:=Tr.qL.1 hi;rw [if_neg (λe=>hne (cO.1 e))]
theorem MZ (C:Pa->T->Nat) (q:Pa) (s:T):jQ C (.ext q s) (bC (.ext q s)).length=C q s:=by
 show (List.map _ (List.range 1)).sum=_;simp [dK,bC,List.range_succ]
theorem Rk {k:aK} (h:k.size=32):32<=(dY k).bytes.length:=by
 have hp:dF k=true:=aI (.inr h);unfold dY;rw [if_pos hp];have h1:=Rl.lC (It.mk false k []);rw [Rl.inner_mk] at h1;have h2:k.data.toList.length=k.size:=Rl.je k;simp only [List.map_nil,List.flatten_nil,List.append_nil] at h1;omega
theorem JA {α β:Type} {f : α->List β} {x : α}:∀ {l:List α},x∈l->(f x).length<=((l.map f).flatten).length
 | y::l,h=>by
  rw [List.map_cons,List.flatten_cons,List.length_append];rcases List.mem_cons.1 h with rfl | h
  .omega
  .have:=JA (f:=f) h;omega
theorem Np {N:Nd} {k:aK} (h:dY k∈bS N) (hk:k.size=32):32<=(jU N).length:=by
 have h1:=Rl.lC (gy N);unfold gy at h1;rw [Rl.inner_mk,List.length_append] at h1;have h2:=JA (f:=It.bytes) h;have h3:=Rk hk;unfold jU gy;omega
theorem Af {N:Nd} (h:32<=(jU N).length):(ofP (jZ N)).size=32:=by
 have h1:=yC N;unfold ofP;rw [if_neg (by omega)];have:(⟨(xk (jZ N)).toArray⟩:aK).size=(xk (jZ N)).length:=by show (xk (jZ N)).toArray.size=_; simp
 rw [this,sV]
theorem um {q:Pa} {s:T} (h:(ref (.ext q s)).size≠32):(ref s).size≠32:=λe=>h (Af (Np (k:=ref s) (by
 unfold bS;rw [if_neg (show ¬ (2:Int)=3 by decide),if_neg (show ¬ (2:Int)=1 by decide)];exact List.mem_cons_of_mem _ List.mem_cons_self) e))
theorem xI {ks:Fin 16->T} (h:(ref (.br ks)).size≠32) (i:Fin 16):(ref (ks i)).size≠32:=λe=>h (Af (Np (k:=ref (ks i)) (by
 unfold bS;rw [if_pos rfl];exact List.mem_append_left _ (List.mem_map.2 ⟨_,List.mem_map.2 ⟨i,List.mem_finRange i,rfl⟩,rfl⟩)) e))
theorem rZ:∀ (t:T) (d:Nat),(ref t).size≠32->cB d t=t
 | .nil,_,_=>rfl
 | .leaf _ _,_,_=>rfl
 | .stub _,_,_=>rfl
 | .ext q s,d,h=>by
  show T.ext q (if d<=1/\(ref s).size=32 then .stub (ref s) else cB (d-1) s)=_;rw [if_neg (λe=>um h e.2),rZ s _ (um h)]
 | .br ks,d,h=>by
  show T.br (λi=>if d<=1/\(ref (ks i)).size=32 then .stub (ref (ks i)) else cB (d-1) (ks i))=_;congr 1;funext i;rw [if_neg (λe=>xI h i e.2),rZ (ks i) _ (xI h i)]
theorem vU:∀ (t:T) (ws:List Pa),(ref t).size≠32->eD ws t=t
 | .nil,_,_=>rfl
 | .leaf _ _,_,_=>rfl
 | .stub _,_,_=>rfl
 | .ext q s,ws,h=>by
  show T.ext q (if onP q ws=[]/\(ref s).size=32 then .stub (ref s) else eD (onP q ws) s)=_;rw [if_neg (λe=>um h e.2),vU s _ (um h)]
 | .br ks,ws,h=>by
  show T.br (λi=>if onC i.val ws=[]/\(ref (ks i)).size=32 then .stub (ref (ks i)) else eD (onC i.val ws) (ks i))=_;congr 1;funext i;rw [if_neg (λe=>xI h i e.2),vU (ks i) _ (xI h i)]
def oL (D:Nat) (_:Pa) (s:T):T:=if (ref s).size=32 then (if D<=1 then .stub (ref s) else cB (D-1) s) else s
def sW (ws:List Pa) (st:Pa) (s:T):T:=if (ref s).size=32 then (if onP st ws=[] then .stub (ref s) else eD (onP st ws) s) else s
theorem Xr (i:Fin 16) (ws:List Pa):onP (oK i) ws=onC i.val ws:=by
 unfold onP onC oK;have h:∀ w:Pa,(decide ([UInt8.ofNat i.val]<+:w))=decide (w≠[]/\(w.headD 0).toNat=i.val):=λw=>by
  have hi:=i.isLt;have e:(UInt8.ofNat i.val).toNat=i.val:=by simp; omega
  cases w with
  | nil=>simp
  | cons c r =>
   rw [Bool.eq_iff_iff,decide_eq_true_iff,decide_eq_true_iff];constructor
   .rintro ⟨z,hz⟩;simp at hz;refine ⟨by simp,?_⟩;show c.toNat=_;rw [<-hz.1,e]
   .rintro ⟨_,h2⟩;have h2':c.toNat=i.val:=h2;refine ⟨r,?_⟩;have:c=UInt8.ofNat i.val:=UInt8.toNat_inj.1 (by rw [h2',e]);rw [this]; rfl
 rw [show (λw:Pa=>decide ([UInt8.ofNat i.val]<+:w))=λw=>decide (w≠[]/\(w.headD 0).toNat=i.val) from funext h];apply List.map_congr_left;intro w _;show w.drop 1=w.tail;simp
theorem xQ (D:Nat) (st:Pa) (s:T):oL D st s=if D<=1/\(ref s).size=32 then .stub (ref s) else cB (D-1) s:=by
 unfold oL;by_cases h:(ref s).size=32
 .rw [if_pos h];by_cases hd:D<=1
  .rw [if_pos hd,if_pos ⟨hd,h⟩]
  .rw [if_neg hd,if_neg (λe=>hd e.1)]
 .rw [if_neg h,if_neg (λe=>h e.2),rZ s _ h]
theorem Bn (ws:List Pa) (st:Pa) (s:T):sW ws st s=if onP st ws=[]/\(ref s).size=32 then .stub (ref s) else eD (onP st ws) s:=by
 unfold sW;by_cases h:(ref s).size=32
 .rw [if_pos h];by_cases hd:onP st ws=[]
  .rw [if_pos hd,if_pos ⟨hd,h⟩]
  .rw [if_neg hd,if_neg (λe=>hd e.1)]
 .rw [if_neg h,if_neg (λe=>h e.2),vU s _ h]
theorem DX (D:Nat) (t:T):rW (oL D) t=cB D t:=by
 cases t with
 | nil=>rfl
 | leaf p v=>rfl
 | stub r=>rfl
 | ext q s =>
  show T.ext q (oL D q s)=_;rw [xQ]; rfl
 | br ks =>
  show T.br _=T.br _;congr 1;funext i;cases hi:isNil (ks i) with
  | true=>rw [if_pos rfl,cO.1 hi,if_neg (λe=>nI e.2 rfl)]; rfl
  | false=>rw [if_neg (by decide),xQ]
theorem Iw (ws:List Pa) (t:T):rW (sW ws) t=eD ws t:=by
 cases t with
 | nil=>rfl
 | leaf p v=>rfl
 | stub r=>rfl
 | ext q s =>
  show T.ext q (sW ws q s)=_;rw [Bn]; rfl
 | br ks =>
  show T.br _=T.br _;congr 1;funext i;cases hi:isNil (ks i) with
  | true=>rw [if_pos rfl,cO.1 hi,if_neg (λe=>nI e.2 rfl)]; rfl
  | false=>rw [if_neg (by decide),Bn,Xr]
theorem Xc {s s':T} (h:Sub s s') (hz:dL s'=0):s'=s:=by
 rcases h with ⟨rfl,_⟩ | h
 .cases hz
 .exact CK h hz
theorem JX (D:Nat) (st:Pa) (s:T):Sub s (oL D st s):=by
 rw [xQ];by_cases h:D<=1/\(ref s).size=32
 .rw [if_pos h]; exact .inl ⟨rfl,nI h.2⟩
 .rw [if_neg h]; exact .inr (qF s _)
theorem Ot (ws:List Pa) (st:Pa) (s:T):Sub s (sW ws st s):=by
 rw [Bn];by_cases h:onP st ws=[]/\(ref s).size=32
 .rw [if_pos h]; exact .inl ⟨rfl,nI h.2⟩
 .rw [if_neg h]; exact .inr (sU s _)
theorem qd {t:T} {j:Nat} (hj:j<(bC t).length):(bC t).getD j .nil∈bC t:=by
 rw [List.getD_eq_getElem?_getD,List.getElem?_eq_getElem hj];exact List.getElem_mem _
theorem EY {s:T} (h:vL s):dG s≠1/\dG s≠2:=by
 cases s with
 | br ks=>exact ⟨by show (3:Int)≠1; decide,by show (3:Int)≠2; decide⟩
 | stub r=>exact ⟨by show (-1:Int)≠1; decide,by show (-1:Int)≠2; decide⟩
 | _=>exact h.elim
theorem TI {F:Pa->T->T} {t:T} {L:Nat} (g:Tr.Good t L) (hL:L<=64) (f:Fine t) (hF:∀ st s,Sub s (F st s)):OkF F (λst s=>dL (F st s)) t:=by
 intro j hj;have hm:=qd hj;obtain ⟨hne,hf,_,L',hl,hg⟩:=kL g f _ hm;have hS:=hF ((dK t).getD j []) ((bC t).getD j .nil);generalize (bC t).getD j .nil=s at *
 refine ⟨hS.ref,?_,λhz=>Xc hS hz,λhk=>?_⟩
 .rcases hS with ⟨e,_⟩ | h
  .rw [e];exact ⟨0,trivial,by omega,(fU s L' hg (by omega) hf hne).2⟩
  .exact ⟨L',h.good hg,by omega,h.fine hg (by omega) hf⟩
 .have hbr:vL s:=by
   cases t with
   | nil=>cases hm
   | leaf p v=>cases hm
   | stub r=>cases hm
   | ext q u =>
    obtain rfl:s=u:=by
     have:s∈[u]:=hm;simpa using this
    exact g.2.2.2.1
   | br ks=>exact absurd hk (by show (3:Int)≠2; decide)
  rcases hS with ⟨e,_⟩ | h
  .rw [e]; exact EY trivial
  .exact EY (h.Zl hbr)
theorem DF (F:Pa->T->T) (t:T) (hs:¬ eX t):jQ (λst s=>dL (F st s)) t (bC t).length=dL (rW F t):=by
 cases t with
 | nil=>rfl
 | leaf p v=>rfl
 | stub r=>exact absurd trivial hs
 | ext q s=>rw [MZ]; rfl
 | br ks =>
  rw [TD];show _=((List.finRange 16).map λi=>dL (if isNil (ks i) then .nil else F (oK i) (ks i))).sum;congr 1;apply List.map_congr_left;intro i _;cases hi:isNil (ks i) with
  | true=>rfl
  | false=>rfl
def Fits (R:aK) (k:T):T->Nat->Prop
 | .ext q s,L=>(∀ r,s = .stub r->r=R->vL k)/\Fits R k s (L-q.length)
 | .br ks,L=>∀ i,Fits R k (ks i) (L-1)
 | .stub r,L=>r=R->Tr.Good k L
 | _,_=>True
theorem LH {R:aK} {k:T} (t:T):dM R t=0->dh R k t=t:=by
 induction t with
 | nil=>intro _; rfl
 | leaf _ _=>intro _; rfl
 | stub r =>
  intro h;have h':(if r=R then 1 else 0)=0:=h;show (if r=R then k else .stub r)=_;by_cases e:r=R
  .rw [if_pos e] at h'; cases h'
  .rw [if_neg e]
 | ext q s ih =>
  intro h;show T.ext q (dh R k s)=_;rw [ih h]
 | br ks ih =>
  intro h;have h':((List.finRange 16).map λi=>dM R (ks i)).sum=0:=h;rw [dh];refine congrArg T.br (funext λi=>?_);have hm:dM R (ks i)∈(List.finRange 16).map λi=>dM R (ks i):=List.mem_map.2 ⟨i,List.mem_finRange i,Eq.refl _⟩;have hz:dM R (ks i)=0:=oq h' (dM R (ks i)) hm;exact ih i hz
theorem Hz {R:aK} {k s:T} (hs:vL s) (h:∀ r,s = .stub r->r=R->vL k):vL (dh R k s):=by
 cases s with
 | br ks=>trivial
 | stub r =>
  show vL (if r=R then k else .stub r);by_cases e:r=R
  .rw [if_pos e]; exact h r rfl e
  .rw [if_neg e]; trivial
 | _=>exact hs.elim
theorem He {R:aK} {k s:T} (hk:k ≠ .nil) (hs:s ≠ .nil):dh R k s ≠ .nil:=by
 cases s with
 | nil=>exact absurd rfl hs
 | stub r =>
  show (if r=R then k else .stub r) ≠ .nil;by_cases e:r=R
  .rw [if_pos e]; exact hk
  .rw [if_neg e]; intro e; cases e
 | leaf p v=>intro e; cases e
 | ext q u=>intro e; cases e
 | br ks=>intro e; cases e
theorem wF {R:aK} {k:T} (hk:k ≠ .nil):∀ (t:T) (L:Nat),Tr.Good t L->Fits R k t L->Tr.Good (dh R k t) L
 | .nil,_,g,_=>g
 | .leaf _ _,_,g,_=>g
 | .stub r,L,_,h=>by
  show Tr.Good (if r=R then k else .stub r) L;by_cases e:r=R
  .rw [if_pos e]; exact h e
  .rw [if_neg e]; trivial
 | .ext q s,L,g,h=>⟨g.1,g.2.1,g.2.2.1,Hz g.2.2.2.1 h.1,wF hk s _ g.2.2.2.2 h.2⟩
 | .br ks,L,g,h=>by
  obtain ⟨i,j,hij,hi,hj⟩:=g.2.1;exact ⟨g.1,⟨i,j,hij,He hk hi,He hk hj⟩,λi=>wF hk (ks i) _ (g.2.2 i) (h i)⟩
theorem wB {R:aK} {k:T} (hk:Fine k):∀ t:T,Fine t->Fine (dh R k t)
 | .nil,f=>f
 | .leaf _ _,f=>f
 | .stub r,f=>by
  show Fine (if r=R then k else .stub r);by_cases e:r=R
  .rw [if_pos e]; exact hk
  .rw [if_neg e]; exact f
 | .ext q s,f=>wB hk s f
 | .br ks,f=>λi=>wB hk (ks i) (f i)
theorem IQ {R:aK} {k t:T} {L:Nat} (g:Tr.Good t L) (f:Fine t) (h:Fits R k t L):∀ s∈bC t,∃ L',L'<L/\Tr.Good s L'/\Fits R k s L':=by
 intro s hs;cases t with
 | nil=>cases hs
 | leaf p v=>cases hs
 | stub r=>cases hs
 | ext q u =>
  obtain rfl:s=u:=by
   have:s∈[u]:=hs;simpa using this
  have hq:0<q.length:=List.length_pos_iff.2 g.1;have:=g.2.2.1;exact ⟨L-q.length,by omega,g.2.2.2.2,h.2⟩
 | br ks =>
  obtain ⟨i,rfl,hn⟩:=Tm.qL hs;have:=g.1;exact ⟨L-1,by omega,g.2.2 i,h i⟩
theorem UM {R:aK} {k t:T} {L:Nat} (hR:ref k=R) (hk:k ≠ .nil) (hf:Fine k) (g:Tr.Good t L) (hL:L<=64) (f:Fine t) (h:Fits R k t L):OkF (λ_ s=>dh R k s) (λ_ s=>dM R s) t:=by
 intro j hj;have hm:=qd hj;obtain ⟨hne,hf',_,_⟩:=kL g f _ hm;obtain ⟨L',hl,hg,hfit⟩:=IQ g f h _ hm;generalize (bC t).getD j .nil=s at *
 refine ⟨yG hR s,⟨L',wF hk s L' hg hfit,by omega,wB hf s hf'⟩,λhz=>LH s hz,λhkd=>?_⟩;cases t with
 | nil=>cases hm
 | leaf p v=>cases hm
 | stub r=>cases hm
 | ext q u =>
  obtain rfl:s=u:=by
   have:s∈[u]:=hm;simpa using this
  exact EY (Hz g.2.2.2.1 h.1)
 | br ks=>exact absurd hkd (by show (3:Int)≠2; decide)
theorem uo {R:aK} {k t:T} (hs:¬ eX t):rW (λ_ s=>dh R k s) t=dh R k t/\jQ (λ_ s=>dM R s) t (bC t).length=dM R t:=by
 cases t with
 | nil=>exact ⟨rfl,rfl⟩
 | leaf p v=>exact ⟨rfl,rfl⟩
 | stub r=>exact absurd trivial hs
 | ext q s=>exact ⟨rfl,MZ _ q s⟩
 | br ks =>
  constructor
  .show T.br _=T.br _;congr 1;funext i;cases hi:isNil (ks i) with
   | true=>rw [if_pos rfl,cO.1 hi]; rfl
   | false=>rw [if_neg (by decide)]
  .rw [TD];show _=((List.finRange 16).map λi=>dM R (ks i)).sum;congr 1;apply List.map_congr_left;intro i _;cases hi:isNil (ks i) with
   | true=>rw [if_pos rfl,cO.1 hi]; rfl
   | false=>rw [if_neg (by decide)]
end Sx
end
section
namespace Sx
open Tr Rf Rl Ni No Tm Ky
def brK:T->Fin 16->T
 | .br ks=>ks
 | _=>λ_=>.nil
def kAB:Fin 16->T:=brK (bq .nil lAB)
def pz:Pa:=List.replicate 63 0
def sA:T:=.leaf pz sx
def sB:T:=.leaf pz sy
theorem tAB:bq .nil lAB = .br kAB:=by
 have h:=Ri;unfold kAB;generalize bq .nil lAB=t at h ⊢;cases t with
 | br ks=>rfl
 | nil=>exact absurd h (by show ¬ (0:Int)=3; decide)
 | leaf p v=>exact absurd h (by show ¬ (1:Int)=3; decide)
 | ext q s=>exact absurd h (by show ¬ (2:Int)=3; decide)
 | stub r=>exact absurd h (by show ¬ (0:Int)=3; decide)
theorem k0:kAB 0=sA:=by kernel_rfl
theorem k1:kAB 1=sB:=by kernel_rfl
theorem ZM:(((List.finRange 16).drop 2).all λi=>isNil (kAB i))=true:=by kernel_rfl
theorem kz (i:Fin 16) (h0:i≠0) (h1:i≠1):kAB i = .nil:=by
 refine cO.1 (List.all_eq_true.1 ZM i ?_);have e:List.finRange 16=0::1::(List.finRange 16).drop 2:=by decide
 have hm:=List.mem_finRange i;rw [e] at hm;rcases List.mem_cons.1 hm with rfl | hm
 .exact absurd rfl h0
 .rcases List.mem_cons.1 hm with rfl | hm
  .exact absurd rfl h1
  .exact hm
theorem WI:bC (bq .nil lAB)=[sA,sB]:=by kernel_rfl
theorem ZN:32<=(jU (bM sA)).length:=Nat.le_of_ble_eq_true (by kernel_rfl)
theorem ZO:32<=(jU (bM sB)).length:=Nat.le_of_ble_eq_true (by kernel_rfl)
theorem ZE:(ref sA).size=32:=Af (N:=bM sA) ZN
theorem ZA:(ref sB).size=32:=Af (N:=bM sB) ZO
theorem Fx {f:Fin 16->Nat} (hz:∀ i,i≠0->i≠1->f i=0):((List.finRange 16).map f).sum=f 0+f 1:=by
 have e:List.finRange 16=[0,1,2,3,4,5,6,7,8,9,10,11,12,13,14,15]:=by decide
 rw [e];simp only [List.map_cons,List.map_nil,List.sum_cons,List.sum_nil];have h2:=hz 2 (by decide) (by decide);have h3:=hz 3 (by decide) (by decide);have h4:=hz 4 (by decide) (by decide);have h5:=hz 5 (by decide) (by decide);have h6:=hz 6 (by decide) (by decide);have h7:=hz 7 (by decide) (by decide);have h8:=hz 8 (by decide) (by decide);have h9:=hz 9 (by decide) (by decide);have h10:=hz 10 (by decide) (by decide);have h11:=hz 11 (by decide) (by decide);have h12:=hz 12 (by decide) (by decide);have U7:=hz 13 (by decide) (by decide)
 have U8:=hz 14 (by decide) (by decide);have Nx:=hz 15 (by decide) (by decide);rw [h2,h3,h4,h5,h6,h7,h8,h9,h10,h11,h12,U7,U8,Nx];rfl
theorem Vn (d:Nat) (ks:Fin 16->T):cB d (.br ks) = .br λi=>if d<=1/\(ref (ks i)).size=32 then .stub (ref (ks i)) else cB (d-1) (ks i):=rfl
theorem Xb (ws:List Pa) (ks:Fin 16->T):eD ws (.br ks) = .br λi=>if onC i.val ws=[]/\(ref (ks i)).size=32 then .stub (ref (ks i)) else eD (onC i.val ws) (ks i):=rfl
theorem GA (ks:Fin 16->T):dL (.br ks)=((List.finRange 16).map λi=>dL (ks i)).sum:=rfl
theorem Oz (R:aK) (k:T) (ks:Fin 16->T):dh R k (.br ks) = .br λi=>dh R k (ks i):=rfl
theorem Om (R:aK) (ks:Fin 16->T):dM R (.br ks)=((List.finRange 16).map λi=>dM R (ks i)).sum:=rfl
theorem Vh:(bQ (cB 1 (bq .nil lAB))).length=2:=by
 rw [qQ,tAB,Vn,GA,Fx]
 .rw [k0,k1,if_pos ⟨aF,ZE⟩,if_pos ⟨aF,ZA⟩];rfl
 .intro i h0 h1;rw [kz i h0 h1,if_neg (λe=>nI e.2 rfl)];rfl
def tW:T:=eD [bT ka] (bq .nil lAB)
def kW:Fin 16->T:=λi=>if i=0 then sA else if i=1 then .stub (ref sB) else .nil
theorem on0:onC 0 [bT ka]≠[]:=by decide
theorem on1:onC 1 [bT ka]=[]:=by decide
theorem Er:tW = .br kW:=by
 unfold tW;rw [tAB,Xb];congr 1;funext i;unfold kW;by_cases h0:i=0
 .subst h0;rw [if_neg (λe=>on0 e.1),if_pos rfl,k0];rfl
 .rw [if_neg h0];by_cases h1:i=1
  .subst h1;rw [k1,if_pos ⟨on1,ZA⟩,if_pos rfl]
  .rw [if_neg h1,kz i h0 h1,if_neg (λe=>nI e.2 rfl)];rfl
theorem Ti:(bQ tW).length=1:=by
 rw [qQ,Er,GA,Fx]
 .rfl
 .intro i h0 h1;unfold kW;rw [if_neg h0,if_neg h1];rfl
theorem YP:(Tr.get tW (bT ka)).isSome=true:=by
 rw [Er];rfl
theorem YZ:(Tr.get tW (bT kb)).isSome=false:=by
 rw [Er];rfl
theorem XJ:Tr.Good sB 63:=by
 have h:=jW.good;rw [tAB] at h;have:=h.2.2 1;rw [k1] at this;exact this
theorem Ze:Fine sB:=by
 have h:=jW.fine;rw [tAB] at h;have:=h 1;rw [k1] at this;exact this
theorem YT:Fits (ref sB) sB tW 64:=by
 rw [Er];intro i;unfold kW;by_cases h0:i=0
 .rw [if_pos h0]; trivial
 .rw [if_neg h0];by_cases h1:i=1
  .rw [if_pos h1];exact λ_=>XJ
  .rw [if_neg h1]
   trivial
theorem Yu:dh (ref sB) sB tW=bq .nil lAB:=by
 rw [Er,tAB,Oz];congr 1;funext i;unfold kW;by_cases h0:i=0
 .subst h0;rw [if_pos rfl,k0];rfl
 .rw [if_neg h0];by_cases h1:i=1
  .subst h1;rw [if_pos rfl,k1];exact if_pos rfl
  .rw [if_neg h1,kz i h0 h1];rfl
theorem Vy:dM (ref sB) tW=1:=by
 rw [Er,Om,Fx]
 .show 0+(if ref sB=ref sB then 1 else 0)=1;rw [if_pos rfl]
 .intro i h0 h1;unfold kW;rw [if_neg h0,if_neg h1];rfl
theorem Zk:Cut (bq .nil lAB) tW:=sU _ _
theorem XZ:Cut (bq .nil lAB) (cB 1 (bq .nil lAB)):=qF _ _
end Sx
end
section
open Go.RowKit
namespace Tm
open Tr Ni Pk Ky No Rf Rl
open Sm (Tab)
structure Fk (K:Nat->Prop) (M M':Mp) (w w':World):Prop where
 os:w'.os=w.os
 tape:w'.tape=w.tape
 output:w'.output=w.output
 size:w.heap.size<=w'.heap.size
 block:∀ k,k<w.heap.size->M.at_ k=none->¬ K k->w'.heap[k]? = w.heap[k]?
 mono:∀ k t,M.at_ k=some t->M'.at_ k=some t
 fresh:∀ k,k<w.heap.size->M.at_ k=none->M'.at_ k=none
 grow:∀ k,M.ft k->M'.ft k
 foot:∀ k,k<w.heap.size->M'.ft k->M.ft k
 nob:∀ k,K k->k<w.heap.size->M.at_ k=none/\¬ gM w k
def Kc (K:Nat->Prop) (M:Mp) (w:World):Prop:=∀ k,K k->k<w.heap.size->M.at_ k=none/\¬ gM w k
section
variable {K K1:Nat->Prop} {M M1 M2 M':Mp} {w w1 w2 w':World}
theorem Fr.k (f:Fr M M w w') (hK:Kc K M w):Fk K M M w w' :=
 ⟨f.os,f.tape,f.output,f.size,λk hk hm _=>f.block k hk hm,f.mono,f.fresh,f.grow,λ_ _ h=>h,hK⟩
theorem Fk.fr (f:Fk K M M' w w') (h:∀ k,K k->w.heap.size<=k):Fr M M' w w' :=
 ⟨f.os,f.tape,f.output,f.size,λk hk hm=>f.block k hk hm λe=>by have:=h k e; omega,f.mono,f.fresh,f.grow,λk hf=>by
  by_cases hl:k<w.heap.size
  .exact .inl (f.foot k hl hf)
  .exact .inr (.inl (by omega))⟩
abbrev Fnw:=Fk λ_=>False
theorem Fnw.k (f:Fnw M M' w w') (hK:Kc K M w):Fk K M M' w w' :=
 ⟨f.os,f.tape,f.output,f.size,λk hk hm _=>f.block k hk hm λh=>h,f.mono,f.fresh,f.grow,f.foot,hK⟩
theorem Fr.n (f:Fr M M' w w') (h:∀ k,k<w.heap.size->M'.ft k->M.ft k):Fnw M M' w w' :=
 ⟨f.os,f.tape,f.output,f.size,λk hk hm _=>f.block k hk hm,f.mono,f.fresh,f.grow,h,λ_ h=>h.elim⟩
theorem Fnw.of (f:Fr M M w w'):Fnw M M w w':=Fr.n f λ_ _ h=>h
theorem Fk.trans (h:Fk K M M1 w w1) (g:Fk K1 M1 M2 w1 w2) (hk:∀ k,K1 k->K k\/w.heap.size<=k):Fk K M M2 w w2:=by
 have hs:=h.size;have hn1:∀ k,k<w.heap.size->¬ K k->¬ K1 k:=λk hl hn h1=>(hk k h1).elim hn (by omega);exact ⟨g.os.trans h.os,g.tape.trans h.tape,g.output.trans h.output,Nat.le_trans hs g.size,λk hl hm hn=>(g.block k (by omega) (h.fresh k hl hm) (hn1 k hl hn)).trans (h.block k hl hm hn),λk t hm=>g.mono k t (h.mono k t hm),λk hl hm=>g.fresh k (by omega) (h.fresh k hl hm),λk hf=>g.grow k (h.grow k hf),λk hl hf=>h.foot k hl (g.foot k (by omega) hf),h.nob⟩
theorem Fk.box (f:Fk K M M' w w') (hg:¬ M.ft g) (hlt:g<w.heap.size):¬ M'.ft g:=λh=>hg (f.foot g hlt h)
theorem VX {a:aJ} {n c:Nat} {l:aL} (hi:Inv M w) (h:bA w a n c l) (f:Fk K M M' w w'):bA w' a n c l:=by
 refine ⟨h.1,h.2.1,h.2.2.1,h.2.2.2.1,λj hj=>?_⟩;obtain ⟨b,off,e,hlt,hc⟩:=h.2.2.2.2 j hj;exact ⟨b,off,e,aH hlt f.size,by rw [World.cell?_of_block (w:=w) (f.block b hlt (hi.eG hc) λhk=>(f.nob b hk hlt).2 ⟨_,_,hc⟩)]; exact hc⟩
theorem Yl {t:TypeId} (h:Rg.Own w g cs t) (f:Fk K M M' w w') (hm:M.at_ g=none) (hg:¬ K g):Rg.Own w' g cs t:=⟨aH h.1 f.size,(f.block g h.1 hm hg).trans h.2⟩
theorem Bx.fk {t:TypeId} (h:Bx M w g cs t) (hi:Inv M w) (f:Fk K M M' w w') (hg:¬ K g):Bx M' w' g cs t:=⟨Yl h.o f (lM hi h.n) hg,f.box h.n h.o.1,h.h⟩
end
def oW (w:World) (b:Nat) (R:Value->Value->Prop):Prop:=∃ es clock,w.heap[b]? = some (.map es clock)/\∀ e∈es.toList,R e.key e.val
section
variable {P:Program} {w w':World} {b:Nat} {R R':Value->Value->Prop} {t kt et:TypeId} {fs:Array Field} {key val:Value}
theorem oW.lt (h:oW w b R):b<w.heap.size:=by
 obtain ⟨es,cl,h1,_⟩:=h;exact (Array.getElem?_eq_some_iff.1 h1).1
theorem oW.same (h:oW w b R) (hb:w'.heap[b]? = w.heap[b]?) (hR:∀ k v,R k v->R' k v):oW w' b R':=by
 obtain ⟨es,cl,h1,h2⟩:=h;exact ⟨es,cl,hb.trans h1,λe he=>hR _ _ (h2 e he)⟩
theorem oW.nob (h:oW w b R):¬ gM w b:=λ⟨j,x,hc⟩=>by
 obtain ⟨es,cl,h1,_⟩:=h;rw [World.cell?,h1] at hc;cases hc
theorem oW.Vt {M:Mp} (h:oW w b R) (hi:Inv M w):M.at_ b=none:=by
 cases hm:M.at_ b with
 | none=>rfl
 | some t =>
  obtain ⟨_,_,_,_,_,_,_,_,hb,_⟩:=hi.part hm;obtain ⟨es,cl,h1,_⟩:=h;rw [hb] at h1;cases h1
def EqK (P:Program) (kt:TypeId) (w:World) (k k':Value):Prop:=∃ c:Bool,(Op.equal kt k k').run P w = .ok c w/\(c=true->k'=k)
theorem zO:∀ (es:List MapEntry) (i:Nat),(∀ e∈es,EqK P kt w key e.key)->∃ r,(Instr.findAsking kt key es i).run P w = .ok r w/\(r=none\/∃ j e,r=some (i+j,e.val)/\es[j]? = some e/\e.key=key)
 | [],i,_=>⟨none,by simp [Instr.findAsking],.inl rfl⟩
 | e::es,i,h=>by
  obtain ⟨c,h1,h2⟩:=h e List.mem_cons_self;cases c with
  | true=>exact ⟨some (i,e.val),by simp [Instr.findAsking,h1,Result.andThen],.inr ⟨0,e,rfl,rfl,h2 rfl⟩⟩
  | false =>
   obtain ⟨r,h3,h4⟩:=zO es (i+1) λx hx=>h x (List.mem_cons_of_mem _ hx);refine ⟨r,by simp [Instr.findAsking,h1,h3,Result.andThen],?_⟩;rcases h4 with h4 | ⟨j,x,h4,h5,h6⟩
   .exact .inl h4
   .exact .inr ⟨j+1,x,by rw [h4]; congr 2; omega,by simpa using h5,h6⟩
theorem Ib (hk:P.underlying kt=some (.struct fs)) (es:List MapEntry) (h:∀ e∈es,EqK P kt w key e.key):∃ r,(Instr.findKey kt key es).run P w = .ok r w/\(r=none\/∃ j e,r=some (j,e.val)/\es[j]? = some e/\e.key=key):=by
 cases es with
 | nil=>exact ⟨none,by simp [Instr.findKey,Instr.findNow,run_underlying hk],.inl rfl⟩
 | cons e es =>
  obtain ⟨r,h1,h2⟩:=zO (e::es) 0 h;refine ⟨r,by simp [Instr.findKey,Instr.findNow,Instr.sameNow,run_underlying hk,h1],?_⟩;rcases h2 with h2 | ⟨j,x,h2,h3,h4⟩
  .exact .inl h2
  .exact .inr ⟨j,x,by rw [h2,Nat.zero_add],h3,h4⟩
theorem AP (ht:P.underlying t=some (.map kt et)) (hk:P.underlying kt=some (.struct fs)) (hc:∀ em,(Instr.checkKey em 10000 kt key).run P w = .ok () w) (hz:(zeroValue et).run P w = .ok z w) (hm:oW w b R) (heq:∀ k v,R k v->EqK P kt w key k) :
  ∃ v ok,(Instr.lookup t (.map (some b)) key true).run P w = .ok (.tuple #[v,.bool ok]) w/\(ok=true->R key v)/\(ok=false->v=z):=by
 obtain ⟨es,cl,h1,h2⟩:=hm;obtain ⟨r,h3,h4⟩:=Ib hk es.toList (λe he=>heq _ _ (h2 e he));rcases h4 with rfl | ⟨j,e,rfl,h5,h6⟩
 .refine ⟨z,false,?_,?_,?_⟩
  .simp [Instr.lookup,run_underlying ht,MapKept.run_getObj_map h1,hc,h3,hz,Result.andThen]
  .intro e; cases e
  .intro _; rfl
 .refine ⟨e.val,true,?_,?_,?_⟩
  .simp [Instr.lookup,run_underlying ht,MapKept.run_getObj_map h1,hc,h3,Result.andThen]
  .intro _;have:=h2 e (List.mem_of_getElem? h5);rwa [h6] at this
  .intro e; cases e
theorem FK (ht:P.underlying t=some (.map kt et)) (hk:P.underlying kt=some (.struct fs)) (hc:∀ em,(Instr.checkKey em 10000 kt key).run P w = .ok () w) (hs:Instr.sameBits 10000 key key=true) (hm:oW w b R) (heq:∀ k v,R k v->EqK P kt w key k) (hR:R key val) :
  ∃ w',(Instr.mapUpdate t (.map (some b)) key val).run P w = .ok () w'/\oW w' b R/\Rg.Upd w b w':=by
 obtain ⟨es,cl,h1,h2⟩:=hm;have hlt:=(Array.getElem?_eq_some_iff.1 h1).1;have hup:∀ o,Rg.Upd w b { w with heap:=w.heap.setIfInBounds b o }:=λo=>⟨rfl,rfl,rfl,by simp,λk hk=>by simp [Array.getElem?_setIfInBounds,Ne.symm hk]⟩
 have hat:∀ o,({ w with heap:=w.heap.setIfInBounds b o }:World).heap[b]? = some o:=λo=>by simp [Array.getElem?_setIfInBounds,hlt]
 obtain ⟨r,h3,h4⟩:=Ib hk es.toList (λe he=>heq _ _ (h2 e he));rcases h4 with rfl | ⟨j,e,rfl,h5,h6⟩
 .refine ⟨_,by simp [Instr.mapUpdate,run_underlying ht,MapKept.run_getObj_map h1,hc,h3,MapKept.run_setObj_map _ h1,Result.andThen]; rfl,⟨_,_,hat _,λe he=>?_⟩,hup _⟩;have he':e∈es\/e={ key:=key,val:=val,born:=cl }:=by simpa using he
  rcases he' with he | he
  .exact h2 e (by simpa using he)
  .rw [he]; exact hR
 .have hj:es[j]? = some e:=by simpa using h5
  have hst:(Instr.keyThatStays key key).run P w = .ok key w:=by simp [Instr.keyThatStays,hs]
  refine ⟨_,by simp [Instr.mapUpdate,run_underlying ht,MapKept.run_getObj_map h1,hc,h3,hj,h6,hst,MapKept.run_setObj_map _ h1,Result.andThen]; rfl,⟨_,_,hat _,λx hx=>?_⟩,hup _⟩;obtain ⟨i,hi,rfl⟩:=List.getElem_of_mem hx;simp only [Array.getElem_toList,Array.getElem_modify];split
  .exact hR
  .exact h2 _ (by simp)
end
end Tm
end
section
open Go.RowKit
namespace Sx
open Tr Ni Pk Ky
open Tm
abbrev Iv:Type:=Pa × aJ
def inC (x:Iv) (h:Hdl):List Value:=[.slice h.1 h.2.1 h.2.2,.pointer x.2]
def inA (x:Iv) (h:Hdl):aM:=#[.slice h.1 h.2.1 h.2.2,.pointer x.2]
theorem uy:(prog.info? 143).map (λi=>(i.zero,i.size,i.bytes))=some (some (.agg #[.slice none 0 0,.pointer none]),2,32):=by kernel_rfl
theorem ql:∃ i z,prog.info? 143=some i/\i.zero=some z/\i.size=2/\i.bytes=32/\z.cells.size=2:=by
 obtain ⟨i0,hi,hz,hs,hby⟩:=info_parts uy;exact ⟨i0,_,hi,hz,hs,hby,rfl⟩
def Dm (w:World) (b o:Nat) (x:Iv) (h:Hdl):Prop:=w.cell? ⟨b,o,none⟩=some (.slice h.1 h.2.1 h.2.2)/\w.cell? ⟨b,o+1,none⟩=some (.pointer x.2)
def cK (w:World) (a:aJ) (n c:Nat) (l:List Iv):Prop :=
 n<=c/\c<=maxLen/\l.length=n/\(a=none->c=0)/\∀ j,j<n->∃ b off h,a=some ⟨b,off,none⟩/\b<w.heap.size/\Dm w b (off+j*2) (l.getD j ([],none)) h/\bA w h.1 h.2.1 h.2.2 (l.getD j ([],none)).1
theorem cK.len {w:World} {a:aJ} {n c:Nat} {l:List Iv} (h:cK w a n c l):l.length=n:=h.2.2.1
theorem cK.at' {w:World} {a:aJ} {n c:Nat} {l:List Iv} (h:cK w a n c l) (j:Nat) (hj:j<n):∃ b off h,a=some ⟨b,off,none⟩/\b<w.heap.size/\Dm w b (off+j*2) (l.getD j ([],none)) h/\bA w h.1 h.2.1 h.2.2 (l.getD j ([],none)).1:=h.2.2.2.2 j hj
theorem cK.nil (w:World):cK w none 0 0 []:=⟨aF,Nat.zero_le _,rfl,λ_=>rfl,λ_ h=>absurd h (Nat.not_lt_zero _)⟩
def iq:List Iv->List Hdl->List Value
 | x::xs,h::hs=>.slice h.1 h.2.1 h.2.2 :: .pointer x.2::iq xs hs
 | _,_=>[]
theorem mW:∀ (xs:List Iv) (hs:List Hdl) (x:Iv) (h:Hdl),hs.length=xs.length->iq (xs++[x]) (hs++[h])=iq xs hs++inC x h
 | [],[],_,_,_=>rfl
 | y::xs,g::hs,x,h,e=>by
  have:=mW xs hs x h (by simpa using e);simp [iq,this]
theorem qC:∀ (xs:List Iv) (hs:List Hdl) (j:Nat) (x:Iv) (h:Hdl),xs[j]? = some x->hs[j]? = some h->
  (iq xs hs)[j*2]? = some (.slice h.1 h.2.1 h.2.2)/\(iq xs hs)[j*2+1]? = some (.pointer x.2)
 | [],_,_,_,_,hx,_=>by simp at hx
 | _::_,[],_,_,_,_,hh=>by simp at hh
 | y::xs,g::hs,0,x,h,hx,hh=>by
  simp at hx hh;subst hx hh;simp [iq]
 | y::xs,g::hs,j+1,x,h,hx,hh=>by
  have:=qC xs hs j x h (by simpa using hx) (by simpa using hh);rw [show (j+1)*2=j*2+2 by omega];simp only [iq,List.getElem?_cons_succ];exact this
def eP (B:Nat) (w:World) (v:Value) (xs:List Iv):Prop :=
 ∃ hs:List Hdl,hs.length=xs.length/\w.ownsRow B 143 2 v xs.length (iq xs hs)/\∀ (j:Nat) (x:Iv) (h:Hdl),xs[j]? = some x->hs[j]? = some h->BsP (λb=>v.ownBlock≠some b) w h x.1
theorem eP.nil (B:Nat) (w:World):eP B w (.slice none 0 0) []:=⟨[],rfl,World.ownsRow_nil _ _ _ _,λ_ _ _ hx _=>by simp at hx⟩
theorem eP.lt {B:Nat} {w:World} {v:Value} {xs:List Iv} (h:eP B w v xs):∀ k,v.ownBlock=some k->B<=k/\k<w.heap.size:=by
 obtain ⟨hs,_,ho,_⟩:=h;exact ho.lt
theorem eP.below {w w':World} {xs:List Iv} (h:eP B w v xs) (hb:Below w.heap.size w w'):eP B w' v xs:=by
 obtain ⟨hs,hlen,ho,hi⟩:=h;exact ⟨hs,hlen,ho.kept (Bu.fO hb) (by cases v.ownBlock <;> simp),λj x h hx hh=>(hi j x h hx hh).kept hb.size λb _ hlt=>hb.block b hlt⟩
theorem eP.push {w w':World} {xs:List Iv} {x:Iv} {h:Hdl} {hs:List Hdl} (hlen:hs.length=xs.length) (hi:∀ (j:Nat) (x:Iv) (h:Hdl),xs[j]? = some x->hs[j]? = some h->BsP (λb=>v.ownBlock≠some b) w h x.1)
  (hI:BsP (λb=>v.ownBlock≠some b) w h x.1) (ho:w'.ownsRow B 143 2 v' (xs.length+1) (iq xs hs++inC x h))
  (hg:w.grownBy w' v.ownBlock) (hat:v'.ownBlock=v.ownBlock\/v'.ownBlock=some w.heap.size):eP B w' v' (xs++[x]):=by
 have keep:∀ {l:aL} {h:Hdl},BsP (λb=>v.ownBlock≠some b) w h l->BsP (λb=>v'.ownBlock≠some b) w' h l:=λ{l h} hh=>by
  have h1:=hh.to (q:=λb=>v'.ownBlock≠some b/\v.ownBlock≠some b) λb hlt hb=>⟨λe=>by
   rcases hat with h2 | h2
   .exact hb (h2 ▸ e)
   .rw [h2] at e;have:=Option.some.inj e;omega,hb⟩
  have h2:=h1.kept (w':=w') hg.size λb hb hlt=>hg.block b hlt (λe=>hb.2 e.symm);exact h2.to λb _ hb=>hb.1
 refine ⟨hs++[h],by simp [hlen],?_,λj y g hy hh=>?_⟩
 .rw [List.length_append,mW xs hs x h hlen];exact ho
 .by_cases hj:j<xs.length
  .rw [List.getElem?_append_left hj] at hy;rw [List.getElem?_append_left (by omega)] at hh;exact keep (hi j y g hy hh)
  .have hj2:j=xs.length:=by
    have:=(List.getElem?_eq_some_iff.1 hy).1;simp at this;omega
   subst hj2;rw [List.getElem?_append_right aF,Nat.sub_self] at hy;rw [List.getElem?_append_right (by omega),hlen,Nat.sub_self] at hh;simp at hy hh;subst hy hh;exact keep hI
theorem eP.done {w:World} {xs:List Iv} (h:eP B w v xs):∃ a n cap,v = .slice a n cap/\cK w a n cap xs:=by
 obtain ⟨hs,hlen,ho,hi⟩:=h;rcases ho.2 with ⟨rfl,hz⟩ | ⟨g,cap,cur,rfl,hbg,hg,hnc,hcm,hcs,htake⟩
 .have:xs=[]:=List.eq_nil_of_length_eq_zero hz;subst this;exact ⟨none,0,0,rfl,cK.nil _⟩
 .refine ⟨_,_,_,rfl,hnc,hcm,rfl,λe=>(by cases e),λj hj=>?_⟩;have hx:xs[j]? = some (xs.getD j ([],none)):=by simp [hj]
  have hh:hs[j]? = some (hs.getD j (none,0,0)):=by simp [show j<hs.length by omega]
  obtain ⟨f0,f1⟩:=qC xs hs j _ _ hx hh;have e:∀ i,(⟨g,0,none⟩:Addr).add i=⟨g,0+i,none⟩:=λi=>Addr.add_mid g 0 i;refine ⟨g,0,hs.getD j (none,0,0),rfl,(Array.getElem?_eq_some_iff.1 hg).1,⟨?_,?_⟩,(hi j _ _ hx hh).1⟩
  .have:=ho.cells (g:=g) rfl _ _ f0;rw [e] at this;exact this
  .have:=ho.cells (g:=g) rfl _ _ f1;rw [e,<-Nat.add_assoc] at this;exact this
theorem oZ {w:World} {xs:List Iv} {x:Iv} {h:Hdl} (hR:eP B w v xs) (h2:Rg.Own w b2 (inA x h) 143) (hI:BsP (λb=>v.ownBlock≠some b) w h x.1) (hn:xs.length<=1000000) (hB:B<=w.heap.size) :
  ∃ v' w',(Builtin.append_ #[140,140] ty #[v,.slice (some ⟨b2,0,none⟩) 1 1]).run prog w = .ok v' w'/\eP B w' v' (xs++[x])/\w.grownBy w' v.ownBlock:=by
 obtain ⟨i0,z0,hi,hz,hsz,hby,hzc⟩:=ql;obtain ⟨hs',hlen,hown,hi'⟩:=hR;obtain ⟨v',w',hr,h3,h4,_,h5⟩:=run_append_own_at (P:=prog) w B 140 ty 143 i0 z0 2 32 underlying140 hi hz hsz hby hzc (by decide) v xs.length _ hown ⟨b2,0,none⟩ 1 1 (inC x h) rfl
  (λj u hu=>by
   rw [Addr.add_mid,Nat.zero_add,cell_of_row w b2 _ _ _ _ h2.2];unfold inA;simpa [inC] using hu)
  (λu hu=>by unfold inC at hu; simp at hu; rcases hu with rfl | rfl <;> rfl) (by unfold maxLen; omega) (by omega) hB
 exact ⟨v',w',hr,eP.push hlen hi' hI h3 h4 h5,h4⟩
theorem pq {rest:List Oper} {a:Act} {w:World} {xs:List Iv} {x:Iv} {h:Hdl} (hgd:o.guard=none)
  (ho:∃ s y,o.op = .call { callee:=.builtin .append,args:=#[s,y],argTypes:=#[140,140] }/\a.eval s=v/\a.eval y = .slice (some ⟨b2,0,none⟩) 1 1)
  (hR:eP B w v xs) (h2:Rg.Own w b2 (inA x h) 143) (hI:BsP (λb=>v.ownBlock≠some b) w h x.1) (hn:xs.length<=1000000) (hB:B<=w.heap.size)
  (H:∀ v' w',eP B w' v' (xs++[x])->w.grownBy w' v.ownBlock->wpList prog ops Q rest (a.put o.dst v') w'):wpList prog ops Q (o::rest) a w:=by
 obtain ⟨s,y,ho,hs,hy⟩:=ho;refine wpList_plain hgd λK hK=>?_;obtain ⟨v',w',hr,h3,h4⟩:=oZ (ty:=o.type) hR h2 hI hn hB;unfold Oper.wp execOp;simp only [ho,resolve,invoke,builtin,Sem.run_bind,Sem.run_pure,Result.andThen_ok,List.map_toArray,List.map_cons,List.map_nil,hs,hy,hr];exact hK _ _ (H v' w' h3 h4)
theorem kM {w0 w w':World} {xs:List Iv} (hR:eP B w v xs) (hb:Below B w0 w) (hB:B<=w.heap.size) (hg:w.grownBy w' v.ownBlock):Below B w0 w':=hb.grown hg hB (λg hg=>(hR.lt g hg).1)
theorem QA {w0 w:World} {xs:List Iv} {h:Hdl} {l:aL} (hR:eP B w v xs) (g:bA w0 h.1 h.2.1 h.2.2 l) (hb:Below w0.heap.size w0 w) (hB:w0.heap.size<=B):BsP (λb=>v.ownBlock≠some b) w h l:=by
 have h1:=(BsP.old g).kept hb.size λb hlt _=>hb.block b hlt;exact h1.to λb _ hlt e=>by have:=(hR.lt b e).1; omega
theorem vM {ev:Operand->Value} {o:Oper} {w:World} {b off:Nat} {x:Iv} {h:Hdl} (g:Dm w b off x h) (ho:∃ y,o.op = .load 143 y/\ev y = .pointer (some ⟨b,off,none⟩)) :
  (execOp ev o).run prog w = .ok (.value (.agg (inA x h))) w:=by
 obtain ⟨y,ho,hx⟩:=ho;have hl:=run_loadAt_mid (P:=prog) w b off 143 (inC x h) _ (λj u hu=>by
  match j,hu with
  | 0,hu=>cases hu; exact g.1
  | 1,hu=>cases hu; exact g.2) underlying143 rfl (by
  obtain ⟨i0,hi,hz,hs,hby⟩:=info_parts uy;rw [hi];simp [hs,inC])
 unfold execOp;simp only [ho,hx,Sem.run_bind,Sem.run_pure,Result.andThen_ok,hl];rfl
end Sx
end
section
open Go.RowKit
namespace Ew
open Tr Ni Pk Ky No Rf Rl Tm
def wv (h:Hdl):Value:=.slice h.1 h.2.1 h.2.2
theorem Wj:(prog.info? 42).map (λi=>(i.zero,i.size,i.bytes))=some (some (.slice none 0 0),1,24):=by kernel_rfl
theorem CZ:∃ i,prog.info? 42=some i/\i.zero=some (.slice none 0 0)/\i.size=1/\i.bytes=24:=by
 obtain ⟨i0,hi,hz,hs,hby⟩:=info_parts Wj;exact ⟨i0,hi,hz,hs,hby⟩
theorem Cb {p:Nat->Prop} {w:World} {h:Hdl} {l:aL} (g:BsP p w h l) (i:Nat) (hi:i<=h.2.1):BsP p w (bZ h.1 h.2.2 i,h.2.1-i,h.2.2-i) (l.drop i):=by
 refine ⟨wI g.1 i hi,λad e hn=>?_⟩;have hn2:0<h.2.1-i:=hn;have e2:bZ h.1 h.2.2 i=some ad:=e;unfold bZ at e2;by_cases hc:h.2.2=i
 .rw [if_pos hc] at e2;exact g.2 ad e2 (by omega)
 .rw [if_neg hc] at e2;cases ha:h.1 with
  | none=>rw [ha] at e2; cases e2
  | some a0 =>
   rw [ha] at e2;obtain rfl:=Option.some.inj e2;have hb:(a0.add i).block=a0.block:=by
    unfold Addr.add;split <;> rfl
   show p (a0.add i).block;rw [hb];exact g.2 _ ha (by omega)
def iM (w:World) (a:aJ) (n c:Nat) (l:List Pa):Prop :=
 n<=c/\c<=maxLen/\l.length=n/\(a=none->c=0)/\∀ j,j<n->∃ b off h,a=some ⟨b,off,none⟩/\b<w.heap.size/\w.cell? ⟨b,off+j,none⟩=some (wv h)/\bA w h.1 h.2.1 h.2.2 (l.getD j [])
theorem iM.len {w:World} {a:aJ} {n c:Nat} {l:List Pa} (h:iM w a n c l):l.length=n:=h.2.2.1
theorem iM.at' {w:World} {a:aJ} {n c:Nat} {l:List Pa} (h:iM w a n c l) (j:Nat) (hj:j<n):∃ b off h,a=some ⟨b,off,none⟩/\b<w.heap.size/\w.cell? ⟨b,off+j,none⟩=some (wv h)/\bA w h.1 h.2.1 h.2.2 (l.getD j []):=h.2.2.2.2 j hj
theorem iM.below {w w':World} {a:aJ} {n c:Nat} {l:List Pa} (h:iM w a n c l) (hb:Below w.heap.size w w'):iM w' a n c l :=
 ⟨h.1,h.2.1,h.2.2.1,h.2.2.2.1,λj hj=>by
  obtain ⟨b,off,g,e,hlt,hp,hi⟩:=h.2.2.2.2 j hj;exact ⟨b,off,g,e,aH hlt hb.size,aV hb hp,hi.below hb⟩⟩
theorem iM.nil (w:World):iM w none 0 0 []:=⟨aF,Nat.zero_le _,rfl,λ_=>rfl,λ_ h=>absurd h (Nat.not_lt_zero _)⟩
def kY (B:Nat) (w:World) (v:Value) (xs:List Pa):Prop :=
 ∃ hs:List Hdl,hs.length=xs.length/\w.ownsRow B 42 1 v xs.length (hs.map wv)/\∀ (j:Nat) (x:Pa) (h:Hdl),xs[j]? = some x->hs[j]? = some h->BsP (λb=>v.ownBlock≠some b) w h x
theorem kY.nil (B:Nat) (w:World):kY B w (.slice none 0 0) []:=⟨[],rfl,World.ownsRow_nil _ _ _ _,λ_ _ _ hx _=>by simp at hx⟩
theorem kY.lt {B:Nat} {w:World} {v:Value} {xs:List Pa} (h:kY B w v xs):∀ k,v.ownBlock=some k->B<=k/\k<w.heap.size:=by
 obtain ⟨hs,_,ho,_⟩:=h;exact ho.lt
theorem kY.below {w w':World} {xs:List Pa} (h:kY B w v xs) (hb:Below w.heap.size w w'):kY B w' v xs:=by
 obtain ⟨hs,hlen,ho,hi⟩:=h;exact ⟨hs,hlen,ho.kept (Bu.fO hb) (by cases v.ownBlock <;> simp),λj x h hx hh=>(hi j x h hx hh).kept hb.size λb _ hlt=>hb.block b hlt⟩
theorem kY.push {w w':World} {xs:List Pa} {x:Pa} {h:Hdl} {hs:List Hdl} (hlen:hs.length=xs.length) (hi:∀ (j:Nat) (x:Pa) (h:Hdl),xs[j]? = some x->hs[j]? = some h->BsP (λb=>v.ownBlock≠some b) w h x)
  (hI:BsP (λb=>v.ownBlock≠some b) w h x) (ho:w'.ownsRow B 42 1 v' (xs.length+1) (hs.map wv++[wv h]))
  (hg:w.grownBy w' v.ownBlock) (hat:v'.ownBlock=v.ownBlock\/v'.ownBlock=some w.heap.size):kY B w' v' (xs++[x]):=by
 have keep:∀ {l:aL} {h:Hdl},BsP (λb=>v.ownBlock≠some b) w h l->BsP (λb=>v'.ownBlock≠some b) w' h l:=λ{l h} hh=>by
  have h1:=hh.to (q:=λb=>v'.ownBlock≠some b/\v.ownBlock≠some b) λb hlt hb=>⟨λe=>by
   rcases hat with h2 | h2
   .exact hb (h2 ▸ e)
   .rw [h2] at e;have:=Option.some.inj e;omega,hb⟩
  have h2:=h1.kept (w':=w') hg.size λb hb hlt=>hg.block b hlt (λe=>hb.2 e.symm);exact h2.to λb _ hb=>hb.1
 refine ⟨hs++[h],by simp [hlen],?_,λj y g hy hh=>?_⟩
 .rw [List.length_append,List.map_append];exact ho
 .by_cases hj:j<xs.length
  .rw [List.getElem?_append_left hj] at hy;rw [List.getElem?_append_left (by omega)] at hh;exact keep (hi j y g hy hh)
  .have hj2:j=xs.length:=by
    have:=(List.getElem?_eq_some_iff.1 hy).1;simp at this;omega
   subst hj2;rw [List.getElem?_append_right aF,Nat.sub_self] at hy;rw [List.getElem?_append_right (by omega),hlen,Nat.sub_self] at hh;simp at hy hh;subst hy hh;exact keep hI
theorem kY.done {w:World} {xs:List Pa} (h:kY B w v xs):∃ a cap,v = .slice a xs.length cap/\iM w a xs.length cap xs:=by
 obtain ⟨hs,hlen,ho,hi⟩:=h;rcases ho.2 with ⟨rfl,hz⟩ | ⟨g,cap,cur,rfl,hbg,hg,hnc,hcm,hcs,htake⟩
 .have:xs=[]:=List.eq_nil_of_length_eq_zero hz;subst this;exact ⟨none,0,rfl,iM.nil _⟩
 .refine ⟨_,_,rfl,hnc,hcm,rfl,λe=>(by cases e),λj hj=>?_⟩;have hx:xs[j]? = some (xs.getD j []):=by simp [hj]
  have hh:hs[j]? = some (hs.getD j (none,0,0)):=by simp [show j<hs.length by omega]
  refine ⟨g,0,hs.getD j (none,0,0),rfl,(Array.getElem?_eq_some_iff.1 hg).1,?_,(hi j _ _ hx hh).1⟩;have:=ho.cells (g:=g) rfl j (wv (hs.getD j (none,0,0))) (by rw [List.getElem?_map,hh]; rfl);rw [Addr.add_mid] at this;exact this
theorem La {w:World} {xs:List Pa} {x:Pa} {h:Hdl} (hR:kY B w v xs) (h2:Rg.Own w b2 #[wv h] 42) (hI:BsP (λb=>v.ownBlock≠some b) w h x) (hn:xs.length<=1000000) (hB:B<=w.heap.size) :
  ∃ v' w',(Builtin.append_ #[41,41] ty #[v,.slice (some ⟨b2,0,none⟩) 1 1]).run prog w = .ok v' w'/\kY B w' v' (xs++[x])/\w.grownBy w' v.ownBlock/\(v'.ownBlock=v.ownBlock\/v'.ownBlock=some w.heap.size):=by
 obtain ⟨i0,hi,hz,hsz,hby⟩:=CZ;obtain ⟨hs,hlen,ho,hp⟩:=hR;obtain ⟨v',w',hr,h3,h4,_,h5⟩:=run_append_own_at (P:=prog) w B 41 ty 42 i0 (.slice none 0 0) 1 24 underlying41 hi hz hsz hby rfl (by decide) v xs.length _ ho ⟨b2,0,none⟩ 1 1 [wv h] rfl
  (λj u hu=>by
   have hj:j=0:=by
    have:=(List.getElem?_eq_some_iff.1 hu).1;simp at this;omega
   subst hj;have hu':wv h=u:=by simpa using hu
   rw [Addr.add_mid,<-hu'];exact aU h2 rfl)
  (λu hu=>by rw [List.mem_singleton.1 hu]; rfl) (by unfold maxLen; omega) (by omega) hB
 exact ⟨v',w',hr,kY.push hlen hp hI h3 h4 h5,h4,h5⟩
theorem oh {rest:List Oper} {a:Go.Act} {w:World} {Q:Exit->Go.Act->World->Prop} {xs:List Pa} {x:Pa} {h:Hdl} (hR:kY B w v xs) (h2:Rg.Own w b2 #[wv h] 42) (hI:BsP (λb=>v.ownBlock≠some b) w h x) (hn:xs.length<=1000000) (hB:B<=w.heap.size) (hgd:o.guard=none)
  (ho:∃ s y,o.op = .call { callee:=.builtin .append,args:=#[s,y],argTypes:=#[41,41] }/\a.eval s=v/\a.eval y = .slice (some ⟨b2,0,none⟩) 1 1)
  (H:∀ v' w',kY B w' v' (xs++[x])->w.grownBy w' v.ownBlock->(v'.ownBlock=v.ownBlock\/v'.ownBlock=some w.heap.size)->wpList prog ops Q rest (a.put o.dst v') w'):wpList prog ops Q (o::rest) a w:=by
 obtain ⟨s,y',ho,hs,hy⟩:=ho;obtain ⟨v',w',hr,h3,h4,h5⟩:=La (ty:=o.type) hR h2 hI hn hB;refine iw hgd v' w' ?_ (H v' w' h3 h4 h5);unfold execOp;simp only [ho,resolve,invoke,builtin,Sem.run_bind,Sem.run_pure,Result.andThen_ok,List.map_toArray,List.map_cons,List.map_nil,hs,hy,hr]
theorem tN {w:World} {h:Hdl} (b:Nat) (hb:b=w.heap.size) (ho:∃ y,o.op = .buildSlice 41 1 #[(0,y)]/\ev y = .slice h.1 h.2.1 h.2.2) :
  (execOp ev o).run prog w = .ok (.value (.slice (some ⟨b,0,none⟩) 1 1)) (w.alloc (.cells #[wv h] 42)):=by
 obtain ⟨y,ho,hx⟩:=ho;subst hb;unfold execOp;simp only [ho,List.map_toArray,List.map_cons,List.map_nil,hx];obtain ⟨a,n,c⟩:=h;kernel_rfl
theorem lU {w:World} {b off:Nat} {h2 h3:Nat} (hc:w.cell? ⟨b,off,none⟩=some (.slice h1 h2 h3)) (ho:∃ x,o.op = .load 42 x/\ev x = .pointer (some ⟨b,off,none⟩)) :
  (execOp ev o).run prog w = .ok (.value (.slice h1 h2 h3)) w:=by
 obtain ⟨x,ho,hx⟩:=ho;unfold execOp;simp [ho,hx,go_sem,hc]
theorem wW {B' n sz:Nat} {w:World} {xs:List Value} (h:w.ownsRow B e sz v n xs) (hb:B'<=B):w.ownsRow B' e sz v n xs:=by
 obtain ⟨h1,h2⟩:=h;exact ⟨h1,h2.imp id λ⟨g,cap,cur,e,hg,r⟩=>⟨g,cap,cur,e,Nat.le_trans hb hg,r⟩⟩
theorem ng {n:Nat} {w w':World} {xs:List Value} (h:w.ownsRow B e 1 v n xs) (hb:Below w.heap.size w w'):w'.ownsRow B e 1 v n xs:=h.kept (Bu.fO hb) (by cases v.ownBlock <;> simp)
theorem dO {rest:List Oper} {a:Go.Act} {w:World} {Q:Exit->Go.Act->World->Prop} {B2:Nat} {v2:Value} {xs ys:List aK} (hgd:o.guard=none) (s x:Operand) (ho:o.op = .call { callee:=.builtin .append,args:=#[s,x],argTypes:=#[34,34] })
  (hs:a.eval s=v) (hx:a.eval x=v2) (hR:w.ownsRow B 9 1 v xs.length (xs.map Value.string)) (hS:w.ownsRow B2 9 1 v2 ys.length (ys.map Value.string)) (hn:xs.length+ys.length<=1000000) (hB:B<=w.heap.size)
  (h:∀ v' w',w'.ownsRow B 9 1 v' (xs++ys).length ((xs++ys).map Value.string)->w.grownBy w' v.ownBlock->(v'.ownBlock=v.ownBlock\/v'.ownBlock=some w.heap.size)->wpList prog ops Q rest (a.put o.dst v') w'):wpList prog ops Q (o::rest) a w:=by
 obtain ⟨i0,hi,hz0,hz1,hz2⟩:=mP;rcases hS.2 with ⟨rfl,h0⟩ | ⟨g,cap,cur,rfl,hg,hh,hnc,hcm,hsz,htk⟩
 .have hy:ys=[]:=List.length_eq_zero_iff.1 h0;subst hy;refine wpList_append_own_none hgd s x 34 ho B 9 i0 1 underlying34 hi v xs.length (xs.map Value.string) hs hR hx (h v w ?_ ⟨rfl,rfl,rfl,aF,λ_ _ _=>rfl⟩ (.inl rfl));rw [List.append_nil];exact hR
 .refine wpList_append_own_at w hgd s x 34 ho B 9 i0 (.string ⟨#[]⟩) 1 16 underlying34 hi hz0 hz1 hz2 rfl (by decide) v xs.length (xs.map Value.string) hs hR ⟨g,0,none⟩ ys.length cap (ys.map Value.string) hx (by simp) (λj u hu=>?_) (λu hu=>?_) (by unfold maxLen; omega) (by omega) hB (λv' w' h1 h2 _ h4=>h v' w' ?_ h2 h4)
  .rw [Addr.add_mid,Nat.zero_add,cell_of_row w g _ _ _ _ hh];have hj:j<ys.length:=by have:=(List.getElem?_eq_some_iff.1 hu).1; simpa using this
   rw [<-Array.getElem?_toList,<-hu,<-htk,List.getElem?_take_of_lt (by omega)]
  .obtain ⟨y,_,rfl⟩:=List.mem_map.1 hu;rfl
  .rw [List.length_append,List.map_append];exact h1
def dW (f:Fin 16->List aK) (j:Nat):List aK:=(((List.finRange 16).take j).map f).flatten
theorem vI (f:Fin 16->List aK) {j:Nat} (hj:j<16):dW f (j+1)=dW f j++f ⟨j,hj⟩:=by
 unfold dW;rw [List.take_add_one,List.getElem?_eq_getElem (by simpa using hj),List.map_append,List.flatten_append];simp
theorem En (f:Fin 16->List aK):dW f 16=((List.finRange 16).map f).flatten:=by
 unfold dW;rw [List.take_of_length_le (by simp)]
theorem BI (f:Fin 16->List aK):∀ (k j:Nat),j+k=16->(dW f j).length<=(dW f 16).length
 | 0,j,h=>by
  obtain rfl:j=16:=by omega
  exact aF
 | k+1,j,h=>by
  have:=BI f k (j+1) (by omega);rw [vI f (show j<16 by omega),List.length_append] at this;omega
def rX (w:World) (xs:List aK) (e:Ending) (w':World):Prop:=∃ v,e = .returned v/\w'.ownsRow w.heap.size 9 1 v xs.length (xs.map Value.string)/\Below w.heap.size w w'
theorem rX.st {w w':World} {xs:List aK} {e:Ending} (h:rX w xs e w'):∃ a cap,e = .returned (.slice a xs.length cap)/\jV w' a xs.length cap xs/\Below w.heap.size w w':=by
 obtain ⟨v,rfl,hr,hb⟩:=h;obtain ⟨a,cap,rfl,hs⟩:=jV.rT hr;exact ⟨a,cap,rfl,hs,hb⟩
theorem row_one (w:World) (s:aK):(w.alloc (.cells #[.string s] 9)).ownsRow w.heap.size 9 1 (.slice (some ⟨w.heap.size,0,none⟩) 1 1) [s].length ([s].map Value.string) :=
 World.ownsRow_lit (e:=9) (size:=1) (base:=w.heap.size) w #[.string s] 1 aF (by unfold maxLen; decide) rfl
end Ew
end
section
open Go.RowKit
namespace Sx
open Tr Ni Pk Ky No Rf Rl Tm
open Sm (Tab)
def jw (N:Nd) (j:Nat):Pa:=if N.kd=2 then N.p else [UInt8.ofNat j]
def jk (N:Nd) (ps:List (aJ)):Nat->List Iv
 | 0=>[]
 | j+1=>if (N.ks.getD j eB).size=0 then jk N ps j else jk N ps j++[(jw N j,ps.getD (jk N ps j).length none)]
theorem wJ (N:Nd) (ps:List (aJ)) (hl:N.ks.length=16):∀ j,j<=16->(jk N ps j).length=(bL (N.ks.take j)).length
 | 0,_=>rfl
 | j+1,hj=>by
  have ih:=wJ N ps hl j (by omega);rw [rQ N.ks j (by omega)];unfold jk;by_cases h:(N.ks.getD j eB).size=0
  .rw [if_pos h,if_neg (by simpa using h),List.append_nil,ih]
  .rw [if_neg h,if_pos h,List.length_append,List.length_append,ih];rfl
theorem IU (N:Nd) (ps:List (aJ)):∀ j,(jk N ps j).map Prod.fst=((List.range j).filter λi=>decide ((N.ks.getD i eB).size≠0)).map (jw N)
 | 0=>rfl
 | j+1=>by
  have ih:=IU N ps j;rw [List.range_succ,List.filter_append,List.map_append,<-ih];show List.map Prod.fst (if (N.ks.getD j eB).size=0 then jk N ps j else jk N ps j++[(jw N j,ps.getD (jk N ps j).length none)])=_;by_cases h:(N.ks.getD j eB).size=0
  .rw [if_pos h,List.filter_cons_of_neg (by rw [decide_eq_false (λe=>e h)]; decide)];simp
  .rw [if_neg h,List.filter_cons_of_pos (p:=λi=>decide ((N.ks.getD i eB).size≠0)) (aI h),List.map_append];rfl
theorem Ir (N:Nd) (ps:List (aJ)) (hl:N.ks.length=16) (hp:ps.length=(bL N.ks).length):∀ j,j<=16->(jk N ps j).map Prod.snd=ps.take (jk N ps j).length
 | 0,_=>rfl
 | j+1,hj=>by
  have ih:=Ir N ps hl hp j (by omega);have hlen:=wJ N ps hl (j+1) hj;have hmono:=vE (ks:=N.ks) (j+1);unfold jk;unfold jk at hlen;by_cases h:(N.ks.getD j eB).size=0
  .rw [if_pos h]; exact ih
  .rw [if_neg h] at hlen ⊢;rw [List.length_append,List.length_singleton] at hlen ⊢;have hlt:(jk N ps j).length<ps.length:=by omega
   rw [List.map_append,ih,List.take_succ_eq_append_getElem hlt];simp [List.getD,hlt]
theorem KR {t:T} {L:Nat} (g:Tr.Good t L) (hL:L<=64) (f:Fine t):((List.range 16).filter λi=>decide (((bM t).ks.getD i eB).size≠0)).map (jw (bM t))=dK t:=by
 have hz:∀ (st:Nat->Pa),((List.range 16).filter λi=>decide ((zks.getD i eB).size≠0)).map st=[]:=λst=>by
  have:((List.range 16).filter λi=>decide ((zks.getD i eB).size≠0))=[]:=by decide +kernel
  rw [this]; rfl
 cases t with
 | nil=>exact hz _
 | leaf p v=>exact hz _
 | stub r=>exact hz _
 | ext q s =>
  have hs:(ref s).size≠0:=(mX g.2.2.2.2 (by omega) f).2 (pQ g.2.2.2.1);show ((List.range 16).filter λi=>decide (((eZ (ref s)).getD i eB).size≠0)).map _=[q]
  have h1:((List.range 16).filter λi=>decide (((eZ (ref s)).getD i eB).size≠0))=[0]:=by
   rw [show List.range 16=0::(List.range 15).map (· + 1) from rfl,List.filter_cons_of_pos (by show decide ((ref s).size≠0)=true; exact aI hs)];congr 1
  rw [h1];rfl
 | br ks =>
  have h:∀ i,(ref (ks i)).size≠0↔ks i ≠ .nil:=λi=>mX (g.2.2 i) (by omega) (f i);show ((List.range 16).filter λi=>decide (((dn λi=>ref (ks i)).getD i eB).size≠0)).map _=(eH ks).map oK;have hr:List.range 16=(List.finRange 16).map Fin.val:=by decide
  rw [hr,List.filter_map,List.map_map];unfold eH;have e:((λi:Nat=>decide (((dn λi=>ref (ks i)).getD i eB).size≠0)) ∘ Fin.val)=λi:Fin 16=>!isNil (ks i):=by
   funext i;show decide (((dn λi=>ref (ks i)).getD i.val eB).size≠0)=_;rw [kJ];cases hi:isNil (ks i) with
   | true=>rw [cO.1 hi]; rfl
   | false=>exact aI ((h i).2 λe=>by rw [cO.2 e] at hi; cases hi)
  rw [e];apply List.map_congr_left;intro i _;rfl
theorem Gq {w:World} {z:Int} (b:Nat) (hb:b=w.heap.size) (ho:∃ y,o.op = .buildSlice 42 1 #[(0,y)]/\ev y = .int .u8 z) :
  (execOp ev o).run prog w = .ok (.value (.slice (some ⟨b,0,none⟩) 1 1)) (w.alloc (.cells #[.int .u8 z] 5)):=by
 obtain ⟨y,ho,hx⟩:=ho;subst hb;unfold execOp;simp only [ho,List.map_toArray,List.map_cons,List.map_nil,hx];kernel_rfl
theorem Ya {w:World} {b:Nat} {c:UInt8} (h:Rg.Own w b #[.int .u8 c.toNat] 5):bA w (some ⟨b,0,none⟩) 1 1 [c] :=
 ⟨aF,by unfold maxLen; omega,rfl,λe=>(by cases e),λj hj=>by
  obtain rfl:j=0:=by omega
  exact ⟨b,0,rfl,h.1,Tm.aU h rfl⟩⟩
theorem IC {w:World} {x:Iv} {h:Hdl} (b:Nat) (hb:b=w.heap.size) (ho:∃ y,o.op = .buildSlice 140 1 #[(0,y)]/\ev y = .agg (inA x h)) :
  (execOp ev o).run prog w = .ok (.value (.slice (some ⟨b,0,none⟩) 1 1)) (w.alloc (.cells (inA x h) 143)):=by
 obtain ⟨y,ho,hx⟩:=ho;subst hb;unfold execOp;simp only [ho,List.map_toArray,List.map_cons,List.map_nil,hx];obtain ⟨a,n,c⟩:=h;kernel_rfl
theorem zN (a:aJ) (n c:Nat) (p:aJ) (x:Iv) (hx:x.2=p):prog.built 143 [(0,.slice a n c),(1,tv p)]=some (inA x (a,n,c)):=by
 subst hx;kernel_rfl
def FC (M:Mp) (w:World) (t:T) (e:Ending) (w':World):Prop:=∃ a n c xs,e = .returned (.slice a n c)/\cK w' a n c xs/\(∀ ad,a=some ad->w.heap.size<=ad.block)/\xs.map Prod.fst=dK t/\Are M (xs.map Prod.snd) (bC t)/\Fr M M w w'/\Inv M w'/\Tab w'
theorem JZ (M:Mp) (p:aJ) (t:T) (L:Nat) (g:Tr.Good t L) (hL:L<=64) (f:Fine t) (w:World) (hi:Inv M w) (ht:IsT M p t) (hT:Tab w) :
  Calls prog 82 #[tv p] w (FC M w t):=by
 obtain ⟨w1,hw1⟩:=au (w.alloc (.cells #[.pointer p] 31))
 have ag:Rg.Own w1 w.heap.size #[.pointer p] 31:=by rw [hw1]; exact Rg.Own.new _ _ _
 have hb1:Below w.heap.size w w1:=by rw [hw1]; exact al1 _ _
 have lA:=hid (sw M p t L g hL f w1 (hi.below hb1) ht (hT.below hb1 hT.pos));have bc:=hid ag;have HB1:=hid hb1;have HI:=hid hi;have de:Hid ((bM t).ks.length=16):=hid (dP t);have cX:=hid (KR g hL f);have vA:=hid (EF g hL f);obtain ⟨N,hN⟩:=av (bM t)
 have HN:=hid hN;rw [hN] at de cX vA;clear ag hb1 hi g f hN;have hgo:Calls prog 82 #[.agg #[.pointer p]] w (FC M w t):=by
  subst hw1;go_enter func82,ntmps82;go_wp2_with (first
   | (refine ay (aT (Tm.aU (j:=0) bc.out rfl) ⟨_,rfl,rfl⟩) ?_))
  refine lA.out.mono ?_;rintro e w2 ⟨na,nn,nc,ka,kc,ps,rfl,_,hbs,j5,dp,hka,f2,i2,t2⟩;rw [HN.out] at hbs ⊢;have hlen:ps.length=(bL N.ks).length:=by rw [vA.out,List.length_map,dp.1]
  have iS:=hid hbs;have nf:=hid j5;have gp:=hid dp;have fm:Hid (Fr M M w w2/\Inv M w2/\Tab w2):=hid ⟨(Fr.below M HB1.out).trans HI.out f2,i2,t2⟩;have HLen:=hid hlen;have nh:dQ (w2.alloc (.cells (ndC nd0 none 0 0) 56)) w2.heap.size nd0 none 0 0:=Rg.Own.new _ _ _;have eC:=hid nh;have hs1:w.heap.size<=w2.heap.size:=fm.out.1.size;have HS2:=hid hs1;clear hbs j5 dp hka f2 i2 t2 hlen nh lA bc hs1;go_wp2_with (first
   | (refine ay (aX _ _ _ w2.heap.size rfl rfl) ?_)
   | (refine bG eC.out rfl N na nn nc de.out rfl _ _ rfl rfl rfl rfl ?_)
   | (refine ay (oN (dD eC.out) de.out ⟨_,rfl,rfl⟩) ?_))
  obtain ⟨w3,hw3⟩:=au ((w2.alloc (.cells (ndC nd0 none 0 0) 56)).setRow w2.heap.size (ndC N na nn nc))
  have HB3:Hid (Below w2.heap.size w2 w3):=hid (by rw [hw3]; exact bU (al1 _ _) aF _);have am:Hid (dQ w3 w2.heap.size N na nn nc):=hid (by rw [hw3]; exact dD eC.out);rw [<-hw3];clear hw3 eC;obtain ⟨gN,hgN⟩:=av w2.heap.size
  rw [hgN];rw [hgN] at am;have fb:=hid (iS.out.1.below HB3.out);have tj:=hid (nf.out.below HB3.out);clear hgN;go_loopw [5,16] (λv0 i wr=>∃ (j:Nat) (v:Value),v=v0/\j<=16/\i = .int .i64 j/\Hid (eP w3.heap.size wr v (jk N ps j))/\Hid (Below w3.heap.size w3 wr)) (λ_ i _=>16-(intOf i).toNat)
  case atStart=>exact ⟨0,_,rfl,Nat.zero_le _,rfl,hid (eP.nil _ _),hid aG⟩
  case round =>
   obtain ⟨j,v,rfl,hj,rfl,HR,HB⟩:=hrel;by_cases hlt:j<16
   .have i1:(j:Int)<16:=by omega
    by_cases hkz:(N.ks.getD j eB).size=0
    .have mr:Hid (jk N ps (j+1)=jk N ps j):=hid (by rw [jk,if_pos hkz]);have HE:Hid (N.ks.getD j eB=eB):=hid (dU hkz);clear hkz;go_wp2_with (refine Rg.run rfl (.string (N.ks.getD j eB)) _ (fM de.out hlt ⟨_,_,rfl,rfl,rfl⟩) ?_; rw [HE.out])
     go_roundw
     case rel=>exact ⟨j+1,_,rfl,by omega,by go_num,by rw [mr.out]; exact HR,HB⟩
     case measure=>simp [intOf]; omega
    .have mr:Hid (jk N ps (j+1)=jk N ps j++[(jw N j,ps.getD (jk N ps j).length none)]):=hid (by rw [jk,if_neg hkz]);have hne:=Ni.dz (s:=N.ks.getD j eB) (by omega);have hel:(jk N ps j).length<ps.length:=by
      have h1:=wJ N ps de.out (j+1) (by omega);rw [mr.out,List.length_append,List.length_singleton] at h1;have h2:=vE (ks:=N.ks) (j+1);have h3:=HLen.out;omega
     have z9:ps.length<=16:=by rw [gp.out.1]; exact Cj t
     obtain ⟨b,off,rfl,hblt,hcc⟩:=tj.out.2.2.2.2 _ hel;obtain ⟨q,hq⟩:=av (ps.getD (jk N ps j).length none)
     rw [hq] at hcc mr;have hcr:=aV HB.out hcc;obtain ⟨va,vc,rfl⟩:∃ a c,v = .slice a (jk N ps j).length c:=by
      obtain ⟨_,_,ho,_⟩:=HR.out;rcases ho.2 with ⟨rfl,h0⟩ | ⟨g,cap,cur,rfl,_⟩
      .exact ⟨_,_,by rw [h0]⟩
      .exact ⟨_,_,rfl⟩
     have HU:Hid (((UInt8.ofNat j).toNat:Int)=(j:Int)):=hid (by
      have:(UInt8.ofNat j).toNat=j:=by simp; omega
      rw [this])
     obtain ⟨K,hK⟩:=av (N.ks.getD j eB)
     have HK:=hid hK;rw [hK] at hne;clear hkz hK hcc hblt hq;by_cases hk2:N.kd=2
     .have k0:N.kd=2:=hk2;have k1:(N.kd==2)=true:=by rw [beq_iff_eq]; exact hk2
      have k2:decide (N.kd=2)=true:=aI hk2;have tk:Hid (jw N j=N.p):=hid (if_pos hk2);have hA:Rg.Own (wr.alloc (.cells #[.int .u8 (j:Int)] 5)) wr.heap.size #[.int .u8 (UInt8.ofNat j).toNat] 5:=by rw [HU.out]; exact Rg.Own.new _ _ _
      have j6:Below wr.heap.size wr (wr.alloc (.cells #[.int .u8 (j:Int)] 5)):=al1 _ _;obtain ⟨wa,kO⟩:=au (wr.alloc (.cells #[.int .u8 (j:Int)] 5))
      rw [<-kO] at hA j6;have oB:BsP (λk=>(Value.slice va (jk N ps j).length vc).ownBlock≠some k) wa (na,nn,nc) (jw N j):=(by
       rw [tk.out];exact QA (h:=(na,nn,nc)) (HR.out.below j6) fb.out (HB.out.trans (j6.mono HB.out.size)) aF)
      obtain ⟨w4,hw4⟩:=au (wa.alloc (.cells (inA (jw N j,q) (na,nn,nc)) 143))
      have hO4:Rg.Own w4 wa.heap.size (inA (jw N j,q) (na,nn,nc)) 143:=by rw [hw4]; exact Rg.Own.new _ _ _
      have hb4:Below wa.heap.size wa w4:=by rw [hw4]; exact al1 _ _
      have hbW:Below wr.heap.size wr w4:=j6.trans (hb4.mono j6.size);have fR:Hid (BsP (λk=>(Value.slice va (jk N ps j).length vc).ownBlock≠some k) w4 (na,nn,nc) (jw N j)):=hid (oB.kept hb4.size λk _ hl=>hb4.block k hl);have cn:=hid hO4;have HR4:=hid (HR.out.below hbW);have GC:=hid hbW;have GE:Hid (_=_):=hid kO;have tl:Hid (_=_):=hid hw4;have zb:Hid (wa.cell? ⟨gN,0,none⟩=some (.int .i64 N.kd)):=hid (bP ((am.out.below HB.out).below j6)).1
      have NB:Hid (wa.cell? ⟨gN,1,none⟩=some (.slice na nn nc)):=hid (bP ((am.out.below HB.out).below j6)).2.1;have HC:Hid (wa.cell? ⟨b,off+(jk N ps j).length,none⟩=some (.pointer q)):=hid (aV j6 hcr);have qS:Hid (w3.heap.size<=w4.heap.size/\(jk N ps j).length<=1000000):=hid ⟨Nat.le_trans HB.out.size hbW.size,by omega⟩;obtain ⟨xs,hxs⟩:=av (jk N ps j)
      rw [hxs] at hel mr HC qS HR4 fR;rw [hxs];obtain ⟨n0,hn0⟩:=av xs.length
      have U9:=hid hn0;rw [hn0] at hel HC HR4 fR ⊢;have h0:=zb.out;clear hA j6 oB hO4 hb4 hbW kO hw4 hxs hk2 hcr am fb tj hn0;go_wp2_with (first
       | (refine Rg.run rfl (.string (N.ks.getD j eB)) _ (fM de.out hlt ⟨_,_,rfl,rfl,rfl⟩) ?_; rw [HK.out])
       | (refine ay (Gq wr.heap.size rfl ⟨_,rfl,rfl⟩) ?_; rw [<-GE.out])
       | (refine Rg.run rfl (.slice na nn nc) _ (Ew.lU (h1:=na) (h2:=nn) (h3:=nc) NB.out ⟨_,rfl,rfl⟩) ?_)
       | (refine ay (aT HC.out ⟨_,rfl,rfl⟩) ?_)
       | (refine ay (bK (zN na nn nc q (jw N j,q) rfl) ⟨_,rfl,rfl⟩) ?_)
       | (refine ay (IC wa.heap.size rfl ⟨_,rfl,rfl⟩) ?_; rw [<-tl.out])
       | (refine pq rfl ⟨_,_,rfl,rfl,rfl⟩ HR4.out cn.out fR.out qS.out.2 qS.out.1 ?_))
      intro v' w5 ej hg5;have ew:=hid ej;have ae:Hid (Below w3.heap.size w3 w5):=hid (kM HR4.out (HB.out.trans (GC.out.mono HB.out.size)) qS.out.1 hg5);clear ej hg5;go_wp2;go_roundw
      case rel=>exact ⟨j+1,_,rfl,by omega,by go_num,by rw [mr.out]; exact ew,ae⟩
      case measure=>simp [intOf]; omega
     .have k1:(N.kd==2)=false:=by rw [beq_eq_false_iff_ne]; exact hk2
      have k2:decide (N.kd=2)=false:=decide_eq_false hk2;have tk:Hid (jw N j=[UInt8.ofNat j]):=hid (if_neg hk2);have hA:Rg.Own (wr.alloc (.cells #[.int .u8 (j:Int)] 5)) wr.heap.size #[.int .u8 (UInt8.ofNat j).toNat] 5:=by rw [HU.out]; exact Rg.Own.new _ _ _
      have j6:Below wr.heap.size wr (wr.alloc (.cells #[.int .u8 (j:Int)] 5)):=al1 _ _;obtain ⟨wa,kO⟩:=au (wr.alloc (.cells #[.int .u8 (j:Int)] 5))
      rw [<-kO] at hA j6;have oB:BsP (λk=>(Value.slice va (jk N ps j).length vc).ownBlock≠some k) wa (some ⟨wr.heap.size,0,none⟩,1,1) (jw N j):=(by
       rw [tk.out];refine ⟨Ya hA,λad e _ e2=>?_⟩;cases e;exact absurd (HR.out.lt _ e2).2 (Nat.lt_irrefl _))
      obtain ⟨w4,hw4⟩:=au (wa.alloc (.cells (inA (jw N j,q) (some ⟨wr.heap.size,0,none⟩,1,1)) 143))
      have hO4:Rg.Own w4 wa.heap.size (inA (jw N j,q) (some ⟨wr.heap.size,0,none⟩,1,1)) 143:=by rw [hw4]; exact Rg.Own.new _ _ _
      have hb4:Below wa.heap.size wa w4:=by rw [hw4]; exact al1 _ _
      have hbW:Below wr.heap.size wr w4:=j6.trans (hb4.mono j6.size);have fR:Hid (BsP (λk=>(Value.slice va (jk N ps j).length vc).ownBlock≠some k) w4 (some ⟨wr.heap.size,0,none⟩,1,1) (jw N j)):=hid (oB.kept hb4.size λk _ hl=>hb4.block k hl);have cn:=hid hO4;have HR4:=hid (HR.out.below hbW);have GC:=hid hbW;have GE:Hid (_=_):=hid kO;have tl:Hid (_=_):=hid hw4;have zb:Hid (wa.cell? ⟨gN,0,none⟩=some (.int .i64 N.kd)):=hid (bP ((am.out.below HB.out).below j6)).1
      have NB:Hid (wa.cell? ⟨gN,1,none⟩=some (.slice na nn nc)):=hid (bP ((am.out.below HB.out).below j6)).2.1;have HC:Hid (wa.cell? ⟨b,off+(jk N ps j).length,none⟩=some (.pointer q)):=hid (aV j6 hcr);have qS:Hid (w3.heap.size<=w4.heap.size/\(jk N ps j).length<=1000000):=hid ⟨Nat.le_trans HB.out.size hbW.size,by omega⟩;obtain ⟨xs,hxs⟩:=av (jk N ps j)
      rw [hxs] at hel mr HC qS HR4 fR;rw [hxs];obtain ⟨n0,hn0⟩:=av xs.length
      have U9:=hid hn0;rw [hn0] at hel HC HR4 fR ⊢;have h0:=zb.out;clear hA j6 oB hO4 hb4 hbW kO hw4 hxs hk2 hcr am fb tj hn0;go_wp2_with (first
       | (refine Rg.run rfl (.string (N.ks.getD j eB)) _ (fM de.out hlt ⟨_,_,rfl,rfl,rfl⟩) ?_; rw [HK.out])
       | (refine ay (Gq wr.heap.size rfl ⟨_,rfl,rfl⟩) ?_; rw [<-GE.out])
       | (refine ay (aT HC.out ⟨_,rfl,rfl⟩) ?_)
       | (refine ay (bK (zN (some ⟨wr.heap.size,0,none⟩) 1 1 q (jw N j,q) rfl) ⟨_,rfl,rfl⟩) ?_)
       | (refine ay (IC wa.heap.size rfl ⟨_,rfl,rfl⟩) ?_; rw [<-tl.out])
       | (refine pq rfl ⟨_,_,rfl,rfl,rfl⟩ HR4.out cn.out fR.out qS.out.2 qS.out.1 ?_))
      intro v' w5 ej hg5;have ew:=hid ej;have ae:Hid (Below w3.heap.size w3 w5):=hid (kM HR4.out (HB.out.trans (GC.out.mono HB.out.size)) qS.out.1 hg5);clear ej hg5;go_wp2;go_roundw
      case rel=>exact ⟨j+1,_,rfl,by omega,by go_num,by rw [mr.out]; exact ew,ae⟩
      case measure=>simp [intOf]; omega
   .obtain rfl:j=16:=by omega
    have hR:=HR.out;obtain ⟨a,n,c,rfl,zc⟩:=hR.done;have hlo:∀ ad,a=some ad->w3.heap.size<=ad.block:=λad e=>by
     subst e;exact (hR.lt ad.block rfl).1
    have l9:=wJ N ps de.out 16 aF;have htk:N.ks.take 16=N.ks:=by rw [<-de.out]; exact List.take_length
    rw [htk,<-HLen.out] at l9;have zd:(jk N ps 16).map Prod.snd=ps:=by
     rw [Ir N ps de.out HLen.out 16 aF,l9,List.take_length]
    have af:Hid (FC M w t (.returned (.slice a n c)) wr):=hid ⟨a,n,c,_,rfl,zc,λad e=>Nat.le_trans (Nat.le_trans HS2.out HB3.out.size) (hlo ad e),by rw [IU]; exact cX.out,by rw [zd]; exact gp.out,fm.out.1.trans HI.out (Fr.below M (bst HB3.out HB.out)),(fm.out.2.1.below HB3.out).below HB.out,(fm.out.2.2.below HB3.out fm.out.2.2.pos).below HB.out (aH fm.out.2.2.pos HB3.out.size)⟩;clear zc hlo l9 htk zd hR HR;go_wp2;go_ret;exact af.out
 exact hgo
def gH (n:Nat):Int:=((min n 9223372036854775807:Nat):Int)
def chA (q:aJ) (c:Int):aM:=#[.pointer q,.int .i64 c]
def plA (p:aJ) (d:Int):aM:=#[.pointer p,.int .i64 d]
theorem RD (n:Nat):0<=gH n/\gH n<=9223372036854775807:=by unfold gH; omega
theorem Bl {n:Nat}:gH n=0↔n=0:=by unfold gH; omega
theorem VB (a b:Nat):gH a+min (gH b) (9223372036854775807-gH a)=gH (a+b):=by unfold gH; omega
theorem MC:(prog.info? 81).map (·.size)=some 2:=by kernel_rfl
theorem Wu:(prog.info? 79).map (·.size)=some 2:=by kernel_rfl
theorem SX:(prog.info? 143).map (·.size)=some 2:=by kernel_rfl
theorem Wy (q:aJ) (c:Int):(chA q c).all (·.oneCell')=true:=by simp [chA,Value.oneCell']
theorem WZ (x:Iv) (h:Hdl):(inA x h).all (·.oneCell')=true:=by simp [inA,Value.oneCell']
theorem bJ (ev:Operand->Value) (o:Oper) (w:World) (b:Nat) (hb:b=w.heap.size) (ho:o.op = .alloc 81):(execOp ev o).run prog w = .ok (.value (.pointer (some ⟨b,0,none⟩))) (w.alloc (.cells (chA none 0) 81)):=by
 subst hb;unfold execOp;rw [ho];kernel_rfl
theorem Gb (ev:Operand->Value) (o:Oper) (w:World) (b:Nat) (hb:b=w.heap.size) (ho:o.op = .alloc 143):(execOp ev o).run prog w = .ok (.value (.pointer (some ⟨b,0,none⟩))) (w.alloc (.cells (inA ([],none) (none,0,0)) 143)):=by
 subst hb;unfold execOp;rw [ho];kernel_rfl
theorem bE {rest:List Oper} {act:Go.Act} {w:World} {Q:Exit->Go.Act->World->Prop} {b:Nat} (h:Rg.Own w b cs 81) (hs:cs.size=2) (q:aJ) (c:Int)
  (hgd:o.guard=none) (x y:Operand) (ho:o.op = .store 81 x y) (hx:act.eval x = .pointer (some ⟨b,0,none⟩)) (hy:act.eval y = .agg (chA q c)) (hd:o.dst=none)
  (hQ:∀ w',Rg.Own w' b (chA q c) 81->Rg.Upd w b w'->wpList prog ops Q rest act w'):wpList prog ops Q (o::rest) act w :=
 wpList_store_rowTo hgd 81 x y ho hd b _ hx hy 81 _ h.2 MC hs (Wy _ _) (hQ _ ⟨by simp; exact h.1,setRow_heap _ _ _ _ _ _ h.2⟩ (Rg.Upd.set _ _ _))
theorem Fg {rest:List Oper} {act:Go.Act} {w:World} {Q:Exit->Go.Act->World->Prop} {b:Nat} (h:Rg.Own w b cs 143) (hs:cs.size=2) (x0:Iv) (h0:Hdl)
  (hgd:o.guard=none) (x y:Operand) (ho:o.op = .store 143 x y) (hx:act.eval x = .pointer (some ⟨b,0,none⟩)) (hy:act.eval y = .agg (inA x0 h0)) (hd:o.dst=none)
  (hQ:∀ w',Rg.Own w' b (inA x0 h0) 143->Rg.Upd w b w'->wpList prog ops Q rest act w'):wpList prog ops Q (o::rest) act w :=
 wpList_store_rowTo hgd 143 x y ho hd b _ hx hy 143 _ h.2 SX hs (WZ _ _) (hQ _ ⟨by simp; exact h.1,setRow_heap _ _ _ _ _ _ h.2⟩ (Rg.Upd.set _ _ _))
theorem Gc {w:World} {b:Nat} {q:aJ} {c:Int} (h:Rg.Own w b (chA q c) 81):(loadVar 81 ⟨b,0,none⟩).run prog w = .ok (.agg (chA q c)) w :=
 run_loadVar_row (P:=prog) w b 81 81 (chA q c) (0,0) _ h.2 underlying81 rfl MC
theorem kg {w:World} {b:Nat} {q:aJ} {c:Int} (h:Rg.Own w b (chA q c) 81) (ho:∃ x,o.op = .load 81 x/\ev x = .pointer (some ⟨b,0,none⟩)):(execOp ev o).run prog w = .ok (.value (.agg (chA q c))) w:=by
 obtain ⟨x,ho,hx⟩:=ho;unfold execOp;simp only [ho,hx,Instr.loadAt,Instr.sureAddr,Sem.run_bind,Sem.run_pure,Result.andThen_ok,Gc h]
theorem XH {w:World} {b:Nat} {p:aJ} (h:Rg.Own w b (plA p d) 79):(loadVar 79 ⟨b,0,none⟩).run prog w = .ok (.agg (plA p d)) w :=
 run_loadVar_row (P:=prog) w b 79 79 (plA p d) (0,0) _ h.2 underlying79 rfl Wu
theorem rC {w:World} {b:Nat} {p:aJ} (h:Rg.Own w b (plA p d) 79) (ho:∃ x,o.op = .load 79 x/\ev x = .pointer (some ⟨b,0,none⟩)):(execOp ev o).run prog w = .ok (.value (.agg (plA p d))) w:=by
 obtain ⟨x,ho,hx⟩:=ho;unfold execOp;simp only [ho,hx,Instr.loadAt,Instr.sureAddr,Sem.run_bind,Sem.run_pure,Result.andThen_ok,XH h]
theorem zF {w:World} {q:aJ} {c:Int} (ho:∃ x,o.op = .field 81 x 0/\ev x = .agg (chA q c)):(execOp ev o).run prog w = .ok (.value (tv q)) w:=by
 obtain ⟨x,ho,hx⟩:=ho;unfold execOp;simp only [ho,hx];kernel_rfl
theorem Dx:prog.built 81 []=some (chA none 0):=by kernel_rfl
theorem DI (q:aJ):prog.built 81 [(0,tv q)]=some (chA q 0):=by kernel_rfl
theorem CW (q:aJ) (c:Int):prog.built 81 [(0,tv q),(1,.int .i64 c)]=some (chA q c):=by kernel_rfl
theorem IV (q:aJ) (d:Int):prog.built 79 [(0,tv q),(1,.int .i64 d)]=some (plA q d):=by kernel_rfl
theorem jR {fn:Func} {u:Tmp} (hf:fn.results = #[.cell u 81]) (tmps:aM) {w:World} {b:Nat} {q:aJ} {c:Int} (hp:tmps.getD u undef = .pointer (some ⟨b,0,none⟩)) (h:Rg.Own w b (chA q c) 81) :
  (results fn tmps).run prog w = .ok (.agg (chA q c)) w:=by
 have hp':tmps[u]?.getD undef = .pointer (some ⟨b,0,none⟩):=by simpa using hp
 simp [results,hf,hp',asAddr,Gc h]
theorem Ar {fn:Func} {u v:Tmp} (hf:fn.results = #[.cell u 81,.tmp v]) (tmps:aM) {w:World} {b:Nat} {q:aJ} {c:Int} (hp:tmps.getD u undef = .pointer (some ⟨b,0,none⟩)) (h:Rg.Own w b (chA q c) 81) :
  (results fn tmps).run prog w = .ok (.tuple #[.agg (chA q c),tmps.getD v undef]) w:=by
 have hp':tmps[u]?.getD undef = .pointer (some ⟨b,0,none⟩):=by simpa using hp
 simp [results,hf,hp',asAddr,Gc h]
theorem kD (q:aJ) (c:Int):∀ (j:Nat) (x:Int),(chA q c)[j]? ≠ some (Value.int .u8 x):=λj x h=>by
 match j,h with
 | 0,h=>simp [chA] at h
 | 1,h=>simp [chA] at h
 | j+2,h=>simp [chA] at h
theorem NA (w:World):(zeroValue 81).run prog w = .ok (.agg (chA none 0)) w:=by kernel_rfl
theorem Qs (w:World):(zeroValue 69).run prog w = .ok (.agg #[]) w:=by kernel_rfl
theorem rM (em:Bool) (p:aJ) (w:World):(Instr.checkKey em 10000 31 (tv p)).run prog w = .ok () w:=by cases em <;> kernel_rfl
theorem JM (em:Bool) (p:aJ) (d:Int) (w:World):(Instr.checkKey em 10000 79 (.agg (plA p d))).run prog w = .ok () w:=by cases em <;> kernel_rfl
theorem DT (p:aJ):Instr.sameBits 10000 (tv p) (tv p)=true:=by simp [Instr.sameBits]
theorem VH (p:aJ) (d:Int):Instr.sameBits 10000 (.agg (plA p d)) (.agg (plA p d))=true:=by simp [Instr.sameBits,plA]
theorem YD {M:Mp} {w:World} (hi:Inv M w) {p q:aJ} {x y:T} (hp:IsT M p x) (hq:IsT M q y) (d:Nat):∃ c:Bool,(Op.equalIn (d+1) 29 (.pointer p) (.pointer q)).run prog w = .ok c w/\(c=true->q=p):=by
 cases p with
 | none =>
  refine ⟨q.isNone,by simp [Op.equalIn,run_underlying underlying29],λh=>?_⟩;cases q with
  | none=>rfl
  | some a=>cases h
 | some a =>
  cases q with
  | none=>exact ⟨false,by simp [Op.equalIn,run_underlying underlying29],λh=>by cases h⟩
  | some b =>
   have hsz:(prog.info? 108).map (·.size)=some 8:=by kernel_rfl
   cases hj:prog.info? 108 with
   | none=>rw [hj] at hsz; cases hsz
   | some j =>
    rw [hj] at hsz;have hs:j.size=8:=by simpa using hsz
    by_cases e:a=b
    .subst e;exact ⟨true,by simp [Op.equalIn,run_underlying underlying29,sizeOf,typeInfo,hj,run_sameAddr_same,hs],λ_=>rfl⟩
    .obtain ⟨ba,rfl,ma,_⟩:=hp;obtain ⟨bb,rfl,mb,_⟩:=hq;obtain ⟨_,_,_,_,_,_,_,_,ha,_⟩:=hi.part ma;obtain ⟨_,_,_,_,_,_,_,_,hb,_⟩:=hi.part mb;exact ⟨false,by simp [Op.equalIn,run_underlying underlying29,sizeOf,typeInfo,hj,hs,run_sameAddr_other w e ha hb],λh=>by cases h⟩
theorem Hy : ((prog.fieldsOf 31).toList.map fun f => (f.name, f.type, f.offset)) = [("part", 29, 0)] := by kernel_rfl
theorem PZ (p:aJ) (w:World):(part 29 #[.pointer p] 0).run prog w = .ok (.pointer p) w:=by kernel_rfl
theorem ML {M:Mp} {w:World} (hi:Inv M w) {p q:aJ} {x y:T} (hp:IsT M p x) (hq:IsT M q y) (d:Nat):∃ c:Bool,(Op.equalIn (d+2) 31 (tv p) (tv q)).run prog w = .ok c w/\(c=true->q=p):=by
 obtain ⟨c,h1,h2⟩:=YD hi hp hq d;refine ⟨c,?_,h2⟩;rw [run_equalIn_struct w (d+1) 31 #[.pointer p] #[.pointer q] (by kernel_rfl) (by kernel_rfl)];have hf:=Hy;generalize (prog.fieldsOf 31).toList=fs at hf;obtain ⟨f,rfl⟩:∃ f,fs=[f]:=by
  have h:=congrArg List.length hf;rw [List.length_map] at h;exact List.length_eq_one_iff.1 h
 simp only [List.map_cons,List.map_nil,List.cons.injEq,Prod.mk.injEq,and_true] at hf;obtain ⟨f1,f2,f3⟩:=hf;unfold Op.eqFields Op.eqFields;rw [f1,f2,f3,if_pos (by decide)];simp only [Sem.run_bind,PZ,Result.andThen_ok,h1];cases c <;> simp
theorem xg {M:Mp} {w:World} (hi:Inv M w) {p q:aJ} {x y:T} (hp:IsT M p x) (hq:IsT M q y):EqK prog 31 w (tv p) (tv q):=by
 obtain ⟨c,h1,h2⟩:=ML hi hp hq 9998;exact ⟨c,h1,λe=>by rw [h2 e]⟩
theorem OQ : ((prog.fieldsOf 79).toList.map fun f => (f.name, f.type, f.offset)) = [("tree", 31, 0), ("depth", 3, 1)] := by kernel_rfl
theorem RI (p:aJ) (d:Int) (w:World):(part 31 (plA p d) 0).run prog w = .ok (tv p) w:=by kernel_rfl
theorem Hg (p:aJ) (d:Int) (w:World):(part 3 (plA p d) 1).run prog w = .ok (.int .i64 d) w:=by kernel_rfl
theorem Uz {M:Mp} {w:World} (hi:Inv M w) {p q:aJ} {x y:T} (hp:IsT M p x) (hq:IsT M q y) (d e:Int):EqK prog 79 w (.agg (plA p d)) (.agg (plA q e)):=by
 obtain ⟨c,h1,h2⟩:=ML hi hp hq 9997;refine ⟨c&&(d==e),?_,λhe=>?_⟩
 .show (Op.equalIn (9999+1) _ _ _).run _ _=_;rw [run_equalIn_struct w 9999 79 (plA p d) (plA q e) (by kernel_rfl) (by kernel_rfl)];have hf:=OQ;generalize (prog.fieldsOf 79).toList=fs at hf;obtain ⟨f,g,rfl⟩:∃ f g,fs=[f,g]:=by
   have h:=congrArg List.length hf;rw [List.length_map] at h
   match fs,h with
   | [f,g],_=>exact ⟨f,g,rfl⟩
  simp only [List.map_cons,List.map_nil,List.cons.injEq,Prod.mk.injEq,and_true] at hf;obtain ⟨⟨f1,f2,f3⟩,g1,g2,g3⟩:=hf;have hd:=run_equalIn_int (P:=prog) w 9998 3 .i64 .i64 d e underlying3;unfold Op.eqFields Op.eqFields Op.eqFields;rw [f1,f2,f3,g1,g2,g3,if_pos (by decide),if_pos (by decide)];simp only [Sem.run_bind,RI,Hg,Result.andThen_ok,h1];cases c
  .simp
  .simp only [Bool.not_true,Bool.false_eq_true,if_false,Sem.run_bind,Hg,Result.andThen_ok,hd,Bool.true_and];cases (d==e) <;> simp
 .cases c with
  | false=>cases he
  | true =>
   have:d=e:=by simpa using he
   rw [h2 rfl,this]
structure JOk (B:Nat) (K:Nat->Prop) (J:Mp->World->Prop):Prop where
 fr:∀ M M' w w',J M w->Inv M w->w.heap.size<=w'.heap.size->(∀ k,k<B->M.at_ k=none->w'.heap[k]? = w.heap[k]?)->(∀ k t,M.at_ k=some t->M'.at_ k=some t)->(∀ k,k<B->M'.ft k->M.ft k)->(∀ k,k<B->M.at_ k=none->M'.at_ k=none)->J M' w'
 kc:∀ M w,J M w->Inv M w->Kc K M w
 lt:∀ k,K k->k<B
 sz:∀ M w,J M w->B<=w.heap.size
theorem JOk.fn {K:Nat->Prop} {J:Mp->World->Prop} (h:JOk B K J) {M M':Mp} {w w':World} (j:J M w) (i:Inv M w) (f:Fnw M M' w w'):J M' w' :=
 h.fr M M' w w' j i f.size (λk hk hm=>f.block k (aH hk (h.sz M w j)) hm λe=>e) f.mono (λk hk=>f.foot k (aH hk (h.sz M w j))) (λk hk=>f.fresh k (aH hk (h.sz M w j)))
theorem JOk.below {B:Nat} {K:Nat->Prop} {J:Mp->World->Prop} (h:JOk B K J) {M:Mp} {w w':World} (j:J M w) (i:Inv M w) (hb:Below w.heap.size w w'):J M w':=h.fn j i (Fnw.of (Fr.below M hb))
def iC (K:Nat->Prop) (J:Mp->World->Prop) (M:Mp) (w:World) (t:T) (n:Nat) (e:Ending) (w':World):Prop :=
 ∃ q M',e = .returned (.agg (chA q (gH n)))/\IsT M' q t/\Fk K M M' w w'/\Inv M' w'/\Tab w'/\J M' w'
def FM (K:Nat->Prop) (J:Mp->World->Prop) (fo:Nat) (co:aM) (st:Pa) (s t':T) (n:Nat):Prop :=
 ∀ (M:Mp) (w:World) (a:aJ) (m c:Nat) (p:aJ),J M w->Inv M w->Tab w->bA w a m c st->IsT M p s->Calls prog fo (#[.slice a m c,tv p]++co) w (iC K J M w t' n)
end Sx
end
section
open Go.RowKit
namespace Tm
open Tr Ni Pk Ky No Rf Rl
open Sm (Tab)
end Tm
end
end Go.Proofs.YtlcplcgigjagpaaGreatDoor
