/-
 The contract of sum.mix.
-/
import Derived.Test.YtokaiemgjngcoaaGreatDoorVr4
import Derived.Deep.DeepCutAuto
import Derived.Lib.BufferWrite
import Derived.Lib.SlBuf
open Go.Lib (hid)
open Go.Proofs.Tryz
set_option linter.unusedSimpArgs false
set_option linter.unusedVariables false
set_option maxHeartbeats 40000000
set_option maxRecDepth 100000
namespace Go.Proofs.YtokaiemgjngcoaaGreatDoor
variable {w:World} {B g:Nat} {t:TypeId}
section
open Go.RowKit
namespace Sm
open Sh
theorem kI (ev:Operand->Value) (o:Oper) (g:Nat) (w:World) (l:List Nat) (ho:∃ x,o.op = .load 173 x/\ev x = .pointer (some ⟨g,0,none⟩)) (hg:w.heap[g]? = some (.cells (ac l) 173 (0,0))) (hl:l.length=8) :
  (execOp ev o).run prog w = .ok (.value (.agg (ac l))) w:=by
 obtain ⟨x,ho,hx⟩:=ho;have h:=run_loadVar_row (P:=prog) w g 173 173 (ac l) (0,0) _ hg underlying173 rfl (by rw [bg,hl]; exact iU);unfold execOp;rw [ho];simp only [hx];simp [Instr.loadAt,Instr.sureAddr,h]
theorem sQ (ev:Operand->Value) (o:Oper) (ho:o.op = .alloc 173) (w:World) (n:Nat) (hn:w.heap.size=n) :
  (execOp ev o).run prog w = .ok (.value (.pointer (some ⟨n,0,none⟩))) (w.alloc (.cells (za 8) 173)):=by
 subst hn; exact jA ev o ho w
theorem Uq (l:List Nat) (j x:Nat):(ac l).setIfInBounds j (.int .u32 x)=ac (l.set j x):=by simp [ac,List.map_set]
theorem Hl (n x:Nat) (w:World) :
  Calls prog 149 #[.int .u32 n,.int .u32 x] w λe w'=>∃ b1 b2,e = .returned (.func (Fn.func 171) #[] #[.pointer (some ⟨b1,0,none⟩),.pointer (some ⟨b2,0,none⟩)])/\Rg.Own w' b1 #[.int .u32 n] 140/\Rg.Own w' b2 #[.int .u32 x] 140/\b1≠b2/\w.heap.size<=b1/\w.heap.size<=b2/\Below w.heap.size w w':=by
 refine (Ii n x w).mono ?_;rintro e w' ⟨rfl,rfl⟩;refine ⟨_,_,rfl,(Rg.Own.new w _ _).below (aI.alloc aH _),?_,by omega,by omega,by omega,(aI.alloc aH _).alloc (by simp) _⟩;have:=Rg.Own.new (w.alloc (.cells #[.int .u32 n] 140)) #[.int .u32 x] 140;rw [show (w.alloc (.cells #[.int .u32 n] 140)).heap.size=w.heap.size+1 by simp] at this;exact this
theorem Tv (g bn bw kk wk:Nat) (l:List Nat) (hl:l.length=8) (hlt:∀ x∈l,x<4294967296) (w:World) (hg:w.heap[g]? = some (.cells (ac l) 173 (0,0))) (hn:Rg.Own w bn #[.int .u32 kk] 140) (hw:Rg.Own w bw #[.int .u32 wk] 140) :
  Calls prog 171 #[.pointer (some ⟨g,0,none⟩),.pointer (some ⟨bn,0,none⟩),.pointer (some ⟨bw,0,none⟩)] w λe w'=>e = .returned (.tuple #[])/\w'.heap[g]? = some (.cells (ac (uP kk wk l)) 173 (0,0))/\w.grownBy w' (some g):=by
 obtain ⟨x0,x1,x2,x3,x4,x5,x6,x7,rfl⟩:=eight l hl;exact Nj g bn bw kk wk x0 x1 x2 x3 x4 x5 x6 x7 (hlt _ (by simp)) (hlt _ (by simp)) (hlt _ (by simp)) (hlt _ (by simp)) (hlt _ (by simp)) (hlt _ (by simp)) w hg (cell_of_row w bn 0 _ _ _ hn.2) (cell_of_row w bw 0 _ _ _ hw.2)
theorem sH (l:List Nat) (j:Nat) (hj:j<8) (hl:l.length=8) (w:World):(Instr.index 173 (.agg (ac l)) (.int .i64 j)).run prog w = .ok (.int .u32 (l.getD j 0:Nat)) w:=by
 obtain ⟨x0,x1,x2,x3,x4,x5,x6,x7,rfl⟩:=eight l hl;have hc:j=0\/j=1\/j=2\/j=3\/j=4\/j=5\/j=6\/j=7:=by omega
 rcases hc with rfl | rfl | rfl | rfl | rfl | rfl | rfl | rfl <;> rfl
theorem PD (s:aM) (k:Nat):(s.extract (64*k) s.size).extract 64 (s.extract (64*k) s.size).size=s.extract (64*(k+1)) s.size:=by
 rw [ByteArray.extract_extract];congr 1;simp;omega
theorem Ev (s:aM) (k:Nat):rC (s.extract (64*k) s.size)=qR s.data.toList k:=by
 funext q;unfold rC qR;have e:(s.extract (64*k) s.size).data.toList=s.data.toList.drop (64*k):=by
  simp only [ByteArray.data_extract,Array.toList_extract,List.extract_eq_take_drop];rw [List.take_of_length_le (by simp)]
 rw [e,List.getD,List.getD,List.getElem?_drop]
theorem JV (h:List Nat) (hh:h.length=8) (hlt:∀ x∈h,x<4294967296) (s:aM) (hs:s.size<=1000000) (w:World) (hK:∀ i,i<64->w.cell? ⟨0,i,none⟩=some (.int .u32 (kN i:Nat))) :
  Calls prog 106 #[.agg (ac h),.string s] w λe w'=>e = .returned (.agg (ac (kS s.data.toList h (s.size/64))))/\Below w.heap.size w w':=by
 have HL:=hid (vP s.data.toList h hh);have HT:=hid (Jk s.data.toList h hlt);have h0:0<w.heap.size:=World.block_lt_of_cell? w _ (hK 0 (by omega));have HK:=hid hK;have G7:Hid ((w.alloc (.cells (ac h) 173)).heap[w.heap.size]? = some (.cells (ac (kS s.data.toList h 0)) 173 (0,0))):=hid (heap_alloc_new _ _);have fY:Hid (s=s.extract (64*0) s.size):=hid (by simp);obtain ⟨A,hA⟩:=aA (ac h)
 rw [hA] at G7 ⊢;clear hA hh hlt hK;go_enter func106,ntmps106;go_wp2_with (refine gL rfl _ _ (sQ _ _ rfl _ (w.heap.size+1) (by simp)) ?_)
 go_frame
 go_loopw [1] (λv wr=>∃ k:Nat,k<=s.size/64/\v = .string (s.extract (64*k) s.size)/\Hid (wr.heap[w.heap.size]? = some (.cells (ac (kS s.data.toList h k)) 173 (0,0)))/\Rg.Own wr (w.heap.size+1) (za 8) 173/\Below w.heap.size w wr) (λv _=>match v with | .string b=>b.size | _=>0)
 case atStart=>exact ⟨0,by omega,by rw [<-fY.out],hid ((Lib.alloc_old _ _ _ (by simp)).trans G7.out),by have:=Rg.Own.new (w.alloc (.cells A 173)) (za 8) 173; rwa [show (w.alloc (.cells A 173)).heap.size=w.heap.size+1 by simp] at this,(aI.alloc aH _).alloc (by simp) _⟩
 case round =>
  obtain ⟨k,hk,rfl,HH,co,hB⟩:=hrel;have hsz:(s.extract (64*k) s.size).size=s.size-64*k:=by simp
  by_cases hlt:k<s.size/64
  .have h64:64<=(s.extract (64*k) s.size).size:=by omega
   have dv:=Di (s.extract (64*k) s.size) h64 (by omega);rw [Ev] at dv;have dv:=hid dv;have i5:=hid (jv (qR s.data.toList k) 64);have U0:=hid (Df (qR s.data.toList k) (λq=>UInt8.toNat_lt _) 64);have iv:=sec (show qZ (qR s.data.toList k) (kS s.data.toList h k)=kS s.data.toList h (k+1) from rfl);unfold qZ at iv;obtain ⟨ws,hws⟩:=aA (mV (qR s.data.toList k) 64)
   rw [hws] at dv i5 U0 iv;clear hws;have dy:=hid (HL.out k);have AK:=hid (HT.out k);have hBx:w.heap.size<wr.heap.size/\w.heap.size+1<wr.heap.size:=by have:=co.1; omega
   obtain ⟨H,hH⟩:=aA (kS s.data.toList h k)
   rw [hH] at HH dy AK iv;clear hH;obtain ⟨z,hz⟩:=aA (s.extract (64*k) s.size)
   rw [hz] at dv h64 hsz ⊢;have HZ:=sec hz;clear hz;go_upto_region 3 with fail
   go_cut [5,6] (λp q wx=>∃ b c,p = .pointer (some ⟨b,0,none⟩)/\q = .pointer (some ⟨c,0,none⟩)/\b≠c/\wr.heap.size<=b/\wr.heap.size<=c/\Hid (wx.heap[b]? = some (.cells (ac ws) 211 (0,0)))/\Hid (wx.heap[c]? = some (.cells (ac H) 173 (0,0)))/\Below wr.heap.size wr wx)
   case first =>
    refine aD (S:=λw'=>Below wr.heap.size wr w') (aI.drew) λhld=>?_;refine aj 0 ?_;try simp only [Act.put,au]
    refine aj 2 ?_ (hy:=by intro wz hSw; refine kI _ _ w.heap.size wz H ?_ (by rw [hSw.block _ hBx.1]; exact HH.out) dy.out; exact ⟨_,rfl,rfl⟩);try simp only [Act.put,au]
    refine wpAnyH_ready (rs:=[1,3,4]) (by kernel_rfl) (by simp) ?_;refine Rg.readyC (i:=1) rfl (λK hK=>?_) (Rg.readyC (i:=3) rfl (λK hK=>?_) (Rg.readyL (i:=4) rfl (λK hK=>?_)))
    .go_simp;go_at_call 148
     (with_reducible refine (dv.out _).mono ?_)
     rintro e az ⟨rfl,hbx⟩;refine hK.out _ _ (Below.trans hld (hbx.mono hld.size)) λhld=>?_;clear hK K;try simp only [Act.put,au]
     refine wpAnyH_ready (rs:=[3,4]) (by kernel_rfl) (by simp) ?_;refine Rg.readyC (i:=3) rfl (λK hK=>?_) (Rg.readyL (i:=4) rfl (λK hK=>?_))
     .refine Rg.meetAlloc (by rfl) (iK _ _ rfl _) ?_;rintro wv1 b3 i9 h3 hbx;have ew:wr.heap.size<=b3:=by rw [i9]; exact Below.size hld
      clear i9;refine hK.out _ _ (Below.trans hld (hbx.mono hld.size)) λhld=>?_;clear hK K hbx;try simp only [Act.put,au]
      refine ak 4 λK hK=>?_;refine Rg.meetAlloc (by rfl) (jA _ _ rfl _) ?_;rintro wv2 b4 ia h4 hbx;have fR:wr.heap.size<=b4:=by rw [ia]; exact Below.size hld
      have aq:b3≠b4:=by have:=h3.1; omega
      replace h3:=h3.below hbx;clear ia;refine hK.out _ _ (Below.trans hld (hbx.mono hld.size)) λhld=>?_;clear hK K hbx;try simp only [Act.put,au]
      refine ak 5 λK hK=>?_;refine Rg.meetStore (by rfl) h3 211 (ac ws) ⟨_,_,rfl,rfl,rfl⟩ (by rw [bg,i5.out]; exact lK) (by rw [bg,i5.out,za,bg]; simp) (gY _) ?_;rintro ym hn hu;replace h4:=h4.upd hu (Ne.symm aq);refine hK.out _ _ ?_ (λhld=>?_)
      .exact hu.below hld ew
      replace h3:=hn;clear hK K hn hu;try simp only [Act.put]
      refine ak 6 λK hK=>?_;refine Rg.meetStore (by rfl) h4 173 (ac H) ⟨_,_,rfl,rfl,rfl⟩ (by rw [bg,dy.out]; exact iU) (by rw [bg,dy.out,za,bg]; simp) (gY _) ?_;rintro yn hn hu;replace h3:=h3.upd hu aq;refine hK.out _ _ ?_ (λhld=>?_)
      .exact hu.below hld fR
      replace h4:=hn;clear hK K hn hu;try simp only [Act.put]
      refine aC ?_;go_wp2_with fail
      go_meet
      exact ⟨b3,b4,rfl,rfl,aq,ew,fR,hid h3.2,hid h4.2,hld⟩
     .refine Rg.meetAlloc (by rfl) (jA _ _ rfl _) ?_;rintro wv1 b4 ia h4 hbx;have fR:wr.heap.size<=b4:=by rw [ia]; exact Below.size hld
      clear ia;refine hK.out _ _ (Below.trans hld (hbx.mono hld.size)) λhld=>?_;clear hK K hbx;try simp only [Act.put,au]
      refine ak 3 λK hK=>?_;refine Rg.meetAlloc (by rfl) (iK _ _ rfl _) ?_;rintro wv2 b3 i9 h3 hbx;have ew:wr.heap.size<=b3:=by rw [i9]; exact Below.size hld
      have aq:b3≠b4:=by have:=h4.1; omega
      replace h4:=h4.below hbx;clear i9;refine hK.out _ _ (Below.trans hld (hbx.mono hld.size)) λhld=>?_;clear hK K hbx;try simp only [Act.put,au]
      refine ak 5 λK hK=>?_;refine Rg.meetStore (by rfl) h3 211 (ac ws) ⟨_,_,rfl,rfl,rfl⟩ (by rw [bg,i5.out]; exact lK) (by rw [bg,i5.out,za,bg]; simp) (gY _) ?_;rintro ym hn hu;replace h4:=h4.upd hu (Ne.symm aq);refine hK.out _ _ ?_ (λhld=>?_)
      .exact hu.below hld ew
      replace h3:=hn;clear hK K hn hu;try simp only [Act.put]
      refine ak 6 λK hK=>?_;refine Rg.meetStore (by rfl) h4 173 (ac H) ⟨_,_,rfl,rfl,rfl⟩ (by rw [bg,dy.out]; exact iU) (by rw [bg,dy.out,za,bg]; simp) (gY _) ?_;rintro yn hn hu;replace h3:=h3.upd hu aq;refine hK.out _ _ ?_ (λhld=>?_)
      .exact hu.below hld fR
      replace h4:=hn;clear hK K hn hu;try simp only [Act.put]
      refine aC ?_;go_wp2_with fail
      go_meet
      exact ⟨b3,b4,rfl,rfl,aq,ew,fR,hid h3.2,hid h4.2,hld⟩
    .refine Rg.meetAlloc (by rfl) (iK _ _ rfl _) ?_;rintro az b3 i9 h3 hbx;have ew:wr.heap.size<=b3:=by rw [i9]; exact Below.size hld
     clear i9;refine hK.out _ _ (Below.trans hld (hbx.mono hld.size)) λhld=>?_;clear hK K hbx;try simp only [Act.put,au]
     refine wpAnyH_ready (rs:=[1,4]) (by kernel_rfl) (by simp) ?_;refine Rg.readyC (i:=1) rfl (λK hK=>?_) (Rg.readyL (i:=4) rfl (λK hK=>?_))
     .go_simp;go_at_call 148
      (with_reducible refine (dv.out _).mono ?_)
      rintro e wv1 ⟨rfl,hbx⟩;replace h3:=h3.below hbx;refine hK.out _ _ (Below.trans hld (hbx.mono hld.size)) λhld=>?_;clear hK K;try simp only [Act.put,au]
      refine ak 4 λK hK=>?_;refine Rg.meetAlloc (by rfl) (jA _ _ rfl _) ?_;rintro wv2 b4 ia h4 hbx;have fR:wr.heap.size<=b4:=by rw [ia]; exact Below.size hld
      have aq:b3≠b4:=by have:=h3.1; omega
      replace h3:=h3.below hbx;clear ia;refine hK.out _ _ (Below.trans hld (hbx.mono hld.size)) λhld=>?_;clear hK K hbx;try simp only [Act.put,au]
      refine ak 5 λK hK=>?_;refine Rg.meetStore (by rfl) h3 211 (ac ws) ⟨_,_,rfl,rfl,rfl⟩ (by rw [bg,i5.out]; exact lK) (by rw [bg,i5.out,za,bg]; simp) (gY _) ?_;rintro ym hn hu;replace h4:=h4.upd hu (Ne.symm aq);refine hK.out _ _ ?_ (λhld=>?_)
      .exact hu.below hld ew
      replace h3:=hn;clear hK K hn hu;try simp only [Act.put]
      refine ak 6 λK hK=>?_;refine Rg.meetStore (by rfl) h4 173 (ac H) ⟨_,_,rfl,rfl,rfl⟩ (by rw [bg,dy.out]; exact iU) (by rw [bg,dy.out,za,bg]; simp) (gY _) ?_;rintro yn hn hu;replace h3:=h3.upd hu aq;refine hK.out _ _ ?_ (λhld=>?_)
      .exact hu.below hld fR
      replace h4:=hn;clear hK K hn hu;try simp only [Act.put]
      refine aC ?_;go_wp2_with fail
      go_meet
      exact ⟨b3,b4,rfl,rfl,aq,ew,fR,hid h3.2,hid h4.2,hld⟩
     .refine Rg.meetAlloc (by rfl) (jA _ _ rfl _) ?_;rintro wv1 b4 ia h4 hbx;have fR:wr.heap.size<=b4:=by rw [ia]; exact Below.size hld
      have aq:b3≠b4:=by have:=h3.1; omega
      replace h3:=h3.below hbx;clear ia;refine hK.out _ _ (Below.trans hld (hbx.mono hld.size)) λhld=>?_;clear hK K hbx;try simp only [Act.put,au]
      refine ak 1 λK hK=>?_;go_simp;go_at_call 148
      (with_reducible refine (dv.out _).mono ?_)
      rintro e wv2 ⟨rfl,hbx⟩;replace h3:=h3.below hbx;replace h4:=h4.below hbx;refine hK.out _ _ (Below.trans hld (hbx.mono hld.size)) λhld=>?_;clear hK K;try simp only [Act.put,au]
      refine ak 5 λK hK=>?_;refine Rg.meetStore (by rfl) h3 211 (ac ws) ⟨_,_,rfl,rfl,rfl⟩ (by rw [bg,i5.out]; exact lK) (by rw [bg,i5.out,za,bg]; simp) (gY _) ?_;rintro ym hn hu;replace h4:=h4.upd hu (Ne.symm aq);refine hK.out _ _ ?_ (λhld=>?_)
      .exact hu.below hld ew
      replace h3:=hn;clear hK K hn hu;try simp only [Act.put]
      refine ak 6 λK hK=>?_;refine Rg.meetStore (by rfl) h4 173 (ac H) ⟨_,_,rfl,rfl,rfl⟩ (by rw [bg,dy.out]; exact iU) (by rw [bg,dy.out,za,bg]; simp) (gY _) ?_;rintro yn hn hu;replace h3:=h3.upd hu aq;refine hK.out _ _ ?_ (λhld=>?_)
      .exact hu.below hld fR
      replace h4:=hn;clear hK K hn hu;try simp only [Act.put]
      refine aC ?_;go_wp2_with fail
      go_meet
      exact ⟨b3,b4,rfl,rfl,aq,ew,fR,hid h3.2,hid h4.2,hld⟩
    .refine Rg.meetAlloc (by rfl) (jA _ _ rfl _) ?_;rintro az b4 ia h4 hbx;have fR:wr.heap.size<=b4:=by rw [ia]; exact Below.size hld
     clear ia;refine hK.out _ _ (Below.trans hld (hbx.mono hld.size)) λhld=>?_;clear hK K hbx;try simp only [Act.put,au]
     refine wpAnyH_ready (rs:=[1,3]) (by kernel_rfl) (by simp) ?_;refine Rg.readyC (i:=1) rfl (λK hK=>?_) (Rg.readyL (i:=3) rfl (λK hK=>?_))
     .go_simp;go_at_call 148
      (with_reducible refine (dv.out _).mono ?_)
      rintro e wv1 ⟨rfl,hbx⟩;replace h4:=h4.below hbx;refine hK.out _ _ (Below.trans hld (hbx.mono hld.size)) λhld=>?_;clear hK K;try simp only [Act.put,au]
      refine ak 3 λK hK=>?_;refine Rg.meetAlloc (by rfl) (iK _ _ rfl _) ?_;rintro wv2 b3 i9 h3 hbx;have ew:wr.heap.size<=b3:=by rw [i9]; exact Below.size hld
      have aq:b3≠b4:=by have:=h4.1; omega
      replace h4:=h4.below hbx;clear i9;refine hK.out _ _ (Below.trans hld (hbx.mono hld.size)) λhld=>?_;clear hK K hbx;try simp only [Act.put,au]
      refine ak 5 λK hK=>?_;refine Rg.meetStore (by rfl) h3 211 (ac ws) ⟨_,_,rfl,rfl,rfl⟩ (by rw [bg,i5.out]; exact lK) (by rw [bg,i5.out,za,bg]; simp) (gY _) ?_;rintro ym hn hu;replace h4:=h4.upd hu (Ne.symm aq);refine hK.out _ _ ?_ (λhld=>?_)
      .exact hu.below hld ew
      replace h3:=hn;clear hK K hn hu;try simp only [Act.put]
      refine ak 6 λK hK=>?_;refine Rg.meetStore (by rfl) h4 173 (ac H) ⟨_,_,rfl,rfl,rfl⟩ (by rw [bg,dy.out]; exact iU) (by rw [bg,dy.out,za,bg]; simp) (gY _) ?_;rintro yn hn hu;replace h3:=h3.upd hu aq;refine hK.out _ _ ?_ (λhld=>?_)
      .exact hu.below hld fR
      replace h4:=hn;clear hK K hn hu;try simp only [Act.put]
      refine aC ?_;go_wp2_with fail
      go_meet
      exact ⟨b3,b4,rfl,rfl,aq,ew,fR,hid h3.2,hid h4.2,hld⟩
     .refine Rg.meetAlloc (by rfl) (iK _ _ rfl _) ?_;rintro wv1 b3 i9 h3 hbx;have ew:wr.heap.size<=b3:=by rw [i9]; exact Below.size hld
      have aq:b3≠b4:=by have:=h4.1; omega
      replace h4:=h4.below hbx;clear i9;refine hK.out _ _ (Below.trans hld (hbx.mono hld.size)) λhld=>?_;clear hK K hbx;try simp only [Act.put,au]
      refine ak 1 λK hK=>?_;go_simp;go_at_call 148
      (with_reducible refine (dv.out _).mono ?_)
      rintro e wv2 ⟨rfl,hbx⟩;replace h4:=h4.below hbx;replace h3:=h3.below hbx;refine hK.out _ _ (Below.trans hld (hbx.mono hld.size)) λhld=>?_;clear hK K;try simp only [Act.put,au]
      refine ak 5 λK hK=>?_;refine Rg.meetStore (by rfl) h3 211 (ac ws) ⟨_,_,rfl,rfl,rfl⟩ (by rw [bg,i5.out]; exact lK) (by rw [bg,i5.out,za,bg]; simp) (gY _) ?_;rintro ym hn hu;replace h4:=h4.upd hu (Ne.symm aq);refine hK.out _ _ ?_ (λhld=>?_)
      .exact hu.below hld ew
      replace h3:=hn;clear hK K hn hu;try simp only [Act.put]
      refine ak 6 λK hK=>?_;refine Rg.meetStore (by rfl) h4 173 (ac H) ⟨_,_,rfl,rfl,rfl⟩ (by rw [bg,dy.out]; exact iU) (by rw [bg,dy.out,za,bg]; simp) (gY _) ?_;rintro yn hn hu;replace h3:=h3.upd hu aq;refine hK.out _ _ ?_ (λhld=>?_)
      .exact hu.below hld fR
      replace h4:=hn;clear hK K hn hu;try simp only [Act.put]
      refine aC ?_;go_wp2_with fail
      go_meet
      exact ⟨b3,b4,rfl,rfl,aq,ew,fR,hid h3.2,hid h4.2,hld⟩
   case rest =>
    obtain ⟨b,c,rfl,rfl,hbc,hgb,hgc,pC,j4,MA⟩:=hcut;obtain ⟨wo,rfl⟩:∃ wo:World,wo=wr:=⟨_,rfl⟩
    clear dv;have hlb:b<wc.heap.size:=by have:=pC.out; rcases Nat.lt_or_ge b wc.heap.size with h' | h'; exact h'; rw [Array.getElem?_eq_none h'] at this; cases this
    have hlc:c<wc.heap.size:=by have:=j4.out; rcases Nat.lt_or_ge c wc.heap.size with h' | h'; exact h'; rw [Array.getElem?_eq_none h'] at this; cases this
    have HB:=hid hB;have ix:=hid MA;have mm:=sec hsz;clear hB MA hsz;go_wp2_with fail
    go_loopw [19] (λi wx=>∃ j:Nat,j<=64/\i = .int .i64 j/\Hid (Rg.Own wx b (ac ws) 211)/\Hid (Rg.Own wx c (ac (Am ws H j)) 173)/\Hid (Below wo.heap.size wo wx)) (λi _=>64-(intOf i).toNat)
    case atStart=>exact ⟨0,by omega,rfl,hid ⟨hlb,pC.out⟩,hid ⟨hlc,j4.out⟩,ix⟩
    case round =>
     clear pC j4 ix hlb hlc;obtain ⟨j,hj,rfl,pC,j4,ix⟩:=hrel;by_cases hlt2:j<64
     .have hkj:=(ix.out.cell (p:=⟨0,j,none⟩) (by show 0<wo.heap.size; omega)).trans ((HB.out.cell (p:=⟨0,j,none⟩) h0).trans (HK.out j hlt2));have MD:wr.cell? ⟨b,j,none⟩=some (.int .u32 (ws.getD j 0:Nat)):=(cell_of_row wr b j _ _ _ pC.out.2).trans (Ig ws j (by rw [i5.out]; exact hlt2));have G8:=hid hkj;have G9:=hid MD;have h0r:0<wr.heap.size:=by have:=ix.out.size; omega
      have hbr:=pC.out.1;have fd:=hid (vN ws H dy.out j);have ME:=hid (Cq ws H AK.out j);have AM:=sec (show uP (kN j) (ws.getD j 0) (Am ws H j)=Am ws H (j+1) from rfl);obtain ⟨L,hL⟩:=aA (Am ws H j)
      obtain ⟨kk,hkk⟩:=aA (kN j)
      obtain ⟨wk,hwk⟩:=aA (ws.getD j 0)
      rw [hL] at j4 fd ME AM;rw [hkk] at G8 AM;rw [hwk] at G9 AM;clear hL hkk hwk hkj MD;have MM:=hid (Hl kk wk);have l0:(0:Int)<=(j:Int):=by omega
      have l1:(j:Int)<64:=by omega
      go_wp2_with fail
      refine aD (S:=λw'=>Below wr.heap.size wr w') (aI.drew) λhld=>?_;refine aj 0 ?_;try simp only [Act.put,au]
      refine aj 1 ?_;try simp only [Act.put,au]
      refine aj 2 ?_ (hy:=by intro wz hSw; (have hc:=(hSw.cell (p:=⟨0,j,none⟩) h0r).trans G8.out); go_simp <;> with_reducible rfl);try simp only [Act.put,au]
      refine aj 3 ?_;try simp only [Act.put,au]
      refine aj 4 ?_;try simp only [Act.put,au]
      refine aj 5 ?_ (hy:=by intro wz hSw; (have hc:=(hSw.cell (p:=⟨b,j,none⟩) hbr).trans G9.out); go_simp <;> with_reducible rfl);try simp only [Act.put,au]
      refine ak 6 λK hK=>?_;go_simp;go_at_call 149
      (with_reducible refine (MM.out _).mono ?_)
      rintro e az ⟨q1,q2,rfl,ho1,ho2,hq12,hg1,hg2,hbx⟩;refine hK.out _ _ (Below.trans hld (hbx.mono hld.size)) λhld=>?_;clear hK K;try simp only [Act.put,au]
      refine aj 7 ?_;try simp only [Act.put,au]
      refine aC ?_;clear l0 l1 MM G8 G9;go_wp2_with fail
      refine (Tv c q1 q2 kk wk L fd.out ME.out _ (by rw [hbx.block _ j4.out.1]; exact j4.out.2) ho1 ho2).mono ?_;rintro e w4 ⟨rfl,hc4,hg4⟩;have AR:=hid hc4;clear hc4;go_wp2_with fail
      go_roundw
      case rel =>
       have hbl:=pC.out.below hld;refine ⟨j+1,by omega,by go_num,hid ⟨aJ hbl.1 hg4.size,(hg4.block _ hbl.1 (by simpa using hbc)).trans hbl.2⟩,hid ⟨aJ (j4.out.below hld).1 hg4.size,by rw [<-AM.out]; exact AR.out⟩,hid ((ix.out.trans (hld.mono ix.out.size)).grown hg4 (ix.out.trans (hld.mono ix.out.size)).size (λg hg=>by cases hg; exact hgc))⟩
      case measure=>simp [intOf]; omega
     .have yo:j=64:=by omega
      rw [yo] at j4;clear yo;have Ge:=hid (vN ws H dy.out 64);have MT:=hid (Cq ws H AK.out 64);obtain ⟨V,hV⟩:=aA (Am ws H 64)
      rw [hV] at j4 Ge MT iv;clear hV;have o7:Hid (Rg.Own wr w.heap.size (ac (qY H V 0)) 173):=hid ⟨by have:=ix.out.size; omega,by rw [ix.out.block _ hBx.1,Kz _ _ dy.out]; exact HH.out⟩;have bi:Hid (Rg.Own wr (w.heap.size+1) (za 8) 173):=hid ((co.below (ix.out.mono aH)));have sd:=hid (λj hj wz=>sH V j hj Ge.out wz);obtain ⟨AV,Gk⟩:=aA (ac V)
      have hAs:AV.size=8:=by rw [<-Gk,bg,Ge.out]
      rw [Gk] at j4 sd;have GB:=hid hAs;clear Gk hAs pC;go_wp2_with (first | (refine wpList_load_row rfl _ _ rfl c rfl 173 AV (0,0) _ j4.out.2 underlying173 rfl (by rw [GB.out]; exact iU) ?_))
      obtain ⟨wp,rfl⟩:∃ wp:World,wp=wr:=⟨_,rfl⟩
      clear hlt2;go_loopw [33] (λi wx=>∃ q:Nat,q<=8/\i = .int .i64 q/\Hid (Rg.Own wx w.heap.size (ac (qY H V q)) 173)/\Hid (Rg.Upd wp w.heap.size wx)) (λi _=>8-(intOf i).toNat)
      case atStart=>exact ⟨0,by omega,rfl,o7,hid ⟨rfl,rfl,rfl,rfl,λ_ _=>rfl⟩⟩
      case round =>
       clear o7;obtain ⟨q,hq,rfl,o7,pD⟩:=hrel;by_cases hlt3:q<8
       .have hix:=sd.out q hlt3;have hcl:=(cell_of_row wr w.heap.size q _ _ _ o7.out.2).trans (Ig (qY H V q) q (by rw [nD]; exact hlt3));have hfz:=frozen_of_row wr w.heap.size q _ _ o7.out.2;rw [LA H V q hlt3] at hcl;have HN:=sec (Pj H V q hlt3);have bx:=getD_lt AK.out q;have bv:=getD_lt MT.out q;obtain ⟨x,hx⟩:=aA (H.getD q 0)
        obtain ⟨y,hy⟩:=aA (V.getD q 0)
        rw [hx] at hcl bx HN;rw [hy] at hix bv HN;clear hx hy;have hv:((x:Int)+y)%4294967296=((x+y)%4294967296:Nat):=by omega
        have U1:=sec hv;clear hv;go_wp2;go_roundw
        case rel =>
         refine ⟨q+1,by omega,by go_num,?_,?_⟩
         .rw [U1.out];exact hid ⟨by simpa using o7.out.1,by rw [heap_setCell_same _ _ _ _ _ _ o7.out.2,Uq,HN.out]⟩
         .exact hid ⟨pD.out.os,pD.out.tape,pD.out.output,by simpa using pD.out.size,λk hk=>(heap_setCell_other _ _ _ _ hk).trans (pD.out.block k hk)⟩
        case measure=>simp [intOf]; omega
       .obtain rfl:q=8:=by omega
        have HF:Hid (Rg.Own wr w.heap.size (ac (kS s.data.toList h (k+1))) 173):=hid (by rw [<-iv.out,<-QS]; exact o7.out);have cl:Hid (Rg.Own wr (w.heap.size+1) (za 8) 173):=hid (bi.out.upd pD.out (by omega));have bj:Hid (Below w.heap.size w wr):=hid (pD.out.below (HB.out.trans (ix.out.mono HB.out.size)) aH);have HE:Hid (z.extract 64 (s.size-64*k)=s.extract (64*(k+1)) s.size):=hid (by rw [<-mm.out,<-HZ.out]; exact PD s k);have hz3:z.size=s.size-64*k:=mm.out
        have U2:Hid ((s.extract (64*(k+1)) s.size).size=s.size-64*(k+1)):=hid (by simp);have hzs:64<=(z.size:Int):=by omega
        clear o7 pD bi sd hlt3 hq;go_wp2;go_roundw
        case rel=>exact ⟨k+1,by omega,by rw [<-HE.out],hid HF.out.2,cl.out,bj.out⟩
        case measure =>
         show (z.extract 64 (s.size-64*k)).size<z.size;rw [HE.out,U2.out];omega
  .obtain rfl:k=s.size/64:=by omega
   have dy:=hid (HL.out (s.size/64));obtain ⟨H,hH⟩:=aA (kS s.data.toList h (s.size/64))
   have Kf:=sec hH;rw [hH] at HH dy;have co:=hid co;clear hH G7 fY;have hsz2:((s.extract (64*(s.size/64)) s.size).size:Int)<64:=by omega
   obtain ⟨z,hz⟩:=aA (s.extract (64*(s.size/64)) s.size)
   rw [hz] at hsz2 ⊢;clear hz hsz hlt hk;go_wp2_with (first | (refine wpList_load_row rfl _ _ rfl w.heap.size rfl 173 (ac H) (0,0) _ HH.out underlying173 rfl (by rw [bg,dy.out]; exact iU) ?_) | (refine wpList_store_rowTo rfl 173 _ _ rfl rfl _ (ac H) rfl rfl 173 (za 8) co.out.2 (by rw [bg,dy.out]; exact iU) (by rw [bg,dy.out,za,bg]; simp) (gY _) ?_))
   exact bodyPost_ret (results_cell_row rfl _ _ (w.heap.size+1) 173 (ac H) (0,0) _ rfl (setRow_heap _ _ _ _ _ _ co.out.2) underlying173 rfl (by rw [bg,dy.out]; exact iU)) rfl ⟨by rw [Kf.out],dU hB (by omega) _⟩
def kc (k:aN):aO:=(k.map λb=>Value.int .u8 b.toNat).toArray
theorem iO (k:aN):(kc k).size=k.length:=by simp [kc]
theorem Dr (k:aN):(kc k).all (·.oneCell')=true:=by
 rw [Array.all_eq_true];intro i hi;simp [kc];rfl
theorem Oo:(prog.info? 23).map (·.size)=some 32:=by kernel_rfl
theorem je (k:aN) (h:k.length=32):(prog.info? 23).map (·.size)=some (kc k).size:=by rw [iO,h]; exact Oo
def zk:aN:=List.replicate 32 0
theorem iY (ev:Operand->Value) (o:Oper) (ho:o.op = .alloc 23) (w:World) (n:Nat) (hn:w.heap.size=n) :
  (execOp ev o).run prog w = .ok (.value (.pointer (some ⟨n,0,none⟩))) (w.alloc (.cells (kc zk) 23)):=by
 subst hn;unfold execOp;rw [ho];kernel_rfl
theorem Ut (l:aN) {f:Nat->Value} (h:w.rowIs g t 32 f) (hl:l.length=32) (hf:∀ j,j<32->f j = .int .u8 (l.getD j 0).toNat):w.heap[g]? = some (.cells (kc l) t (0,0)):=by
 obtain ⟨c,hg,hs,hc⟩:=h;have:c=kc l:=by
  apply Array.ext
  .rw [hs,iO,hl]
  .intro i hi h2;have h1:=hc i (by omega);rw [hf i (by omega),Array.getElem?_eq_getElem hi] at h1;have h3:=Option.some.inj h1;rw [h3];have h4:i<l.length:=by omega
   simp [kc,List.getD,h4]
 rw [hg,this]
theorem Ur (h:w.heap[g]? = some (.cells (kc zk) t (0,0))):w.rowIs g t 32 (λ_=>.int .u8 0) :=
 ⟨_,h,rfl,λi hi=>by
  show ((zk.map λb=>Value.int .u8 b.toNat).toArray)[i]? = _;have hz:zk[i]? = some 0:=by
   unfold zk;rw [List.getElem?_replicate,if_pos hi]
  rw [List.getElem?_toArray,List.getElem?_map,hz];rfl⟩
theorem start_lt:∀ x∈Sh.start,x<4294967296:=by decide
theorem Qa (s:aM) (m:Nat) (hm:m=s.size-s.size%64) :
  kS ((s.extract m s.size).data.toList++nV s.size) (kS (s.extract 0 m).data.toList Sh.start ((s.extract 0 m).size/64)) (((s.extract m s.size).data.toList++nV s.size).length/64)=sI (jQ s.data.toList) ((jQ s.data.toList).length/64):=by
 have e1:(s.extract 0 m).data.toList=s.data.toList.take m:=by simp
 have e2:(s.extract m s.size).data.toList=s.data.toList.drop m:=by
  simp only [ByteArray.data_extract,Array.toList_extract,List.extract_eq_take_drop];rw [List.take_of_length_le (by simp)]
 have hl:s.data.toList.length=s.size:=by simp
 have e3:(s.extract 0 m).size=m:=by simp; omega
 have e4:jQ s.data.toList=s.data.toList.take m++(s.data.toList.drop m++nV s.size):=by
  rw [Kn,hl,<-List.append_assoc,List.take_append_drop]
 have hmd:=ML s.data.toList;rw [e1,e2,e3,<-yO,e4];rw [e4] at hmd;have hlen:(s.data.toList.take m++(s.data.toList.drop m++nV s.size)).length=m+(s.data.toList.drop m++nV s.size).length:=by
  rw [List.length_append,List.length_take,hl];congr 1;omega
 rw [hlen] at hmd ⊢;rw [show (m+(s.data.toList.drop m++nV s.size).length)/64=m/64+(s.data.toList.drop m++nV s.size).length/64 by omega];exact (Bl _ _ (m/64) (by rw [List.length_take,hl]; omega) _ _).symm
theorem Cw (s:aM) (hs:s.size<=900000) (w:World) (hK:∀ i,i<64->w.cell? ⟨0,i,none⟩=some (.int .u32 (kN i:Nat))) :
  Calls prog 62 #[.string s] w λe w'=>e = .returned (.agg (kc (Nn s.data.toList)))/\Below w.heap.size w w':=by
 have h0:0<w.heap.size:=World.block_lt_of_cell? w _ (hK 0 (by omega));have HK:=hid hK;have cr:=hid (Dy s.size (by omega));obtain ⟨m,hm⟩:=aA (s.size-s.size%64)
 have U3:(s.size:Int)-s.size%64=m:=by omega
 have hml:m<=s.size:=by omega
 have hF:=Qa s m hm.symm;have pH:=hid (vP (s.extract 0 m).data.toList Sh.start rfl ((s.extract 0 m).size/64));have hT1:=Jk (s.extract 0 m).data.toList Sh.start start_lt ((s.extract 0 m).size/64);have lL:=hid (λW hk=>JV Sh.start rfl start_lt (s.extract 0 m) (by simp; omega) W hk);obtain ⟨M1,hM1⟩:=aA (kS (s.extract 0 m).data.toList Sh.start ((s.extract 0 m).size/64))
 rw [hM1] at pH hT1 hF lL;obtain ⟨s2,hs2⟩:=aA (s.extract m s.size++⟨(nV s.size).toArray⟩)
 have hd2:s2.data.toList=(s.extract m s.size).data.toList++nV s.size:=by rw [<-hs2,ByteArray.data_append]; simp
 have hz2:s2.size=((s.extract m s.size).data.toList++nV s.size).length:=by rw [<-hd2]; simp
 have hz:jI s.size<64:=Nat.mod_lt _ (by omega);have fN:=hid (λW hk=>JV M1 pH.out hT1 s2 (by rw [hz2,List.length_append,pq]; simp; omega) W hk);rw [<-hd2,show s2.data.toList.length=s2.size by simp] at hF;rw [hF] at fN;have se:=hid (Dh (jQ s.data.toList) ((jQ s.data.toList).length/64));have HT2:=hid (Pn (jQ s.data.toList) ((jQ s.data.toList).length/64));have HS:=sec (show NJ (sI (jQ s.data.toList) ((jQ s.data.toList).length/64)) 32=Nn s.data.toList from rfl);obtain ⟨M2,hM2⟩:=aA (sI (jQ s.data.toList) ((jQ s.data.toList).length/64))
 rw [hM2] at fN se HT2 HS;have HS2:=hid hs2;clear hT1 hF hd2 hz2 hz hM2 hs2;clear hK hm hM1;go_enter func62,ntmps62;go_upto_region 3 with (first | (refine gL rfl _ _ (iY _ _ rfl _ w.heap.size rfl) ?_) | (refine gL rfl _ _ (sQ _ _ rfl _ (w.heap.size+1) (by simp)) ?_) | (refine wpList_store_rowTo rfl 173 _ _ rfl rfl (w.heap.size+1) (ac Sh.start) rfl rfl 173 (za 8) (by have:=heap_alloc_new (w.alloc (.cells (kc zk) 23)) (.cells (za 8) 173); simpa using this) iU rfl (gY _) ?_))
 have h2:Rg.Own (((w.alloc (.cells (kc zk) 23)).alloc (.cells (za 8) 173)).setRow (w.heap.size+1) (ac Sh.start)) w.heap.size (kc zk) 23 :=
  ((Rg.Own.new w _ _).below (aI.alloc aH _)).upd (Rg.Upd.set _ _ _) (by omega)
 have h3:Rg.Own (((w.alloc (.cells (kc zk) 23)).alloc (.cells (za 8) 173)).setRow (w.heap.size+1) (ac Sh.start)) (w.heap.size+1) (ac Sh.start) 173 :=
  ⟨by simp,setRow_heap _ _ _ _ _ _ (by have:=heap_alloc_new (w.alloc (.cells (kc zk) 23)) (.cells (za 8) 173); simpa using this)⟩
 have hB0:Below w.heap.size w (((w.alloc (.cells (kc zk) 23)).alloc (.cells (za 8) 173)).setRow (w.heap.size+1) (ac Sh.start)) :=
  dU ((aI.alloc aH _).alloc (by simp) _) (by omega) _
 generalize (((w.alloc (.cells (kc zk) 23)).alloc (.cells (za 8) 173)).setRow (w.heap.size+1) (ac Sh.start))=W0 at h2 h3 hB0 ⊢;have V8:w.heap.size<=w.heap.size:=aH;have ew:w.heap.size<=w.heap.size+1:=by omega
 have lw:w.heap.size≠w.heap.size+1:=by omega
 refine aD (S:=λw'=>Below w.heap.size w w') (hB0.drew) λhld=>?_;replace h2:=h2.drew;replace h3:=h3.drew;refine aj 1 ?_;try simp only [Act.put,au]
 refine aj 2 ?_;try simp only [Act.put,au]
 refine aj 3 ?_;try simp only [Act.put,au]
 refine ak 0 λK hK=>?_;refine Rg.meet (by rfl) _ _ (kI _ _ (w.heap.size+1) _ Sh.start ?_ h3.2 rfl) ?_
 .exact ⟨_,rfl,rfl⟩
 refine hK.out _ _ (hld) λhld=>?_;clear hK K;try simp only [Act.put,au]
 refine ak 4 λK hK=>?_;go_simp;go_at_call 106
 (with_reducible refine (lL.out _ (λi hi=>(hld.cell (p:=⟨0,i,none⟩) h0).trans (HK.out i hi))).mono ?_)
 rintro e az ⟨rfl,hbx⟩;replace h2:=h2.below hbx;replace h3:=h3.below hbx;refine hK.out _ _ (Below.trans hld (hbx.mono hld.size)) λhld=>?_;clear hK K;try simp only [Act.put,au]
 refine ak 5 λK hK=>?_;refine Rg.meetStore (by rfl) h3 173 (ac M1) ⟨_,_,rfl,rfl,rfl⟩ (by rw [bg,pH.out]; exact iU) (by rw [bg,bg,pH.out]; exact rfl) (gY _) ?_;rintro wv1 hn hu;replace h2:=h2.upd hu lw;refine hK.out _ _ ?_ (λhld=>?_)
 .exact hu.below hld ew
 replace h3:=hn;clear hK K hn hu;try simp only [Act.put]
 refine aC ?_;go_wp2_with fail
 have hB1:=hld;clear hld;go_cut [3] (λp wx=>p = .pointer (some ⟨w.heap.size+1,0,none⟩)/\Hid (Rg.Own wx w.heap.size (kc zk) 23)/\Hid (Rg.Own wx (w.heap.size+1) (ac M2) 173)/\Hid (Below w.heap.size w wx))
 case first =>
  have hs2:=HS2.out;have MY:Hid (¬ 9223372036854775807<s.size-m+(nV s.size).length):=hid (by have hz:jI s.size<64:=Nat.mod_lt _ (by omega); rw [pq]; omega);refine aD (S:=λw'=>Below w.heap.size w w') (hB1.drew) λhld=>?_;replace h2:=h2.drew;replace h3:=h3.drew;refine aj 1 ?_;try simp only [Act.put,au]
  refine aj 2 ?_;try simp only [Act.put,au]
  refine aj 3 ?_;try simp only [Act.put,au]
  refine aj 4 ?_;try simp only [Act.put,au]
  refine aj 5 ?_;try simp only [Act.put,au]
  refine wpAnyH_ready (rs:=[0,6]) (by kernel_rfl) (by simp) ?_;refine Rg.readyC (i:=0) rfl (λK hK=>?_) (Rg.readyL (i:=6) rfl (λK hK=>?_))
  .refine Rg.meet (by rfl) _ _ (kI _ _ (w.heap.size+1) _ M1 ?_ h3.2 pH.out) ?_
   .exact ⟨_,rfl,rfl⟩
   refine hK.out _ _ (hld) λhld=>?_;clear hK K;try simp only [Act.put,au]
   refine ak 6 λK hK=>?_;go_simp;go_at_call 107
   (with_reducible refine (cr.out _).mono ?_)
   rintro e az ⟨rfl,hbx⟩;replace h2:=h2.below hbx;replace h3:=h3.below hbx;refine hK.out _ _ (Below.trans hld (hbx.mono hld.size)) λhld=>?_;clear hK K;try simp only [Act.put,au]
   refine aj 7 ?_ (hy:=by intro wz hSw; (have hcc:=MY.out); go_simp <;> with_reducible rfl);try simp only [Act.put,au]
   refine ak 8 λK hK=>?_;go_simp;go_at_call 106
   (with_reducible refine (fN.out _ (λi hi=>(hld.cell (p:=⟨0,i,none⟩) h0).trans (HK.out i hi))).mono ?_)
   rintro e wv1 ⟨rfl,hbx⟩;replace h2:=h2.below hbx;replace h3:=h3.below hbx;refine hK.out _ _ (Below.trans hld (hbx.mono hld.size)) λhld=>?_;clear hK K;try simp only [Act.put,au]
   refine ak 9 λK hK=>?_;refine Rg.meetStore (by rfl) h3 173 (ac M2) ⟨_,_,rfl,rfl,rfl⟩ (by rw [bg,se.out]; exact iU) (by rw [bg,bg,se.out]; exact pH.out) (gY _) ?_;rintro wv2 hn hu;replace h2:=h2.upd hu lw;refine hK.out _ _ ?_ (λhld=>?_)
   .exact hu.below hld ew
   replace h3:=hn;clear hK K hn hu;try simp only [Act.put]
   refine aC ?_;go_wp2_with fail
   go_meet
   exact ⟨rfl,hid h2,hid h3,hid hld⟩
  .go_simp;go_at_call 107
   (with_reducible refine (cr.out _).mono ?_)
   rintro e az ⟨rfl,hbx⟩;replace h2:=h2.below hbx;replace h3:=h3.below hbx;refine hK.out _ _ (Below.trans hld (hbx.mono hld.size)) λhld=>?_;clear hK K;try simp only [Act.put,au]
   refine aj 7 ?_ (hy:=by intro wz hSw; (have hcc:=MY.out); go_simp <;> with_reducible rfl);try simp only [Act.put,au]
   refine ak 0 λK hK=>?_;refine Rg.meet (by rfl) _ _ (kI _ _ (w.heap.size+1) _ M1 ?_ h3.2 pH.out) ?_
   .exact ⟨_,rfl,rfl⟩
   refine hK.out _ _ (hld) λhld=>?_;clear hK K;try simp only [Act.put,au]
   refine ak 8 λK hK=>?_;go_simp;go_at_call 106
   (with_reducible refine (fN.out _ (λi hi=>(hld.cell (p:=⟨0,i,none⟩) h0).trans (HK.out i hi))).mono ?_)
   rintro e wv1 ⟨rfl,hbx⟩;replace h2:=h2.below hbx;replace h3:=h3.below hbx;refine hK.out _ _ (Below.trans hld (hbx.mono hld.size)) λhld=>?_;clear hK K;try simp only [Act.put,au]
   refine ak 9 λK hK=>?_;refine Rg.meetStore (by rfl) h3 173 (ac M2) ⟨_,_,rfl,rfl,rfl⟩ (by rw [bg,se.out]; exact iU) (by rw [bg,bg,se.out]; exact pH.out) (gY _) ?_;rintro wv2 hn hu;replace h2:=h2.upd hu lw;refine hK.out _ _ ?_ (λhld=>?_)
   .exact hu.below hld ew
   replace h3:=hn;clear hK K hn hu;try simp only [Act.put]
   refine aC ?_;go_wp2_with fail
   go_meet
   exact ⟨rfl,hid h2,hid h3,hid hld⟩
 case rest =>
  obtain ⟨rfl,H2,H3,HB⟩:=hcut;obtain ⟨W,rfl⟩:∃ W:World,W=wc:=⟨_,rfl⟩
  have h3:=H3.out;have N1:Hid ((W.alloc (.cells (kc zk) 23)).heap[w.heap.size+1]? = some (.cells (ac M2) 173 (0,0))):=hid ((Lib.alloc_old _ _ _ h3.1).trans h3.2);have j0:Hid ((W.alloc (.cells (kc zk) 23)).rowIs W.heap.size 23 32 (λj=>.int .u8 (if j<4*0 then Cg M2 j else 0:Nat))):=hid ((Ur (heap_alloc_new _ _)).congr (λj _=>by rw [if_neg (by omega)]; rfl));have sd:=hid (λj hj wz=>sH M2 j hj se.out wz);have ve:=hid (λj=>getD_lt HT2.out j);obtain ⟨A,hA⟩:=aA (ac M2)
  have GB:Hid (A.size=8):=hid (by rw [<-hA,bg,se.out]);rw [hA] at N1 sd;clear h3 hA cr lL fN U3 h2 hB1 hld hbx;go_wp2_with (first | (refine gL rfl _ _ (iY _ _ rfl _ _ rfl) ?_) | (refine wpList_load_row rfl _ _ rfl (w.heap.size+1) rfl 173 A (0,0) _ N1.out underlying173 rfl (by rw [GB.out]; exact iU) ?_))
  go_loopw [30] (λi wx=>∃ q:Nat,q<=8/\i = .int .i64 q/\Hid (wx.rowIs W.heap.size 23 32 (λj=>.int .u8 (if j<4*q then Cg M2 j else 0:Nat)))/\Hid (Below W.heap.size W wx)) (λi _=>8-(intOf i).toNat)
  case atStart=>exact ⟨0,by omega,rfl,j0,hid (aI.alloc aH _)⟩
  case round =>
   clear j0;obtain ⟨q,hq,rfl,HR,sk⟩:=hrel;by_cases hlt:q<8
   .have hix:=sd.out q hlt;have hxl:=ve.out q;have lx:=wK W.heap.size (4*q) 4 (32-4*q) (M2.getD q 0) 32 23 _ wr HR.out (by omega) (by omega);have As:Hid ((ni wr W.heap.size (4*q) 4 (M2.getD q 0) 4).rowIs W.heap.size 23 32 (λj=>.int .u8 (if j<4*(q+1) then Cg M2 j else 0:Nat))):=hid ((qJ HR.out 4).congr (λj _=>by
     by_cases h1:4*q<=j/\j<4*q+4
     .rw [if_pos h1,if_pos (by omega)];unfold upB Cg;rw [show j/4=q by omega,show 4-1-(j-4*q)=3-j%4 by omega]
     .rw [if_neg h1];by_cases h2:j<4*q
      .rw [if_pos h2,if_pos (by omega)]
      .rw [if_neg h2,if_neg (by omega)]))
    have sL:Hid (Below W.heap.size W (ni wr W.heap.size (4*q) 4 (M2.getD q 0) 4)):=hid (qh sk.out aH 4);obtain ⟨x,hx⟩:=aA (M2.getD q 0)
    rw [hx] at hix hxl lx As sL;have lx:=hid lx;clear hx;have l0:(0:Int)<=4*(q:Int):=by omega
    have l1:4*(q:Int)<=4*(q:Int)+4:=by omega
    have l2:4*(q:Int)+4<=32:=by omega
    have l3:(4*(q:Int)).toNat=4*q:=by omega
    have l4:(4*(q:Int)+4).toNat=4*q+4:=by omega
    have l5:¬ 32=4*q:=by omega
    go_wp2_with fail
    refine lx.out.mono ?_;rintro e w3 ⟨rfl,rfl⟩;clear l0 l1 l2 l3 l4 l5 lx hix;go_wp2;go_roundw
    case rel=>exact ⟨q+1,by omega,by go_num,As,sL⟩
    case measure=>simp [intOf]; omega
   .obtain rfl:q=8:=by omega
    have HF:Hid (wr.heap[W.heap.size]? = some (.cells (kc (Nn s.data.toList)) 23 (0,0))):=hid (Ut _ HR.out (pG _) (λj hj=>by
     rw [if_pos (by omega),<-HS.out];simp [NJ,List.getD,hj];unfold Cg;omega))
    have N3:Hid (Rg.Own wr w.heap.size (kc zk) 23):=hid (H2.out.below sk.out);have HB2:Hid (Below w.heap.size w wr):=hid (HB.out.trans (sk.out.mono HB.out.size));have hkl:=pG s.data.toList;obtain ⟨K,hK⟩:=aA (Nn s.data.toList)
    have HKK:=sec hK;rw [hK] at hkl HF;have AS:=hid hkl;clear hK hkl HR sd ve;go_wp2_with (first | (refine wpList_load_row rfl _ _ rfl W.heap.size rfl 23 (kc K) (0,0) _ HF.out underlying23 rfl (je K AS.out) ?_) | (refine wpList_store_rowTo rfl 23 _ _ rfl rfl _ (kc K) rfl rfl 23 (kc zk) N3.out.2 (je K AS.out) (by rw [iO,iO,AS.out]; rfl) (Dr _) ?_))
    exact bodyPost_ret (results_cell_row rfl _ _ w.heap.size 23 (kc K) (0,0) _ rfl (setRow_heap _ _ _ _ _ _ N3.out.2) underlying23 rfl (je K AS.out)) rfl ⟨by rw [HKK.out],dU HB2.out (by omega) _⟩
end Sm
end
section
namespace ib
end ib
end
section
open Go.RowKit ib
end
section
open Go.RowKit ib
end
section
open Go.RowKit ib
namespace Tx
end Tx
namespace Rx
end Rx
end
section
open Go.RowKit
namespace Ni
end Ni
end
section
open Go.RowKit
namespace Sm
open Sh
def Tab (w:World):Prop:=∀ i,i<64->w.cell? ⟨0,i,none⟩=some (.int .u32 (kN i:Nat))
theorem Tab.pos (h:Tab w):0<w.heap.size:=World.block_lt_of_cell? w _ (h 0 (by omega))
theorem Tab.below {w':World} (h:Tab w) (hb:Below B w w') (hB:0<B):Tab w':=λi hi=>(hb.cell (p:=⟨0,i,none⟩) hB).trans (h i hi)
theorem Tg (w:World) (k:aN) (hk:k.length=32):bf (w.alloc (.cells (kc k) 23)) (some ⟨w.heap.size,0,none⟩) 32 32 k:=by
 have h:=bf.new w k (by unfold maxLen; omega) (kc k) 23 rfl;rw [hk] at h;exact h
theorem jJ (k:aN) (hk:k.length=32) (w:World) :
  Calls prog 174 #[.agg (kc k)] w λe w'=>e = .returned (.string ⟨k.toArray⟩)/\Below w.heap.size w w':=by
 have hcv:=nA (Tg w k hk);obtain ⟨C,hC⟩:=aA (kc k)
 obtain ⟨T,hT⟩:=aA (⟨k.toArray⟩:aM)
 rw [hC,hT] at hcv;rw [hC,hT];clear hC hT hk;go_enter func174,ntmps174;go_wp2;go_ret;exact ⟨rfl,aI.alloc aH _⟩
end Sm
end
end Go.Proofs.YtokaiemgjngcoaaGreatDoor
