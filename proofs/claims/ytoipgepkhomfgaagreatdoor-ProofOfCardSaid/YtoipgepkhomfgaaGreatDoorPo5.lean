/-
 The contract of sum.mix.
-/
import Derived.Test.YtoipgepkhomfgaaGreatDoorPo4
import Derived.Deep.DeepCutAuto
import Derived.Lib.BufferWrite
import Derived.Lib.SlBuf
open Go.Lib (hid)
open Go.Proofs.Tryz
set_option linter.unusedSimpArgs false
set_option linter.unusedVariables false
set_option maxHeartbeats 40000000
set_option maxRecDepth 100000
namespace Go.Proofs.YtoipgepkhomfgaaGreatDoor
variable {w:World} {B g:Nat} {t:TypeId}
section
open Go.RowKit
namespace Sm
open Sh
theorem mJ (ev:Operand->Value) (o:Oper) (g:Nat) (w:World) (l:List Nat) (ho:∃ x,o.op = .load 178 x/\ev x = .pointer (some ⟨g,0,none⟩)) (hg:w.heap[g]? = some (.cells (ac l) 178 (0,0))) (hl:l.length=8) :
  (execOp ev o).run prog w = .ok (.value (.agg (ac l))) w:=by
 obtain ⟨x,ho,hx⟩:=ho;have h:=run_loadVar_row (P:=prog) w g 178 178 (ac l) (0,0) _ hg underlying178 rfl (by rw [bG,hl]; exact jT);unfold execOp;rw [ho];simp only [hx];simp [Instr.loadAt,Instr.sureAddr,h]
theorem wP (ev:Operand->Value) (o:Oper) (ho:o.op = .alloc 178) (w:World) (n:Nat) (hn:w.heap.size=n) :
  (execOp ev o).run prog w = .ok (.value (.pointer (some ⟨n,0,none⟩))) (w.alloc (.cells (za 8) 178)):=by
 subst hn; exact kK ev o ho w
theorem YG (l:List Nat) (j x:Nat):(ac l).setIfInBounds j (.int .u32 x)=ac (l.set j x):=by simp [ac,List.map_set]
theorem JX (n x:Nat) (w:World) :
  Calls prog 157 #[.int .u32 n,.int .u32 x] w λe w'=>∃ b1 b2,e = .returned (.func (Fn.func 177) #[] #[.pointer (some ⟨b1,0,none⟩),.pointer (some ⟨b2,0,none⟩)])/\Rg.Own w' b1 #[.int .u32 n] 125/\Rg.Own w' b2 #[.int .u32 x] 125/\b1≠b2/\w.heap.size<=b1/\w.heap.size<=b2/\Below w.heap.size w w':=by
 refine (Mc n x w).mono ?_;rintro e w' ⟨rfl,rfl⟩;refine ⟨_,_,rfl,(Rg.Own.new w _ _).below (aH.alloc aG _),?_,by omega,by omega,by omega,(aH.alloc aG _).alloc (by simp) _⟩;have:=Rg.Own.new (w.alloc (.cells #[.int .u32 n] 125)) #[.int .u32 x] 125;rw [show (w.alloc (.cells #[.int .u32 n] 125)).heap.size=w.heap.size+1 by simp] at this;exact this
theorem WL (g bn bw kk wk:Nat) (l:List Nat) (hl:l.length=8) (hlt:∀ x∈l,x<4294967296) (w:World) (hg:w.heap[g]? = some (.cells (ac l) 178 (0,0))) (hn:Rg.Own w bn #[.int .u32 kk] 125) (hw:Rg.Own w bw #[.int .u32 wk] 125) :
  Calls prog 177 #[.pointer (some ⟨g,0,none⟩),.pointer (some ⟨bn,0,none⟩),.pointer (some ⟨bw,0,none⟩)] w λe w'=>e = .returned (.tuple #[])/\w'.heap[g]? = some (.cells (ac (sK kk wk l)) 178 (0,0))/\w.grownBy w' (some g):=by
 obtain ⟨x0,x1,x2,x3,x4,x5,x6,x7,rfl⟩:=eight l hl;exact PO g bn bw kk wk x0 x1 x2 x3 x4 x5 x6 x7 (hlt _ (by simp)) (hlt _ (by simp)) (hlt _ (by simp)) (hlt _ (by simp)) (hlt _ (by simp)) (hlt _ (by simp)) w hg (cell_of_row w bn 0 _ _ _ hn.2) (cell_of_row w bw 0 _ _ _ hw.2)
theorem wL (l:List Nat) (j:Nat) (hj:j<8) (hl:l.length=8) (w:World):(Instr.index 178 (.agg (ac l)) (.int .i64 j)).run prog w = .ok (.int .u32 (l.getD j 0:Nat)) w:=by
 obtain ⟨x0,x1,x2,x3,x4,x5,x6,x7,rfl⟩:=eight l hl;have hc:j=0\/j=1\/j=2\/j=3\/j=4\/j=5\/j=6\/j=7:=by omega
 rcases hc with rfl | rfl | rfl | rfl | rfl | rfl | rfl | rfl <;> rfl
theorem TG (s:aL) (k:Nat):(s.extract (64*k) s.size).extract 64 (s.extract (64*k) s.size).size=s.extract (64*(k+1)) s.size:=by
 rw [ByteArray.extract_extract];congr 1;simp;omega
theorem IV (s:aL) (k:Nat):nE (s.extract (64*k) s.size)=pU s.data.toList k:=by
 funext q;unfold nE pU;have e:(s.extract (64*k) s.size).data.toList=s.data.toList.drop (64*k):=by
  simp only [ByteArray.data_extract,Array.toList_extract,List.extract_eq_take_drop];rw [List.take_of_length_le (by simp)]
 rw [e,List.getD,List.getD,List.getElem?_drop]
theorem Nc (h:List Nat) (hh:h.length=8) (hlt:∀ x∈h,x<4294967296) (s:aL) (hs:s.size<=1000000) (w:World) (hK:∀ i,i<64->w.cell? ⟨0,i,none⟩=some (.int .u32 (kN i:Nat))) :
  Calls prog 109 #[.agg (ac h),.string s] w λe w'=>e = .returned (.agg (ac (mR s.data.toList h (s.size/64))))/\Below w.heap.size w w':=by
 have HL:=hid (yL s.data.toList h hh);have HT:=hid (NJ s.data.toList h hlt);have h0:0<w.heap.size:=World.block_lt_of_cell? w _ (hK 0 (by omega));have HK:=hid hK;have nB:Hid ((w.alloc (.cells (ac h) 178)).heap[w.heap.size]? = some (.cells (ac (mR s.data.toList h 0)) 178 (0,0))):=hid (heap_alloc_new _ _);have dr:Hid (s=s.extract (64*0) s.size):=hid (by simp);obtain ⟨A,hA⟩:=ay (ac h)
 rw [hA] at nB ⊢;clear hA hh hlt hK;go_enter func109,ntmps109;go_wp2_with (refine fC rfl _ _ (wP _ _ rfl _ (w.heap.size+1) (by simp)) ?_)
 go_frame
 go_loopw [1] (λv wr=>∃ k:Nat,k<=s.size/64/\v = .string (s.extract (64*k) s.size)/\Hid (wr.heap[w.heap.size]? = some (.cells (ac (mR s.data.toList h k)) 178 (0,0)))/\Rg.Own wr (w.heap.size+1) (za 8) 178/\Below w.heap.size w wr) (λv _=>match v with | .string b=>b.size | _=>0)
 case atStart=>exact ⟨0,by omega,by rw [<-dr.out],hid ((Lib.alloc_old _ _ _ (by simp)).trans nB.out),by have:=Rg.Own.new (w.alloc (.cells A 178)) (za 8) 178; rwa [show (w.alloc (.cells A 178)).heap.size=w.heap.size+1 by simp] at this,(aH.alloc aG _).alloc (by simp) _⟩
 case round =>
  obtain ⟨k,hk,rfl,HH,b8,hB⟩:=hrel;have hsz:(s.extract (64*k) s.size).size=s.size-64*k:=by simp
  by_cases hlt:k<s.size/64
  .have h64:64<=(s.extract (64*k) s.size).size:=by omega
   have eJ:=EZ (s.extract (64*k) s.size) h64 (by omega);rw [IV] at eJ;have eJ:=hid eJ;have jj:=hid (iN (pU s.data.toList k) 64);have HWt:=hid (wO (pU s.data.toList k) (λq=>UInt8.toNat_lt _) 64);have fb:=sec (show lC (pU s.data.toList k) (mR s.data.toList h k)=mR s.data.toList h (k+1) from rfl);unfold lC at fb;obtain ⟨ws,hws⟩:=ay (jW (pU s.data.toList k) 64)
   rw [hws] at eJ jj HWt fb;clear hws;have eK:=hid (HL.out k);have F9:=hid (HT.out k);have hBx:w.heap.size<wr.heap.size/\w.heap.size+1<wr.heap.size:=by have:=b8.1; omega
   obtain ⟨H,hH⟩:=ay (mR s.data.toList h k)
   rw [hH] at HH eK F9 fb;clear hH;obtain ⟨z,hz⟩:=ay (s.extract (64*k) s.size)
   rw [hz] at eJ h64 hsz ⊢;have HZ:=sec hz;clear hz;go_upto_region 3 with fail
   go_cut [5,6] (λp q wx=>∃ b c,p = .pointer (some ⟨b,0,none⟩)/\q = .pointer (some ⟨c,0,none⟩)/\b≠c/\wr.heap.size<=b/\wr.heap.size<=c/\Hid (wx.heap[b]? = some (.cells (ac ws) 223 (0,0)))/\Hid (wx.heap[c]? = some (.cells (ac H) 178 (0,0)))/\Below wr.heap.size wr wx)
   case first =>
    refine aC (S:=λw'=>Below wr.heap.size wr w') (aH.drew) λhld=>?_;refine ah 0 ?_;try simp only [Act.put,ak]
    refine ah 2 ?_ (hy:=by intro wz hSw; refine mJ _ _ w.heap.size wz H ?_ (by rw [hSw.block _ hBx.1]; exact HH.out) eK.out; exact ⟨_,rfl,rfl⟩);try simp only [Act.put,ak]
    refine wpAnyH_ready (rs:=[1,3,4]) (by kernel_rfl) (by simp) ?_;refine Rg.readyC (i:=1) rfl (λK hK=>?_) (Rg.readyC (i:=3) rfl (λK hK=>?_) (Rg.readyL (i:=4) rfl (λK hK=>?_)))
    .go_simp;go_at_call 156
     (with_reducible refine (eJ.out _).mono ?_)
     rintro e cJ ⟨rfl,hbx⟩;refine hK.out _ _ (Below.trans hld (hbx.mono hld.size)) λhld=>?_;clear hK K;try simp only [Act.put,ak]
     refine wpAnyH_ready (rs:=[3,4]) (by kernel_rfl) (by simp) ?_;refine Rg.readyC (i:=3) rfl (λK hK=>?_) (Rg.readyL (i:=4) rfl (λK hK=>?_))
     .refine Rg.meetAlloc (by rfl) (jP _ _ rfl _) ?_;rintro wv1 b3 i5 h3 hbx;have fh:wr.heap.size<=b3:=by rw [i5]; exact Below.size hld
      clear i5;refine hK.out _ _ (Below.trans hld (hbx.mono hld.size)) λhld=>?_;clear hK K hbx;try simp only [Act.put,ak]
      refine aj 4 λK hK=>?_;refine Rg.meetAlloc (by rfl) (kK _ _ rfl _) ?_;rintro wv2 b4 jn h4 hbx;have i7:wr.heap.size<=b4:=by rw [jn]; exact Below.size hld
      have ax:b3≠b4:=by have:=h3.1; omega
      replace h3:=h3.below hbx;clear jn;refine hK.out _ _ (Below.trans hld (hbx.mono hld.size)) λhld=>?_;clear hK K hbx;try simp only [Act.put,ak]
      refine aj 5 λK hK=>?_;refine Rg.meetStore (by rfl) h3 223 (ac ws) ⟨_,_,rfl,rfl,rfl⟩ (by rw [bG,jj.out]; exact nM) (by rw [bG,jj.out,za,bG]; simp) (je _) ?_;rintro sY hn hu;replace h4:=h4.upd hu (Ne.symm ax);refine hK.out _ _ ?_ (λhld=>?_)
      .exact hu.below hld fh
      replace h3:=hn;clear hK K hn hu;try simp only [Act.put]
      refine aj 6 λK hK=>?_;refine Rg.meetStore (by rfl) h4 178 (ac H) ⟨_,_,rfl,rfl,rfl⟩ (by rw [bG,eK.out]; exact jT) (by rw [bG,eK.out,za,bG]; simp) (je _) ?_;rintro Cp hn hu;replace h3:=h3.upd hu ax;refine hK.out _ _ ?_ (λhld=>?_)
      .exact hu.below hld i7
      replace h4:=hn;clear hK K hn hu;try simp only [Act.put]
      refine aB ?_;go_wp2_with fail
      go_meet
      exact ⟨b3,b4,rfl,rfl,ax,fh,i7,hid h3.2,hid h4.2,hld⟩
     .refine Rg.meetAlloc (by rfl) (kK _ _ rfl _) ?_;rintro wv1 b4 jn h4 hbx;have i7:wr.heap.size<=b4:=by rw [jn]; exact Below.size hld
      clear jn;refine hK.out _ _ (Below.trans hld (hbx.mono hld.size)) λhld=>?_;clear hK K hbx;try simp only [Act.put,ak]
      refine aj 3 λK hK=>?_;refine Rg.meetAlloc (by rfl) (jP _ _ rfl _) ?_;rintro wv2 b3 i5 h3 hbx;have fh:wr.heap.size<=b3:=by rw [i5]; exact Below.size hld
      have ax:b3≠b4:=by have:=h4.1; omega
      replace h4:=h4.below hbx;clear i5;refine hK.out _ _ (Below.trans hld (hbx.mono hld.size)) λhld=>?_;clear hK K hbx;try simp only [Act.put,ak]
      refine aj 5 λK hK=>?_;refine Rg.meetStore (by rfl) h3 223 (ac ws) ⟨_,_,rfl,rfl,rfl⟩ (by rw [bG,jj.out]; exact nM) (by rw [bG,jj.out,za,bG]; simp) (je _) ?_;rintro sY hn hu;replace h4:=h4.upd hu (Ne.symm ax);refine hK.out _ _ ?_ (λhld=>?_)
      .exact hu.below hld fh
      replace h3:=hn;clear hK K hn hu;try simp only [Act.put]
      refine aj 6 λK hK=>?_;refine Rg.meetStore (by rfl) h4 178 (ac H) ⟨_,_,rfl,rfl,rfl⟩ (by rw [bG,eK.out]; exact jT) (by rw [bG,eK.out,za,bG]; simp) (je _) ?_;rintro Cp hn hu;replace h3:=h3.upd hu ax;refine hK.out _ _ ?_ (λhld=>?_)
      .exact hu.below hld i7
      replace h4:=hn;clear hK K hn hu;try simp only [Act.put]
      refine aB ?_;go_wp2_with fail
      go_meet
      exact ⟨b3,b4,rfl,rfl,ax,fh,i7,hid h3.2,hid h4.2,hld⟩
    .refine Rg.meetAlloc (by rfl) (jP _ _ rfl _) ?_;rintro cJ b3 i5 h3 hbx;have fh:wr.heap.size<=b3:=by rw [i5]; exact Below.size hld
     clear i5;refine hK.out _ _ (Below.trans hld (hbx.mono hld.size)) λhld=>?_;clear hK K hbx;try simp only [Act.put,ak]
     refine wpAnyH_ready (rs:=[1,4]) (by kernel_rfl) (by simp) ?_;refine Rg.readyC (i:=1) rfl (λK hK=>?_) (Rg.readyL (i:=4) rfl (λK hK=>?_))
     .go_simp;go_at_call 156
      (with_reducible refine (eJ.out _).mono ?_)
      rintro e wv1 ⟨rfl,hbx⟩;replace h3:=h3.below hbx;refine hK.out _ _ (Below.trans hld (hbx.mono hld.size)) λhld=>?_;clear hK K;try simp only [Act.put,ak]
      refine aj 4 λK hK=>?_;refine Rg.meetAlloc (by rfl) (kK _ _ rfl _) ?_;rintro wv2 b4 jn h4 hbx;have i7:wr.heap.size<=b4:=by rw [jn]; exact Below.size hld
      have ax:b3≠b4:=by have:=h3.1; omega
      replace h3:=h3.below hbx;clear jn;refine hK.out _ _ (Below.trans hld (hbx.mono hld.size)) λhld=>?_;clear hK K hbx;try simp only [Act.put,ak]
      refine aj 5 λK hK=>?_;refine Rg.meetStore (by rfl) h3 223 (ac ws) ⟨_,_,rfl,rfl,rfl⟩ (by rw [bG,jj.out]; exact nM) (by rw [bG,jj.out,za,bG]; simp) (je _) ?_;rintro sY hn hu;replace h4:=h4.upd hu (Ne.symm ax);refine hK.out _ _ ?_ (λhld=>?_)
      .exact hu.below hld fh
      replace h3:=hn;clear hK K hn hu;try simp only [Act.put]
      refine aj 6 λK hK=>?_;refine Rg.meetStore (by rfl) h4 178 (ac H) ⟨_,_,rfl,rfl,rfl⟩ (by rw [bG,eK.out]; exact jT) (by rw [bG,eK.out,za,bG]; simp) (je _) ?_;rintro Cp hn hu;replace h3:=h3.upd hu ax;refine hK.out _ _ ?_ (λhld=>?_)
      .exact hu.below hld i7
      replace h4:=hn;clear hK K hn hu;try simp only [Act.put]
      refine aB ?_;go_wp2_with fail
      go_meet
      exact ⟨b3,b4,rfl,rfl,ax,fh,i7,hid h3.2,hid h4.2,hld⟩
     .refine Rg.meetAlloc (by rfl) (kK _ _ rfl _) ?_;rintro wv1 b4 jn h4 hbx;have i7:wr.heap.size<=b4:=by rw [jn]; exact Below.size hld
      have ax:b3≠b4:=by have:=h3.1; omega
      replace h3:=h3.below hbx;clear jn;refine hK.out _ _ (Below.trans hld (hbx.mono hld.size)) λhld=>?_;clear hK K hbx;try simp only [Act.put,ak]
      refine aj 1 λK hK=>?_;go_simp;go_at_call 156
      (with_reducible refine (eJ.out _).mono ?_)
      rintro e wv2 ⟨rfl,hbx⟩;replace h3:=h3.below hbx;replace h4:=h4.below hbx;refine hK.out _ _ (Below.trans hld (hbx.mono hld.size)) λhld=>?_;clear hK K;try simp only [Act.put,ak]
      refine aj 5 λK hK=>?_;refine Rg.meetStore (by rfl) h3 223 (ac ws) ⟨_,_,rfl,rfl,rfl⟩ (by rw [bG,jj.out]; exact nM) (by rw [bG,jj.out,za,bG]; simp) (je _) ?_;rintro sY hn hu;replace h4:=h4.upd hu (Ne.symm ax);refine hK.out _ _ ?_ (λhld=>?_)
      .exact hu.below hld fh
      replace h3:=hn;clear hK K hn hu;try simp only [Act.put]
      refine aj 6 λK hK=>?_;refine Rg.meetStore (by rfl) h4 178 (ac H) ⟨_,_,rfl,rfl,rfl⟩ (by rw [bG,eK.out]; exact jT) (by rw [bG,eK.out,za,bG]; simp) (je _) ?_;rintro Cp hn hu;replace h3:=h3.upd hu ax;refine hK.out _ _ ?_ (λhld=>?_)
      .exact hu.below hld i7
      replace h4:=hn;clear hK K hn hu;try simp only [Act.put]
      refine aB ?_;go_wp2_with fail
      go_meet
      exact ⟨b3,b4,rfl,rfl,ax,fh,i7,hid h3.2,hid h4.2,hld⟩
    .refine Rg.meetAlloc (by rfl) (kK _ _ rfl _) ?_;rintro cJ b4 jn h4 hbx;have i7:wr.heap.size<=b4:=by rw [jn]; exact Below.size hld
     clear jn;refine hK.out _ _ (Below.trans hld (hbx.mono hld.size)) λhld=>?_;clear hK K hbx;try simp only [Act.put,ak]
     refine wpAnyH_ready (rs:=[1,3]) (by kernel_rfl) (by simp) ?_;refine Rg.readyC (i:=1) rfl (λK hK=>?_) (Rg.readyL (i:=3) rfl (λK hK=>?_))
     .go_simp;go_at_call 156
      (with_reducible refine (eJ.out _).mono ?_)
      rintro e wv1 ⟨rfl,hbx⟩;replace h4:=h4.below hbx;refine hK.out _ _ (Below.trans hld (hbx.mono hld.size)) λhld=>?_;clear hK K;try simp only [Act.put,ak]
      refine aj 3 λK hK=>?_;refine Rg.meetAlloc (by rfl) (jP _ _ rfl _) ?_;rintro wv2 b3 i5 h3 hbx;have fh:wr.heap.size<=b3:=by rw [i5]; exact Below.size hld
      have ax:b3≠b4:=by have:=h4.1; omega
      replace h4:=h4.below hbx;clear i5;refine hK.out _ _ (Below.trans hld (hbx.mono hld.size)) λhld=>?_;clear hK K hbx;try simp only [Act.put,ak]
      refine aj 5 λK hK=>?_;refine Rg.meetStore (by rfl) h3 223 (ac ws) ⟨_,_,rfl,rfl,rfl⟩ (by rw [bG,jj.out]; exact nM) (by rw [bG,jj.out,za,bG]; simp) (je _) ?_;rintro sY hn hu;replace h4:=h4.upd hu (Ne.symm ax);refine hK.out _ _ ?_ (λhld=>?_)
      .exact hu.below hld fh
      replace h3:=hn;clear hK K hn hu;try simp only [Act.put]
      refine aj 6 λK hK=>?_;refine Rg.meetStore (by rfl) h4 178 (ac H) ⟨_,_,rfl,rfl,rfl⟩ (by rw [bG,eK.out]; exact jT) (by rw [bG,eK.out,za,bG]; simp) (je _) ?_;rintro Cp hn hu;replace h3:=h3.upd hu ax;refine hK.out _ _ ?_ (λhld=>?_)
      .exact hu.below hld i7
      replace h4:=hn;clear hK K hn hu;try simp only [Act.put]
      refine aB ?_;go_wp2_with fail
      go_meet
      exact ⟨b3,b4,rfl,rfl,ax,fh,i7,hid h3.2,hid h4.2,hld⟩
     .refine Rg.meetAlloc (by rfl) (jP _ _ rfl _) ?_;rintro wv1 b3 i5 h3 hbx;have fh:wr.heap.size<=b3:=by rw [i5]; exact Below.size hld
      have ax:b3≠b4:=by have:=h4.1; omega
      replace h4:=h4.below hbx;clear i5;refine hK.out _ _ (Below.trans hld (hbx.mono hld.size)) λhld=>?_;clear hK K hbx;try simp only [Act.put,ak]
      refine aj 1 λK hK=>?_;go_simp;go_at_call 156
      (with_reducible refine (eJ.out _).mono ?_)
      rintro e wv2 ⟨rfl,hbx⟩;replace h4:=h4.below hbx;replace h3:=h3.below hbx;refine hK.out _ _ (Below.trans hld (hbx.mono hld.size)) λhld=>?_;clear hK K;try simp only [Act.put,ak]
      refine aj 5 λK hK=>?_;refine Rg.meetStore (by rfl) h3 223 (ac ws) ⟨_,_,rfl,rfl,rfl⟩ (by rw [bG,jj.out]; exact nM) (by rw [bG,jj.out,za,bG]; simp) (je _) ?_;rintro sY hn hu;replace h4:=h4.upd hu (Ne.symm ax);refine hK.out _ _ ?_ (λhld=>?_)
      .exact hu.below hld fh
      replace h3:=hn;clear hK K hn hu;try simp only [Act.put]
      refine aj 6 λK hK=>?_;refine Rg.meetStore (by rfl) h4 178 (ac H) ⟨_,_,rfl,rfl,rfl⟩ (by rw [bG,eK.out]; exact jT) (by rw [bG,eK.out,za,bG]; simp) (je _) ?_;rintro Cp hn hu;replace h3:=h3.upd hu ax;refine hK.out _ _ ?_ (λhld=>?_)
      .exact hu.below hld i7
      replace h4:=hn;clear hK K hn hu;try simp only [Act.put]
      refine aB ?_;go_wp2_with fail
      go_meet
      exact ⟨b3,b4,rfl,rfl,ax,fh,i7,hid h3.2,hid h4.2,hld⟩
   case rest =>
    obtain ⟨b,c,rfl,rfl,hbc,hgb,hgc,rB,l9,kf⟩:=hcut;obtain ⟨wo,rfl⟩:∃ wo:World,wo=wr:=⟨_,rfl⟩
    clear eJ;have hlb:b<wc.heap.size:=by have:=rB.out; rcases Nat.lt_or_ge b wc.heap.size with h' | h'; exact h'; rw [Array.getElem?_eq_none h'] at this; cases this
    have hlc:c<wc.heap.size:=by have:=l9.out; rcases Nat.lt_or_ge c wc.heap.size with h' | h'; exact h'; rw [Array.getElem?_eq_none h'] at this; cases this
    have HB:=hid hB;have ey:=hid kf;have fa:=sec hsz;clear hB kf hsz;go_wp2_with fail
    go_loopw [19] (λi wx=>∃ j:Nat,j<=64/\i = .int .i64 j/\Hid (Rg.Own wx b (ac ws) 223)/\Hid (Rg.Own wx c (ac (rV ws H j)) 178)/\Hid (Below wo.heap.size wo wx)) (λi _=>64-(intOf i).toNat)
    case atStart=>exact ⟨0,by omega,rfl,hid ⟨hlb,rB.out⟩,hid ⟨hlc,l9.out⟩,ey⟩
    case round =>
     clear rB l9 ey hlb hlc;obtain ⟨j,hj,rfl,rB,l9,ey⟩:=hrel;by_cases hlt2:j<64
     .have hkj:=(ey.out.cell (p:=⟨0,j,none⟩) (by show 0<wo.heap.size; omega)).trans ((HB.out.cell (p:=⟨0,j,none⟩) h0).trans (HK.out j hlt2));have Tb:wr.cell? ⟨b,j,none⟩=some (.int .u32 (ws.getD j 0:Nat)):=(cell_of_row wr b j _ _ _ rB.out.2).trans (KZ ws j (by rw [jj.out]; exact hlt2));have LL:=hid hkj;have LN:=hid Tb;have h0r:0<wr.heap.size:=by have:=ey.out.size; omega
      have hbr:=rB.out.1;have il:=hid (yK ws H eK.out j);have zr:=hid (vZ ws H F9.out j);have ik:=sec (show sK (kN j) (ws.getD j 0) (rV ws H j)=rV ws H (j+1) from rfl);obtain ⟨L,hL⟩:=ay (rV ws H j)
      obtain ⟨kk,hkk⟩:=ay (kN j)
      obtain ⟨wk,hwk⟩:=ay (ws.getD j 0)
      rw [hL] at l9 il zr ik;rw [hkk] at LL ik;rw [hwk] at LN ik;clear hL hkk hwk hkj Tb;have Th:=hid (JX kk wk);have l0:(0:Int)<=(j:Int):=by omega
      have l1:(j:Int)<64:=by omega
      go_wp2_with fail
      refine aC (S:=λw'=>Below wr.heap.size wr w') (aH.drew) λhld=>?_;refine ah 0 ?_;try simp only [Act.put,ak]
      refine ah 1 ?_;try simp only [Act.put,ak]
      refine ah 2 ?_ (hy:=by intro wz hSw; (have hc:=(hSw.cell (p:=⟨0,j,none⟩) h0r).trans LL.out); go_simp <;> with_reducible rfl);try simp only [Act.put,ak]
      refine ah 3 ?_;try simp only [Act.put,ak]
      refine ah 4 ?_;try simp only [Act.put,ak]
      refine ah 5 ?_ (hy:=by intro wz hSw; (have hc:=(hSw.cell (p:=⟨b,j,none⟩) hbr).trans LN.out); go_simp <;> with_reducible rfl);try simp only [Act.put,ak]
      refine aj 6 λK hK=>?_;go_simp;go_at_call 157
      (with_reducible refine (Th.out _).mono ?_)
      rintro e cJ ⟨q1,q2,rfl,ho1,ho2,hq12,hg1,hg2,hbx⟩;refine hK.out _ _ (Below.trans hld (hbx.mono hld.size)) λhld=>?_;clear hK K;try simp only [Act.put,ak]
      refine ah 7 ?_;try simp only [Act.put,ak]
      refine aB ?_;clear l0 l1 Th LL LN;go_wp2_with fail
      refine (WL c q1 q2 kk wk L il.out zr.out _ (by rw [hbx.block _ l9.out.1]; exact l9.out.2) ho1 ho2).mono ?_;rintro e w4 ⟨rfl,hc4,hg4⟩;have Fc:=hid hc4;clear hc4;go_wp2_with fail
      go_roundw
      case rel =>
       have hbl:=rB.out.below hld;refine ⟨j+1,by omega,by go_num,hid ⟨aI hbl.1 hg4.size,(hg4.block _ hbl.1 (by simpa using hbc)).trans hbl.2⟩,hid ⟨aI (l9.out.below hld).1 hg4.size,by rw [<-ik.out]; exact Fc.out⟩,hid ((ey.out.trans (hld.mono ey.out.size)).grown hg4 (ey.out.trans (hld.mono ey.out.size)).size (λg hg=>by cases hg; exact hgc))⟩
      case measure=>simp [intOf]; omega
     .have Cs:j=64:=by omega
      rw [Cs] at l9;clear Cs;have LO:=hid (yK ws H eK.out 64);have Tl:=hid (vZ ws H F9.out 64);obtain ⟨V,hV⟩:=ay (rV ws H 64)
      rw [hV] at l9 LO Tl fb;clear hV;have pM:Hid (Rg.Own wr w.heap.size (ac (vk H V 0)) 178):=hid ⟨by have:=ey.out.size; omega,by rw [ey.out.block _ hBx.1,OA _ _ eK.out]; exact HH.out⟩;have bh:Hid (Rg.Own wr (w.heap.size+1) (za 8) 178):=hid ((b8.below (ey.out.mono aG)));have nF:=hid (λj hj wz=>wL V j hj LO.out wz);obtain ⟨AV,LR⟩:=ay (ac V)
      have hAs:AV.size=8:=by rw [<-LR,bG,LO.out]
      rw [LR] at l9 nF;have LS:=hid hAs;clear LR hAs rB;go_wp2_with (first | (refine wpList_load_row rfl _ _ rfl c rfl 178 AV (0,0) _ l9.out.2 underlying178 rfl (by rw [LS.out]; exact jT) ?_))
      obtain ⟨wp,rfl⟩:∃ wp:World,wp=wr:=⟨_,rfl⟩
      clear hlt2;go_loopw [33] (λi wx=>∃ q:Nat,q<=8/\i = .int .i64 q/\Hid (Rg.Own wx w.heap.size (ac (vk H V q)) 178)/\Hid (Rg.Upd wp w.heap.size wx)) (λi _=>8-(intOf i).toNat)
      case atStart=>exact ⟨0,by omega,rfl,pM,hid ⟨rfl,rfl,rfl,rfl,λ_ _=>rfl⟩⟩
      case round =>
       clear pM;obtain ⟨q,hq,rfl,pM,rI⟩:=hrel;by_cases hlt3:q<8
       .have hix:=nF.out q hlt3;have hcl:=(cell_of_row wr w.heap.size q _ _ _ pM.out.2).trans (KZ (vk H V q) q (by rw [oZ]; exact hlt3));have hfz:=frozen_of_row wr w.heap.size q _ _ pM.out.2;rw [Qy H V q hlt3] at hcl;have HN:=sec (Sc H V q hlt3);have bx:=getD_lt F9.out q;have bv:=getD_lt Tl.out q;obtain ⟨x,hx⟩:=ay (H.getD q 0)
        obtain ⟨y,hy⟩:=ay (V.getD q 0)
        rw [hx] at hcl bx HN;rw [hy] at hix bv HN;clear hx hy;have hv:((x:Int)+y)%4294967296=((x+y)%4294967296:Nat):=by omega
        have HVs:=sec hv;clear hv;go_wp2;go_roundw
        case rel =>
         refine ⟨q+1,by omega,by go_num,?_,?_⟩
         .rw [HVs.out];exact hid ⟨by simpa using pM.out.1,by rw [heap_setCell_same _ _ _ _ _ _ pM.out.2,YG,HN.out]⟩
         .exact hid ⟨rI.out.os,rI.out.tape,rI.out.output,by simpa using rI.out.size,λk hk=>(heap_setCell_other _ _ _ _ hk).trans (rI.out.block k hk)⟩
        case measure=>simp [intOf]; omega
       .obtain rfl:q=8:=by omega
        have HF:Hid (Rg.Own wr w.heap.size (ac (mR s.data.toList h (k+1))) 178):=hid (by rw [<-fb.out,<-SH]; exact pM.out);have cf:Hid (Rg.Own wr (w.heap.size+1) (za 8) 178):=hid (bh.out.upd rI.out (by omega));have ap:Hid (Below w.heap.size w wr):=hid (rI.out.below (HB.out.trans (ey.out.mono HB.out.size)) aG);have HE:Hid (z.extract 64 (s.size-64*k)=s.extract (64*(k+1)) s.size):=hid (by rw [<-fa.out,<-HZ.out]; exact TG s k);have hz3:z.size=s.size-64*k:=fa.out
        have HES:Hid ((s.extract (64*(k+1)) s.size).size=s.size-64*(k+1)):=hid (by simp);have hzs:64<=(z.size:Int):=by omega
        clear pM rI bh nF hlt3 hq;go_wp2;go_roundw
        case rel=>exact ⟨k+1,by omega,by rw [<-HE.out],hid HF.out.2,cf.out,ap.out⟩
        case measure =>
         show (z.extract 64 (s.size-64*k)).size<z.size;rw [HE.out,HES.out];omega
  .obtain rfl:k=s.size/64:=by omega
   have eK:=hid (HL.out (s.size/64));obtain ⟨H,hH⟩:=ay (mR s.data.toList h (s.size/64))
   have S4:=sec hH;rw [hH] at HH eK;have b8:=hid b8;clear hH nB dr;have hsz2:((s.extract (64*(s.size/64)) s.size).size:Int)<64:=by omega
   obtain ⟨z,hz⟩:=ay (s.extract (64*(s.size/64)) s.size)
   rw [hz] at hsz2 ⊢;clear hz hsz hlt hk;go_wp2_with (first | (refine wpList_load_row rfl _ _ rfl w.heap.size rfl 178 (ac H) (0,0) _ HH.out underlying178 rfl (by rw [bG,eK.out]; exact jT) ?_) | (refine wpList_store_rowTo rfl 178 _ _ rfl rfl _ (ac H) rfl rfl 178 (za 8) b8.out.2 (by rw [bG,eK.out]; exact jT) (by rw [bG,eK.out,za,bG]; simp) (je _) ?_))
   exact bodyPost_ret (results_cell_row rfl _ _ (w.heap.size+1) 178 (ac H) (0,0) _ rfl (setRow_heap _ _ _ _ _ _ b8.out.2) underlying178 rfl (by rw [bG,eK.out]; exact jT)) rfl ⟨by rw [S4.out],eO hB (by omega) _⟩
def kc (k:aM):aN:=(k.map λb=>Value.int .u8 b.toNat).toArray
theorem jN (k:aM):(kc k).size=k.length:=by simp [kc]
theorem FI (k:aM):(kc k).all (·.oneCell')=true:=by
 rw [Array.all_eq_true];intro i hi;simp [kc];rfl
theorem VG:(prog.info? 48).map (·.size)=some 32:=by kernel_rfl
theorem kD (k:aM) (h:k.length=32):(prog.info? 48).map (·.size)=some (kc k).size:=by rw [jN,h]; exact VG
def zk:aM:=List.replicate 32 0
theorem jY (ev:Operand->Value) (o:Oper) (ho:o.op = .alloc 48) (w:World) (n:Nat) (hn:w.heap.size=n) :
  (execOp ev o).run prog w = .ok (.value (.pointer (some ⟨n,0,none⟩))) (w.alloc (.cells (kc zk) 48)):=by
 subst hn;unfold execOp;rw [ho];kernel_rfl
theorem YD (l:aM) {f:Nat->Value} (h:w.rowIs g t 32 f) (hl:l.length=32) (hf:∀ j,j<32->f j = .int .u8 (l.getD j 0).toNat):w.heap[g]? = some (.cells (kc l) t (0,0)):=by
 obtain ⟨c,hg,hs,hc⟩:=h;have:c=kc l:=by
  apply Array.ext
  .rw [hs,jN,hl]
  .intro i hi h2;have h1:=hc i (by omega);rw [hf i (by omega),Array.getElem?_eq_getElem hi] at h1;have h3:=Option.some.inj h1;rw [h3];have h4:i<l.length:=by omega
   simp [kc,List.getD,h4]
 rw [hg,this]
theorem YE (h:w.heap[g]? = some (.cells (kc zk) t (0,0))):w.rowIs g t 32 (λ_=>.int .u8 0) :=
 ⟨_,h,rfl,λi hi=>by
  show ((zk.map λb=>Value.int .u8 b.toNat).toArray)[i]? = _;have hz:zk[i]? = some 0:=by
   unfold zk;rw [List.getElem?_replicate,if_pos hi]
  rw [List.getElem?_toArray,List.getElem?_map,hz];rfl⟩
theorem start_lt:∀ x∈Sh.start,x<4294967296:=by decide
theorem SC (s:aL) (m:Nat) (hm:m=s.size-s.size%64) :
  mR ((s.extract m s.size).data.toList++qp s.size) (mR (s.extract 0 m).data.toList Sh.start ((s.extract 0 m).size/64)) (((s.extract m s.size).data.toList++qp s.size).length/64)=oN (iP s.data.toList) ((iP s.data.toList).length/64):=by
 have e1:(s.extract 0 m).data.toList=s.data.toList.take m:=by simp
 have e2:(s.extract m s.size).data.toList=s.data.toList.drop m:=by
  simp only [ByteArray.data_extract,Array.toList_extract,List.extract_eq_take_drop];rw [List.take_of_length_le (by simp)]
 have hl:s.data.toList.length=s.size:=by simp
 have e3:(s.extract 0 m).size=m:=by simp; omega
 have e4:iP s.data.toList=s.data.toList.take m++(s.data.toList.drop m++qp s.size):=by
  rw [OI,hl,<-List.append_assoc,List.take_append_drop]
 have hmd:=DI s.data.toList;rw [e1,e2,e3,<-Bg,e4];rw [e4] at hmd;have hlen:(s.data.toList.take m++(s.data.toList.drop m++qp s.size)).length=m+(s.data.toList.drop m++qp s.size).length:=by
  rw [List.length_append,List.length_take,hl];congr 1;omega
 rw [hlen] at hmd ⊢;rw [show (m+(s.data.toList.drop m++qp s.size).length)/64=m/64+(s.data.toList.drop m++qp s.size).length/64 by omega];exact (DR _ _ (m/64) (by rw [List.length_take,hl]; omega) _ _).symm
theorem EN (s:aL) (hs:s.size<=900000) (w:World) (hK:∀ i,i<64->w.cell? ⟨0,i,none⟩=some (.int .u32 (kN i:Nat))) :
  Calls prog 65 #[.string s] w λe w'=>e = .returned (.agg (kc (rM s.data.toList)))/\Below w.heap.size w w':=by
 have h0:0<w.heap.size:=World.block_lt_of_cell? w _ (hK 0 (by omega));have HK:=hid hK;have bj:=hid (FJ s.size (by omega));obtain ⟨m,hm⟩:=ay (s.size-s.size%64)
 have hmi:(s.size:Int)-s.size%64=m:=by omega
 have hml:m<=s.size:=by omega
 have hF:=SC s m hm.symm;have o0:=hid (yL (s.extract 0 m).data.toList Sh.start rfl ((s.extract 0 m).size/64));have hT1:=NJ (s.extract 0 m).data.toList Sh.start start_lt ((s.extract 0 m).size/64);have lz:=hid (λW hk=>Nc Sh.start rfl start_lt (s.extract 0 m) (by simp; omega) W hk);obtain ⟨M1,hM1⟩:=ay (mR (s.extract 0 m).data.toList Sh.start ((s.extract 0 m).size/64))
 rw [hM1] at o0 hT1 hF lz;obtain ⟨s2,hs2⟩:=ay (s.extract m s.size++⟨(qp s.size).toArray⟩)
 have hd2:s2.data.toList=(s.extract m s.size).data.toList++qp s.size:=by rw [<-hs2,ByteArray.data_append]; simp
 have hz2:s2.size=((s.extract m s.size).data.toList++qp s.size).length:=by rw [<-hd2]; simp
 have hz:gW s.size<64:=Nat.mod_lt _ (by omega);have fs:=hid (λW hk=>Nc M1 o0.out hT1 s2 (by rw [hz2,List.length_append,sM]; simp; omega) W hk);rw [<-hd2,show s2.data.toList.length=s2.size by simp] at hF;rw [hF] at fs;have iv:=hid (wB (iP s.data.toList) ((iP s.data.toList).length/64));have HT2:=hid (Hr (iP s.data.toList) ((iP s.data.toList).length/64));have HS:=sec (show uR (oN (iP s.data.toList) ((iP s.data.toList).length/64)) 32=rM s.data.toList from rfl);obtain ⟨M2,hM2⟩:=ay (oN (iP s.data.toList) ((iP s.data.toList).length/64))
 rw [hM2] at fs iv HT2 HS;have HS2:=hid hs2;clear hT1 hF hd2 hz2 hz hM2 hs2;clear hK hm hM1;go_enter func65,ntmps65;go_upto_region 3 with (first | (refine fC rfl _ _ (jY _ _ rfl _ w.heap.size rfl) ?_) | (refine fC rfl _ _ (wP _ _ rfl _ (w.heap.size+1) (by simp)) ?_) | (refine wpList_store_rowTo rfl 178 _ _ rfl rfl (w.heap.size+1) (ac Sh.start) rfl rfl 178 (za 8) (by have:=heap_alloc_new (w.alloc (.cells (kc zk) 48)) (.cells (za 8) 178); simpa using this) jT rfl (je _) ?_))
 have h2:Rg.Own (((w.alloc (.cells (kc zk) 48)).alloc (.cells (za 8) 178)).setRow (w.heap.size+1) (ac Sh.start)) w.heap.size (kc zk) 48 :=
  ((Rg.Own.new w _ _).below (aH.alloc aG _)).upd (Rg.Upd.set _ _ _) (by omega)
 have h3:Rg.Own (((w.alloc (.cells (kc zk) 48)).alloc (.cells (za 8) 178)).setRow (w.heap.size+1) (ac Sh.start)) (w.heap.size+1) (ac Sh.start) 178 :=
  ⟨by simp,setRow_heap _ _ _ _ _ _ (by have:=heap_alloc_new (w.alloc (.cells (kc zk) 48)) (.cells (za 8) 178); simpa using this)⟩
 have hB0:Below w.heap.size w (((w.alloc (.cells (kc zk) 48)).alloc (.cells (za 8) 178)).setRow (w.heap.size+1) (ac Sh.start)) :=
  eO ((aH.alloc aG _).alloc (by simp) _) (by omega) _
 generalize (((w.alloc (.cells (kc zk) 48)).alloc (.cells (za 8) 178)).setRow (w.heap.size+1) (ac Sh.start))=W0 at h2 h3 hB0 ⊢;have ge2:w.heap.size<=w.heap.size:=aG;have fh:w.heap.size<=w.heap.size+1:=by omega
 have mA:w.heap.size≠w.heap.size+1:=by omega
 refine aC (S:=λw'=>Below w.heap.size w w') (hB0.drew) λhld=>?_;replace h2:=h2.drew;replace h3:=h3.drew;refine ah 1 ?_;try simp only [Act.put,ak]
 refine ah 2 ?_;try simp only [Act.put,ak]
 refine ah 3 ?_;try simp only [Act.put,ak]
 refine aj 0 λK hK=>?_;refine Rg.meet (by rfl) _ _ (mJ _ _ (w.heap.size+1) _ Sh.start ?_ h3.2 rfl) ?_
 .exact ⟨_,rfl,rfl⟩
 refine hK.out _ _ (hld) λhld=>?_;clear hK K;try simp only [Act.put,ak]
 refine aj 4 λK hK=>?_;go_simp;go_at_call 109
 (with_reducible refine (lz.out _ (λi hi=>(hld.cell (p:=⟨0,i,none⟩) h0).trans (HK.out i hi))).mono ?_)
 rintro e cJ ⟨rfl,hbx⟩;replace h2:=h2.below hbx;replace h3:=h3.below hbx;refine hK.out _ _ (Below.trans hld (hbx.mono hld.size)) λhld=>?_;clear hK K;try simp only [Act.put,ak]
 refine aj 5 λK hK=>?_;refine Rg.meetStore (by rfl) h3 178 (ac M1) ⟨_,_,rfl,rfl,rfl⟩ (by rw [bG,o0.out]; exact jT) (by rw [bG,bG,o0.out]; exact rfl) (je _) ?_;rintro wv1 hn hu;replace h2:=h2.upd hu mA;refine hK.out _ _ ?_ (λhld=>?_)
 .exact hu.below hld fh
 replace h3:=hn;clear hK K hn hu;try simp only [Act.put]
 refine aB ?_;go_wp2_with fail
 have hB1:=hld;clear hld;go_cut [3] (λp wx=>p = .pointer (some ⟨w.heap.size+1,0,none⟩)/\Hid (Rg.Own wx w.heap.size (kc zk) 48)/\Hid (Rg.Own wx (w.heap.size+1) (ac M2) 178)/\Hid (Below w.heap.size w wx))
 case first =>
  have hs2:=HS2.out;have To:Hid (¬ 9223372036854775807<s.size-m+(qp s.size).length):=hid (by have hz:gW s.size<64:=Nat.mod_lt _ (by omega); rw [sM]; omega);refine aC (S:=λw'=>Below w.heap.size w w') (hB1.drew) λhld=>?_;replace h2:=h2.drew;replace h3:=h3.drew;refine ah 1 ?_;try simp only [Act.put,ak]
  refine ah 2 ?_;try simp only [Act.put,ak]
  refine ah 3 ?_;try simp only [Act.put,ak]
  refine ah 4 ?_;try simp only [Act.put,ak]
  refine ah 5 ?_;try simp only [Act.put,ak]
  refine wpAnyH_ready (rs:=[0,6]) (by kernel_rfl) (by simp) ?_;refine Rg.readyC (i:=0) rfl (λK hK=>?_) (Rg.readyL (i:=6) rfl (λK hK=>?_))
  .refine Rg.meet (by rfl) _ _ (mJ _ _ (w.heap.size+1) _ M1 ?_ h3.2 o0.out) ?_
   .exact ⟨_,rfl,rfl⟩
   refine hK.out _ _ (hld) λhld=>?_;clear hK K;try simp only [Act.put,ak]
   refine aj 6 λK hK=>?_;go_simp;go_at_call 110
   (with_reducible refine (bj.out _).mono ?_)
   rintro e cJ ⟨rfl,hbx⟩;replace h2:=h2.below hbx;replace h3:=h3.below hbx;refine hK.out _ _ (Below.trans hld (hbx.mono hld.size)) λhld=>?_;clear hK K;try simp only [Act.put,ak]
   refine ah 7 ?_ (hy:=by intro wz hSw; (have hcc:=To.out); go_simp <;> with_reducible rfl);try simp only [Act.put,ak]
   refine aj 8 λK hK=>?_;go_simp;go_at_call 109
   (with_reducible refine (fs.out _ (λi hi=>(hld.cell (p:=⟨0,i,none⟩) h0).trans (HK.out i hi))).mono ?_)
   rintro e wv1 ⟨rfl,hbx⟩;replace h2:=h2.below hbx;replace h3:=h3.below hbx;refine hK.out _ _ (Below.trans hld (hbx.mono hld.size)) λhld=>?_;clear hK K;try simp only [Act.put,ak]
   refine aj 9 λK hK=>?_;refine Rg.meetStore (by rfl) h3 178 (ac M2) ⟨_,_,rfl,rfl,rfl⟩ (by rw [bG,iv.out]; exact jT) (by rw [bG,bG,iv.out]; exact o0.out) (je _) ?_;rintro wv2 hn hu;replace h2:=h2.upd hu mA;refine hK.out _ _ ?_ (λhld=>?_)
   .exact hu.below hld fh
   replace h3:=hn;clear hK K hn hu;try simp only [Act.put]
   refine aB ?_;go_wp2_with fail
   go_meet
   exact ⟨rfl,hid h2,hid h3,hid hld⟩
  .go_simp;go_at_call 110
   (with_reducible refine (bj.out _).mono ?_)
   rintro e cJ ⟨rfl,hbx⟩;replace h2:=h2.below hbx;replace h3:=h3.below hbx;refine hK.out _ _ (Below.trans hld (hbx.mono hld.size)) λhld=>?_;clear hK K;try simp only [Act.put,ak]
   refine ah 7 ?_ (hy:=by intro wz hSw; (have hcc:=To.out); go_simp <;> with_reducible rfl);try simp only [Act.put,ak]
   refine aj 0 λK hK=>?_;refine Rg.meet (by rfl) _ _ (mJ _ _ (w.heap.size+1) _ M1 ?_ h3.2 o0.out) ?_
   .exact ⟨_,rfl,rfl⟩
   refine hK.out _ _ (hld) λhld=>?_;clear hK K;try simp only [Act.put,ak]
   refine aj 8 λK hK=>?_;go_simp;go_at_call 109
   (with_reducible refine (fs.out _ (λi hi=>(hld.cell (p:=⟨0,i,none⟩) h0).trans (HK.out i hi))).mono ?_)
   rintro e wv1 ⟨rfl,hbx⟩;replace h2:=h2.below hbx;replace h3:=h3.below hbx;refine hK.out _ _ (Below.trans hld (hbx.mono hld.size)) λhld=>?_;clear hK K;try simp only [Act.put,ak]
   refine aj 9 λK hK=>?_;refine Rg.meetStore (by rfl) h3 178 (ac M2) ⟨_,_,rfl,rfl,rfl⟩ (by rw [bG,iv.out]; exact jT) (by rw [bG,bG,iv.out]; exact o0.out) (je _) ?_;rintro wv2 hn hu;replace h2:=h2.upd hu mA;refine hK.out _ _ ?_ (λhld=>?_)
   .exact hu.below hld fh
   replace h3:=hn;clear hK K hn hu;try simp only [Act.put]
   refine aB ?_;go_wp2_with fail
   go_meet
   exact ⟨rfl,hid h2,hid h3,hid hld⟩
 case rest =>
  obtain ⟨rfl,H2,H3,HB⟩:=hcut;obtain ⟨W,rfl⟩:∃ W:World,W=wc:=⟨_,rfl⟩
  have h3:=H3.out;have Ts:Hid ((W.alloc (.cells (kc zk) 48)).heap[w.heap.size+1]? = some (.cells (ac M2) 178 (0,0))):=hid ((Lib.alloc_old _ _ _ h3.1).trans h3.2);have ie:Hid ((W.alloc (.cells (kc zk) 48)).rowIs W.heap.size 48 32 (λj=>.int .u8 (if j<4*0 then uE M2 j else 0:Nat))):=hid ((YE (heap_alloc_new _ _)).congr (λj _=>by rw [if_neg (by omega)]; rfl));have nF:=hid (λj hj wz=>wL M2 j hj iv.out wz);have C4:=hid (λj=>getD_lt HT2.out j);obtain ⟨A,hA⟩:=ay (ac M2)
  have LS:Hid (A.size=8):=hid (by rw [<-hA,bG,iv.out]);rw [hA] at Ts nF;clear h3 hA bj lz fs hmi h2 hB1 hld hbx;go_wp2_with (first | (refine fC rfl _ _ (jY _ _ rfl _ _ rfl) ?_) | (refine wpList_load_row rfl _ _ rfl (w.heap.size+1) rfl 178 A (0,0) _ Ts.out underlying178 rfl (by rw [LS.out]; exact jT) ?_))
  go_loopw [30] (λi wx=>∃ q:Nat,q<=8/\i = .int .i64 q/\Hid (wx.rowIs W.heap.size 48 32 (λj=>.int .u8 (if j<4*q then uE M2 j else 0:Nat)))/\Hid (Below W.heap.size W wx)) (λi _=>8-(intOf i).toNat)
  case atStart=>exact ⟨0,by omega,rfl,ie,hid (aH.alloc aG _)⟩
  case round =>
   clear ie;obtain ⟨q,hq,rfl,HR,m6⟩:=hrel;by_cases hlt:q<8
   .have hix:=nF.out q hlt;have hxl:=C4.out q;have mB:=zT W.heap.size (4*q) 4 (32-4*q) (M2.getD q 0) 32 48 _ wr HR.out (by omega) (by omega);have EE:Hid ((pF wr W.heap.size (4*q) 4 (M2.getD q 0) 4).rowIs W.heap.size 48 32 (λj=>.int .u8 (if j<4*(q+1) then uE M2 j else 0:Nat))):=hid ((tV HR.out 4).congr (λj _=>by
     by_cases h1:4*q<=j/\j<4*q+4
     .rw [if_pos h1,if_pos (by omega)];unfold upB uE;rw [show j/4=q by omega,show 4-1-(j-4*q)=3-j%4 by omega]
     .rw [if_neg h1];by_cases h2:j<4*q
      .rw [if_pos h2,if_pos (by omega)]
      .rw [if_neg h2,if_neg (by omega)]))
    have vA:Hid (Below W.heap.size W (pF wr W.heap.size (4*q) 4 (M2.getD q 0) 4)):=hid (sZ m6.out aG 4);obtain ⟨x,hx⟩:=ay (M2.getD q 0)
    rw [hx] at hix hxl mB EE vA;have mB:=hid mB;clear hx;have l0:(0:Int)<=4*(q:Int):=by omega
    have l1:4*(q:Int)<=4*(q:Int)+4:=by omega
    have l2:4*(q:Int)+4<=32:=by omega
    have l3:(4*(q:Int)).toNat=4*q:=by omega
    have l4:(4*(q:Int)+4).toNat=4*q+4:=by omega
    have l5:¬ 32=4*q:=by omega
    go_wp2_with fail
    refine mB.out.mono ?_;rintro e w3 ⟨rfl,rfl⟩;clear l0 l1 l2 l3 l4 l5 mB hix;go_wp2;go_roundw
    case rel=>exact ⟨q+1,by omega,by go_num,EE,vA⟩
    case measure=>simp [intOf]; omega
   .obtain rfl:q=8:=by omega
    have HF:Hid (wr.heap[W.heap.size]? = some (.cells (kc (rM s.data.toList)) 48 (0,0))):=hid (YD _ HR.out (rY _) (λj hj=>by
     rw [if_pos (by omega),<-HS.out];simp [uR,List.getD,hj];unfold uE;omega))
    have Tu:Hid (Rg.Own wr w.heap.size (kc zk) 48):=hid (H2.out.below m6.out);have HB2:Hid (Below w.heap.size w wr):=hid (HB.out.trans (m6.out.mono HB.out.size));have hkl:=rY s.data.toList;obtain ⟨K,hK⟩:=ay (rM s.data.toList)
    have HKK:=sec hK;rw [hK] at hkl HF;have Fd:=hid hkl;clear hK hkl HR nF C4;go_wp2_with (first | (refine wpList_load_row rfl _ _ rfl W.heap.size rfl 48 (kc K) (0,0) _ HF.out underlying48 rfl (kD K Fd.out) ?_) | (refine wpList_store_rowTo rfl 48 _ _ rfl rfl _ (kc K) rfl rfl 48 (kc zk) Tu.out.2 (kD K Fd.out) (by rw [jN,jN,Fd.out]; rfl) (FI _) ?_))
    exact bodyPost_ret (results_cell_row rfl _ _ w.heap.size 48 (kc K) (0,0) _ rfl (setRow_heap _ _ _ _ _ _ Tu.out.2) underlying48 rfl (kD K Fd.out)) rfl ⟨by rw [HKK.out],eO HB2.out (by omega) _⟩
end Sm
end
section
namespace jp
end jp
end
section
open Go.RowKit jp
end
section
open Go.RowKit jp
end
section
open Go.RowKit jp
namespace Tx
end Tx
namespace Rx
end Rx
end
section
open Go.RowKit
namespace Ni
end Ni
end
section
open Go.RowKit
namespace Sm
open Sh
def Tab (w:World):Prop:=∀ i,i<64->w.cell? ⟨0,i,none⟩=some (.int .u32 (kN i:Nat))
theorem Tab.pos (h:Tab w):0<w.heap.size:=World.block_lt_of_cell? w _ (h 0 (by omega))
theorem Tab.below {w':World} (h:Tab w) (hb:Below B w w') (hB:0<B):Tab w':=λi hi=>(hb.cell (p:=⟨0,i,none⟩) hB).trans (h i hi)
theorem Xx (w:World) (k:aM) (hk:k.length=32):aZ (w.alloc (.cells (kc k) 48)) (some ⟨w.heap.size,0,none⟩) 32 32 k:=by
 have h:=aZ.new w k (by unfold maxLen; omega) (kc k) 48 rfl;rw [hk] at h;exact h
theorem lu (k:aM) (hk:k.length=32) (w:World) :
  Calls prog 108 #[.agg (kc k)] w λe w'=>e = .returned (.string ⟨k.toArray⟩)/\Below w.heap.size w w':=by
 have hcv:=kW (Xx w k hk);obtain ⟨C,hC⟩:=ay (kc k)
 obtain ⟨T,hT⟩:=ay (⟨k.toArray⟩:aL)
 rw [hC,hT] at hcv;rw [hC,hT];clear hC hT hk;go_enter func108,ntmps108;go_wp2;go_ret;exact ⟨rfl,aH.alloc aG _⟩
end Sm
end
end Go.Proofs.YtoipgepkhomfgaaGreatDoor
