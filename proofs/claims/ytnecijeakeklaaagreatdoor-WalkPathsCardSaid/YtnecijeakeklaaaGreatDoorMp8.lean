/-
 The contract of sum.mix.
-/
import Derived.Test.YtnecijeakeklaaaGreatDoorMp7
import Derived.Deep.DeepCutAuto
import Derived.Laws.Bits64b
import Derived.WalkKit
import Derived.Test.YtnecijeakeklaaaGreatDoorRows
import Derived.WalkSpells
import Derived.WalkLawsBesides
import Derived.Lib.Hide
import Derived.Laws.IdiomStrings
import Derived.LoopN
import Derived.Test.YtnecijeakeklaaaGreatDoorMp2
import Derived.Test.YtnecijeakeklaaaGreatDoorMp1
import Derived.Lib.Bytealg
import Derived.Lib.BytesEntry
import Derived.Laws.Externs
import Derived.Lib.BufferWrite
import Derived.Lib.SlBuf
import Derived.Laws.ResultCell
open Go.Lib (hid)
set_option linter.unusedSimpArgs false
set_option linter.unusedVariables false
set_option maxHeartbeats 40000000
set_option maxRecDepth 100000
namespace Go.Proofs.YtnecijeakeklaaaGreatDoor
section
open Go.RowKit
namespace Sm
open Sh
theorem run_load_row8 (ev:Operand→Value) (o:Oper) (g:Nat) (w:World) (l:List Nat) (ho:∃ x,o.op = .load 160 x∧ev x = .pointer (some ⟨g,0,none⟩)) (hg:w.heap[g]? = some (.cells (ac l) 160 (0,0))) (hl:l.length=8) :
  (execOp ev o).run Tryz.prog w = .ok (.value (.agg (ac l))) w:=by
 obtain ⟨x,ho,hx⟩:=ho;have h:=run_loadVar_row (P:=Tryz.prog) w g 160 160 (ac l) (0,0) _ hg Tryz.underlying160 rfl (by rw [ac_size,hl]; exact info_8);unfold execOp;rw [ho];simp only [hx];simp [Instr.loadAt,Instr.sureAddr,h]
theorem run_alloc_8n (ev:Operand→Value) (o:Oper) (ho:o.op = .alloc 160) (w:World) (n:Nat) (hn:w.heap.size=n) :
  (execOp ev o).run Tryz.prog w = .ok (.value (.pointer (some ⟨n,0,none⟩))) (w.alloc (.cells (za 8) 160)):=by
 subst hn; exact run_alloc_8 ev o ho w
theorem ac_set (l:List Nat) (j x:Nat):(ac l).setIfInBounds j (.int .u32 x)=ac (l.set j x):=by simp [ac,List.map_set]
theorem turner_own (n x:Nat) (w:World) :
  Calls Tryz.prog 140 #[.int .u32 n,.int .u32 x] w fun e w'=>∃ b1 b2,e = .returned (.func (Fn.func 170) #[] #[.pointer (some ⟨b1,0,none⟩),.pointer (some ⟨b2,0,none⟩)])∧Rg.Own w' b1 #[.int .u32 n] 96∧Rg.Own w' b2 #[.int .u32 x] 96∧b1≠b2∧w.heap.size≤b1∧w.heap.size≤b2∧Below w.heap.size w w':=by
 refine (turner_any n x w).mono ?_;rintro e w' ⟨rfl,rfl⟩;refine ⟨_,_,rfl,(Rg.Own.new w _ _).below ((Below.refl _ _).alloc (Nat.le_refl _) _),?_,by omega,by omega,by omega,((Below.refl _ _).alloc (Nat.le_refl _) _).alloc (by simp) _⟩;have:=Rg.Own.new (w.alloc (.cells #[.int .u32 n] 96)) #[.int .u32 x] 96;rw [show (w.alloc (.cells #[.int .u32 n] 96)).heap.size=w.heap.size+1 by simp] at this;exact this
theorem round_l (g bn bw kk wk:Nat) (l:List Nat) (hl:l.length=8) (hlt:∀ x∈l,x<4294967296) (w:World) (hg:w.heap[g]? = some (.cells (ac l) 160 (0,0))) (hn:Rg.Own w bn #[.int .u32 kk] 96) (hw:Rg.Own w bw #[.int .u32 wk] 96) :
  Calls Tryz.prog 170 #[.pointer (some ⟨g,0,none⟩),.pointer (some ⟨bn,0,none⟩),.pointer (some ⟨bw,0,none⟩)] w fun e w'=>e = .returned (.tuple #[])∧w'.heap[g]? = some (.cells (ac (roundL kk wk l)) 160 (0,0))∧w.grownBy w' (some g):=by
 obtain ⟨x0,x1,x2,x3,x4,x5,x6,x7,rfl⟩:=eight l hl;exact round_any g bn bw kk wk x0 x1 x2 x3 x4 x5 x6 x7 (hlt _ (by simp)) (hlt _ (by simp)) (hlt _ (by simp)) (hlt _ (by simp)) (hlt _ (by simp)) (hlt _ (by simp)) w hg (cell_of_row w bn 0 _ _ _ hn.2) (cell_of_row w bw 0 _ _ _ hw.2)
theorem run_index_ac (l:List Nat) (j:Nat) (hj:j<8) (hl:l.length=8) (w:World):(Instr.index 160 (.agg (ac l)) (.int .i64 j)).run Tryz.prog w = .ok (.int .u32 (l.getD j 0:Nat)) w:=by
 obtain ⟨x0,x1,x2,x3,x4,x5,x6,x7,rfl⟩:=eight l hl;have hc:j=0∨j=1∨j=2∨j=3∨j=4∨j=5∨j=6∨j=7:=by omega
 rcases hc with rfl | rfl | rfl | rfl | rfl | rfl | rfl | rfl <;> rfl
theorem ext_more (s:ByteArray) (k:Nat):(s.extract (64*k) s.size).extract 64 (s.extract (64*k) s.size).size=s.extract (64*(k+1)) s.size:=by
 rw [ByteArray.extract_extract];congr 1;simp;omega
theorem byteAt_drop (s:ByteArray) (k:Nat):byteAt (s.extract (64*k) s.size)=byteK s.data.toList k:=by
 funext q;unfold byteAt byteK;have e:(s.extract (64*k) s.size).data.toList=s.data.toList.drop (64*k):=by
  simp only [ByteArray.data_extract,Array.toList_extract,List.extract_eq_take_drop];rw [List.take_of_length_le (by simp)]
 rw [e,List.getD,List.getD,List.getElem?_drop]
theorem mix_any (h:List Nat) (hh:h.length=8) (hlt:∀ x∈h,x<4294967296) (s:ByteArray) (hs:s.size≤1000000) (w:World) (hK:∀ i,i<64→w.cell? ⟨1,i,none⟩=some (.int .u32 (kN i:Nat))) :
  Calls Tryz.prog 113 #[.agg (ac h),.string s] w fun e w'=>e = .returned (.agg (ac (mixK s.data.toList h (s.size/64))))∧Below w.heap.size w w':=by
 have HL:=hid (mixK_length s.data.toList h hh);have HT:=hid (mixK_lt s.data.toList h hlt);have h0:1<w.heap.size:=World.block_lt_of_cell? w _ (hK 0 (by omega));have HK:=hid hK;have HS0:Hid ((w.alloc (.cells (ac h) 160)).heap[w.heap.size]? = some (.cells (ac (mixK s.data.toList h 0)) 160 (0,0))):=hid (heap_alloc_new _ _);have HSt:Hid (s=s.extract (64*0) s.size):=hid (by simp);obtain ⟨A,hA⟩:∃ A,ac h=A:=⟨_,rfl⟩
 rw [hA] at HS0 ⊢;clear hA hh hlt hK;go_enter Tryz.func113,Tryz.ntmps113;go_wp2_with (refine wpList_run rfl _ _ (run_alloc_8n _ _ rfl _ (w.heap.size+1) (by simp)) ?_)
 go_frame
 go_loopw [1] (fun v wr=>∃ k:Nat,k≤s.size/64∧v = .string (s.extract (64*k) s.size)∧Hid (wr.heap[w.heap.size]? = some (.cells (ac (mixK s.data.toList h k)) 160 (0,0)))∧Rg.Own wr (w.heap.size+1) (za 8) 160∧Below w.heap.size w wr) (fun v _=>match v with | .string b=>b.size | _=>0)
 case atStart=>exact ⟨0,by omega,by rw [← HSt.out],hid ((Lib.alloc_old _ _ _ (by simp)).trans HS0.out),by have:=Rg.Own.new (w.alloc (.cells A 160)) (za 8) 160; rwa [show (w.alloc (.cells A 160)).heap.size=w.heap.size+1 by simp] at this,((Below.refl _ _).alloc (Nat.le_refl _) _).alloc (by simp) _⟩
 case round =>
  obtain ⟨k,hk,rfl,HH,HO4,hB⟩:=hrel;have hsz:(s.extract (64*k) s.size).size=s.size-64*k:=by simp
  by_cases hlt:k<s.size/64
  ·have h64:64≤(s.extract (64*k) s.size).size:=by omega
   have HSch:=schedule_any (s.extract (64*k) s.size) h64 (by omega);rw [byteAt_drop] at HSch;have HSch:=hid HSch;have HWl:=hid (schW_length (byteK s.data.toList k) 64);have HWt:=hid (schW_lt (byteK s.data.toList k) (fun q=>UInt8.toNat_lt _) 64);have HBl:=sec (show blockL (byteK s.data.toList k) (mixK s.data.toList h k)=mixK s.data.toList h (k+1) from rfl);unfold blockL at HBl;obtain ⟨ws,hws⟩:∃ ws,schW (byteK s.data.toList k) 64=ws:=⟨_,rfl⟩
   rw [hws] at HSch HWl HWt HBl;clear hws;have HHl:=hid (HL.out k);have HHt:=hid (HT.out k);have hBx:w.heap.size<wr.heap.size∧w.heap.size+1<wr.heap.size:=by have:=HO4.1; omega
   obtain ⟨H,hH⟩:∃ H,mixK s.data.toList h k=H:=⟨_,rfl⟩
   rw [hH] at HH HHl HHt HBl;clear hH;obtain ⟨z,hz⟩:∃ z,s.extract (64*k) s.size=z:=⟨_,rfl⟩
   rw [hz] at HSch h64 hsz ⊢;have HZ:=sec hz;clear hz;go_upto_region 3 with fail
   go_cut [5,6] (fun p q wx=>∃ b c,p = .pointer (some ⟨b,0,none⟩)∧q = .pointer (some ⟨c,0,none⟩)∧b≠c∧wr.heap.size≤b∧wr.heap.size≤c∧Hid (wx.heap[b]? = some (.cells (ac ws) 191 (0,0)))∧Hid (wx.heap[c]? = some (.cells (ac H) 160 (0,0)))∧Below wr.heap.size wr wx)
   case first =>
    refine wp_region_noPanic ?_;refine wp_region_held_drew (S:=fun w'=>Below wr.heap.size wr w') (by kernel_rfl) ((Below.refl _ _).drew) (fun hld=>?_);refine Rg.tk (i:=0) rfl ?_;try simp only [Act.put,Rg.s]
    refine Rg.tk (i:=2) rfl ?_ (hy:=by intro wz hSw; refine run_load_row8 _ _ w.heap.size wz H ?_ (by rw [hSw.block _ hBx.1]; exact HH.out) HHl.out; exact ⟨_,rfl,rfl⟩);try simp only [Act.put,Rg.s]
    refine wpAnyH_ready (rs:=[1,3,4]) (by kernel_rfl) (by simp) ?_;refine Rg.readyC (i:=1) rfl (fun K hK=>?_) (Rg.readyC (i:=3) rfl (fun K hK=>?_) (Rg.readyL (i:=4) rfl (fun K hK=>?_)))
    ·go_simp;go_at_call 139
     (with_reducible refine (HSch.out _).mono ?_)
     rintro e wv0 ⟨rfl,hbx⟩;refine hK.out _ _ ?_ (fun hld=>?_)
     ·exact Below.trans hld (hbx.mono hld.size)
     clear hK K;try simp only [Act.put,Rg.s]
     refine wpAnyH_ready (rs:=[3,4]) (by kernel_rfl) (by simp) ?_;refine Rg.readyC (i:=3) rfl (fun K hK=>?_) (Rg.readyL (i:=4) rfl (fun K hK=>?_))
     ·refine Rg.meetAlloc (by rfl) (run_alloc_64 _ _ rfl _) ?_;rintro wv1 b3 he3 h3 hbx;have ge3:wr.heap.size≤b3:=by rw [he3]; exact Below.size hld
      clear he3;refine hK.out _ _ ?_ (fun hld=>?_)
      ·exact Below.trans hld (hbx.mono hld.size)
      clear hK K hbx;try simp only [Act.put,Rg.s]
      refine Rg.rd (i:=4) rfl fun K hK=>?_;refine Rg.meetAlloc (by rfl) (run_alloc_8 _ _ rfl _) ?_;rintro wv2 b4 he4 h4 hbx;have ge4:wr.heap.size≤b4:=by rw [he4]; exact Below.size hld
      have ne3_4:b3≠b4:=by have:=h3.1; omega
      replace h3:=h3.below hbx;clear he4;refine hK.out _ _ ?_ (fun hld=>?_)
      ·exact Below.trans hld (hbx.mono hld.size)
      clear hK K hbx;try simp only [Act.put,Rg.s]
      refine Rg.rd (i:=5) rfl fun K hK=>?_;refine Rg.meetStore (by rfl) h3 191 (ac ws) ⟨_,_,rfl,rfl,rfl⟩ (by rw [ac_size,HWl.out]; exact info_64) (by rw [ac_size,HWl.out,za,ac_size]; simp) (ac_one _) ?_;rintro wv3 hn hu;replace h4:=h4.upd hu (Ne.symm ne3_4);refine hK.out _ _ ?_ (fun hld=>?_)
      ·exact hu.below hld ge3
      replace h3:=hn;clear hK K hn hu;try simp only [Act.put]
      refine Rg.rd (i:=6) rfl fun K hK=>?_;refine Rg.meetStore (by rfl) h4 160 (ac H) ⟨_,_,rfl,rfl,rfl⟩ (by rw [ac_size,HHl.out]; exact info_8) (by rw [ac_size,HHl.out,za,ac_size]; simp) (ac_one _) ?_;rintro wv4 hn hu;replace h3:=h3.upd hu ne3_4;refine hK.out _ _ ?_ (fun hld=>?_)
      ·exact hu.below hld ge4
      replace h4:=hn;clear hK K hn hu;try simp only [Act.put]
      refine wpAnyH_done (by kernel_rfl) ?_ _;refine NoPanic.normal ?_;go_wp2_with fail
      go_meet
      exact ⟨b3,b4,rfl,rfl,ne3_4,ge3,ge4,hid h3.2,hid h4.2,hld⟩
     ·refine Rg.meetAlloc (by rfl) (run_alloc_8 _ _ rfl _) ?_;rintro wv1 b4 he4 h4 hbx;have ge4:wr.heap.size≤b4:=by rw [he4]; exact Below.size hld
      clear he4;refine hK.out _ _ ?_ (fun hld=>?_)
      ·exact Below.trans hld (hbx.mono hld.size)
      clear hK K hbx;try simp only [Act.put,Rg.s]
      refine Rg.rd (i:=3) rfl fun K hK=>?_;refine Rg.meetAlloc (by rfl) (run_alloc_64 _ _ rfl _) ?_;rintro wv2 b3 he3 h3 hbx;have ge3:wr.heap.size≤b3:=by rw [he3]; exact Below.size hld
      have ne3_4:b3≠b4:=by have:=h4.1; omega
      replace h4:=h4.below hbx;clear he3;refine hK.out _ _ ?_ (fun hld=>?_)
      ·exact Below.trans hld (hbx.mono hld.size)
      clear hK K hbx;try simp only [Act.put,Rg.s]
      refine Rg.rd (i:=5) rfl fun K hK=>?_;refine Rg.meetStore (by rfl) h3 191 (ac ws) ⟨_,_,rfl,rfl,rfl⟩ (by rw [ac_size,HWl.out]; exact info_64) (by rw [ac_size,HWl.out,za,ac_size]; simp) (ac_one _) ?_;rintro wv3 hn hu;replace h4:=h4.upd hu (Ne.symm ne3_4);refine hK.out _ _ ?_ (fun hld=>?_)
      ·exact hu.below hld ge3
      replace h3:=hn;clear hK K hn hu;try simp only [Act.put]
      refine Rg.rd (i:=6) rfl fun K hK=>?_;refine Rg.meetStore (by rfl) h4 160 (ac H) ⟨_,_,rfl,rfl,rfl⟩ (by rw [ac_size,HHl.out]; exact info_8) (by rw [ac_size,HHl.out,za,ac_size]; simp) (ac_one _) ?_;rintro wv4 hn hu;replace h3:=h3.upd hu ne3_4;refine hK.out _ _ ?_ (fun hld=>?_)
      ·exact hu.below hld ge4
      replace h4:=hn;clear hK K hn hu;try simp only [Act.put]
      refine wpAnyH_done (by kernel_rfl) ?_ _;refine NoPanic.normal ?_;go_wp2_with fail
      go_meet
      exact ⟨b3,b4,rfl,rfl,ne3_4,ge3,ge4,hid h3.2,hid h4.2,hld⟩
    ·refine Rg.meetAlloc (by rfl) (run_alloc_64 _ _ rfl _) ?_;rintro wv0 b3 he3 h3 hbx;have ge3:wr.heap.size≤b3:=by rw [he3]; exact Below.size hld
     clear he3;refine hK.out _ _ ?_ (fun hld=>?_)
     ·exact Below.trans hld (hbx.mono hld.size)
     clear hK K hbx;try simp only [Act.put,Rg.s]
     refine wpAnyH_ready (rs:=[1,4]) (by kernel_rfl) (by simp) ?_;refine Rg.readyC (i:=1) rfl (fun K hK=>?_) (Rg.readyL (i:=4) rfl (fun K hK=>?_))
     ·go_simp;go_at_call 139
      (with_reducible refine (HSch.out _).mono ?_)
      rintro e wv1 ⟨rfl,hbx⟩;replace h3:=h3.below hbx;refine hK.out _ _ ?_ (fun hld=>?_)
      ·exact Below.trans hld (hbx.mono hld.size)
      clear hK K;try simp only [Act.put,Rg.s]
      refine Rg.rd (i:=4) rfl fun K hK=>?_;refine Rg.meetAlloc (by rfl) (run_alloc_8 _ _ rfl _) ?_;rintro wv2 b4 he4 h4 hbx;have ge4:wr.heap.size≤b4:=by rw [he4]; exact Below.size hld
      have ne3_4:b3≠b4:=by have:=h3.1; omega
      replace h3:=h3.below hbx;clear he4;refine hK.out _ _ ?_ (fun hld=>?_)
      ·exact Below.trans hld (hbx.mono hld.size)
      clear hK K hbx;try simp only [Act.put,Rg.s]
      refine Rg.rd (i:=5) rfl fun K hK=>?_;refine Rg.meetStore (by rfl) h3 191 (ac ws) ⟨_,_,rfl,rfl,rfl⟩ (by rw [ac_size,HWl.out]; exact info_64) (by rw [ac_size,HWl.out,za,ac_size]; simp) (ac_one _) ?_;rintro wv3 hn hu;replace h4:=h4.upd hu (Ne.symm ne3_4);refine hK.out _ _ ?_ (fun hld=>?_)
      ·exact hu.below hld ge3
      replace h3:=hn;clear hK K hn hu;try simp only [Act.put]
      refine Rg.rd (i:=6) rfl fun K hK=>?_;refine Rg.meetStore (by rfl) h4 160 (ac H) ⟨_,_,rfl,rfl,rfl⟩ (by rw [ac_size,HHl.out]; exact info_8) (by rw [ac_size,HHl.out,za,ac_size]; simp) (ac_one _) ?_;rintro wv4 hn hu;replace h3:=h3.upd hu ne3_4;refine hK.out _ _ ?_ (fun hld=>?_)
      ·exact hu.below hld ge4
      replace h4:=hn;clear hK K hn hu;try simp only [Act.put]
      refine wpAnyH_done (by kernel_rfl) ?_ _;refine NoPanic.normal ?_;go_wp2_with fail
      go_meet
      exact ⟨b3,b4,rfl,rfl,ne3_4,ge3,ge4,hid h3.2,hid h4.2,hld⟩
     ·refine Rg.meetAlloc (by rfl) (run_alloc_8 _ _ rfl _) ?_;rintro wv1 b4 he4 h4 hbx;have ge4:wr.heap.size≤b4:=by rw [he4]; exact Below.size hld
      have ne3_4:b3≠b4:=by have:=h3.1; omega
      replace h3:=h3.below hbx;clear he4;refine hK.out _ _ ?_ (fun hld=>?_)
      ·exact Below.trans hld (hbx.mono hld.size)
      clear hK K hbx;try simp only [Act.put,Rg.s]
      refine Rg.rd (i:=1) rfl fun K hK=>?_;go_simp;go_at_call 139
      (with_reducible refine (HSch.out _).mono ?_)
      rintro e wv2 ⟨rfl,hbx⟩;replace h3:=h3.below hbx;replace h4:=h4.below hbx;refine hK.out _ _ ?_ (fun hld=>?_)
      ·exact Below.trans hld (hbx.mono hld.size)
      clear hK K;try simp only [Act.put,Rg.s]
      refine Rg.rd (i:=5) rfl fun K hK=>?_;refine Rg.meetStore (by rfl) h3 191 (ac ws) ⟨_,_,rfl,rfl,rfl⟩ (by rw [ac_size,HWl.out]; exact info_64) (by rw [ac_size,HWl.out,za,ac_size]; simp) (ac_one _) ?_;rintro wv3 hn hu;replace h4:=h4.upd hu (Ne.symm ne3_4);refine hK.out _ _ ?_ (fun hld=>?_)
      ·exact hu.below hld ge3
      replace h3:=hn;clear hK K hn hu;try simp only [Act.put]
      refine Rg.rd (i:=6) rfl fun K hK=>?_;refine Rg.meetStore (by rfl) h4 160 (ac H) ⟨_,_,rfl,rfl,rfl⟩ (by rw [ac_size,HHl.out]; exact info_8) (by rw [ac_size,HHl.out,za,ac_size]; simp) (ac_one _) ?_;rintro wv4 hn hu;replace h3:=h3.upd hu ne3_4;refine hK.out _ _ ?_ (fun hld=>?_)
      ·exact hu.below hld ge4
      replace h4:=hn;clear hK K hn hu;try simp only [Act.put]
      refine wpAnyH_done (by kernel_rfl) ?_ _;refine NoPanic.normal ?_;go_wp2_with fail
      go_meet
      exact ⟨b3,b4,rfl,rfl,ne3_4,ge3,ge4,hid h3.2,hid h4.2,hld⟩
    ·refine Rg.meetAlloc (by rfl) (run_alloc_8 _ _ rfl _) ?_;rintro wv0 b4 he4 h4 hbx;have ge4:wr.heap.size≤b4:=by rw [he4]; exact Below.size hld
     clear he4;refine hK.out _ _ ?_ (fun hld=>?_)
     ·exact Below.trans hld (hbx.mono hld.size)
     clear hK K hbx;try simp only [Act.put,Rg.s]
     refine wpAnyH_ready (rs:=[1,3]) (by kernel_rfl) (by simp) ?_;refine Rg.readyC (i:=1) rfl (fun K hK=>?_) (Rg.readyL (i:=3) rfl (fun K hK=>?_))
     ·go_simp;go_at_call 139
      (with_reducible refine (HSch.out _).mono ?_)
      rintro e wv1 ⟨rfl,hbx⟩;replace h4:=h4.below hbx;refine hK.out _ _ ?_ (fun hld=>?_)
      ·exact Below.trans hld (hbx.mono hld.size)
      clear hK K;try simp only [Act.put,Rg.s]
      refine Rg.rd (i:=3) rfl fun K hK=>?_;refine Rg.meetAlloc (by rfl) (run_alloc_64 _ _ rfl _) ?_;rintro wv2 b3 he3 h3 hbx;have ge3:wr.heap.size≤b3:=by rw [he3]; exact Below.size hld
      have ne3_4:b3≠b4:=by have:=h4.1; omega
      replace h4:=h4.below hbx;clear he3;refine hK.out _ _ ?_ (fun hld=>?_)
      ·exact Below.trans hld (hbx.mono hld.size)
      clear hK K hbx;try simp only [Act.put,Rg.s]
      refine Rg.rd (i:=5) rfl fun K hK=>?_;refine Rg.meetStore (by rfl) h3 191 (ac ws) ⟨_,_,rfl,rfl,rfl⟩ (by rw [ac_size,HWl.out]; exact info_64) (by rw [ac_size,HWl.out,za,ac_size]; simp) (ac_one _) ?_;rintro wv3 hn hu;replace h4:=h4.upd hu (Ne.symm ne3_4);refine hK.out _ _ ?_ (fun hld=>?_)
      ·exact hu.below hld ge3
      replace h3:=hn;clear hK K hn hu;try simp only [Act.put]
      refine Rg.rd (i:=6) rfl fun K hK=>?_;refine Rg.meetStore (by rfl) h4 160 (ac H) ⟨_,_,rfl,rfl,rfl⟩ (by rw [ac_size,HHl.out]; exact info_8) (by rw [ac_size,HHl.out,za,ac_size]; simp) (ac_one _) ?_;rintro wv4 hn hu;replace h3:=h3.upd hu ne3_4;refine hK.out _ _ ?_ (fun hld=>?_)
      ·exact hu.below hld ge4
      replace h4:=hn;clear hK K hn hu;try simp only [Act.put]
      refine wpAnyH_done (by kernel_rfl) ?_ _;refine NoPanic.normal ?_;go_wp2_with fail
      go_meet
      exact ⟨b3,b4,rfl,rfl,ne3_4,ge3,ge4,hid h3.2,hid h4.2,hld⟩
     ·refine Rg.meetAlloc (by rfl) (run_alloc_64 _ _ rfl _) ?_;rintro wv1 b3 he3 h3 hbx;have ge3:wr.heap.size≤b3:=by rw [he3]; exact Below.size hld
      have ne3_4:b3≠b4:=by have:=h4.1; omega
      replace h4:=h4.below hbx;clear he3;refine hK.out _ _ ?_ (fun hld=>?_)
      ·exact Below.trans hld (hbx.mono hld.size)
      clear hK K hbx;try simp only [Act.put,Rg.s]
      refine Rg.rd (i:=1) rfl fun K hK=>?_;go_simp;go_at_call 139
      (with_reducible refine (HSch.out _).mono ?_)
      rintro e wv2 ⟨rfl,hbx⟩;replace h4:=h4.below hbx;replace h3:=h3.below hbx;refine hK.out _ _ ?_ (fun hld=>?_)
      ·exact Below.trans hld (hbx.mono hld.size)
      clear hK K;try simp only [Act.put,Rg.s]
      refine Rg.rd (i:=5) rfl fun K hK=>?_;refine Rg.meetStore (by rfl) h3 191 (ac ws) ⟨_,_,rfl,rfl,rfl⟩ (by rw [ac_size,HWl.out]; exact info_64) (by rw [ac_size,HWl.out,za,ac_size]; simp) (ac_one _) ?_;rintro wv3 hn hu;replace h4:=h4.upd hu (Ne.symm ne3_4);refine hK.out _ _ ?_ (fun hld=>?_)
      ·exact hu.below hld ge3
      replace h3:=hn;clear hK K hn hu;try simp only [Act.put]
      refine Rg.rd (i:=6) rfl fun K hK=>?_;refine Rg.meetStore (by rfl) h4 160 (ac H) ⟨_,_,rfl,rfl,rfl⟩ (by rw [ac_size,HHl.out]; exact info_8) (by rw [ac_size,HHl.out,za,ac_size]; simp) (ac_one _) ?_;rintro wv4 hn hu;replace h3:=h3.upd hu ne3_4;refine hK.out _ _ ?_ (fun hld=>?_)
      ·exact hu.below hld ge4
      replace h4:=hn;clear hK K hn hu;try simp only [Act.put]
      refine wpAnyH_done (by kernel_rfl) ?_ _;refine NoPanic.normal ?_;go_wp2_with fail
      go_meet
      exact ⟨b3,b4,rfl,rfl,ne3_4,ge3,ge4,hid h3.2,hid h4.2,hld⟩
   case rest =>
    obtain ⟨b,c,rfl,rfl,hbc,hgb,hgc,HPB,HPC,hBy⟩:=hcut;obtain ⟨wo,rfl⟩:∃ wo:World,wo=wr:=⟨_,rfl⟩
    clear HSch;have hlb:b<wc.heap.size:=by have:=HPB.out; rcases Nat.lt_or_ge b wc.heap.size with h' | h'; exact h'; rw [Array.getElem?_eq_none h'] at this; cases this
    have hlc:c<wc.heap.size:=by have:=HPC.out; rcases Nat.lt_or_ge c wc.heap.size with h' | h'; exact h'; rw [Array.getElem?_eq_none h'] at this; cases this
    have HB:=hid hB;have HBy:=hid hBy;have HSz:=sec hsz;clear hB hBy hsz;go_wp2_with fail
    go_loopw [19] (fun i wx=>∃ j:Nat,j≤64∧i = .int .i64 j∧Hid (Rg.Own wx b (ac ws) 191)∧Hid (Rg.Own wx c (ac (runL ws H j)) 160)∧Hid (Below wo.heap.size wo wx)) (fun i _=>64-(intOf i).toNat)
    case atStart=>exact ⟨0,by omega,rfl,hid ⟨hlb,HPB.out⟩,hid ⟨hlc,HPC.out⟩,HBy⟩
    case round =>
     clear HPB HPC HBy hlb hlc;obtain ⟨j,hj,rfl,HPB,HPC,HBy⟩:=hrel;by_cases hlt2:j<64
     ·have hkj:=(HBy.out.cell (p:=⟨1,j,none⟩) (by show 1<wo.heap.size; omega)).trans ((HB.out.cell (p:=⟨1,j,none⟩) h0).trans (HK.out j hlt2));have hwj:wr.cell? ⟨b,j,none⟩=some (.int .u32 (ws.getD j 0:Nat)):=(cell_of_row wr b j _ _ _ HPB.out.2).trans (ac_get ws j (by rw [HWl.out]; exact hlt2));have HKJ:=hid hkj;have HWJ:=hid hwj;have h0r:1<wr.heap.size:=by have:=HBy.out.size; omega
      have hbr:=HPB.out.1;have HRl:=hid (runL_length ws H HHl.out j);have HRt:=hid (runL_lt ws H HHt.out j);have HRs:=sec (show roundL (kN j) (ws.getD j 0) (runL ws H j)=runL ws H (j+1) from rfl);obtain ⟨L,hL⟩:∃ L,runL ws H j=L:=⟨_,rfl⟩
      obtain ⟨kk,hkk⟩:∃ L,kN j=L:=⟨_,rfl⟩
      obtain ⟨wk,hwk⟩:∃ L,ws.getD j 0=L:=⟨_,rfl⟩
      rw [hL] at HPC HRl HRt HRs;rw [hkk] at HKJ HRs;rw [hwk] at HWJ HRs;clear hL hkk hwk hkj hwj;have HTu:=hid (turner_own kk wk);have l0:(0:Int)≤(j:Int):=by omega
      have l1:(j:Int)<64:=by omega
      go_wp2_with fail
      refine wp_region_noPanic ?_;refine wp_region_held_drew (S:=fun w'=>Below wr.heap.size wr w') (by kernel_rfl) ((Below.refl _ _).drew) (fun hld=>?_);refine Rg.tk (i:=0) rfl ?_;try simp only [Act.put,Rg.s]
      refine Rg.tk (i:=1) rfl ?_;try simp only [Act.put,Rg.s]
      refine Rg.tk (i:=2) rfl ?_ (hy:=by intro wz hSw; (have hc:=(hSw.cell (p:=⟨1,j,none⟩) h0r).trans HKJ.out); go_simp <;> with_reducible rfl);try simp only [Act.put,Rg.s]
      refine Rg.tk (i:=3) rfl ?_;try simp only [Act.put,Rg.s]
      refine Rg.tk (i:=4) rfl ?_;try simp only [Act.put,Rg.s]
      refine Rg.tk (i:=5) rfl ?_ (hy:=by intro wz hSw; (have hc:=(hSw.cell (p:=⟨b,j,none⟩) hbr).trans HWJ.out); go_simp <;> with_reducible rfl);try simp only [Act.put,Rg.s]
      refine Rg.rd (i:=6) rfl fun K hK=>?_;go_simp;go_at_call 140
      (with_reducible refine (HTu.out _).mono ?_)
      rintro e wv0 ⟨q1,q2,rfl,ho1,ho2,hq12,hg1,hg2,hbx⟩;refine hK.out _ _ ?_ (fun hld=>?_)
      ·exact Below.trans hld (hbx.mono hld.size)
      clear hK K;try simp only [Act.put,Rg.s]
      refine Rg.tk (i:=7) rfl ?_;try simp only [Act.put,Rg.s]
      refine wpAnyH_done (by kernel_rfl) ?_ _;refine NoPanic.normal ?_;clear l0 l1 HTu HKJ HWJ;go_wp2_with fail
      refine (round_l c q1 q2 kk wk L HRl.out HRt.out _ (by rw [hbx.block _ HPC.out.1]; exact HPC.out.2) ho1 ho2).mono ?_;rintro e w4 ⟨rfl,hc4,hg4⟩;have HC4:=hid hc4;clear hc4;go_wp2_with fail
      go_roundw
      case rel =>
       have hbl:=HPB.out.below hld;refine ⟨j+1,by omega,by go_num,hid ⟨Nat.lt_of_lt_of_le hbl.1 hg4.size,(hg4.block _ hbl.1 (by simpa using hbc)).trans hbl.2⟩,hid ⟨Nat.lt_of_lt_of_le (HPC.out.below hld).1 hg4.size,by rw [← HRs.out]; exact HC4.out⟩,hid ((HBy.out.trans (hld.mono HBy.out.size)).grown hg4 (HBy.out.trans (hld.mono HBy.out.size)).size (fun g hg=>by cases hg; exact hgc))⟩
      case measure=>simp [intOf]; omega
     ·have hj64:j=64:=by omega
      rw [hj64] at HPC;clear hj64;have HVl:=hid (runL_length ws H HHl.out 64);have HVt:=hid (runL_lt ws H HHt.out 64);obtain ⟨V,hV⟩:∃ L,runL ws H 64=L:=⟨_,rfl⟩
      rw [hV] at HPC HVl HVt HBl;clear hV;have HWd:Hid (Rg.Own wr w.heap.size (ac (addM H V 0)) 160):=hid ⟨by have:=HBy.out.size; omega,by rw [HBy.out.block _ hBx.1,addM_zero _ _ HHl.out]; exact HH.out⟩;have HO5:Hid (Rg.Own wr (w.heap.size+1) (za 8) 160):=hid ((HO4.below (HBy.out.mono (Nat.le_refl _))));have HIx:=hid (fun j hj wz=>run_index_ac V j hj HVl.out wz);obtain ⟨AV,hAV⟩:∃ A,ac V=A:=⟨_,rfl⟩
      have hAs:AV.size=8:=by rw [← hAV,ac_size,HVl.out]
      rw [hAV] at HPC HIx;have HAs:=hid hAs;clear hAV hAs HPB;go_wp2_with (first | (refine wpList_load_row rfl _ _ rfl c rfl 160 AV (0,0) _ HPC.out.2 Tryz.underlying160 rfl (by rw [HAs.out]; exact info_8) ?_))
      obtain ⟨wp,rfl⟩:∃ wp:World,wp=wr:=⟨_,rfl⟩
      clear hlt2;go_loopw [33] (fun i wx=>∃ q:Nat,q≤8∧i = .int .i64 q∧Hid (Rg.Own wx w.heap.size (ac (addM H V q)) 160)∧Hid (Rg.Upd wp w.heap.size wx)) (fun i _=>8-(intOf i).toNat)
      case atStart=>exact ⟨0,by omega,rfl,HWd,hid ⟨rfl,rfl,rfl,rfl,fun _ _=>rfl⟩⟩
      case round =>
       clear HWd;obtain ⟨q,hq,rfl,HWd,HUp⟩:=hrel;by_cases hlt3:q<8
       ·have hix:=HIx.out q hlt3;have hcl:=(cell_of_row wr w.heap.size q _ _ _ HWd.out.2).trans (ac_get (addM H V q) q (by rw [addM_length]; exact hlt3));have hfz:=frozen_of_row wr w.heap.size q _ _ HWd.out.2;rw [addM_getD H V q hlt3] at hcl;have HN:=sec (addM_set H V q hlt3);have bx:=getD_lt HHt.out q;have bv:=getD_lt HVt.out q;obtain ⟨x,hx⟩:∃ x,H.getD q 0=x:=⟨_,rfl⟩
        obtain ⟨y,hy⟩:∃ x,V.getD q 0=x:=⟨_,rfl⟩
        rw [hx] at hcl bx HN;rw [hy] at hix bv HN;clear hx hy;have hv:((x:Int)+y)%4294967296=((x+y)%4294967296:Nat):=by omega
        have HVs:=sec hv;clear hv;go_wp2;go_roundw
        case rel =>
         refine ⟨q+1,by omega,by go_num,?_,?_⟩
         ·rw [HVs.out];exact hid ⟨by simpa using HWd.out.1,by rw [heap_setCell_same _ _ _ _ _ _ HWd.out.2,ac_set,HN.out]⟩
         ·exact hid ⟨HUp.out.os,HUp.out.tape,HUp.out.output,by simpa using HUp.out.size,fun k hk=>(heap_setCell_other _ _ _ _ hk).trans (HUp.out.block k hk)⟩
        case measure=>simp [intOf]; omega
       ·obtain rfl:q=8:=by omega
        have HF:Hid (Rg.Own wr w.heap.size (ac (mixK s.data.toList h (k+1))) 160):=hid (by rw [← HBl.out,← addM_all]; exact HWd.out);have HO6:Hid (Rg.Own wr (w.heap.size+1) (za 8) 160):=hid (HO5.out.upd HUp.out (by omega));have HB6:Hid (Below w.heap.size w wr):=hid (HUp.out.below (HB.out.trans (HBy.out.mono HB.out.size)) (Nat.le_refl _));have HE:Hid (z.extract 64 (s.size-64*k)=s.extract (64*(k+1)) s.size):=hid (by rw [← HSz.out,← HZ.out]; exact ext_more s k);have hz3:z.size=s.size-64*k:=HSz.out
        have HES:Hid ((s.extract (64*(k+1)) s.size).size=s.size-64*(k+1)):=hid (by simp);have hzs:64≤(z.size:Int):=by omega
        clear HWd HUp HO5 HIx hlt3 hq;go_wp2;go_roundw
        case rel=>exact ⟨k+1,by omega,by rw [← HE.out],hid HF.out.2,HO6.out,HB6.out⟩
        case measure =>
         show (z.extract 64 (s.size-64*k)).size<z.size;rw [HE.out,HES.out];omega
  ·obtain rfl:k=s.size/64:=by omega
   have HHl:=hid (HL.out (s.size/64));obtain ⟨H,hH⟩:∃ H,mixK s.data.toList h (s.size/64)=H:=⟨_,rfl⟩
   have HHs:=sec hH;rw [hH] at HH HHl;have HO4:=hid HO4;clear hH HS0 HSt;have hsz2:((s.extract (64*(s.size/64)) s.size).size:Int)<64:=by omega
   obtain ⟨z,hz⟩:∃ z,s.extract (64*(s.size/64)) s.size=z:=⟨_,rfl⟩
   rw [hz] at hsz2 ⊢;clear hz hsz hlt hk;go_wp2_with (first | (refine wpList_load_row rfl _ _ rfl w.heap.size rfl 160 (ac H) (0,0) _ HH.out Tryz.underlying160 rfl (by rw [ac_size,HHl.out]; exact info_8) ?_) | (refine wpList_store_rowTo rfl 160 _ _ rfl rfl _ (ac H) rfl rfl 160 (za 8) HO4.out.2 (by rw [ac_size,HHl.out]; exact info_8) (by rw [ac_size,HHl.out,za,ac_size]; simp) (ac_one _) ?_))
   exact bodyPost_ret (results_cell_row rfl _ _ (w.heap.size+1) 160 (ac H) (0,0) _ rfl (setRow_heap _ _ _ _ _ _ HO4.out.2) Tryz.underlying160 rfl (by rw [ac_size,HHl.out]; exact info_8)) rfl ⟨by rw [HHs.out],below_row hB (by omega) _⟩
end Sm
end
section
open Go.RowKit
namespace Sm
open Sh
def kc (k:List UInt8):Array Value:=(k.map fun b=>Value.int .u8 b.toNat).toArray
theorem kc_size (k:List UInt8):(kc k).size=k.length:=by simp [kc]
theorem kc_one (k:List UInt8):(kc k).all (·.oneCell')=true:=by
 rw [Array.all_eq_true];intro i hi;simp [kc];rfl
theorem info_sum:(Tryz.prog.info? 141).map (·.size)=some 32:=by kernel_rfl
theorem info_kc (k:List UInt8) (h:k.length=32):(Tryz.prog.info? 141).map (·.size)=some (kc k).size:=by rw [kc_size,h]; exact info_sum
def zk:List UInt8:=List.replicate 32 0
theorem run_alloc_sum (ev:Operand→Value) (o:Oper) (ho:o.op = .alloc 141) (w:World) (n:Nat) (hn:w.heap.size=n) :
  (execOp ev o).run Tryz.prog w = .ok (.value (.pointer (some ⟨n,0,none⟩))) (w.alloc (.cells (kc zk) 141)):=by
 subst hn;unfold execOp;rw [ho];kernel_rfl
theorem kc_row {w:World} {g:Nat} {t:TypeId} (l:List UInt8) {f:Nat→Value} (h:w.rowIs g t 32 f) (hl:l.length=32) (hf:∀ j,j<32→f j = .int .u8 (l.getD j 0).toNat):w.heap[g]? = some (.cells (kc l) t (0,0)):=by
 obtain ⟨c,hg,hs,hc⟩:=h;have:c=kc l:=by
  apply Array.ext
  ·rw [hs,kc_size,hl]
  ·intro i hi h2;have h1:=hc i (by omega);rw [hf i (by omega),Array.getElem?_eq_getElem hi] at h1;have h3:=Option.some.inj h1;rw [h3];have h4:i<l.length:=by omega
   simp [kc,List.getD,h4]
 rw [hg,this]
theorem zk_row {w:World} {g:Nat} {t:TypeId} (h:w.heap[g]? = some (.cells (kc zk) t (0,0))):w.rowIs g t 32 (fun _=>.int .u8 0) :=
 ⟨_,h,rfl,fun i hi=>by
  show ((zk.map fun b=>Value.int .u8 b.toNat).toArray)[i]? = _;have hz:zk[i]? = some 0:=by
   unfold zk;rw [List.getElem?_replicate,if_pos hi]
  rw [List.getElem?_toArray,List.getElem?_map,hz];rfl⟩
theorem start_lt:∀ x∈Sh.start,x<4294967296:=by decide
theorem hash_two (s:ByteArray) (m:Nat) (hm:m=s.size-s.size%64) :
  mixK ((s.extract m s.size).data.toList++endL s.size) (mixK (s.extract 0 m).data.toList Sh.start ((s.extract 0 m).size/64)) (((s.extract m s.size).data.toList++endL s.size).length/64)=hashK (fillL s.data.toList) ((fillL s.data.toList).length/64):=by
 have e1:(s.extract 0 m).data.toList=s.data.toList.take m:=by simp
 have e2:(s.extract m s.size).data.toList=s.data.toList.drop m:=by
  simp only [ByteArray.data_extract,Array.toList_extract,List.extract_eq_take_drop];rw [List.take_of_length_le (by simp)]
 have hl:s.data.toList.length=s.size:=by simp
 have e3:(s.extract 0 m).size=m:=by simp; omega
 have e4:fillL s.data.toList=s.data.toList.take m++(s.data.toList.drop m++endL s.size):=by
  rw [fillL_end,hl,← List.append_assoc,List.take_append_drop]
 have hmd:=fillL_mod s.data.toList;rw [e1,e2,e3,← mixK_start,e4];rw [e4] at hmd;have hlen:(s.data.toList.take m++(s.data.toList.drop m++endL s.size)).length=m+(s.data.toList.drop m++endL s.size).length:=by
  rw [List.length_append,List.length_take,hl];congr 1;omega
 rw [hlen] at hmd ⊢;rw [show (m+(s.data.toList.drop m++endL s.size).length)/64=m/64+(s.data.toList.drop m++endL s.size).length/64 by omega];exact (mixK_more _ _ (m/64) (by rw [List.length_take,hl]; omega) _ _).symm
theorem of_any (s:ByteArray) (hs:s.size≤900000) (w:World) (hK:∀ i,i<64→w.cell? ⟨1,i,none⟩=some (.int .u32 (kN i:Nat))) :
  Calls Tryz.prog 90 #[.string s] w fun e w'=>e = .returned (.agg (kc (sumL s.data.toList)))∧Below w.heap.size w w':=by
 have h0:1<w.heap.size:=World.block_lt_of_cell? w _ (hK 0 (by omega));have HK:=hid hK;have HEnd:=hid (end_any s.size (by omega));obtain ⟨m,hm⟩:∃ m,s.size-s.size%64=m:=⟨_,rfl⟩
 have hmi:(s.size:Int)-s.size%64=m:=by omega
 have hml:m≤s.size:=by omega
 have hF:=hash_two s m hm.symm;have HM1:=hid (mixK_length (s.extract 0 m).data.toList Sh.start rfl ((s.extract 0 m).size/64));have hT1:=mixK_lt (s.extract 0 m).data.toList Sh.start start_lt ((s.extract 0 m).size/64);have HX1:=hid (fun W hk=>mix_any Sh.start rfl start_lt (s.extract 0 m) (by simp; omega) W hk);obtain ⟨M1,hM1⟩:∃ M,mixK (s.extract 0 m).data.toList Sh.start ((s.extract 0 m).size/64)=M:=⟨_,rfl⟩
 rw [hM1] at HM1 hT1 hF HX1;obtain ⟨s2,hs2⟩:∃ s2,s.extract m s.size++⟨(endL s.size).toArray⟩=s2:=⟨_,rfl⟩
 have hd2:s2.data.toList=(s.extract m s.size).data.toList++endL s.size:=by rw [← hs2,ByteArray.data_append]; simp
 have hz2:s2.size=((s.extract m s.size).data.toList++endL s.size).length:=by rw [← hd2]; simp
 have hz:zerosN s.size<64:=Nat.mod_lt _ (by omega);have HX2:=hid (fun W hk=>mix_any M1 HM1.out hT1 s2 (by rw [hz2,List.length_append,endL_length]; simp; omega) W hk);rw [← hd2,show s2.data.toList.length=s2.size by simp] at hF;rw [hF] at HX2;have HM2:=hid (hashK_length (fillL s.data.toList) ((fillL s.data.toList).length/64));have HT2:=hid (hashK_lt (fillL s.data.toList) ((fillL s.data.toList).length/64));have HS:=sec (show outK (hashK (fillL s.data.toList) ((fillL s.data.toList).length/64)) 32=sumL s.data.toList from rfl)
 obtain ⟨M2,hM2⟩:∃ M,hashK (fillL s.data.toList) ((fillL s.data.toList).length/64)=M:=⟨_,rfl⟩
 rw [hM2] at HX2 HM2 HT2 HS;have HS2:=hid hs2;clear hT1 hF hd2 hz2 hz hM2 hs2;clear hK hm hM1;go_enter Tryz.func90,Tryz.ntmps90
 go_upto_region 3 with (first | (refine wpList_run rfl _ _ (run_alloc_sum _ _ rfl _ w.heap.size rfl) ?_) | (refine wpList_run rfl _ _ (run_alloc_8n _ _ rfl _ (w.heap.size+1) (by simp)) ?_) | (refine wpList_store_rowTo rfl 160 _ _ rfl rfl (w.heap.size+1) (ac Sh.start) rfl rfl 160 (za 8) (by have:=heap_alloc_new (w.alloc (.cells (kc zk) 141)) (.cells (za 8) 160); simpa using this) info_8 rfl (ac_one _) ?_))
 have h2:Rg.Own (((w.alloc (.cells (kc zk) 141)).alloc (.cells (za 8) 160)).setRow (w.heap.size+1) (ac Sh.start)) w.heap.size (kc zk) 141 :=
  ((Rg.Own.new w _ _).below ((Below.refl _ _).alloc (Nat.le_refl _) _)).upd (Rg.Upd.set _ _ _) (by omega)
 have h3:Rg.Own (((w.alloc (.cells (kc zk) 141)).alloc (.cells (za 8) 160)).setRow (w.heap.size+1) (ac Sh.start)) (w.heap.size+1) (ac Sh.start) 160 :=
  ⟨by simp,setRow_heap _ _ _ _ _ _ (by have:=heap_alloc_new (w.alloc (.cells (kc zk) 141)) (.cells (za 8) 160); simpa using this)⟩
 have hB0:Below w.heap.size w (((w.alloc (.cells (kc zk) 141)).alloc (.cells (za 8) 160)).setRow (w.heap.size+1) (ac Sh.start)) :=
  below_row (((Below.refl _ _).alloc (Nat.le_refl _) _).alloc (by simp) _) (by omega) _
 generalize (((w.alloc (.cells (kc zk) 141)).alloc (.cells (za 8) 160)).setRow (w.heap.size+1) (ac Sh.start))=W0 at h2 h3 hB0 ⊢;have ge2:w.heap.size≤w.heap.size:=Nat.le_refl _;have ge3:w.heap.size≤w.heap.size+1:=by omega
 have ne2_3:w.heap.size≠w.heap.size+1:=by omega
 refine wp_region_noPanic ?_;refine wp_region_held_drew (S:=fun w'=>Below w.heap.size w w') (by kernel_rfl) (hB0.drew) (fun hld=>?_);replace h2:=h2.drew;replace h3:=h3.drew;refine Rg.tk (i:=1) rfl ?_;try simp only [Act.put,Rg.s]
 refine Rg.tk (i:=2) rfl ?_;try simp only [Act.put,Rg.s]
 refine Rg.tk (i:=3) rfl ?_;try simp only [Act.put,Rg.s]
 refine Rg.rd (i:=0) rfl fun K hK=>?_;refine Rg.meet (by rfl) _ _ (run_load_row8 _ _ (w.heap.size+1) _ Sh.start ?_ h3.2 rfl) ?_
 ·exact ⟨_,rfl,rfl⟩
 refine hK.out _ _ ?_ (fun hld=>?_)
 ·exact hld
 clear hK K;try simp only [Act.put,Rg.s]
 refine Rg.rd (i:=4) rfl fun K hK=>?_;go_simp;go_at_call 113
 (with_reducible refine (HX1.out _ (fun i hi=>(hld.cell (p:=⟨1,i,none⟩) h0).trans (HK.out i hi))).mono ?_)
 rintro e wv0 ⟨rfl,hbx⟩;replace h2:=h2.below hbx;replace h3:=h3.below hbx;refine hK.out _ _ ?_ (fun hld=>?_)
 ·exact Below.trans hld (hbx.mono hld.size)
 clear hK K;try simp only [Act.put,Rg.s]
 refine Rg.rd (i:=5) rfl fun K hK=>?_;refine Rg.meetStore (by rfl) h3 160 (ac M1) ⟨_,_,rfl,rfl,rfl⟩ (by rw [ac_size,HM1.out]; exact info_8) (by rw [ac_size,ac_size,HM1.out]; exact rfl) (ac_one _) ?_;rintro wv1 hn hu;replace h2:=h2.upd hu ne2_3;refine hK.out _ _ ?_ (fun hld=>?_)
 ·exact hu.below hld ge3
 replace h3:=hn;clear hK K hn hu;try simp only [Act.put]
 refine wpAnyH_done (by kernel_rfl) ?_ _;refine NoPanic.normal ?_;go_wp2_with fail
 have hB1:=hld;clear hld;go_cut [3] (fun p wx=>p = .pointer (some ⟨w.heap.size+1,0,none⟩)∧Hid (Rg.Own wx w.heap.size (kc zk) 141)∧Hid (Rg.Own wx (w.heap.size+1) (ac M2) 160)∧Hid (Below w.heap.size w wx))
 case first =>
  have hs2:=HS2.out;have HCC:Hid (¬ 9223372036854775807<s.size-m+(endL s.size).length):=hid (by have hz:zerosN s.size<64:=Nat.mod_lt _ (by omega); rw [endL_length]; omega);refine wp_region_noPanic ?_;refine wp_region_held_drew (S:=fun w'=>Below w.heap.size w w') (by kernel_rfl) (hB1.drew) (fun hld=>?_);replace h2:=h2.drew;replace h3:=h3.drew;refine Rg.tk (i:=1) rfl ?_;try simp only [Act.put,Rg.s]
  refine Rg.tk (i:=2) rfl ?_;try simp only [Act.put,Rg.s]
  refine Rg.tk (i:=3) rfl ?_;try simp only [Act.put,Rg.s]
  refine Rg.tk (i:=4) rfl ?_;try simp only [Act.put,Rg.s]
  refine Rg.tk (i:=5) rfl ?_;try simp only [Act.put,Rg.s]
  refine wpAnyH_ready (rs:=[0,6]) (by kernel_rfl) (by simp) ?_;refine Rg.readyC (i:=0) rfl (fun K hK=>?_) (Rg.readyL (i:=6) rfl (fun K hK=>?_))
  ·refine Rg.meet (by rfl) _ _ (run_load_row8 _ _ (w.heap.size+1) _ M1 ?_ h3.2 HM1.out) ?_
   ·exact ⟨_,rfl,rfl⟩
   refine hK.out _ _ ?_ (fun hld=>?_)
   ·exact hld
   clear hK K;try simp only [Act.put,Rg.s]
   refine Rg.rd (i:=6) rfl fun K hK=>?_;go_simp;go_at_call 114
   (with_reducible refine (HEnd.out _).mono ?_)
   rintro e wv0 ⟨rfl,hbx⟩;replace h2:=h2.below hbx;replace h3:=h3.below hbx;refine hK.out _ _ ?_ (fun hld=>?_)
   ·exact Below.trans hld (hbx.mono hld.size)
   clear hK K;try simp only [Act.put,Rg.s]
   refine Rg.tk (i:=7) rfl ?_ (hy:=by intro wz hSw; (have hcc:=HCC.out); go_simp <;> with_reducible rfl);try simp only [Act.put,Rg.s]
   refine Rg.rd (i:=8) rfl fun K hK=>?_;go_simp;go_at_call 113
   (with_reducible refine (HX2.out _ (fun i hi=>(hld.cell (p:=⟨1,i,none⟩) h0).trans (HK.out i hi))).mono ?_)
   rintro e wv1 ⟨rfl,hbx⟩;replace h2:=h2.below hbx;replace h3:=h3.below hbx;refine hK.out _ _ ?_ (fun hld=>?_)
   ·exact Below.trans hld (hbx.mono hld.size)
   clear hK K;try simp only [Act.put,Rg.s]
   refine Rg.rd (i:=9) rfl fun K hK=>?_;refine Rg.meetStore (by rfl) h3 160 (ac M2) ⟨_,_,rfl,rfl,rfl⟩ (by rw [ac_size,HM2.out]; exact info_8) (by rw [ac_size,ac_size,HM2.out]; exact HM1.out) (ac_one _) ?_;rintro wv2 hn hu;replace h2:=h2.upd hu ne2_3;refine hK.out _ _ ?_ (fun hld=>?_)
   ·exact hu.below hld ge3
   replace h3:=hn;clear hK K hn hu;try simp only [Act.put]
   refine wpAnyH_done (by kernel_rfl) ?_ _;refine NoPanic.normal ?_;go_wp2_with fail
   go_meet
   exact ⟨rfl,hid h2,hid h3,hid hld⟩
  ·go_simp;go_at_call 114
   (with_reducible refine (HEnd.out _).mono ?_)
   rintro e wv0 ⟨rfl,hbx⟩;replace h2:=h2.below hbx;replace h3:=h3.below hbx;refine hK.out _ _ ?_ (fun hld=>?_)
   ·exact Below.trans hld (hbx.mono hld.size)
   clear hK K;try simp only [Act.put,Rg.s]
   refine Rg.tk (i:=7) rfl ?_ (hy:=by intro wz hSw; (have hcc:=HCC.out); go_simp <;> with_reducible rfl);try simp only [Act.put,Rg.s]
   refine Rg.rd (i:=0) rfl fun K hK=>?_;refine Rg.meet (by rfl) _ _ (run_load_row8 _ _ (w.heap.size+1) _ M1 ?_ h3.2 HM1.out) ?_
   ·exact ⟨_,rfl,rfl⟩
   refine hK.out _ _ ?_ (fun hld=>?_)
   ·exact hld
   clear hK K;try simp only [Act.put,Rg.s]
   refine Rg.rd (i:=8) rfl fun K hK=>?_;go_simp;go_at_call 113
   (with_reducible refine (HX2.out _ (fun i hi=>(hld.cell (p:=⟨1,i,none⟩) h0).trans (HK.out i hi))).mono ?_)
   rintro e wv1 ⟨rfl,hbx⟩;replace h2:=h2.below hbx;replace h3:=h3.below hbx;refine hK.out _ _ ?_ (fun hld=>?_)
   ·exact Below.trans hld (hbx.mono hld.size)
   clear hK K;try simp only [Act.put,Rg.s]
   refine Rg.rd (i:=9) rfl fun K hK=>?_;refine Rg.meetStore (by rfl) h3 160 (ac M2) ⟨_,_,rfl,rfl,rfl⟩ (by rw [ac_size,HM2.out]; exact info_8) (by rw [ac_size,ac_size,HM2.out]; exact HM1.out) (ac_one _) ?_;rintro wv2 hn hu;replace h2:=h2.upd hu ne2_3;refine hK.out _ _ ?_ (fun hld=>?_)
   ·exact hu.below hld ge3
   replace h3:=hn;clear hK K hn hu;try simp only [Act.put]
   refine wpAnyH_done (by kernel_rfl) ?_ _;refine NoPanic.normal ?_;go_wp2_with fail
   go_meet
   exact ⟨rfl,hid h2,hid h3,hid hld⟩
 case rest =>
  obtain ⟨rfl,H2,H3,HB⟩:=hcut;obtain ⟨W,rfl⟩:∃ W:World,W=wc:=⟨_,rfl⟩
  have h3:=H3.out;have H3':Hid ((W.alloc (.cells (kc zk) 141)).heap[w.heap.size+1]? = some (.cells (ac M2) 160 (0,0))):=hid ((Lib.alloc_old _ _ _ h3.1).trans h3.2);have HR0:Hid ((W.alloc (.cells (kc zk) 141)).rowIs W.heap.size 141 32 (fun j=>.int .u8 (if j<4*0 then wByte M2 j else 0:Nat))):=hid ((zk_row (heap_alloc_new _ _)).congr (fun j _=>by rw [if_neg (by omega)]; rfl));have HIx:=hid (fun j hj wz=>run_index_ac M2 j hj HM2.out wz);have HLx:=hid (fun j=>getD_lt HT2.out j);obtain ⟨A,hA⟩:∃ A,ac M2=A:=⟨_,rfl⟩
  have HAs:Hid (A.size=8):=hid (by rw [← hA,ac_size,HM2.out]);rw [hA] at H3' HIx;clear h3 hA HEnd HX1 HX2 hmi h2 hB1 hld hbx;go_wp2_with (first | (refine wpList_run rfl _ _ (run_alloc_sum _ _ rfl _ _ rfl) ?_) | (refine wpList_load_row rfl _ _ rfl (w.heap.size+1) rfl 160 A (0,0) _ H3'.out Tryz.underlying160 rfl (by rw [HAs.out]; exact info_8) ?_))
  go_loopw [30] (fun i wx=>∃ q:Nat,q≤8∧i = .int .i64 q∧Hid (wx.rowIs W.heap.size 141 32 (fun j=>.int .u8 (if j<4*q then wByte M2 j else 0:Nat)))∧Hid (Below W.heap.size W wx)) (fun i _=>8-(intOf i).toNat)
  case atStart=>exact ⟨0,by omega,rfl,HR0,hid ((Below.refl _ _).alloc (Nat.le_refl _) _)⟩
  case round =>
   clear HR0;obtain ⟨q,hq,rfl,HR,HBx⟩:=hrel;by_cases hlt:q<8
   ·have hix:=HIx.out q hlt;have hxl:=HLx.out q;have HLay:=lay_any W.heap.size (4*q) 4 (32-4*q) (M2.getD q 0) 32 141 _ wr HR.out (by omega) (by omega);have HRn:Hid ((laidN wr W.heap.size (4*q) 4 (M2.getD q 0) 4).rowIs W.heap.size 141 32 (fun j=>.int .u8 (if j<4*(q+1) then wByte M2 j else 0:Nat))):=hid ((laidN_row HR.out 4).congr (fun j _=>by
     by_cases h1:4*q≤j∧j<4*q+4
     ·rw [if_pos h1,if_pos (by omega)];unfold upB wByte;rw [show j/4=q by omega,show 4-1-(j-4*q)=3-j%4 by omega]
     ·rw [if_neg h1];by_cases h2:j<4*q
      ·rw [if_pos h2,if_pos (by omega)]
      ·rw [if_neg h2,if_neg (by omega)]))
    have HBn:Hid (Below W.heap.size W (laidN wr W.heap.size (4*q) 4 (M2.getD q 0) 4)):=hid (laidN_below HBx.out (Nat.le_refl _) 4);obtain ⟨x,hx⟩:∃ x,M2.getD q 0=x:=⟨_,rfl⟩
    rw [hx] at hix hxl HLay HRn HBn;have HLay:=hid HLay;clear hx;have l0:(0:Int)≤4*(q:Int):=by omega
    have l1:4*(q:Int)≤4*(q:Int)+4:=by omega
    have l2:4*(q:Int)+4≤32:=by omega
    have l3:(4*(q:Int)).toNat=4*q:=by omega
    have l4:(4*(q:Int)+4).toNat=4*q+4:=by omega
    have l5:¬ 32=4*q:=by omega
    go_wp2_with fail
    refine HLay.out.mono ?_;rintro e w3 ⟨rfl,rfl⟩;clear l0 l1 l2 l3 l4 l5 HLay hix;go_wp2;go_roundw
    case rel=>exact ⟨q+1,by omega,by go_num,HRn,HBn⟩
    case measure=>simp [intOf]; omega
   ·obtain rfl:q=8:=by omega
    have HF:Hid (wr.heap[W.heap.size]? = some (.cells (kc (sumL s.data.toList)) 141 (0,0))):=hid (kc_row _ HR.out (sumL_length _) (fun j hj=>by
     rw [if_pos (by omega),← HS.out];simp [outK,List.getD,hj];unfold wByte;omega))
    have H22:Hid (Rg.Own wr w.heap.size (kc zk) 141):=hid (H2.out.below HBx.out);have HB2:Hid (Below w.heap.size w wr):=hid (HB.out.trans (HBx.out.mono HB.out.size));have hkl:=sumL_length s.data.toList;obtain ⟨K,hK⟩:∃ K,sumL s.data.toList=K:=⟨_,rfl⟩
    have HKK:=sec hK;rw [hK] at hkl HF;have HKL:=hid hkl;clear hK hkl HR HIx HLx;go_wp2_with (first | (refine wpList_load_row rfl _ _ rfl W.heap.size rfl 141 (kc K) (0,0) _ HF.out Tryz.underlying141 rfl (info_kc K HKL.out) ?_) | (refine wpList_store_rowTo rfl 141 _ _ rfl rfl _ (kc K) rfl rfl 141 (kc zk) H22.out.2 (info_kc K HKL.out) (by rw [kc_size,kc_size,HKL.out]; rfl) (kc_one _) ?_))
    exact bodyPost_ret (results_cell_row rfl _ _ w.heap.size 141 (kc K) (0,0) _ rfl (setRow_heap _ _ _ _ _ _ H22.out.2) Tryz.underlying141 rfl (info_kc K HKL.out)) rfl ⟨by rw [HKK.out],below_row HB2.out (by omega) _⟩
end Sm
end
section
namespace WideP
end WideP
end
section
open Go.RowKit WideP
end
section
open Go.RowKit WideP
end
section
open Go.RowKit WideP
namespace Tx
end Tx
namespace Rx
end Rx
end
section
open Go.RowKit
namespace Ni
theorem read_bs {w:World} {a:Option Addr} {n cap:Nat} {l:List UInt8} (h:IsBs w a n cap l) :
  (Extern.Bytes.bytesOf (.slice a n cap)).run Tryz.prog w = .ok ⟨l.toArray⟩ w:=by
 have hl:=h.len;rcases a with _ | ad
 ·obtain ⟨rfl,rfl,rfl⟩:=h.capNone;rfl
 ·have:=Lib.run_loadBytesX (P:=Tryz.prog) w (l.map fun b=>(b.toNat:Int)) ad .empty (fun j x hj=>by
   have hj':j<n:=by
    rcases Nat.lt_or_ge j n with h' | h'
    ·exact h'
    ·rw [List.getElem?_eq_none (by simp [hl]; exact h')] at hj; cases hj
   obtain ⟨b,off,e,_,hc⟩:=h.at' j hj';injection e with e;subst e;have e2:(⟨b,off,none⟩:Addr).add j=⟨b,off+j,none⟩:=by unfold Addr.add; split <;> simp_all
   rw [e2,hc];have e3:(l.map fun b=>(b.toNat:Int))[j]? = some ((l.getD j 0).toNat:Int):=by simp [List.getD,hl,hj']
   rw [e3] at hj;injection hj with hj;rw [hj])
  rw [List.length_map,hl] at this;show (Extern.Bytes.loadBytes ad n .empty).run Tryz.prog w=_;rw [this];have e:Lib.bytesOf (l.map fun b=>(b.toNat:Int))=l:=by
   unfold Lib.bytesOf;rw [List.map_map]
   conv=>rhs; rw [← List.map_id l]
   apply List.map_congr_left;intro b _;simp
  rw [e];have e4:(ByteArray.empty.data++l.toArray)=l.toArray:=by simp
  rw [e4]
theorem cmp_less:∀ x y:List UInt8,decide (Lib.compareBytes x y<0)=Op.bytesLess x y
 | [],[]=>rfl
 | [],_::_=>rfl
 | _::_,[]=>rfl
 | a::x,b::y=>by
  have ih:=cmp_less x y;unfold Lib.compareBytes Op.bytesLess;by_cases h1:a<b
  ·simp [h1]
  ·by_cases h2:b<a
   ·have:¬ a=b:=by rintro rfl; exact UInt8.lt_irrefl _ h2
    simp [h1,h2,this]
   ·have:a=b:=by
     apply UInt8.toNat_inj.1;have:=UInt8.not_lt.1 h1; have:=UInt8.not_lt.1 h2;rw [UInt8.le_iff_toNat_le] at *
     omega
    subst this;simp [ih]
theorem compare_any (a b:Option Addr) (n m c d:Nat) (x y:List UInt8) (w:World) (ha:IsBs w a n c x) (hb:IsBs w b m d y) :
  Calls Tryz.prog 41 #[.slice a n c,.slice b m d] w fun e w'=>e = .returned (.int .i64 (Lib.compareBytes x y))∧w=w':=by
 have hr:(Extern.BytealgCompare.compare #[.slice a n c,.slice b m d]).run Tryz.prog w = .ok (.int .i64 (Lib.compareBytes x y)) w:=by
  change Sem.run Tryz.prog (do pure (goInt (Extern.BytealgCompare.cmp (← Extern.Bytes.bytesOf (.slice a n c)) (← Extern.Bytes.bytesOf (.slice b m d))))) w=_;simp only [Sem.run_bind,Sem.run_pure,read_bs ha,read_bs hb,Result.andThen];rw [Lib.cmp_eq];rfl
 have hx:(callFunc 77 #[.slice a n c,.slice b m d]).run Tryz.prog w = .ok (.value (.int .i64 (Lib.compareBytes x y))) w:=by
  rw [run_callFunc_extern Tryz.func77 (by kernel_rfl) (by kernel_rfl) (by kernel_rfl) (e:=Extern.BytealgCompare.compare) (by kernel_rfl),hr];rfl
 obtain ⟨v,hv⟩:∃ v,Lib.compareBytes x y=v:=⟨_,rfl⟩
 rw [hv] at hx ⊢;clear hr ha hb hv;go_enter Tryz.func41,Tryz.ntmps41;go_wp2;go_ret;exact ⟨rfl,rfl⟩
theorem less_any (a b:Option Addr) (n m c d:Nat) (x y:List UInt8) (w:World) (ha:IsBs w a n c x) (hb:IsBs w b m d y) :
  Calls Tryz.prog 103 #[.slice a n c,.slice b m d] w fun e w'=>e = .returned (.bool (Op.bytesLess x y))∧w=w':=by
 have hc:=hid (compare_any a b n m c d x y w ha hb);have he:=hid (cmp_less x y);clear ha hb;go_enter Tryz.func103,Tryz.ntmps103;go_wp2_with fail
 refine hc.out.mono ?_;rintro e w1 ⟨rfl,rfl⟩;go_wp2;go_ret;exact ⟨by rw [← he.out]; rfl,rfl⟩
end Ni
end
section
open Go.RowKit
namespace Sm
open Sh
def Tab (w:World):Prop:=∀ i,i<64→w.cell? ⟨1,i,none⟩=some (.int .u32 (kN i:Nat))
theorem Tab.pos {w:World} (h:Tab w):1<w.heap.size:=World.block_lt_of_cell? w _ (h 0 (by omega))
theorem Tab.below {w w':World} (h:Tab w) {B:Nat} (hb:Below B w w') (hB:1<B):Tab w':=fun i hi=>(hb.cell (p:=⟨1,i,none⟩) hB).trans (h i hi)
theorem isBs_kc (w:World) (k:List UInt8) (hk:k.length=32):IsBs (w.alloc (.cells (kc k) 141)) (some ⟨w.heap.size,0,none⟩) 32 32 k:=by
 have h:=IsBs.new w k (by unfold maxLen; omega) (kc k) 141 rfl;rw [hk] at h;exact h
theorem text_any (k:List UInt8) (hk:k.length=32) (w:World) :
  Calls Tryz.prog 89 #[.agg (kc k)] w fun e w'=>e = .returned (.string ⟨k.toArray⟩)∧Below w.heap.size w w':=by
 have hcv:=conv_bs (isBs_kc w k hk);obtain ⟨C,hC⟩:∃ C,kc k=C:=⟨_,rfl⟩
 obtain ⟨T,hT⟩:∃ T,(⟨k.toArray⟩:ByteArray)=T:=⟨_,rfl⟩
 rw [hC,hT] at hcv;rw [hC,hT];clear hC hT hk;go_enter Tryz.func89,Tryz.ntmps89;go_wp2;go_ret;exact ⟨rfl,(Below.refl _ _).alloc (Nat.le_refl _) _⟩
end Sm
end
section
open Go.RowKit
namespace Sm
open Sh
end Sm
end
section
open Go.RowKit
namespace Sm
open Sh
end Sm
end
end Go.Proofs.YtnecijeakeklaaaGreatDoor
