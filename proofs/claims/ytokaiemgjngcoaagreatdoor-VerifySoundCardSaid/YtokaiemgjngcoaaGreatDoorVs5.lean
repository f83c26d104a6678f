/-
 The contract of sum.mix.
-/
import Derived.Test.YtokaiemgjngcoaaGreatDoorVs4
import Derived.Deep.DeepCutAuto
import Derived.Lib.BufferWrite
import Derived.Lib.SlBuf
open Go.Lib (hid)
open Go.Proofs.Tryz
set_option linter.unusedSimpArgs false
set_option linter.unusedVariables false
set_option maxHeartbeats 40000000
set_option maxRecDepth 100000
namespace Go.Proofs.YtokaiemgjngcoaaGreatDoor
variable {w:World} {B g:Nat} {t:TypeId}
section
open Go.RowKit
namespace Sm
open Sh
theorem mF (ev:Operand->Value) (o:Oper) (g:Nat) (w:World) (l:List Nat) (ho:∃ x,o.op = .load 173 x/\ev x = .pointer (some ⟨g,0,none⟩)) (hg:w.heap[g]? = some (.cells (ac l) 173 (0,0))) (hl:l.length=8) :
  (execOp ev o).run prog w = .ok (.value (.agg (ac l))) w:=by
 obtain ⟨x,ho,hx⟩:=ho;have h:=run_loadVar_row (P:=prog) w g 173 173 (ac l) (0,0) _ hg underlying173 rfl (by rw [bC,hl]; exact jJ);unfold execOp;rw [ho];simp only [hx];simp [Instr.loadAt,Instr.sureAddr,h]
theorem vQ (ev:Operand->Value) (o:Oper) (ho:o.op = .alloc 173) (w:World) (n:Nat) (hn:w.heap.size=n) :
  (execOp ev o).run prog w = .ok (.value (.pointer (some ⟨n,0,none⟩))) (w.alloc (.cells (za 8) 173)):=by
 subst hn; exact kM ev o ho w
theorem XR (l:List Nat) (j x:Nat):(ac l).setIfInBounds j (.int .u32 x)=ac (l.set j x):=by simp [ac,List.map_set]
theorem KT (n x:Nat) (w:World) :
  Calls prog 149 #[.int .u32 n,.int .u32 x] w λe w'=>∃ b1 b2,e = .returned (.func (Fn.func 171) #[] #[.pointer (some ⟨b1,0,none⟩),.pointer (some ⟨b2,0,none⟩)])/\Rg.Own w' b1 #[.int .u32 n] 140/\Rg.Own w' b2 #[.int .u32 x] 140/\b1≠b2/\w.heap.size<=b1/\w.heap.size<=b2/\Below w.heap.size w w':=by
 refine (Kq n x w).mono ?_;rintro e w' ⟨rfl,rfl⟩;refine ⟨_,_,rfl,(Rg.Own.new w _ _).below (aI.alloc aH _),?_,by omega,by omega,by omega,(aI.alloc aH _).alloc (by simp) _⟩;have:=Rg.Own.new (w.alloc (.cells #[.int .u32 n] 140)) #[.int .u32 x] 140;rw [show (w.alloc (.cells #[.int .u32 n] 140)).heap.size=w.heap.size+1 by simp] at this;exact this
theorem WG (g bn bw kk wk:Nat) (l:List Nat) (hl:l.length=8) (hlt:∀ x∈l,x<4294967296) (w:World) (hg:w.heap[g]? = some (.cells (ac l) 173 (0,0))) (hn:Rg.Own w bn #[.int .u32 kk] 140) (hw:Rg.Own w bw #[.int .u32 wk] 140) :
  Calls prog 171 #[.pointer (some ⟨g,0,none⟩),.pointer (some ⟨bn,0,none⟩),.pointer (some ⟨bw,0,none⟩)] w λe w'=>e = .returned (.tuple #[])/\w'.heap[g]? = some (.cells (ac (sF kk wk l)) 173 (0,0))/\w.grownBy w' (some g):=by
 obtain ⟨x0,x1,x2,x3,x4,x5,x6,x7,rfl⟩:=eight l hl;exact NH g bn bw kk wk x0 x1 x2 x3 x4 x5 x6 x7 (hlt _ (by simp)) (hlt _ (by simp)) (hlt _ (by simp)) (hlt _ (by simp)) (hlt _ (by simp)) (hlt _ (by simp)) w hg (cell_of_row w bn 0 _ _ _ hn.2) (cell_of_row w bw 0 _ _ _ hw.2)
theorem vk (l:List Nat) (j:Nat) (hj:j<8) (hl:l.length=8) (w:World):(Instr.index 173 (.agg (ac l)) (.int .i64 j)).run prog w = .ok (.int .u32 (l.getD j 0:Nat)) w:=by
 obtain ⟨x0,x1,x2,x3,x4,x5,x6,x7,rfl⟩:=eight l hl;have hc:j=0\/j=1\/j=2\/j=3\/j=4\/j=5\/j=6\/j=7:=by omega
 rcases hc with rfl | rfl | rfl | rfl | rfl | rfl | rfl | rfl <;> rfl
theorem RH (s:aM) (k:Nat):(s.extract (64*k) s.size).extract 64 (s.extract (64*k) s.size).size=s.extract (64*(k+1)) s.size:=by
 rw [ByteArray.extract_extract];congr 1;simp;omega
theorem Gf (s:aM) (k:Nat):mX (s.extract (64*k) s.size)=pq s.data.toList k:=by
 funext q;unfold mX pq;have e:(s.extract (64*k) s.size).data.toList=s.data.toList.drop (64*k):=by
  simp only [ByteArray.data_extract,Array.toList_extract,List.extract_eq_take_drop];rw [List.take_of_length_le (by simp)]
 rw [e,List.getD,List.getD,List.getElem?_drop]
theorem MC (h:List Nat) (hh:h.length=8) (hlt:∀ x∈h,x<4294967296) (s:aM) (hs:s.size<=1000000) (w:World) (hK:∀ i,i<64->w.cell? ⟨0,i,none⟩=some (.int .u32 (kN i:Nat))) :
  Calls prog 106 #[.agg (ac h),.string s] w λe w'=>e = .returned (.agg (ac (mK s.data.toList h (s.size/64))))/\Below w.heap.size w w':=by
 have HL:=hid (yJ s.data.toList h hh);have HT:=hid (MN s.data.toList h hlt);have h0:0<w.heap.size:=World.block_lt_of_cell? w _ (hK 0 (by omega));have HK:=hid hK;have yq:Hid ((w.alloc (.cells (ac h) 173)).heap[w.heap.size]? = some (.cells (ac (mK s.data.toList h 0)) 173 (0,0))):=hid (heap_alloc_new _ _);have j0:Hid (s=s.extract (64*0) s.size):=hid (by simp);obtain ⟨A,hA⟩:=aA (ac h)
 rw [hA] at yq ⊢;clear hA hh hlt hK;go_enter func106,ntmps106;go_wp2_with (refine fV rfl _ _ (vQ _ _ rfl _ (w.heap.size+1) (by simp)) ?_)
 go_frame
 go_loopw [1] (λv wr=>∃ k:Nat,k<=s.size/64/\v = .string (s.extract (64*k) s.size)/\Hid (wr.heap[w.heap.size]? = some (.cells (ac (mK s.data.toList h k)) 173 (0,0)))/\Rg.Own wr (w.heap.size+1) (za 8) 173/\Below w.heap.size w wr) (λv _=>match v with | .string b=>b.size | _=>0)
 case atStart=>exact ⟨0,by omega,by rw [<-j0.out],hid ((Lib.alloc_old _ _ _ (by simp)).trans yq.out),by have:=Rg.Own.new (w.alloc (.cells A 173)) (za 8) 173; rwa [show (w.alloc (.cells A 173)).heap.size=w.heap.size+1 by simp] at this,(aI.alloc aH _).alloc (by simp) _⟩
 case round =>
  obtain ⟨k,hk,rfl,HH,cC,hB⟩:=hrel;have hsz:(s.extract (64*k) s.size).size=s.size-64*k:=by simp
  by_cases hlt:k<s.size/64
  .have h64:64<=(s.extract (64*k) s.size).size:=by omega
   have eE:=FI (s.extract (64*k) s.size) h64 (by omega);rw [Gf] at eE;have eE:=hid eE;have kv:=hid (iG (pq s.data.toList k) 64);have HWt:=hid (uT (pq s.data.toList k) (λq=>UInt8.toNat_lt _) 64);have fm:=sec (show lG (pq s.data.toList k) (mK s.data.toList h k)=mK s.data.toList h (k+1) from rfl);unfold lG at fm;obtain ⟨ws,hws⟩:=aA (jO (pq s.data.toList k) 64)
   rw [hws] at eE kv HWt fm;clear hws;have eJ:=hid (HL.out k);have I7:=hid (HT.out k);have hBx:w.heap.size<wr.heap.size/\w.heap.size+1<wr.heap.size:=by have:=cC.1; omega
   obtain ⟨H,hH⟩:=aA (mK s.data.toList h k)
   rw [hH] at HH eJ I7 fm;clear hH;obtain ⟨z,hz⟩:=aA (s.extract (64*k) s.size)
   rw [hz] at eE h64 hsz ⊢;have HZ:=sec hz;clear hz;go_upto_region 3 with fail
   go_cut [5,6] (λp q wx=>∃ b c,p = .pointer (some ⟨b,0,none⟩)/\q = .pointer (some ⟨c,0,none⟩)/\b≠c/\wr.heap.size<=b/\wr.heap.size<=c/\Hid (wx.heap[b]? = some (.cells (ac ws) 211 (0,0)))/\Hid (wx.heap[c]? = some (.cells (ac H) 173 (0,0)))/\Below wr.heap.size wr wx)
   case first =>
    refine aD (S:=λw'=>Below wr.heap.size wr w') (aI.drew) λhld=>?_;refine aj 0 ?_;try simp only [Act.put,au]
    refine aj 2 ?_ (hy:=by intro wz hSw; refine mF _ _ w.heap.size wz H ?_ (by rw [hSw.block _ hBx.1]; exact HH.out) eJ.out; exact ⟨_,rfl,rfl⟩);try simp only [Act.put,au]
    refine wpAnyH_ready (rs:=[1,3,4]) (by kernel_rfl) (by simp) ?_;refine Rg.readyC (i:=1) rfl (λK hK=>?_) (Rg.readyC (i:=3) rfl (λK hK=>?_) (Rg.readyL (i:=4) rfl (λK hK=>?_)))
    .go_simp;go_at_call 148
     (with_reducible refine (eE.out _).mono ?_)
     rintro e bc ⟨rfl,hbx⟩;refine hK.out _ _ (Below.trans hld (hbx.mono hld.size)) λhld=>?_;clear hK K;try simp only [Act.put,au]
     refine wpAnyH_ready (rs:=[3,4]) (by kernel_rfl) (by simp) ?_;refine Rg.readyC (i:=3) rfl (λK hK=>?_) (Rg.readyL (i:=4) rfl (λK hK=>?_))
     .refine Rg.meetAlloc (by rfl) (jB _ _ rfl _) ?_;rintro wv1 b3 kw h3 hbx;have fy:wr.heap.size<=b3:=by rw [kw]; exact Below.size hld
      clear kw;refine hK.out _ _ (Below.trans hld (hbx.mono hld.size)) λhld=>?_;clear hK K hbx;try simp only [Act.put,au]
      refine ak 4 λK hK=>?_;refine Rg.meetAlloc (by rfl) (kM _ _ rfl _) ?_;rintro wv2 b4 kx h4 hbx;have iv:wr.heap.size<=b4:=by rw [kx]; exact Below.size hld
      have aE:b3≠b4:=by have:=h3.1; omega
      replace h3:=h3.below hbx;clear kx;refine hK.out _ _ (Below.trans hld (hbx.mono hld.size)) λhld=>?_;clear hK K hbx;try simp only [Act.put,au]
      refine ak 5 λK hK=>?_;refine Rg.meetStore (by rfl) h3 211 (ac ws) ⟨_,_,rfl,rfl,rfl⟩ (by rw [bC,kv.out]; exact nH) (by rw [bC,kv.out,za,bC]; simp) (iU _) ?_;rintro Fl hn hu;replace h4:=h4.upd hu (Ne.symm aE);refine hK.out _ _ ?_ (λhld=>?_)
      .exact hu.below hld fy
      replace h3:=hn;clear hK K hn hu;try simp only [Act.put]
      refine ak 6 λK hK=>?_;refine Rg.meetStore (by rfl) h4 173 (ac H) ⟨_,_,rfl,rfl,rfl⟩ (by rw [bC,eJ.out]; exact jJ) (by rw [bC,eJ.out,za,bC]; simp) (iU _) ?_;rintro Fm hn hu;replace h3:=h3.upd hu aE;refine hK.out _ _ ?_ (λhld=>?_)
      .exact hu.below hld iv
      replace h4:=hn;clear hK K hn hu;try simp only [Act.put]
      refine aC ?_;go_wp2_with fail
      go_meet
      exact ⟨b3,b4,rfl,rfl,aE,fy,iv,hid h3.2,hid h4.2,hld⟩
     .refine Rg.meetAlloc (by rfl) (kM _ _ rfl _) ?_;rintro wv1 b4 kx h4 hbx;have iv:wr.heap.size<=b4:=by rw [kx]; exact Below.size hld
      clear kx;refine hK.out _ _ (Below.trans hld (hbx.mono hld.size)) λhld=>?_;clear hK K hbx;try simp only [Act.put,au]
      refine ak 3 λK hK=>?_;refine Rg.meetAlloc (by rfl) (jB _ _ rfl _) ?_;rintro wv2 b3 kw h3 hbx;have fy:wr.heap.size<=b3:=by rw [kw]; exact Below.size hld
      have aE:b3≠b4:=by have:=h4.1; omega
      replace h4:=h4.below hbx;clear kw;refine hK.out _ _ (Below.trans hld (hbx.mono hld.size)) λhld=>?_;clear hK K hbx;try simp only [Act.put,au]
      refine ak 5 λK hK=>?_;refine Rg.meetStore (by rfl) h3 211 (ac ws) ⟨_,_,rfl,rfl,rfl⟩ (by rw [bC,kv.out]; exact nH) (by rw [bC,kv.out,za,bC]; simp) (iU _) ?_;rintro Fl hn hu;replace h4:=h4.upd hu (Ne.symm aE);refine hK.out _ _ ?_ (λhld=>?_)
      .exact hu.below hld fy
      replace h3:=hn;clear hK K hn hu;try simp only [Act.put]
      refine ak 6 λK hK=>?_;refine Rg.meetStore (by rfl) h4 173 (ac H) ⟨_,_,rfl,rfl,rfl⟩ (by rw [bC,eJ.out]; exact jJ) (by rw [bC,eJ.out,za,bC]; simp) (iU _) ?_;rintro Fm hn hu;replace h3:=h3.upd hu aE;refine hK.out _ _ ?_ (λhld=>?_)
      .exact hu.below hld iv
      replace h4:=hn;clear hK K hn hu;try simp only [Act.put]
      refine aC ?_;go_wp2_with fail
      go_meet
      exact ⟨b3,b4,rfl,rfl,aE,fy,iv,hid h3.2,hid h4.2,hld⟩
    .refine Rg.meetAlloc (by rfl) (jB _ _ rfl _) ?_;rintro bc b3 kw h3 hbx;have fy:wr.heap.size<=b3:=by rw [kw]; exact Below.size hld
     clear kw;refine hK.out _ _ (Below.trans hld (hbx.mono hld.size)) λhld=>?_;clear hK K hbx;try simp only [Act.put,au]
     refine wpAnyH_ready (rs:=[1,4]) (by kernel_rfl) (by simp) ?_;refine Rg.readyC (i:=1) rfl (λK hK=>?_) (Rg.readyL (i:=4) rfl (λK hK=>?_))
     .go_simp;go_at_call 148
      (with_reducible refine (eE.out _).mono ?_)
      rintro e wv1 ⟨rfl,hbx⟩;replace h3:=h3.below hbx;refine hK.out _ _ (Below.trans hld (hbx.mono hld.size)) λhld=>?_;clear hK K;try simp only [Act.put,au]
      refine ak 4 λK hK=>?_;refine Rg.meetAlloc (by rfl) (kM _ _ rfl _) ?_;rintro wv2 b4 kx h4 hbx;have iv:wr.heap.size<=b4:=by rw [kx]; exact Below.size hld
      have aE:b3≠b4:=by have:=h3.1; omega
      replace h3:=h3.below hbx;clear kx;refine hK.out _ _ (Below.trans hld (hbx.mono hld.size)) λhld=>?_;clear hK K hbx;try simp only [Act.put,au]
      refine ak 5 λK hK=>?_;refine Rg.meetStore (by rfl) h3 211 (ac ws) ⟨_,_,rfl,rfl,rfl⟩ (by rw [bC,kv.out]; exact nH) (by rw [bC,kv.out,za,bC]; simp) (iU _) ?_;rintro Fl hn hu;replace h4:=h4.upd hu (Ne.symm aE);refine hK.out _ _ ?_ (λhld=>?_)
      .exact hu.below hld fy
      replace h3:=hn;clear hK K hn hu;try simp only [Act.put]
      refine ak 6 λK hK=>?_;refine Rg.meetStore (by rfl) h4 173 (ac H) ⟨_,_,rfl,rfl,rfl⟩ (by rw [bC,eJ.out]; exact jJ) (by rw [bC,eJ.out,za,bC]; simp) (iU _) ?_;rintro Fm hn hu;replace h3:=h3.upd hu aE;refine hK.out _ _ ?_ (λhld=>?_)
      .exact hu.below hld iv
      replace h4:=hn;clear hK K hn hu;try simp only [Act.put]
      refine aC ?_;go_wp2_with fail
      go_meet
      exact ⟨b3,b4,rfl,rfl,aE,fy,iv,hid h3.2,hid h4.2,hld⟩
     .refine Rg.meetAlloc (by rfl) (kM _ _ rfl _) ?_;rintro wv1 b4 kx h4 hbx;have iv:wr.heap.size<=b4:=by rw [kx]; exact Below.size hld
      have aE:b3≠b4:=by have:=h3.1; omega
      replace h3:=h3.below hbx;clear kx;refine hK.out _ _ (Below.trans hld (hbx.mono hld.size)) λhld=>?_;clear hK K hbx;try simp only [Act.put,au]
      refine ak 1 λK hK=>?_;go_simp;go_at_call 148
      (with_reducible refine (eE.out _).mono ?_)
      rintro e wv2 ⟨rfl,hbx⟩;replace h3:=h3.below hbx;replace h4:=h4.below hbx;refine hK.out _ _ (Below.trans hld (hbx.mono hld.size)) λhld=>?_;clear hK K;try simp only [Act.put,au]
      refine ak 5 λK hK=>?_;refine Rg.meetStore (by rfl) h3 211 (ac ws) ⟨_,_,rfl,rfl,rfl⟩ (by rw [bC,kv.out]; exact nH) (by rw [bC,kv.out,za,bC]; simp) (iU _) ?_;rintro Fl hn hu;replace h4:=h4.upd hu (Ne.symm aE);refine hK.out _ _ ?_ (λhld=>?_)
      .exact hu.below hld fy
      replace h3:=hn;clear hK K hn hu;try simp only [Act.put]
      refine ak 6 λK hK=>?_;refine Rg.meetStore (by rfl) h4 173 (ac H) ⟨_,_,rfl,rfl,rfl⟩ (by rw [bC,eJ.out]; exact jJ) (by rw [bC,eJ.out,za,bC]; simp) (iU _) ?_;rintro Fm hn hu;replace h3:=h3.upd hu aE;refine hK.out _ _ ?_ (λhld=>?_)
      .exact hu.below hld iv
      replace h4:=hn;clear hK K hn hu;try simp only [Act.put]
      refine aC ?_;go_wp2_with fail
      go_meet
      exact ⟨b3,b4,rfl,rfl,aE,fy,iv,hid h3.2,hid h4.2,hld⟩
    .refine Rg.meetAlloc (by rfl) (kM _ _ rfl _) ?_;rintro bc b4 kx h4 hbx;have iv:wr.heap.size<=b4:=by rw [kx]; exact Below.size hld
     clear kx;refine hK.out _ _ (Below.trans hld (hbx.mono hld.size)) λhld=>?_;clear hK K hbx;try simp only [Act.put,au]
     refine wpAnyH_ready (rs:=[1,3]) (by kernel_rfl) (by simp) ?_;refine Rg.readyC (i:=1) rfl (λK hK=>?_) (Rg.readyL (i:=3) rfl (λK hK=>?_))
     .go_simp;go_at_call 148
      (with_reducible refine (eE.out _).mono ?_)
      rintro e wv1 ⟨rfl,hbx⟩;replace h4:=h4.below hbx;refine hK.out _ _ (Below.trans hld (hbx.mono hld.size)) λhld=>?_;clear hK K;try simp only [Act.put,au]
      refine ak 3 λK hK=>?_;refine Rg.meetAlloc (by rfl) (jB _ _ rfl _) ?_;rintro wv2 b3 kw h3 hbx;have fy:wr.heap.size<=b3:=by rw [kw]; exact Below.size hld
      have aE:b3≠b4:=by have:=h4.1; omega
      replace h4:=h4.below hbx;clear kw;refine hK.out _ _ (Below.trans hld (hbx.mono hld.size)) λhld=>?_;clear hK K hbx;try simp only [Act.put,au]
      refine ak 5 λK hK=>?_;refine Rg.meetStore (by rfl) h3 211 (ac ws) ⟨_,_,rfl,rfl,rfl⟩ (by rw [bC,kv.out]; exact nH) (by rw [bC,kv.out,za,bC]; simp) (iU _) ?_;rintro Fl hn hu;replace h4:=h4.upd hu (Ne.symm aE);refine hK.out _ _ ?_ (λhld=>?_)
      .exact hu.below hld fy
      replace h3:=hn;clear hK K hn hu;try simp only [Act.put]
      refine ak 6 λK hK=>?_;refine Rg.meetStore (by rfl) h4 173 (ac H) ⟨_,_,rfl,rfl,rfl⟩ (by rw [bC,eJ.out]; exact jJ) (by rw [bC,eJ.out,za,bC]; simp) (iU _) ?_;rintro Fm hn hu;replace h3:=h3.upd hu aE;refine hK.out _ _ ?_ (λhld=>?_)
      .exact hu.below hld iv
      replace h4:=hn;clear hK K hn hu;try simp only [Act.put]
      refine aC ?_;go_wp2_with fail
      go_meet
      exact ⟨b3,b4,rfl,rfl,aE,fy,iv,hid h3.2,hid h4.2,hld⟩
     .refine Rg.meetAlloc (by rfl) (jB _ _ rfl _) ?_;rintro wv1 b3 kw h3 hbx;have fy:wr.heap.size<=b3:=by rw [kw]; exact Below.size hld
      have aE:b3≠b4:=by have:=h4.1; omega
      replace h4:=h4.below hbx;clear kw;refine hK.out _ _ (Below.trans hld (hbx.mono hld.size)) λhld=>?_;clear hK K hbx;try simp only [Act.put,au]
      refine ak 1 λK hK=>?_;go_simp;go_at_call 148
      (with_reducible refine (eE.out _).mono ?_)
      rintro e wv2 ⟨rfl,hbx⟩;replace h4:=h4.below hbx;replace h3:=h3.below hbx;refine hK.out _ _ (Below.trans hld (hbx.mono hld.size)) λhld=>?_;clear hK K;try simp only [Act.put,au]
      refine ak 5 λK hK=>?_;refine Rg.meetStore (by rfl) h3 211 (ac ws) ⟨_,_,rfl,rfl,rfl⟩ (by rw [bC,kv.out]; exact nH) (by rw [bC,kv.out,za,bC]; simp) (iU _) ?_;rintro Fl hn hu;replace h4:=h4.upd hu (Ne.symm aE);refine hK.out _ _ ?_ (λhld=>?_)
      .exact hu.below hld fy
      replace h3:=hn;clear hK K hn hu;try simp only [Act.put]
      refine ak 6 λK hK=>?_;refine Rg.meetStore (by rfl) h4 173 (ac H) ⟨_,_,rfl,rfl,rfl⟩ (by rw [bC,eJ.out]; exact jJ) (by rw [bC,eJ.out,za,bC]; simp) (iU _) ?_;rintro Fm hn hu;replace h3:=h3.upd hu aE;refine hK.out _ _ ?_ (λhld=>?_)
      .exact hu.below hld iv
      replace h4:=hn;clear hK K hn hu;try simp only [Act.put]
      refine aC ?_;go_wp2_with fail
      go_meet
      exact ⟨b3,b4,rfl,rfl,aE,fy,iv,hid h3.2,hid h4.2,hld⟩
   case rest =>
    obtain ⟨b,c,rfl,rfl,hbc,hgb,hgc,tb,lL,xh⟩:=hcut;obtain ⟨wo,rfl⟩:∃ wo:World,wo=wr:=⟨_,rfl⟩
    clear eE;have hlb:b<wc.heap.size:=by have:=tb.out; rcases Nat.lt_or_ge b wc.heap.size with h' | h'; exact h'; rw [Array.getElem?_eq_none h'] at this; cases this
    have hlc:c<wc.heap.size:=by have:=lL.out; rcases Nat.lt_or_ge c wc.heap.size with h' | h'; exact h'; rw [Array.getElem?_eq_none h'] at this; cases this
    have HB:=hid hB;have iu:=hid xh;have l9:=sec hsz;clear hB xh hsz;go_wp2_with fail
    go_loopw [19] (λi wx=>∃ j:Nat,j<=64/\i = .int .i64 j/\Hid (Rg.Own wx b (ac ws) 211)/\Hid (Rg.Own wx c (ac (rO ws H j)) 173)/\Hid (Below wo.heap.size wo wx)) (λi _=>64-(intOf i).toNat)
    case atStart=>exact ⟨0,by omega,rfl,hid ⟨hlb,tb.out⟩,hid ⟨hlc,lL.out⟩,iu⟩
    case round =>
     clear tb lL iu hlb hlc;obtain ⟨j,hj,rfl,tb,lL,iu⟩:=hrel;by_cases hlt2:j<64
     .have hkj:=(iu.out.cell (p:=⟨0,j,none⟩) (by show 0<wo.heap.size; omega)).trans ((HB.out.cell (p:=⟨0,j,none⟩) h0).trans (HK.out j hlt2));have Wk:wr.cell? ⟨b,j,none⟩=some (.int .u32 (ws.getD j 0:Nat)):=(cell_of_row wr b j _ _ _ tb.out.2).trans (KE ws j (by rw [kv.out]; exact hlt2));have PT:=hid hkj;have Q4:=hid Wk;have h0r:0<wr.heap.size:=by have:=iu.out.size; omega
      have hbr:=tb.out.1;have f9:=hid (yL ws H eJ.out j);have Wl:=hid (vG ws H I7.out j);have jz:=sec (show sF (kN j) (ws.getD j 0) (rO ws H j)=rO ws H (j+1) from rfl);obtain ⟨L,hL⟩:=aA (rO ws H j)
      obtain ⟨kk,hkk⟩:=aA (kN j)
      obtain ⟨wk,hwk⟩:=aA (ws.getD j 0)
      rw [hL] at lL f9 Wl jz;rw [hkk] at PT jz;rw [hwk] at Q4 jz;clear hL hkk hwk hkj Wk;have Wr:=hid (KT kk wk);have l0:(0:Int)<=(j:Int):=by omega
      have l1:(j:Int)<64:=by omega
      go_wp2_with fail
      refine aD (S:=λw'=>Below wr.heap.size wr w') (aI.drew) λhld=>?_;refine aj 0 ?_;try simp only [Act.put,au]
      refine aj 1 ?_;try simp only [Act.put,au]
      refine aj 2 ?_ (hy:=by intro wz hSw; (have hc:=(hSw.cell (p:=⟨0,j,none⟩) h0r).trans PT.out); go_simp <;> with_reducible rfl);try simp only [Act.put,au]
      refine aj 3 ?_;try simp only [Act.put,au]
      refine aj 4 ?_;try simp only [Act.put,au]
      refine aj 5 ?_ (hy:=by intro wz hSw; (have hc:=(hSw.cell (p:=⟨b,j,none⟩) hbr).trans Q4.out); go_simp <;> with_reducible rfl);try simp only [Act.put,au]
      refine ak 6 λK hK=>?_;go_simp;go_at_call 149
      (with_reducible refine (Wr.out _).mono ?_)
      rintro e bc ⟨q1,q2,rfl,ho1,ho2,hq12,hg1,hg2,hbx⟩;refine hK.out _ _ (Below.trans hld (hbx.mono hld.size)) λhld=>?_;clear hK K;try simp only [Act.put,au]
      refine aj 7 ?_;try simp only [Act.put,au]
      refine aC ?_;clear l0 l1 Wr PT Q4;go_wp2_with fail
      refine (WG c q1 q2 kk wk L f9.out Wl.out _ (by rw [hbx.block _ lL.out.1]; exact lL.out.2) ho1 ho2).mono ?_;rintro e w4 ⟨rfl,hc4,hg4⟩;have I8:=hid hc4;clear hc4;go_wp2_with fail
      go_roundw
      case rel =>
       have hbl:=tb.out.below hld;refine ⟨j+1,by omega,by go_num,hid ⟨aJ hbl.1 hg4.size,(hg4.block _ hbl.1 (by simpa using hbc)).trans hbl.2⟩,hid ⟨aJ (lL.out.below hld).1 hg4.size,by rw [<-jz.out]; exact I8.out⟩,hid ((iu.out.trans (hld.mono iu.out.size)).grown hg4 (iu.out.trans (hld.mono iu.out.size)).size (λg hg=>by cases hg; exact hgc))⟩
      case measure=>simp [intOf]; omega
     .have Fo:j=64:=by omega
      rw [Fo] at lL;clear Fo;have Q5:=hid (yL ws H eJ.out 64);have WD:=hid (vG ws H I7.out 64);obtain ⟨V,hV⟩:=aA (rO ws H 64)
      rw [hV] at lL Q5 WD fm;clear hV;have rk:Hid (Rg.Own wr w.heap.size (ac (uK H V 0)) 173):=hid ⟨by have:=iu.out.size; omega,by rw [iu.out.block _ hBx.1,Ou _ _ eJ.out]; exact HH.out⟩;have cf:Hid (Rg.Own wr (w.heap.size+1) (za 8) 173):=hid ((cC.below (iu.out.mono aH)));have xi:=hid (λj hj wz=>vk V j hj Q5.out wz);obtain ⟨AV,Q6⟩:=aA (ac V)
      have hAs:AV.size=8:=by rw [<-Q6,bC,Q5.out]
      rw [Q6] at lL xi;have Q7:=hid hAs;clear Q6 hAs tb;go_wp2_with (first | (refine wpList_load_row rfl _ _ rfl c rfl 173 AV (0,0) _ lL.out.2 underlying173 rfl (by rw [Q7.out]; exact jJ) ?_))
      obtain ⟨wp,rfl⟩:∃ wp:World,wp=wr:=⟨_,rfl⟩
      clear hlt2;go_loopw [33] (λi wx=>∃ q:Nat,q<=8/\i = .int .i64 q/\Hid (Rg.Own wx w.heap.size (ac (uK H V q)) 173)/\Hid (Rg.Upd wp w.heap.size wx)) (λi _=>8-(intOf i).toNat)
      case atStart=>exact ⟨0,by omega,rfl,rk,hid ⟨rfl,rfl,rfl,rfl,λ_ _=>rfl⟩⟩
      case round =>
       clear rk;obtain ⟨q,hq,rfl,rk,tc⟩:=hrel;by_cases hlt3:q<8
       .have hix:=xi.out q hlt3;have hcl:=(cell_of_row wr w.heap.size q _ _ _ rk.out.2).trans (KE (uK H V q) q (by rw [oN]; exact hlt3));have hfz:=frozen_of_row wr w.heap.size q _ _ rk.out.2;rw [Qo H V q hlt3] at hcl;have HN:=sec (UU H V q hlt3);have bx:=getD_lt I7.out q;have bv:=getD_lt WD.out q;obtain ⟨x,hx⟩:=aA (H.getD q 0)
        obtain ⟨y,hy⟩:=aA (V.getD q 0)
        rw [hx] at hcl bx HN;rw [hy] at hix bv HN;clear hx hy;have hv:((x:Int)+y)%4294967296=((x+y)%4294967296:Nat):=by omega
        have HVs:=sec hv;clear hv;go_wp2;go_roundw
        case rel =>
         refine ⟨q+1,by omega,by go_num,?_,?_⟩
         .rw [HVs.out];exact hid ⟨by simpa using rk.out.1,by rw [heap_setCell_same _ _ _ _ _ _ rk.out.2,XR,HN.out]⟩
         .exact hid ⟨tc.out.os,tc.out.tape,tc.out.output,by simpa using tc.out.size,λk hk=>(heap_setCell_other _ _ _ _ hk).trans (tc.out.block k hk)⟩
        case measure=>simp [intOf]; omega
       .obtain rfl:q=8:=by omega
        have HF:Hid (Rg.Own wr w.heap.size (ac (mK s.data.toList h (k+1))) 173):=hid (by rw [<-fm.out,<-Rn]; exact rk.out);have cF:Hid (Rg.Own wr (w.heap.size+1) (za 8) 173):=hid (cf.out.upd tc.out (by omega));have ax:Hid (Below w.heap.size w wr):=hid (tc.out.below (HB.out.trans (iu.out.mono HB.out.size)) aH);have HE:Hid (z.extract 64 (s.size-64*k)=s.extract (64*(k+1)) s.size):=hid (by rw [<-l9.out,<-HZ.out]; exact RH s k);have hz3:z.size=s.size-64*k:=l9.out
        have HES:Hid ((s.extract (64*(k+1)) s.size).size=s.size-64*(k+1)):=hid (by simp);have hzs:64<=(z.size:Int):=by omega
        clear rk tc cf xi hlt3 hq;go_wp2;go_roundw
        case rel=>exact ⟨k+1,by omega,by rw [<-HE.out],hid HF.out.2,cF.out,ax.out⟩
        case measure =>
         show (z.extract 64 (s.size-64*k)).size<z.size;rw [HE.out,HES.out];omega
  .obtain rfl:k=s.size/64:=by omega
   have eJ:=hid (HL.out (s.size/64));obtain ⟨H,hH⟩:=aA (mK s.data.toList h (s.size/64))
   have TX:=sec hH;rw [hH] at HH eJ;have cC:=hid cC;clear hH yq j0;have hsz2:((s.extract (64*(s.size/64)) s.size).size:Int)<64:=by omega
   obtain ⟨z,hz⟩:=aA (s.extract (64*(s.size/64)) s.size)
   rw [hz] at hsz2 ⊢;clear hz hsz hlt hk;go_wp2_with (first | (refine wpList_load_row rfl _ _ rfl w.heap.size rfl 173 (ac H) (0,0) _ HH.out underlying173 rfl (by rw [bC,eJ.out]; exact jJ) ?_) | (refine wpList_store_rowTo rfl 173 _ _ rfl rfl _ (ac H) rfl rfl 173 (za 8) cC.out.2 (by rw [bC,eJ.out]; exact jJ) (by rw [bC,eJ.out,za,bC]; simp) (iU _) ?_))
   exact bodyPost_ret (results_cell_row rfl _ _ (w.heap.size+1) 173 (ac H) (0,0) _ rfl (setRow_heap _ _ _ _ _ _ cC.out.2) underlying173 rfl (by rw [bC,eJ.out]; exact jJ)) rfl ⟨by rw [TX.out],eU hB (by omega) _⟩
def kc (k:aN):aO:=(k.map λb=>Value.int .u8 b.toNat).toArray
theorem jy (k:aN):(kc k).size=k.length:=by simp [kc]
theorem FL (k:aN):(kc k).all (·.oneCell')=true:=by
 rw [Array.all_eq_true];intro i hi;simp [kc];rfl
theorem TD:(prog.info? 23).map (·.size)=some 32:=by kernel_rfl
theorem jR (k:aN) (h:k.length=32):(prog.info? 23).map (·.size)=some (kc k).size:=by rw [jy,h]; exact TD
def zk:aN:=List.replicate 32 0
theorem jK (ev:Operand->Value) (o:Oper) (ho:o.op = .alloc 23) (w:World) (n:Nat) (hn:w.heap.size=n) :
  (execOp ev o).run prog w = .ok (.value (.pointer (some ⟨n,0,none⟩))) (w.alloc (.cells (kc zk) 23)):=by
 subst hn;unfold execOp;rw [ho];kernel_rfl
theorem Ya (l:aN) {f:Nat->Value} (h:w.rowIs g t 32 f) (hl:l.length=32) (hf:∀ j,j<32->f j = .int .u8 (l.getD j 0).toNat):w.heap[g]? = some (.cells (kc l) t (0,0)):=by
 obtain ⟨c,hg,hs,hc⟩:=h;have:c=kc l:=by
  apply Array.ext
  .rw [hs,jy,hl]
  .intro i hi h2;have h1:=hc i (by omega);rw [hf i (by omega),Array.getElem?_eq_getElem hi] at h1;have h3:=Option.some.inj h1;rw [h3];have h4:i<l.length:=by omega
   simp [kc,List.getD,h4]
 rw [hg,this]
theorem XC (h:w.heap[g]? = some (.cells (kc zk) t (0,0))):w.rowIs g t 32 (λ_=>.int .u8 0) :=
 ⟨_,h,rfl,λi hi=>by
  show ((zk.map λb=>Value.int .u8 b.toNat).toArray)[i]? = _;have hz:zk[i]? = some 0:=by
   unfold zk;rw [List.getElem?_replicate,if_pos hi]
  rw [List.getElem?_toArray,List.getElem?_map,hz];rfl⟩
theorem start_lt:∀ x∈Sh.start,x<4294967296:=by decide
theorem RD (s:aM) (m:Nat) (hm:m=s.size-s.size%64) :
  mK ((s.extract m s.size).data.toList++pO s.size) (mK (s.extract 0 m).data.toList Sh.start ((s.extract 0 m).size/64)) (((s.extract m s.size).data.toList++pO s.size).length/64)=nW (iI s.data.toList) ((iI s.data.toList).length/64):=by
 have e1:(s.extract 0 m).data.toList=s.data.toList.take m:=by simp
 have e2:(s.extract m s.size).data.toList=s.data.toList.drop m:=by
  simp only [ByteArray.data_extract,Array.toList_extract,List.extract_eq_take_drop];rw [List.take_of_length_le (by simp)]
 have hl:s.data.toList.length=s.size:=by simp
 have e3:(s.extract 0 m).size=m:=by simp; omega
 have e4:iI s.data.toList=s.data.toList.take m++(s.data.toList.drop m++pO s.size):=by
  rw [Pj,hl,<-List.append_assoc,List.take_append_drop]
 have hmd:=DN s.data.toList;rw [e1,e2,e3,<-Bp,e4];rw [e4] at hmd;have hlen:(s.data.toList.take m++(s.data.toList.drop m++pO s.size)).length=m+(s.data.toList.drop m++pO s.size).length:=by
  rw [List.length_append,List.length_take,hl];congr 1;omega
 rw [hlen] at hmd ⊢;rw [show (m+(s.data.toList.drop m++pO s.size).length)/64=m/64+(s.data.toList.drop m++pO s.size).length/64 by omega];exact (Eb _ _ (m/64) (by rw [List.length_take,hl]; omega) _ _).symm
theorem FK (s:aM) (hs:s.size<=900000) (w:World) (hK:∀ i,i<64->w.cell? ⟨0,i,none⟩=some (.int .u32 (kN i:Nat))) :
  Calls prog 62 #[.string s] w λe w'=>e = .returned (.agg (kc (FJ s.data.toList)))/\Below w.heap.size w w':=by
 have h0:0<w.heap.size:=World.block_lt_of_cell? w _ (hK 0 (by omega));have HK:=hid hK;have cN:=hid (FV s.size (by omega));obtain ⟨m,hm⟩:=aA (s.size-s.size%64)
 have hmi:(s.size:Int)-s.size%64=m:=by omega
 have hml:m<=s.size:=by omega
 have hF:=RD s m hm.symm;have td:=hid (yJ (s.extract 0 m).data.toList Sh.start rfl ((s.extract 0 m).size/64));have hT1:=MN (s.extract 0 m).data.toList Sh.start start_lt ((s.extract 0 m).size/64);have j2:=hid (λW hk=>MC Sh.start rfl start_lt (s.extract 0 m) (by simp; omega) W hk);obtain ⟨M1,hM1⟩:=aA (mK (s.extract 0 m).data.toList Sh.start ((s.extract 0 m).size/64))
 rw [hM1] at td hT1 hF j2;obtain ⟨s2,hs2⟩:=aA (s.extract m s.size++⟨(pO s.size).toArray⟩)
 have hd2:s2.data.toList=(s.extract m s.size).data.toList++pO s.size:=by rw [<-hs2,ByteArray.data_append]; simp
 have hz2:s2.size=((s.extract m s.size).data.toList++pO s.size).length:=by rw [<-hd2]; simp
 have hz:gT s.size<64:=Nat.mod_lt _ (by omega);have g8:=hid (λW hk=>MC M1 td.out hT1 s2 (by rw [hz2,List.length_append,rJ]; simp; omega) W hk);rw [<-hd2,show s2.data.toList.length=s2.size by simp] at hF;rw [hF] at g8;have xj:=hid (vC (iI s.data.toList) ((iI s.data.toList).length/64));have HT2:=hid (GX (iI s.data.toList) ((iI s.data.toList).length/64));have HS:=sec (show uO (nW (iI s.data.toList) ((iI s.data.toList).length/64)) 32=FJ s.data.toList from rfl);obtain ⟨M2,hM2⟩:=aA (nW (iI s.data.toList) ((iI s.data.toList).length/64))
 rw [hM2] at g8 xj HT2 HS;have HS2:=hid hs2;clear hT1 hF hd2 hz2 hz hM2 hs2;clear hK hm hM1;go_enter func62,ntmps62;go_upto_region 3 with (first | (refine fV rfl _ _ (jK _ _ rfl _ w.heap.size rfl) ?_) | (refine fV rfl _ _ (vQ _ _ rfl _ (w.heap.size+1) (by simp)) ?_) | (refine wpList_store_rowTo rfl 173 _ _ rfl rfl (w.heap.size+1) (ac Sh.start) rfl rfl 173 (za 8) (by have:=heap_alloc_new (w.alloc (.cells (kc zk) 23)) (.cells (za 8) 173); simpa using this) jJ rfl (iU _) ?_))
 have h2:Rg.Own (((w.alloc (.cells (kc zk) 23)).alloc (.cells (za 8) 173)).setRow (w.heap.size+1) (ac Sh.start)) w.heap.size (kc zk) 23 :=
  ((Rg.Own.new w _ _).below (aI.alloc aH _)).upd (Rg.Upd.set _ _ _) (by omega)
 have h3:Rg.Own (((w.alloc (.cells (kc zk) 23)).alloc (.cells (za 8) 173)).setRow (w.heap.size+1) (ac Sh.start)) (w.heap.size+1) (ac Sh.start) 173 :=
  ⟨by simp,setRow_heap _ _ _ _ _ _ (by have:=heap_alloc_new (w.alloc (.cells (kc zk) 23)) (.cells (za 8) 173); simpa using this)⟩
 have hB0:Below w.heap.size w (((w.alloc (.cells (kc zk) 23)).alloc (.cells (za 8) 173)).setRow (w.heap.size+1) (ac Sh.start)) :=
  eU ((aI.alloc aH _).alloc (by simp) _) (by omega) _
 generalize (((w.alloc (.cells (kc zk) 23)).alloc (.cells (za 8) 173)).setRow (w.heap.size+1) (ac Sh.start))=W0 at h2 h3 hB0 ⊢;have ge2:w.heap.size<=w.heap.size:=aH;have fy:w.heap.size<=w.heap.size+1:=by omega
 have oA:w.heap.size≠w.heap.size+1:=by omega
 refine aD (S:=λw'=>Below w.heap.size w w') (hB0.drew) λhld=>?_;replace h2:=h2.drew;replace h3:=h3.drew;refine aj 1 ?_;try simp only [Act.put,au]
 refine aj 2 ?_;try simp only [Act.put,au]
 refine aj 3 ?_;try simp only [Act.put,au]
 refine ak 0 λK hK=>?_;refine Rg.meet (by rfl) _ _ (mF _ _ (w.heap.size+1) _ Sh.start ?_ h3.2 rfl) ?_
 .exact ⟨_,rfl,rfl⟩
 refine hK.out _ _ (hld) λhld=>?_;clear hK K;try simp only [Act.put,au]
 refine ak 4 λK hK=>?_;go_simp;go_at_call 106
 (with_reducible refine (j2.out _ (λi hi=>(hld.cell (p:=⟨0,i,none⟩) h0).trans (HK.out i hi))).mono ?_)
 rintro e bc ⟨rfl,hbx⟩;replace h2:=h2.below hbx;replace h3:=h3.below hbx;refine hK.out _ _ (Below.trans hld (hbx.mono hld.size)) λhld=>?_;clear hK K;try simp only [Act.put,au]
 refine ak 5 λK hK=>?_;refine Rg.meetStore (by rfl) h3 173 (ac M1) ⟨_,_,rfl,rfl,rfl⟩ (by rw [bC,td.out]; exact jJ) (by rw [bC,bC,td.out]; exact rfl) (iU _) ?_;rintro wv1 hn hu;replace h2:=h2.upd hu oA;refine hK.out _ _ ?_ (λhld=>?_)
 .exact hu.below hld fy
 replace h3:=hn;clear hK K hn hu;try simp only [Act.put]
 refine aC ?_;go_wp2_with fail
 have hB1:=hld;clear hld;go_cut [3] (λp wx=>p = .pointer (some ⟨w.heap.size+1,0,none⟩)/\Hid (Rg.Own wx w.heap.size (kc zk) 23)/\Hid (Rg.Own wx (w.heap.size+1) (ac M2) 173)/\Hid (Below w.heap.size w wx))
 case first =>
  have hs2:=HS2.out;have WF:Hid (¬ 9223372036854775807<s.size-m+(pO s.size).length):=hid (by have hz:gT s.size<64:=Nat.mod_lt _ (by omega); rw [rJ]; omega);refine aD (S:=λw'=>Below w.heap.size w w') (hB1.drew) λhld=>?_;replace h2:=h2.drew;replace h3:=h3.drew;refine aj 1 ?_;try simp only [Act.put,au]
  refine aj 2 ?_;try simp only [Act.put,au]
  refine aj 3 ?_;try simp only [Act.put,au]
  refine aj 4 ?_;try simp only [Act.put,au]
  refine aj 5 ?_;try simp only [Act.put,au]
  refine wpAnyH_ready (rs:=[0,6]) (by kernel_rfl) (by simp) ?_;refine Rg.readyC (i:=0) rfl (λK hK=>?_) (Rg.readyL (i:=6) rfl (λK hK=>?_))
  .refine Rg.meet (by rfl) _ _ (mF _ _ (w.heap.size+1) _ M1 ?_ h3.2 td.out) ?_
   .exact ⟨_,rfl,rfl⟩
   refine hK.out _ _ (hld) λhld=>?_;clear hK K;try simp only [Act.put,au]
   refine ak 6 λK hK=>?_;go_simp;go_at_call 107
   (with_reducible refine (cN.out _).mono ?_)
   rintro e bc ⟨rfl,hbx⟩;replace h2:=h2.below hbx;replace h3:=h3.below hbx;refine hK.out _ _ (Below.trans hld (hbx.mono hld.size)) λhld=>?_;clear hK K;try simp only [Act.put,au]
   refine aj 7 ?_ (hy:=by intro wz hSw; (have hcc:=WF.out); go_simp <;> with_reducible rfl);try simp only [Act.put,au]
   refine ak 8 λK hK=>?_;go_simp;go_at_call 106
   (with_reducible refine (g8.out _ (λi hi=>(hld.cell (p:=⟨0,i,none⟩) h0).trans (HK.out i hi))).mono ?_)
   rintro e wv1 ⟨rfl,hbx⟩;replace h2:=h2.below hbx;replace h3:=h3.below hbx;refine hK.out _ _ (Below.trans hld (hbx.mono hld.size)) λhld=>?_;clear hK K;try simp only [Act.put,au]
   refine ak 9 λK hK=>?_;refine Rg.meetStore (by rfl) h3 173 (ac M2) ⟨_,_,rfl,rfl,rfl⟩ (by rw [bC,xj.out]; exact jJ) (by rw [bC,bC,xj.out]; exact td.out) (iU _) ?_;rintro wv2 hn hu;replace h2:=h2.upd hu oA;refine hK.out _ _ ?_ (λhld=>?_)
   .exact hu.below hld fy
   replace h3:=hn;clear hK K hn hu;try simp only [Act.put]
   refine aC ?_;go_wp2_with fail
   go_meet
   exact ⟨rfl,hid h2,hid h3,hid hld⟩
  .go_simp;go_at_call 107
   (with_reducible refine (cN.out _).mono ?_)
   rintro e bc ⟨rfl,hbx⟩;replace h2:=h2.below hbx;replace h3:=h3.below hbx;refine hK.out _ _ (Below.trans hld (hbx.mono hld.size)) λhld=>?_;clear hK K;try simp only [Act.put,au]
   refine aj 7 ?_ (hy:=by intro wz hSw; (have hcc:=WF.out); go_simp <;> with_reducible rfl);try simp only [Act.put,au]
   refine ak 0 λK hK=>?_;refine Rg.meet (by rfl) _ _ (mF _ _ (w.heap.size+1) _ M1 ?_ h3.2 td.out) ?_
   .exact ⟨_,rfl,rfl⟩
   refine hK.out _ _ (hld) λhld=>?_;clear hK K;try simp only [Act.put,au]
   refine ak 8 λK hK=>?_;go_simp;go_at_call 106
   (with_reducible refine (g8.out _ (λi hi=>(hld.cell (p:=⟨0,i,none⟩) h0).trans (HK.out i hi))).mono ?_)
   rintro e wv1 ⟨rfl,hbx⟩;replace h2:=h2.below hbx;replace h3:=h3.below hbx;refine hK.out _ _ (Below.trans hld (hbx.mono hld.size)) λhld=>?_;clear hK K;try simp only [Act.put,au]
   refine ak 9 λK hK=>?_;refine Rg.meetStore (by rfl) h3 173 (ac M2) ⟨_,_,rfl,rfl,rfl⟩ (by rw [bC,xj.out]; exact jJ) (by rw [bC,bC,xj.out]; exact td.out) (iU _) ?_;rintro wv2 hn hu;replace h2:=h2.upd hu oA;refine hK.out _ _ ?_ (λhld=>?_)
   .exact hu.below hld fy
   replace h3:=hn;clear hK K hn hu;try simp only [Act.put]
   refine aC ?_;go_wp2_with fail
   go_meet
   exact ⟨rfl,hid h2,hid h3,hid hld⟩
 case rest =>
  obtain ⟨rfl,H2,H3,HB⟩:=hcut;obtain ⟨W,rfl⟩:∃ W:World,W=wc:=⟨_,rfl⟩
  have h3:=H3.out;have WN:Hid ((W.alloc (.cells (kc zk) 23)).heap[w.heap.size+1]? = some (.cells (ac M2) 173 (0,0))):=hid ((Lib.alloc_old _ _ _ h3.1).trans h3.2);have ly:Hid ((W.alloc (.cells (kc zk) 23)).rowIs W.heap.size 23 32 (λj=>.int .u8 (if j<4*0 then tV M2 j else 0:Nat))):=hid ((XC (heap_alloc_new _ _)).congr (λj _=>by rw [if_neg (by omega)]; rfl));have xi:=hid (λj hj wz=>vk M2 j hj xj.out wz);have C6:=hid (λj=>getD_lt HT2.out j);obtain ⟨A,hA⟩:=aA (ac M2)
  have Q7:Hid (A.size=8):=hid (by rw [<-hA,bC,xj.out]);rw [hA] at WN xi;clear h3 hA cN j2 g8 hmi h2 hB1 hld hbx;go_wp2_with (first | (refine fV rfl _ _ (jK _ _ rfl _ _ rfl) ?_) | (refine wpList_load_row rfl _ _ rfl (w.heap.size+1) rfl 173 A (0,0) _ WN.out underlying173 rfl (by rw [Q7.out]; exact jJ) ?_))
  go_loopw [30] (λi wx=>∃ q:Nat,q<=8/\i = .int .i64 q/\Hid (wx.rowIs W.heap.size 23 32 (λj=>.int .u8 (if j<4*q then tV M2 j else 0:Nat)))/\Hid (Below W.heap.size W wx)) (λi _=>8-(intOf i).toNat)
  case atStart=>exact ⟨0,by omega,rfl,ly,hid (aI.alloc aH _)⟩
  case round =>
   clear ly;obtain ⟨q,hq,rfl,HR,lw⟩:=hrel;by_cases hlt:q<8
   .have hix:=xi.out q hlt;have hxl:=C6.out q;have oB:=zL W.heap.size (4*q) 4 (32-4*q) (M2.getD q 0) 32 23 _ wr HR.out (by omega) (by omega);have Hc:Hid ((oP wr W.heap.size (4*q) 4 (M2.getD q 0) 4).rowIs W.heap.size 23 32 (λj=>.int .u8 (if j<4*(q+1) then tV M2 j else 0:Nat))):=hid ((sU HR.out 4).congr (λj _=>by
     by_cases h1:4*q<=j/\j<4*q+4
     .rw [if_pos h1,if_pos (by omega)];unfold upB tV;rw [show j/4=q by omega,show 4-1-(j-4*q)=3-j%4 by omega]
     .rw [if_neg h1];by_cases h2:j<4*q
      .rw [if_pos h2,if_pos (by omega)]
      .rw [if_neg h2,if_neg (by omega)]))
    have yl:Hid (Below W.heap.size W (oP wr W.heap.size (4*q) 4 (M2.getD q 0) 4)):=hid (rX lw.out aH 4);obtain ⟨x,hx⟩:=aA (M2.getD q 0)
    rw [hx] at hix hxl oB Hc yl;have oB:=hid oB;clear hx;have l0:(0:Int)<=4*(q:Int):=by omega
    have l1:4*(q:Int)<=4*(q:Int)+4:=by omega
    have l2:4*(q:Int)+4<=32:=by omega
    have l3:(4*(q:Int)).toNat=4*q:=by omega
    have l4:(4*(q:Int)+4).toNat=4*q+4:=by omega
    have l5:¬ 32=4*q:=by omega
    go_wp2_with fail
    refine oB.out.mono ?_;rintro e w3 ⟨rfl,rfl⟩;clear l0 l1 l2 l3 l4 l5 oB hix;go_wp2;go_roundw
    case rel=>exact ⟨q+1,by omega,by go_num,Hc,yl⟩
    case measure=>simp [intOf]; omega
   .obtain rfl:q=8:=by omega
    have HF:Hid (wr.heap[W.heap.size]? = some (.cells (kc (FJ s.data.toList)) 23 (0,0))):=hid (Ya _ HR.out (rZ _) (λj hj=>by
     rw [if_pos (by omega),<-HS.out];simp [uO,List.getD,hj];unfold tV;omega))
    have WP:Hid (Rg.Own wr w.heap.size (kc zk) 23):=hid (H2.out.below lw.out);have HB2:Hid (Below w.heap.size w wr):=hid (HB.out.trans (lw.out.mono HB.out.size));have hkl:=rZ s.data.toList;obtain ⟨K,hK⟩:=aA (FJ s.data.toList)
    have HKK:=sec hK;rw [hK] at hkl HF;have I9:=hid hkl;clear hK hkl HR xi C6;go_wp2_with (first | (refine wpList_load_row rfl _ _ rfl W.heap.size rfl 23 (kc K) (0,0) _ HF.out underlying23 rfl (jR K I9.out) ?_) | (refine wpList_store_rowTo rfl 23 _ _ rfl rfl _ (kc K) rfl rfl 23 (kc zk) WP.out.2 (jR K I9.out) (by rw [jy,jy,I9.out]; rfl) (FL _) ?_))
    exact bodyPost_ret (results_cell_row rfl _ _ w.heap.size 23 (kc K) (0,0) _ rfl (setRow_heap _ _ _ _ _ _ WP.out.2) underlying23 rfl (jR K I9.out)) rfl ⟨by rw [HKK.out],eU HB2.out (by omega) _⟩
end Sm
end
section
namespace ky
end ky
end
section
open Go.RowKit ky
end
section
open Go.RowKit ky
end
section
open Go.RowKit ky
namespace Tx
end Tx
namespace Rx
end Rx
end
section
open Go.RowKit
namespace Ni
end Ni
end
section
open Go.RowKit
namespace Sm
open Sh
def Tab (w:World):Prop:=∀ i,i<64->w.cell? ⟨0,i,none⟩=some (.int .u32 (kN i:Nat))
theorem Tab.pos (h:Tab w):0<w.heap.size:=World.block_lt_of_cell? w _ (h 0 (by omega))
theorem Tab.below {w':World} (h:Tab w) (hb:Below B w w') (hB:0<B):Tab w':=λi hi=>(hb.cell (p:=⟨0,i,none⟩) hB).trans (h i hi)
theorem Xi (w:World) (k:aN) (hk:k.length=32):bf (w.alloc (.cells (kc k) 23)) (some ⟨w.heap.size,0,none⟩) 32 32 k:=by
 have h:=bf.new w k (by unfold maxLen; omega) (kc k) 23 rfl;rw [hk] at h;exact h
theorem kZ (k:aN) (hk:k.length=32) (w:World) :
  Calls prog 174 #[.agg (kc k)] w λe w'=>e = .returned (.string ⟨k.toArray⟩)/\Below w.heap.size w w':=by
 have hcv:=lF (Xi w k hk);obtain ⟨C,hC⟩:=aA (kc k)
 obtain ⟨T,hT⟩:=aA (⟨k.toArray⟩:aM)
 rw [hC,hT] at hcv;rw [hC,hT];clear hC hT hk;go_enter func174,ntmps174;go_wp2;go_ret;exact ⟨rfl,aI.alloc aH _⟩
end Sm
end
end Go.Proofs.YtokaiemgjngcoaaGreatDoor
