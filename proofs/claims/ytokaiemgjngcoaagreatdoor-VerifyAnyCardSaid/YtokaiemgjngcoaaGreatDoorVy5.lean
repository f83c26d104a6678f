/-
 The contract of sum.mix.
-/
import Derived.Test.YtokaiemgjngcoaaGreatDoorVy4
import Derived.Deep.DeepCutAuto
import Derived.Lib.BufferWrite
import Derived.Lib.SlBuf
open Go.Lib (hid)
open Go.Proofs.Tryz
set_option linter.unusedSimpArgs false
set_option linter.unusedVariables false
set_option maxHeartbeats 40000000
set_option maxRecDepth 100000
namespace Go.Proofs.YtokaiemgjngcoaaGreatDoor
variable {w:World} {B g:Nat} {t:TypeId}
section
open Go.RowKit
namespace Sm
open Sh
theorem mH (ev:Operand->Value) (o:Oper) (g:Nat) (w:World) (l:List Nat) (ho:∃ x,o.op = .load 173 x/\ev x = .pointer (some ⟨g,0,none⟩)) (hg:w.heap[g]? = some (.cells (ac l) 173 (0,0))) (hl:l.length=8) :
  (execOp ev o).run prog w = .ok (.value (.agg (ac l))) w:=by
 obtain ⟨x,ho,hx⟩:=ho;have h:=run_loadVar_row (P:=prog) w g 173 173 (ac l) (0,0) _ hg underlying173 rfl (by rw [bG,hl]; exact jJ);unfold execOp;rw [ho];simp only [hx];simp [Instr.loadAt,Instr.sureAddr,h]
theorem vF (ev:Operand->Value) (o:Oper) (ho:o.op = .alloc 173) (w:World) (n:Nat) (hn:w.heap.size=n) :
  (execOp ev o).run prog w = .ok (.value (.pointer (some ⟨n,0,none⟩))) (w.alloc (.cells (za 8) 173)):=by
 subst hn; exact kQ ev o ho w
theorem WK (l:List Nat) (j x:Nat):(ac l).setIfInBounds j (.int .u32 x)=ac (l.set j x):=by simp [ac,List.map_set]
theorem JC (n x:Nat) (w:World) :
  Calls prog 149 #[.int .u32 n,.int .u32 x] w λe w'=>∃ b1 b2,e = .returned (.func (Fn.func 171) #[] #[.pointer (some ⟨b1,0,none⟩),.pointer (some ⟨b2,0,none⟩)])/\Rg.Own w' b1 #[.int .u32 n] 140/\Rg.Own w' b2 #[.int .u32 x] 140/\b1≠b2/\w.heap.size<=b1/\w.heap.size<=b2/\Below w.heap.size w w':=by
 refine (IL n x w).mono ?_;rintro e w' ⟨rfl,rfl⟩;refine ⟨_,_,rfl,(Rg.Own.new w _ _).below (aI.alloc aH _),?_,by omega,by omega,by omega,(aI.alloc aH _).alloc (by simp) _⟩;have:=Rg.Own.new (w.alloc (.cells #[.int .u32 n] 140)) #[.int .u32 x] 140;rw [show (w.alloc (.cells #[.int .u32 n] 140)).heap.size=w.heap.size+1 by simp] at this;exact this
theorem Vy (g bn bw kk wk:Nat) (l:List Nat) (hl:l.length=8) (hlt:∀ x∈l,x<4294967296) (w:World) (hg:w.heap[g]? = some (.cells (ac l) 173 (0,0))) (hn:Rg.Own w bn #[.int .u32 kk] 140) (hw:Rg.Own w bw #[.int .u32 wk] 140) :
  Calls prog 171 #[.pointer (some ⟨g,0,none⟩),.pointer (some ⟨bn,0,none⟩),.pointer (some ⟨bw,0,none⟩)] w λe w'=>e = .returned (.tuple #[])/\w'.heap[g]? = some (.cells (ac (rM kk wk l)) 173 (0,0))/\w.grownBy w' (some g):=by
 obtain ⟨x0,x1,x2,x3,x4,x5,x6,x7,rfl⟩:=eight l hl;exact Om g bn bw kk wk x0 x1 x2 x3 x4 x5 x6 x7 (hlt _ (by simp)) (hlt _ (by simp)) (hlt _ (by simp)) (hlt _ (by simp)) (hlt _ (by simp)) (hlt _ (by simp)) w hg (cell_of_row w bn 0 _ _ _ hn.2) (cell_of_row w bw 0 _ _ _ hw.2)
theorem vw (l:List Nat) (j:Nat) (hj:j<8) (hl:l.length=8) (w:World):(Instr.index 173 (.agg (ac l)) (.int .i64 j)).run prog w = .ok (.int .u32 (l.getD j 0:Nat)) w:=by
 obtain ⟨x0,x1,x2,x3,x4,x5,x6,x7,rfl⟩:=eight l hl;have hc:j=0\/j=1\/j=2\/j=3\/j=4\/j=5\/j=6\/j=7:=by omega
 rcases hc with rfl | rfl | rfl | rfl | rfl | rfl | rfl | rfl <;> rfl
theorem Qd (s:aM) (k:Nat):(s.extract (64*k) s.size).extract 64 (s.extract (64*k) s.size).size=s.extract (64*(k+1)) s.size:=by
 rw [ByteArray.extract_extract];congr 1;simp;omega
theorem Ho (s:aM) (k:Nat):lu (s.extract (64*k) s.size)=oQ s.data.toList k:=by
 funext q;unfold lu oQ;have e:(s.extract (64*k) s.size).data.toList=s.data.toList.drop (64*k):=by
  simp only [ByteArray.data_extract,Array.toList_extract,List.extract_eq_take_drop];rw [List.take_of_length_le (by simp)]
 rw [e,List.getD,List.getD,List.getElem?_drop]
theorem Lf (h:List Nat) (hh:h.length=8) (hlt:∀ x∈h,x<4294967296) (s:aM) (hs:s.size<=1000000) (w:World) (hK:∀ i,i<64->w.cell? ⟨0,i,none⟩=some (.int .u32 (kN i:Nat))) :
  Calls prog 106 #[.agg (ac h),.string s] w λe w'=>e = .returned (.agg (ac (mV s.data.toList h (s.size/64))))/\Below w.heap.size w w':=by
 have HL:=hid (xS s.data.toList h hh);have HT:=hid (KO s.data.toList h hlt);have h0:0<w.heap.size:=World.block_lt_of_cell? w _ (hK 0 (by omega));have HK:=hid hK;have kw:Hid ((w.alloc (.cells (ac h) 173)).heap[w.heap.size]? = some (.cells (ac (mV s.data.toList h 0)) 173 (0,0))):=hid (heap_alloc_new _ _);have e9:Hid (s=s.extract (64*0) s.size):=hid (by simp);obtain ⟨A,hA⟩:=aA (ac h)
 rw [hA] at kw ⊢;clear hA hh hlt hK;go_enter func106,ntmps106;go_wp2_with (refine eH rfl _ _ (vF _ _ rfl _ (w.heap.size+1) (by simp)) ?_)
 go_frame
 go_loopw [1] (λv wr=>∃ k:Nat,k<=s.size/64/\v = .string (s.extract (64*k) s.size)/\Hid (wr.heap[w.heap.size]? = some (.cells (ac (mV s.data.toList h k)) 173 (0,0)))/\Rg.Own wr (w.heap.size+1) (za 8) 173/\Below w.heap.size w wr) (λv _=>match v with | .string b=>b.size | _=>0)
 case atStart=>exact ⟨0,by omega,by rw [<-e9.out],hid ((Lib.alloc_old _ _ _ (by simp)).trans kw.out),by have:=Rg.Own.new (w.alloc (.cells A 173)) (za 8) 173; rwa [show (w.alloc (.cells A 173)).heap.size=w.heap.size+1 by simp] at this,(aI.alloc aH _).alloc (by simp) _⟩
 case round =>
  obtain ⟨k,hk,rfl,HH,cS,hB⟩:=hrel;have hsz:(s.extract (64*k) s.size).size=s.size-64*k:=by simp
  by_cases hlt:k<s.size/64
  .have h64:64<=(s.extract (64*k) s.size).size:=by omega
   have fL:=Es (s.extract (64*k) s.size) h64 (by omega);rw [Ho] at fL;have fL:=hid fL;have lz:=hid (iQ (oQ s.data.toList k) 64);have Z6:=hid (uM (oQ s.data.toList k) (λq=>UInt8.toNat_lt _) 64);have iu:=sec (show kY (oQ s.data.toList k) (mV s.data.toList h k)=mV s.data.toList h (k+1) from rfl);unfold kY at iu;obtain ⟨ws,hws⟩:=aA (jR (oQ s.data.toList k) 64)
   rw [hws] at fL lz Z6 iu;clear hws;have fN:=hid (HL.out k);have I8:=hid (HT.out k);have hBx:w.heap.size<wr.heap.size/\w.heap.size+1<wr.heap.size:=by have:=cS.1; omega
   obtain ⟨H,hH⟩:=aA (mV s.data.toList h k)
   rw [hH] at HH fN I8 iu;clear hH;obtain ⟨z,hz⟩:=aA (s.extract (64*k) s.size)
   rw [hz] at fL h64 hsz ⊢;have HZ:=sec hz;clear hz;go_upto_region 3 with fail
   go_cut [5,6] (λp q wx=>∃ b c,p = .pointer (some ⟨b,0,none⟩)/\q = .pointer (some ⟨c,0,none⟩)/\b≠c/\wr.heap.size<=b/\wr.heap.size<=c/\Hid (wx.heap[b]? = some (.cells (ac ws) 211 (0,0)))/\Hid (wx.heap[c]? = some (.cells (ac H) 173 (0,0)))/\Below wr.heap.size wr wx)
   case first =>
    refine aD (S:=λw'=>Below wr.heap.size wr w') (aI.drew) λhld=>?_;refine aj 0 ?_;try simp only [Act.put,au]
    refine aj 2 ?_ (hy:=by intro wz hSw; refine mH _ _ w.heap.size wz H ?_ (by rw [hSw.block _ hBx.1]; exact HH.out) fN.out; exact ⟨_,rfl,rfl⟩);try simp only [Act.put,au]
    refine wpAnyH_ready (rs:=[1,3,4]) (by kernel_rfl) (by simp) ?_;refine Rg.readyC (i:=1) rfl (λK hK=>?_) (Rg.readyC (i:=3) rfl (λK hK=>?_) (Rg.readyL (i:=4) rfl (λK hK=>?_)))
    .go_simp;go_at_call 148
     (with_reducible refine (fL.out _).mono ?_)
     rintro e il ⟨rfl,hbx⟩;refine hK.out _ _ (Below.trans hld (hbx.mono hld.size)) λhld=>?_;clear hK K;try simp only [Act.put,au]
     refine wpAnyH_ready (rs:=[3,4]) (by kernel_rfl) (by simp) ?_;refine Rg.readyC (i:=3) rfl (λK hK=>?_) (Rg.readyL (i:=4) rfl (λK hK=>?_))
     .refine Rg.meetAlloc (by rfl) (jE _ _ rfl _) ?_;rintro wv1 b3 lA h3 hbx;have gC:wr.heap.size<=b3:=by rw [lA]; exact Below.size hld
      clear lA;refine hK.out _ _ (Below.trans hld (hbx.mono hld.size)) λhld=>?_;clear hK K hbx;try simp only [Act.put,au]
      refine ak 4 λK hK=>?_;refine Rg.meetAlloc (by rfl) (kQ _ _ rfl _) ?_;rintro wv2 b4 lE h4 hbx;have k9:wr.heap.size<=b4:=by rw [lE]; exact Below.size hld
      have bi:b3≠b4:=by have:=h3.1; omega
      replace h3:=h3.below hbx;clear lE;refine hK.out _ _ (Below.trans hld (hbx.mono hld.size)) λhld=>?_;clear hK K hbx;try simp only [Act.put,au]
      refine ak 5 λK hK=>?_;refine Rg.meetStore (by rfl) h3 211 (ac ws) ⟨_,_,rfl,rfl,rfl⟩ (by rw [bG,lz.out]; exact nC) (by rw [bG,lz.out,za,bG]; simp) (je _) ?_;rintro Fk hn hu;replace h4:=h4.upd hu (Ne.symm bi);refine hK.out _ _ ?_ (λhld=>?_)
      .exact hu.below hld gC
      replace h3:=hn;clear hK K hn hu;try simp only [Act.put]
      refine ak 6 λK hK=>?_;refine Rg.meetStore (by rfl) h4 173 (ac H) ⟨_,_,rfl,rfl,rfl⟩ (by rw [bG,fN.out]; exact jJ) (by rw [bG,fN.out,za,bG]; simp) (je _) ?_;rintro Fl hn hu;replace h3:=h3.upd hu bi;refine hK.out _ _ ?_ (λhld=>?_)
      .exact hu.below hld k9
      replace h4:=hn;clear hK K hn hu;try simp only [Act.put]
      refine aC ?_;go_wp2_with fail
      go_meet
      exact ⟨b3,b4,rfl,rfl,bi,gC,k9,hid h3.2,hid h4.2,hld⟩
     .refine Rg.meetAlloc (by rfl) (kQ _ _ rfl _) ?_;rintro wv1 b4 lE h4 hbx;have k9:wr.heap.size<=b4:=by rw [lE]; exact Below.size hld
      clear lE;refine hK.out _ _ (Below.trans hld (hbx.mono hld.size)) λhld=>?_;clear hK K hbx;try simp only [Act.put,au]
      refine ak 3 λK hK=>?_;refine Rg.meetAlloc (by rfl) (jE _ _ rfl _) ?_;rintro wv2 b3 lA h3 hbx;have gC:wr.heap.size<=b3:=by rw [lA]; exact Below.size hld
      have bi:b3≠b4:=by have:=h4.1; omega
      replace h4:=h4.below hbx;clear lA;refine hK.out _ _ (Below.trans hld (hbx.mono hld.size)) λhld=>?_;clear hK K hbx;try simp only [Act.put,au]
      refine ak 5 λK hK=>?_;refine Rg.meetStore (by rfl) h3 211 (ac ws) ⟨_,_,rfl,rfl,rfl⟩ (by rw [bG,lz.out]; exact nC) (by rw [bG,lz.out,za,bG]; simp) (je _) ?_;rintro Fk hn hu;replace h4:=h4.upd hu (Ne.symm bi);refine hK.out _ _ ?_ (λhld=>?_)
      .exact hu.below hld gC
      replace h3:=hn;clear hK K hn hu;try simp only [Act.put]
      refine ak 6 λK hK=>?_;refine Rg.meetStore (by rfl) h4 173 (ac H) ⟨_,_,rfl,rfl,rfl⟩ (by rw [bG,fN.out]; exact jJ) (by rw [bG,fN.out,za,bG]; simp) (je _) ?_;rintro Fl hn hu;replace h3:=h3.upd hu bi;refine hK.out _ _ ?_ (λhld=>?_)
      .exact hu.below hld k9
      replace h4:=hn;clear hK K hn hu;try simp only [Act.put]
      refine aC ?_;go_wp2_with fail
      go_meet
      exact ⟨b3,b4,rfl,rfl,bi,gC,k9,hid h3.2,hid h4.2,hld⟩
    .refine Rg.meetAlloc (by rfl) (jE _ _ rfl _) ?_;rintro il b3 lA h3 hbx;have gC:wr.heap.size<=b3:=by rw [lA]; exact Below.size hld
     clear lA;refine hK.out _ _ (Below.trans hld (hbx.mono hld.size)) λhld=>?_;clear hK K hbx;try simp only [Act.put,au]
     refine wpAnyH_ready (rs:=[1,4]) (by kernel_rfl) (by simp) ?_;refine Rg.readyC (i:=1) rfl (λK hK=>?_) (Rg.readyL (i:=4) rfl (λK hK=>?_))
     .go_simp;go_at_call 148
      (with_reducible refine (fL.out _).mono ?_)
      rintro e wv1 ⟨rfl,hbx⟩;replace h3:=h3.below hbx;refine hK.out _ _ (Below.trans hld (hbx.mono hld.size)) λhld=>?_;clear hK K;try simp only [Act.put,au]
      refine ak 4 λK hK=>?_;refine Rg.meetAlloc (by rfl) (kQ _ _ rfl _) ?_;rintro wv2 b4 lE h4 hbx;have k9:wr.heap.size<=b4:=by rw [lE]; exact Below.size hld
      have bi:b3≠b4:=by have:=h3.1; omega
      replace h3:=h3.below hbx;clear lE;refine hK.out _ _ (Below.trans hld (hbx.mono hld.size)) λhld=>?_;clear hK K hbx;try simp only [Act.put,au]
      refine ak 5 λK hK=>?_;refine Rg.meetStore (by rfl) h3 211 (ac ws) ⟨_,_,rfl,rfl,rfl⟩ (by rw [bG,lz.out]; exact nC) (by rw [bG,lz.out,za,bG]; simp) (je _) ?_;rintro Fk hn hu;replace h4:=h4.upd hu (Ne.symm bi);refine hK.out _ _ ?_ (λhld=>?_)
      .exact hu.below hld gC
      replace h3:=hn;clear hK K hn hu;try simp only [Act.put]
      refine ak 6 λK hK=>?_;refine Rg.meetStore (by rfl) h4 173 (ac H) ⟨_,_,rfl,rfl,rfl⟩ (by rw [bG,fN.out]; exact jJ) (by rw [bG,fN.out,za,bG]; simp) (je _) ?_;rintro Fl hn hu;replace h3:=h3.upd hu bi;refine hK.out _ _ ?_ (λhld=>?_)
      .exact hu.below hld k9
      replace h4:=hn;clear hK K hn hu;try simp only [Act.put]
      refine aC ?_;go_wp2_with fail
      go_meet
      exact ⟨b3,b4,rfl,rfl,bi,gC,k9,hid h3.2,hid h4.2,hld⟩
     .refine Rg.meetAlloc (by rfl) (kQ _ _ rfl _) ?_;rintro wv1 b4 lE h4 hbx;have k9:wr.heap.size<=b4:=by rw [lE]; exact Below.size hld
      have bi:b3≠b4:=by have:=h3.1; omega
      replace h3:=h3.below hbx;clear lE;refine hK.out _ _ (Below.trans hld (hbx.mono hld.size)) λhld=>?_;clear hK K hbx;try simp only [Act.put,au]
      refine ak 1 λK hK=>?_;go_simp;go_at_call 148
      (with_reducible refine (fL.out _).mono ?_)
      rintro e wv2 ⟨rfl,hbx⟩;replace h3:=h3.below hbx;replace h4:=h4.below hbx;refine hK.out _ _ (Below.trans hld (hbx.mono hld.size)) λhld=>?_;clear hK K;try simp only [Act.put,au]
      refine ak 5 λK hK=>?_;refine Rg.meetStore (by rfl) h3 211 (ac ws) ⟨_,_,rfl,rfl,rfl⟩ (by rw [bG,lz.out]; exact nC) (by rw [bG,lz.out,za,bG]; simp) (je _) ?_;rintro Fk hn hu;replace h4:=h4.upd hu (Ne.symm bi);refine hK.out _ _ ?_ (λhld=>?_)
      .exact hu.below hld gC
      replace h3:=hn;clear hK K hn hu;try simp only [Act.put]
      refine ak 6 λK hK=>?_;refine Rg.meetStore (by rfl) h4 173 (ac H) ⟨_,_,rfl,rfl,rfl⟩ (by rw [bG,fN.out]; exact jJ) (by rw [bG,fN.out,za,bG]; simp) (je _) ?_;rintro Fl hn hu;replace h3:=h3.upd hu bi;refine hK.out _ _ ?_ (λhld=>?_)
      .exact hu.below hld k9
      replace h4:=hn;clear hK K hn hu;try simp only [Act.put]
      refine aC ?_;go_wp2_with fail
      go_meet
      exact ⟨b3,b4,rfl,rfl,bi,gC,k9,hid h3.2,hid h4.2,hld⟩
    .refine Rg.meetAlloc (by rfl) (kQ _ _ rfl _) ?_;rintro il b4 lE h4 hbx;have k9:wr.heap.size<=b4:=by rw [lE]; exact Below.size hld
     clear lE;refine hK.out _ _ (Below.trans hld (hbx.mono hld.size)) λhld=>?_;clear hK K hbx;try simp only [Act.put,au]
     refine wpAnyH_ready (rs:=[1,3]) (by kernel_rfl) (by simp) ?_;refine Rg.readyC (i:=1) rfl (λK hK=>?_) (Rg.readyL (i:=3) rfl (λK hK=>?_))
     .go_simp;go_at_call 148
      (with_reducible refine (fL.out _).mono ?_)
      rintro e wv1 ⟨rfl,hbx⟩;replace h4:=h4.below hbx;refine hK.out _ _ (Below.trans hld (hbx.mono hld.size)) λhld=>?_;clear hK K;try simp only [Act.put,au]
      refine ak 3 λK hK=>?_;refine Rg.meetAlloc (by rfl) (jE _ _ rfl _) ?_;rintro wv2 b3 lA h3 hbx;have gC:wr.heap.size<=b3:=by rw [lA]; exact Below.size hld
      have bi:b3≠b4:=by have:=h4.1; omega
      replace h4:=h4.below hbx;clear lA;refine hK.out _ _ (Below.trans hld (hbx.mono hld.size)) λhld=>?_;clear hK K hbx;try simp only [Act.put,au]
      refine ak 5 λK hK=>?_;refine Rg.meetStore (by rfl) h3 211 (ac ws) ⟨_,_,rfl,rfl,rfl⟩ (by rw [bG,lz.out]; exact nC) (by rw [bG,lz.out,za,bG]; simp) (je _) ?_;rintro Fk hn hu;replace h4:=h4.upd hu (Ne.symm bi);refine hK.out _ _ ?_ (λhld=>?_)
      .exact hu.below hld gC
      replace h3:=hn;clear hK K hn hu;try simp only [Act.put]
      refine ak 6 λK hK=>?_;refine Rg.meetStore (by rfl) h4 173 (ac H) ⟨_,_,rfl,rfl,rfl⟩ (by rw [bG,fN.out]; exact jJ) (by rw [bG,fN.out,za,bG]; simp) (je _) ?_;rintro Fl hn hu;replace h3:=h3.upd hu bi;refine hK.out _ _ ?_ (λhld=>?_)
      .exact hu.below hld k9
      replace h4:=hn;clear hK K hn hu;try simp only [Act.put]
      refine aC ?_;go_wp2_with fail
      go_meet
      exact ⟨b3,b4,rfl,rfl,bi,gC,k9,hid h3.2,hid h4.2,hld⟩
     .refine Rg.meetAlloc (by rfl) (jE _ _ rfl _) ?_;rintro wv1 b3 lA h3 hbx;have gC:wr.heap.size<=b3:=by rw [lA]; exact Below.size hld
      have bi:b3≠b4:=by have:=h4.1; omega
      replace h4:=h4.below hbx;clear lA;refine hK.out _ _ (Below.trans hld (hbx.mono hld.size)) λhld=>?_;clear hK K hbx;try simp only [Act.put,au]
      refine ak 1 λK hK=>?_;go_simp;go_at_call 148
      (with_reducible refine (fL.out _).mono ?_)
      rintro e wv2 ⟨rfl,hbx⟩;replace h4:=h4.below hbx;replace h3:=h3.below hbx;refine hK.out _ _ (Below.trans hld (hbx.mono hld.size)) λhld=>?_;clear hK K;try simp only [Act.put,au]
      refine ak 5 λK hK=>?_;refine Rg.meetStore (by rfl) h3 211 (ac ws) ⟨_,_,rfl,rfl,rfl⟩ (by rw [bG,lz.out]; exact nC) (by rw [bG,lz.out,za,bG]; simp) (je _) ?_;rintro Fk hn hu;replace h4:=h4.upd hu (Ne.symm bi);refine hK.out _ _ ?_ (λhld=>?_)
      .exact hu.below hld gC
      replace h3:=hn;clear hK K hn hu;try simp only [Act.put]
      refine ak 6 λK hK=>?_;refine Rg.meetStore (by rfl) h4 173 (ac H) ⟨_,_,rfl,rfl,rfl⟩ (by rw [bG,fN.out]; exact jJ) (by rw [bG,fN.out,za,bG]; simp) (je _) ?_;rintro Fl hn hu;replace h3:=h3.upd hu bi;refine hK.out _ _ ?_ (λhld=>?_)
      .exact hu.below hld k9
      replace h4:=hn;clear hK K hn hu;try simp only [Act.put]
      refine aC ?_;go_wp2_with fail
      go_meet
      exact ⟨b3,b4,rfl,rfl,bi,gC,k9,hid h3.2,hid h4.2,hld⟩
   case rest =>
    obtain ⟨b,c,rfl,rfl,hbc,hgb,hgc,td,mC,xt⟩:=hcut;obtain ⟨wo,rfl⟩:∃ wo:World,wo=wr:=⟨_,rfl⟩
    clear fL;have hlb:b<wc.heap.size:=by have:=td.out; rcases Nat.lt_or_ge b wc.heap.size with h' | h'; exact h'; rw [Array.getElem?_eq_none h'] at this; cases this
    have hlc:c<wc.heap.size:=by have:=mC.out; rcases Nat.lt_or_ge c wc.heap.size with h' | h'; exact h'; rw [Array.getElem?_eq_none h'] at this; cases this
    have HB:=hid hB;have ic:=hid xt;have eb:=sec hsz;clear hB xt hsz;go_wp2_with fail
    go_loopw [19] (λi wx=>∃ j:Nat,j<=64/\i = .int .i64 j/\Hid (Rg.Own wx b (ac ws) 211)/\Hid (Rg.Own wx c (ac (rA ws H j)) 173)/\Hid (Below wo.heap.size wo wx)) (λi _=>64-(intOf i).toNat)
    case atStart=>exact ⟨0,by omega,rfl,hid ⟨hlb,td.out⟩,hid ⟨hlc,mC.out⟩,ic⟩
    case round =>
     clear td mC ic hlb hlc;obtain ⟨j,hj,rfl,td,mC,ic⟩:=hrel;by_cases hlt2:j<64
     .have hkj:=(ic.out.cell (p:=⟨0,j,none⟩) (by show 0<wo.heap.size; omega)).trans ((HB.out.cell (p:=⟨0,j,none⟩) h0).trans (HK.out j hlt2));have V8:wr.cell? ⟨b,j,none⟩=some (.int .u32 (ws.getD j 0:Nat)):=(cell_of_row wr b j _ _ _ td.out.2).trans (Jg ws j (by rw [lz.out]; exact hlt2));have PJ:=hid hkj;have PM:=hid V8;have h0r:0<wr.heap.size:=by have:=ic.out.size; omega
      have hbr:=td.out.1;have dg:=hid (xY ws H fN.out j);have V9:=hid (uL ws H I8.out j);have sg:=sec (show rM (kN j) (ws.getD j 0) (rA ws H j)=rA ws H (j+1) from rfl);obtain ⟨L,hL⟩:=aA (rA ws H j)
      obtain ⟨kk,hkk⟩:=aA (kN j)
      obtain ⟨wk,hwk⟩:=aA (ws.getD j 0)
      rw [hL] at mC dg V9 sg;rw [hkk] at PJ sg;rw [hwk] at PM sg;clear hL hkk hwk hkj V8;have Vc:=hid (JC kk wk);have l0:(0:Int)<=(j:Int):=by omega
      have l1:(j:Int)<64:=by omega
      go_wp2_with fail
      refine aD (S:=λw'=>Below wr.heap.size wr w') (aI.drew) λhld=>?_;refine aj 0 ?_;try simp only [Act.put,au]
      refine aj 1 ?_;try simp only [Act.put,au]
      refine aj 2 ?_ (hy:=by intro wz hSw; (have hc:=(hSw.cell (p:=⟨0,j,none⟩) h0r).trans PJ.out); go_simp <;> with_reducible rfl);try simp only [Act.put,au]
      refine aj 3 ?_;try simp only [Act.put,au]
      refine aj 4 ?_;try simp only [Act.put,au]
      refine aj 5 ?_ (hy:=by intro wz hSw; (have hc:=(hSw.cell (p:=⟨b,j,none⟩) hbr).trans PM.out); go_simp <;> with_reducible rfl);try simp only [Act.put,au]
      refine ak 6 λK hK=>?_;go_simp;go_at_call 149
      (with_reducible refine (Vc.out _).mono ?_)
      rintro e il ⟨q1,q2,rfl,ho1,ho2,hq12,hg1,hg2,hbx⟩;refine hK.out _ _ (Below.trans hld (hbx.mono hld.size)) λhld=>?_;clear hK K;try simp only [Act.put,au]
      refine aj 7 ?_;try simp only [Act.put,au]
      refine aC ?_;clear l0 l1 Vc PJ PM;go_wp2_with fail
      refine (Vy c q1 q2 kk wk L dg.out V9.out _ (by rw [hbx.block _ mC.out.1]; exact mC.out.2) ho1 ho2).mono ?_;rintro e w4 ⟨rfl,hc4,hg4⟩;have I9:=hid hc4;clear hc4;go_wp2_with fail
      go_roundw
      case rel =>
       have hbl:=td.out.below hld;refine ⟨j+1,by omega,by go_num,hid ⟨aJ hbl.1 hg4.size,(hg4.block _ hbl.1 (by simpa using hbc)).trans hbl.2⟩,hid ⟨aJ (mC.out.below hld).1 hg4.size,by rw [<-sg.out]; exact I9.out⟩,hid ((ic.out.trans (hld.mono ic.out.size)).grown hg4 (ic.out.trans (hld.mono ic.out.size)).size (λg hg=>by cases hg; exact hgc))⟩
      case measure=>simp [intOf]; omega
     .have Fm:j=64:=by omega
      rw [Fm] at mC;clear Fm;have PP:=hid (xY ws H fN.out 64);have VC:=hid (uL ws H I8.out 64);obtain ⟨V,hV⟩:=aA (rA ws H 64)
      rw [hV] at mC PP VC iu;clear hV;have rK:Hid (Rg.Own wr w.heap.size (ac (uJ H V 0)) 173):=hid ⟨by have:=ic.out.size; omega,by rw [ic.out.block _ hBx.1,Ny _ _ fN.out]; exact HH.out⟩;have cf:Hid (Rg.Own wr (w.heap.size+1) (za 8) 173):=hid ((cS.below (ic.out.mono aH)));have xv:=hid (λj hj wz=>vw V j hj PP.out wz);obtain ⟨AV,PQ⟩:=aA (ac V)
      have hAs:AV.size=8:=by rw [<-PQ,bG,PP.out]
      rw [PQ] at mC xv;have PR:=hid hAs;clear PQ hAs td;go_wp2_with (first | (refine wpList_load_row rfl _ _ rfl c rfl 173 AV (0,0) _ mC.out.2 underlying173 rfl (by rw [PR.out]; exact jJ) ?_))
      obtain ⟨wp,rfl⟩:∃ wp:World,wp=wr:=⟨_,rfl⟩
      clear hlt2;go_loopw [33] (λi wx=>∃ q:Nat,q<=8/\i = .int .i64 q/\Hid (Rg.Own wx w.heap.size (ac (uJ H V q)) 173)/\Hid (Rg.Upd wp w.heap.size wx)) (λi _=>8-(intOf i).toNat)
      case atStart=>exact ⟨0,by omega,rfl,rK,hid ⟨rfl,rfl,rfl,rfl,λ_ _=>rfl⟩⟩
      case round =>
       clear rK;obtain ⟨q,hq,rfl,rK,tf⟩:=hrel;by_cases hlt3:q<8
       .have hix:=xv.out q hlt3;have hcl:=(cell_of_row wr w.heap.size q _ _ _ rK.out.2).trans (Jg (uJ H V q) q (by rw [oo]; exact hlt3));have hfz:=frozen_of_row wr w.heap.size q _ _ rK.out.2;rw [Mf H V q hlt3] at hcl;have HN:=sec (QA H V q hlt3);have bx:=getD_lt I8.out q;have bv:=getD_lt VC.out q;obtain ⟨x,hx⟩:=aA (H.getD q 0)
        obtain ⟨y,hy⟩:=aA (V.getD q 0)
        rw [hx] at hcl bx HN;rw [hy] at hix bv HN;clear hx hy;have hv:((x:Int)+y)%4294967296=((x+y)%4294967296:Nat):=by omega
        have Z7:=sec hv;clear hv;go_wp2;go_roundw
        case rel =>
         refine ⟨q+1,by omega,by go_num,?_,?_⟩
         .rw [Z7.out];exact hid ⟨by simpa using rK.out.1,by rw [heap_setCell_same _ _ _ _ _ _ rK.out.2,WK,HN.out]⟩
         .exact hid ⟨tf.out.os,tf.out.tape,tf.out.output,by simpa using tf.out.size,λk hk=>(heap_setCell_other _ _ _ _ hk).trans (tf.out.block k hk)⟩
        case measure=>simp [intOf]; omega
       .obtain rfl:q=8:=by omega
        have HF:Hid (Rg.Own wr w.heap.size (ac (mV s.data.toList h (k+1))) 173):=hid (by rw [<-iu.out,<-Qz]; exact rK.out);have cG:Hid (Rg.Own wr (w.heap.size+1) (za 8) 173):=hid (cf.out.upd tf.out (by omega));have bd:Hid (Below w.heap.size w wr):=hid (tf.out.below (HB.out.trans (ic.out.mono HB.out.size)) aH);have HE:Hid (z.extract 64 (s.size-64*k)=s.extract (64*(k+1)) s.size):=hid (by rw [<-eb.out,<-HZ.out]; exact Qd s k);have hz3:z.size=s.size-64*k:=eb.out
        have Z8:Hid ((s.extract (64*(k+1)) s.size).size=s.size-64*(k+1)):=hid (by simp);have hzs:64<=(z.size:Int):=by omega
        clear rK tf cf xv hlt3 hq;go_wp2;go_roundw
        case rel=>exact ⟨k+1,by omega,by rw [<-HE.out],hid HF.out.2,cG.out,bd.out⟩
        case measure =>
         show (z.extract 64 (s.size-64*k)).size<z.size;rw [HE.out,Z8.out];omega
  .obtain rfl:k=s.size/64:=by omega
   have fN:=hid (HL.out (s.size/64));obtain ⟨H,hH⟩:=aA (mV s.data.toList h (s.size/64))
   have sT:=sec hH;rw [hH] at HH fN;have cS:=hid cS;clear hH kw e9;have hsz2:((s.extract (64*(s.size/64)) s.size).size:Int)<64:=by omega
   obtain ⟨z,hz⟩:=aA (s.extract (64*(s.size/64)) s.size)
   rw [hz] at hsz2 ⊢;clear hz hsz hlt hk;go_wp2_with (first | (refine wpList_load_row rfl _ _ rfl w.heap.size rfl 173 (ac H) (0,0) _ HH.out underlying173 rfl (by rw [bG,fN.out]; exact jJ) ?_) | (refine wpList_store_rowTo rfl 173 _ _ rfl rfl _ (ac H) rfl rfl 173 (za 8) cS.out.2 (by rw [bG,fN.out]; exact jJ) (by rw [bG,fN.out,za,bG]; simp) (je _) ?_))
   exact bodyPost_ret (results_cell_row rfl _ _ (w.heap.size+1) 173 (ac H) (0,0) _ rfl (setRow_heap _ _ _ _ _ _ cS.out.2) underlying173 rfl (by rw [bG,fN.out]; exact jJ)) rfl ⟨by rw [sT.out],bI hB (by omega) _⟩
def kc (k:aN):aO:=(k.map λb=>Value.int .u8 b.toNat).toArray
theorem gy (k:aN):(kc k).size=k.length:=by simp [kc]
theorem tO (k:aN):(kc k).all (·.oneCell')=true:=by
 rw [Array.all_eq_true];intro i hi;simp [kc];rfl
theorem RN:(prog.info? 23).map (·.size)=some 32:=by kernel_rfl
theorem gq (k:aN) (h:k.length=32):(prog.info? 23).map (·.size)=some (kc k).size:=by rw [gy,h]; exact RN
def zk:aN:=List.replicate 32 0
theorem fH (ev:Operand->Value) (o:Oper) (ho:o.op = .alloc 23) (w:World) (n:Nat) (hn:w.heap.size=n) :
  (execOp ev o).run prog w = .ok (.value (.pointer (some ⟨n,0,none⟩))) (w.alloc (.cells (kc zk) 23)):=by
 subst hn;unfold execOp;rw [ho];kernel_rfl
theorem PL (l:aN) {f:Nat->Value} (h:w.rowIs g t 32 f) (hl:l.length=32) (hf:∀ j,j<32->f j = .int .u8 (l.getD j 0).toNat):w.heap[g]? = some (.cells (kc l) t (0,0)):=by
 obtain ⟨c,hg,hs,hc⟩:=h;have:c=kc l:=by
  apply Array.ext
  .rw [hs,gy,hl]
  .intro i hi h2;have h1:=hc i (by omega);rw [hf i (by omega),Array.getElem?_eq_getElem hi] at h1;have h3:=Option.some.inj h1;rw [h3];have h4:i<l.length:=by omega
   simp [kc,List.getD,h4]
 rw [hg,this]
theorem TA (h:w.heap[g]? = some (.cells (kc zk) t (0,0))):w.rowIs g t 32 (λ_=>.int .u8 0) :=
 ⟨_,h,rfl,λi hi=>by
  show ((zk.map λb=>Value.int .u8 b.toNat).toArray)[i]? = _;have hz:zk[i]? = some 0:=by
   unfold zk;rw [List.getElem?_replicate,if_pos hi]
  rw [List.getElem?_toArray,List.getElem?_map,hz];rfl⟩
theorem start_lt:∀ x∈Sh.start,x<4294967296:=by decide
theorem TU (s:aM) (m:Nat) (hm:m=s.size-s.size%64) :
  mV ((s.extract m s.size).data.toList++pW s.size) (mV (s.extract 0 m).data.toList Sh.start ((s.extract 0 m).size/64)) (((s.extract m s.size).data.toList++pW s.size).length/64)=nS (iP s.data.toList) ((iP s.data.toList).length/64):=by
 have e1:(s.extract 0 m).data.toList=s.data.toList.take m:=by simp
 have e2:(s.extract m s.size).data.toList=s.data.toList.drop m:=by
  simp only [ByteArray.data_extract,Array.toList_extract,List.extract_eq_take_drop];rw [List.take_of_length_le (by simp)]
 have hl:s.data.toList.length=s.size:=by simp
 have e3:(s.extract 0 m).size=m:=by simp; omega
 have e4:iP s.data.toList=s.data.toList.take m++(s.data.toList.drop m++pW s.size):=by
  rw [MX,hl,<-List.append_assoc,List.take_append_drop]
 have hmd:=Cj s.data.toList;rw [e1,e2,e3,<-Bw,e4];rw [e4] at hmd;have hlen:(s.data.toList.take m++(s.data.toList.drop m++pW s.size)).length=m+(s.data.toList.drop m++pW s.size).length:=by
  rw [List.length_append,List.length_take,hl];congr 1;omega
 rw [hlen] at hmd ⊢;rw [show (m+(s.data.toList.drop m++pW s.size).length)/64=m/64+(s.data.toList.drop m++pW s.size).length/64 by omega];exact (DC _ _ (m/64) (by rw [List.length_take,hl]; omega) _ _).symm
theorem Kv (s:aM) (hs:s.size<=900000) (w:World) (hK:∀ i,i<64->w.cell? ⟨0,i,none⟩=some (.int .u32 (kN i:Nat))) :
  Calls prog 62 #[.string s] w λe w'=>e = .returned (.agg (kc (ze s.data.toList)))/\Below w.heap.size w w':=by
 have h0:0<w.heap.size:=World.block_lt_of_cell? w _ (hK 0 (by omega));have HK:=hid hK;have dT:=hid (Ev s.size (by omega));obtain ⟨m,hm⟩:=aA (s.size-s.size%64)
 have Z9:(s.size:Int)-s.size%64=m:=by omega
 have hml:m<=s.size:=by omega
 have hF:=TU s m hm.symm;have tg:=hid (xS (s.extract 0 m).data.toList Sh.start rfl ((s.extract 0 m).size/64));have hT1:=KO (s.extract 0 m).data.toList Sh.start start_lt ((s.extract 0 m).size/64);have kx:=hid (λW hk=>Lf Sh.start rfl start_lt (s.extract 0 m) (by simp; omega) W hk);obtain ⟨M1,hM1⟩:=aA (mV (s.extract 0 m).data.toList Sh.start ((s.extract 0 m).size/64))
 rw [hM1] at tg hT1 hF kx;obtain ⟨s2,hs2⟩:=aA (s.extract m s.size++⟨(pW s.size).toArray⟩)
 have hd2:s2.data.toList=(s.extract m s.size).data.toList++pW s.size:=by rw [<-hs2,ByteArray.data_append]; simp
 have hz2:s2.size=((s.extract m s.size).data.toList++pW s.size).length:=by rw [<-hd2]; simp
 have hz:iy s.size<64:=Nat.mod_lt _ (by omega);have ie:=hid (λW hk=>Lf M1 tg.out hT1 s2 (by rw [hz2,List.length_append,rO]; simp; omega) W hk);rw [<-hd2,show s2.data.toList.length=s2.size by simp] at hF;rw [hF] at ie;have xw:=hid (uX (iP s.data.toList) ((iP s.data.toList).length/64));have HT2:=hid (Gw (iP s.data.toList) ((iP s.data.toList).length/64));have HS:=sec (show tX (nS (iP s.data.toList) ((iP s.data.toList).length/64)) 32=ze s.data.toList from rfl);obtain ⟨M2,hM2⟩:=aA (nS (iP s.data.toList) ((iP s.data.toList).length/64))
 rw [hM2] at ie xw HT2 HS;have HS2:=hid hs2;clear hT1 hF hd2 hz2 hz hM2 hs2;clear hK hm hM1;go_enter func62,ntmps62;go_upto_region 3 with (first | (refine eH rfl _ _ (fH _ _ rfl _ w.heap.size rfl) ?_) | (refine eH rfl _ _ (vF _ _ rfl _ (w.heap.size+1) (by simp)) ?_) | (refine wpList_store_rowTo rfl 173 _ _ rfl rfl (w.heap.size+1) (ac Sh.start) rfl rfl 173 (za 8) (by have:=heap_alloc_new (w.alloc (.cells (kc zk) 23)) (.cells (za 8) 173); simpa using this) jJ rfl (je _) ?_))
 have h2:Rg.Own (((w.alloc (.cells (kc zk) 23)).alloc (.cells (za 8) 173)).setRow (w.heap.size+1) (ac Sh.start)) w.heap.size (kc zk) 23 :=
  ((Rg.Own.new w _ _).below (aI.alloc aH _)).upd (Rg.Upd.set _ _ _) (by omega)
 have h3:Rg.Own (((w.alloc (.cells (kc zk) 23)).alloc (.cells (za 8) 173)).setRow (w.heap.size+1) (ac Sh.start)) (w.heap.size+1) (ac Sh.start) 173 :=
  ⟨by simp,setRow_heap _ _ _ _ _ _ (by have:=heap_alloc_new (w.alloc (.cells (kc zk) 23)) (.cells (za 8) 173); simpa using this)⟩
 have hB0:Below w.heap.size w (((w.alloc (.cells (kc zk) 23)).alloc (.cells (za 8) 173)).setRow (w.heap.size+1) (ac Sh.start)) :=
  bI ((aI.alloc aH _).alloc (by simp) _) (by omega) _
 generalize (((w.alloc (.cells (kc zk) 23)).alloc (.cells (za 8) 173)).setRow (w.heap.size+1) (ac Sh.start))=W0 at h2 h3 hB0 ⊢;have ZH:w.heap.size<=w.heap.size:=aH;have gC:w.heap.size<=w.heap.size+1:=by omega
 have pr:w.heap.size≠w.heap.size+1:=by omega
 refine aD (S:=λw'=>Below w.heap.size w w') (hB0.drew) λhld=>?_;replace h2:=h2.drew;replace h3:=h3.drew;refine aj 1 ?_;try simp only [Act.put,au]
 refine aj 2 ?_;try simp only [Act.put,au]
 refine aj 3 ?_;try simp only [Act.put,au]
 refine ak 0 λK hK=>?_;refine Rg.meet (by rfl) _ _ (mH _ _ (w.heap.size+1) _ Sh.start ?_ h3.2 rfl) ?_
 .exact ⟨_,rfl,rfl⟩
 refine hK.out _ _ (hld) λhld=>?_;clear hK K;try simp only [Act.put,au]
 refine ak 4 λK hK=>?_;go_simp;go_at_call 106
 (with_reducible refine (kx.out _ (λi hi=>(hld.cell (p:=⟨0,i,none⟩) h0).trans (HK.out i hi))).mono ?_)
 rintro e il ⟨rfl,hbx⟩;replace h2:=h2.below hbx;replace h3:=h3.below hbx;refine hK.out _ _ (Below.trans hld (hbx.mono hld.size)) λhld=>?_;clear hK K;try simp only [Act.put,au]
 refine ak 5 λK hK=>?_;refine Rg.meetStore (by rfl) h3 173 (ac M1) ⟨_,_,rfl,rfl,rfl⟩ (by rw [bG,tg.out]; exact jJ) (by rw [bG,bG,tg.out]; exact rfl) (je _) ?_;rintro wv1 hn hu;replace h2:=h2.upd hu pr;refine hK.out _ _ ?_ (λhld=>?_)
 .exact hu.below hld gC
 replace h3:=hn;clear hK K hn hu;try simp only [Act.put]
 refine aC ?_;go_wp2_with fail
 have hB1:=hld;clear hld;go_cut [3] (λp wx=>p = .pointer (some ⟨w.heap.size+1,0,none⟩)/\Hid (Rg.Own wx w.heap.size (kc zk) 23)/\Hid (Rg.Own wx (w.heap.size+1) (ac M2) 173)/\Hid (Below w.heap.size w wx))
 case first =>
  have hs2:=HS2.out;have VM:Hid (¬ 9223372036854775807<s.size-m+(pW s.size).length):=hid (by have hz:iy s.size<64:=Nat.mod_lt _ (by omega); rw [rO]; omega);refine aD (S:=λw'=>Below w.heap.size w w') (hB1.drew) λhld=>?_;replace h2:=h2.drew;replace h3:=h3.drew;refine aj 1 ?_;try simp only [Act.put,au]
  refine aj 2 ?_;try simp only [Act.put,au]
  refine aj 3 ?_;try simp only [Act.put,au]
  refine aj 4 ?_;try simp only [Act.put,au]
  refine aj 5 ?_;try simp only [Act.put,au]
  refine wpAnyH_ready (rs:=[0,6]) (by kernel_rfl) (by simp) ?_;refine Rg.readyC (i:=0) rfl (λK hK=>?_) (Rg.readyL (i:=6) rfl (λK hK=>?_))
  .refine Rg.meet (by rfl) _ _ (mH _ _ (w.heap.size+1) _ M1 ?_ h3.2 tg.out) ?_
   .exact ⟨_,rfl,rfl⟩
   refine hK.out _ _ (hld) λhld=>?_;clear hK K;try simp only [Act.put,au]
   refine ak 6 λK hK=>?_;go_simp;go_at_call 107
   (with_reducible refine (dT.out _).mono ?_)
   rintro e il ⟨rfl,hbx⟩;replace h2:=h2.below hbx;replace h3:=h3.below hbx;refine hK.out _ _ (Below.trans hld (hbx.mono hld.size)) λhld=>?_;clear hK K;try simp only [Act.put,au]
   refine aj 7 ?_ (hy:=by intro wz hSw; (have hcc:=VM.out); go_simp <;> with_reducible rfl);try simp only [Act.put,au]
   refine ak 8 λK hK=>?_;go_simp;go_at_call 106
   (with_reducible refine (ie.out _ (λi hi=>(hld.cell (p:=⟨0,i,none⟩) h0).trans (HK.out i hi))).mono ?_)
   rintro e wv1 ⟨rfl,hbx⟩;replace h2:=h2.below hbx;replace h3:=h3.below hbx;refine hK.out _ _ (Below.trans hld (hbx.mono hld.size)) λhld=>?_;clear hK K;try simp only [Act.put,au]
   refine ak 9 λK hK=>?_;refine Rg.meetStore (by rfl) h3 173 (ac M2) ⟨_,_,rfl,rfl,rfl⟩ (by rw [bG,xw.out]; exact jJ) (by rw [bG,bG,xw.out]; exact tg.out) (je _) ?_;rintro wv2 hn hu;replace h2:=h2.upd hu pr;refine hK.out _ _ ?_ (λhld=>?_)
   .exact hu.below hld gC
   replace h3:=hn;clear hK K hn hu;try simp only [Act.put]
   refine aC ?_;go_wp2_with fail
   go_meet
   exact ⟨rfl,hid h2,hid h3,hid hld⟩
  .go_simp;go_at_call 107
   (with_reducible refine (dT.out _).mono ?_)
   rintro e il ⟨rfl,hbx⟩;replace h2:=h2.below hbx;replace h3:=h3.below hbx;refine hK.out _ _ (Below.trans hld (hbx.mono hld.size)) λhld=>?_;clear hK K;try simp only [Act.put,au]
   refine aj 7 ?_ (hy:=by intro wz hSw; (have hcc:=VM.out); go_simp <;> with_reducible rfl);try simp only [Act.put,au]
   refine ak 0 λK hK=>?_;refine Rg.meet (by rfl) _ _ (mH _ _ (w.heap.size+1) _ M1 ?_ h3.2 tg.out) ?_
   .exact ⟨_,rfl,rfl⟩
   refine hK.out _ _ (hld) λhld=>?_;clear hK K;try simp only [Act.put,au]
   refine ak 8 λK hK=>?_;go_simp;go_at_call 106
   (with_reducible refine (ie.out _ (λi hi=>(hld.cell (p:=⟨0,i,none⟩) h0).trans (HK.out i hi))).mono ?_)
   rintro e wv1 ⟨rfl,hbx⟩;replace h2:=h2.below hbx;replace h3:=h3.below hbx;refine hK.out _ _ (Below.trans hld (hbx.mono hld.size)) λhld=>?_;clear hK K;try simp only [Act.put,au]
   refine ak 9 λK hK=>?_;refine Rg.meetStore (by rfl) h3 173 (ac M2) ⟨_,_,rfl,rfl,rfl⟩ (by rw [bG,xw.out]; exact jJ) (by rw [bG,bG,xw.out]; exact tg.out) (je _) ?_;rintro wv2 hn hu;replace h2:=h2.upd hu pr;refine hK.out _ _ ?_ (λhld=>?_)
   .exact hu.below hld gC
   replace h3:=hn;clear hK K hn hu;try simp only [Act.put]
   refine aC ?_;go_wp2_with fail
   go_meet
   exact ⟨rfl,hid h2,hid h3,hid hld⟩
 case rest =>
  obtain ⟨rfl,H2,H3,HB⟩:=hcut;obtain ⟨W,rfl⟩:∃ W:World,W=wc:=⟨_,rfl⟩
  have h3:=H3.out;have VS:Hid ((W.alloc (.cells (kc zk) 23)).heap[w.heap.size+1]? = some (.cells (ac M2) 173 (0,0))):=hid ((Lib.alloc_old _ _ _ h3.1).trans h3.2);have io:Hid ((W.alloc (.cells (kc zk) 23)).rowIs W.heap.size 23 32 (λj=>.int .u8 (if j<4*0 then sW M2 j else 0:Nat))):=hid ((TA (heap_alloc_new _ _)).congr (λj _=>by rw [if_neg (by omega)]; rfl));have xv:=hid (λj hj wz=>vw M2 j hj xw.out wz);have Bk:=hid (λj=>getD_lt HT2.out j);obtain ⟨A,hA⟩:=aA (ac M2)
  have PR:Hid (A.size=8):=hid (by rw [<-hA,bG,xw.out]);rw [hA] at VS xv;clear h3 hA dT kx ie Z9 h2 hB1 hld hbx;go_wp2_with (first | (refine eH rfl _ _ (fH _ _ rfl _ _ rfl) ?_) | (refine wpList_load_row rfl _ _ rfl (w.heap.size+1) rfl 173 A (0,0) _ VS.out underlying173 rfl (by rw [PR.out]; exact jJ) ?_))
  go_loopw [30] (λi wx=>∃ q:Nat,q<=8/\i = .int .i64 q/\Hid (wx.rowIs W.heap.size 23 32 (λj=>.int .u8 (if j<4*q then sW M2 j else 0:Nat)))/\Hid (Below W.heap.size W wx)) (λi _=>8-(intOf i).toNat)
  case atStart=>exact ⟨0,by omega,rfl,io,hid (aI.alloc aH _)⟩
  case round =>
   clear io;obtain ⟨q,hq,rfl,HR,mz⟩:=hrel;by_cases hlt:q<8
   .have hix:=xv.out q hlt;have hxl:=Bk.out q;have pt:=yE W.heap.size (4*q) 4 (32-4*q) (M2.getD q 0) 32 23 _ wr HR.out (by omega) (by omega);have Hp:Hid ((oC wr W.heap.size (4*q) 4 (M2.getD q 0) 4).rowIs W.heap.size 23 32 (λj=>.int .u8 (if j<4*(q+1) then sW M2 j else 0:Nat))):=hid ((sj HR.out 4).congr (λj _=>by
     by_cases h1:4*q<=j/\j<4*q+4
     .rw [if_pos h1,if_pos (by omega)];unfold upB sW;rw [show j/4=q by omega,show 4-1-(j-4*q)=3-j%4 by omega]
     .rw [if_neg h1];by_cases h2:j<4*q
      .rw [if_pos h2,if_pos (by omega)]
      .rw [if_neg h2,if_neg (by omega)]))
    have yv:Hid (Below W.heap.size W (oC wr W.heap.size (4*q) 4 (M2.getD q 0) 4)):=hid (rQ mz.out aH 4);obtain ⟨x,hx⟩:=aA (M2.getD q 0)
    rw [hx] at hix hxl pt Hp yv;have pt:=hid pt;clear hx;have l0:(0:Int)<=4*(q:Int):=by omega
    have l1:4*(q:Int)<=4*(q:Int)+4:=by omega
    have l2:4*(q:Int)+4<=32:=by omega
    have l3:(4*(q:Int)).toNat=4*q:=by omega
    have l4:(4*(q:Int)+4).toNat=4*q+4:=by omega
    have l5:¬ 32=4*q:=by omega
    go_wp2_with fail
    refine pt.out.mono ?_;rintro e w3 ⟨rfl,rfl⟩;clear l0 l1 l2 l3 l4 l5 pt hix;go_wp2;go_roundw
    case rel=>exact ⟨q+1,by omega,by go_num,Hp,yv⟩
    case measure=>simp [intOf]; omega
   .obtain rfl:q=8:=by omega
    have HF:Hid (wr.heap[W.heap.size]? = some (.cells (kc (ze s.data.toList)) 23 (0,0))):=hid (PL _ HR.out (oH _) (λj hj=>by
     rw [if_pos (by omega),<-HS.out];simp [tX,List.getD,hj];unfold sW;omega))
    have VV:Hid (Rg.Own wr w.heap.size (kc zk) 23):=hid (H2.out.below mz.out);have HB2:Hid (Below w.heap.size w wr):=hid (HB.out.trans (mz.out.mono HB.out.size));have hkl:=oH s.data.toList;obtain ⟨K,hK⟩:=aA (ze s.data.toList)
    have HKK:=sec hK;rw [hK] at hkl HF;have Id:=hid hkl;clear hK hkl HR xv Bk;go_wp2_with (first | (refine wpList_load_row rfl _ _ rfl W.heap.size rfl 23 (kc K) (0,0) _ HF.out underlying23 rfl (gq K Id.out) ?_) | (refine wpList_store_rowTo rfl 23 _ _ rfl rfl _ (kc K) rfl rfl 23 (kc zk) VV.out.2 (gq K Id.out) (by rw [gy,gy,Id.out]; rfl) (tO _) ?_))
    exact bodyPost_ret (results_cell_row rfl _ _ w.heap.size 23 (kc K) (0,0) _ rfl (setRow_heap _ _ _ _ _ _ VV.out.2) underlying23 rfl (gq K Id.out)) rfl ⟨by rw [HKK.out],bI HB2.out (by omega) _⟩
end Sm
end
section
namespace lL
end lL
end
section
open Go.RowKit lL
end
section
open Go.RowKit lL
end
section
open Go.RowKit lL
namespace Tx
end Tx
namespace Rx
end Rx
end
section
open Go.RowKit
namespace Ni
end Ni
end
section
open Go.RowKit
namespace Sm
open Sh
def Tab (w:World):Prop:=∀ i,i<64->w.cell? ⟨0,i,none⟩=some (.int .u32 (kN i:Nat))
theorem Tab.pos (h:Tab w):0<w.heap.size:=World.block_lt_of_cell? w _ (h 0 (by omega))
theorem Tab.below {w':World} (h:Tab w) (hb:Below B w w') (hB:0<B):Tab w':=λi hi=>(hb.cell (p:=⟨0,i,none⟩) hB).trans (h i hi)
theorem Vl (w:World) (k:aN) (hk:k.length=32):bf (w.alloc (.cells (kc k) 23)) (some ⟨w.heap.size,0,none⟩) 32 32 k:=by
 have h:=bf.new w k (by unfold maxLen; omega) (kc k) 23 rfl;rw [hk] at h;exact h
theorem kW (k:aN) (hk:k.length=32) (w:World) :
  Calls prog 174 #[.agg (kc k)] w λe w'=>e = .returned (.string ⟨k.toArray⟩)/\Below w.heap.size w w':=by
 have hcv:=gY (Vl w k hk);obtain ⟨C,hC⟩:=aA (kc k)
 obtain ⟨T,hT⟩:=aA (⟨k.toArray⟩:aM)
 rw [hC,hT] at hcv;rw [hC,hT];clear hC hT hk;go_enter func174,ntmps174;go_wp2;go_ret;exact ⟨rfl,aI.alloc aH _⟩
end Sm
end
end Go.Proofs.YtokaiemgjngcoaaGreatDoor
