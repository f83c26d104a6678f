/-
 The contract of nib.Pack.
-/
import Derived.Test.YtnecijeakeklaaaGreatDoorMd3
import Derived.ArgAppend
open Go.Lib (hid)
set_option linter.unusedSimpArgs false
set_option linter.unusedVariables false
set_option maxHeartbeats 40000000
set_option maxRecDepth 100000
namespace Go.Proofs.YtnecijeakeklaaaGreatDoor
section
open Go.RowKit
namespace Ni
def markN (n:Nat) (leaf:Bool):Nat:=n%2+if leaf then 2 else 0
def fullL (l:List UInt8) (leaf:Bool):List UInt8:=[UInt8.ofNat (markN l.length leaf)]++((if l.length%2=1 then l.take 1 else [0])++l.drop (l.length%2))
def packL (l:List UInt8) (leaf:Bool):List UInt8:=pairsK (fullL l leaf) (l.length/2+1)
theorem fullL_length (l:List UInt8) (leaf:Bool):(fullL l leaf).length=2*(l.length/2+1):=by
 unfold fullL;rw [List.length_append,List.length_append,List.length_drop];by_cases h:l.length%2=1
 ·rw [if_pos h,List.length_take]; simp; omega
 ·rw [if_neg h]; simp; omega
theorem fullL_right (l:List UInt8) (leaf:Bool) (h:rightB l=true):rightB (fullL l leaf)=true:=by
 unfold rightB at h ⊢;rw [List.all_eq_true] at h ⊢;intro x hx;unfold fullL at hx;simp only [List.mem_append,List.mem_singleton] at hx;rcases hx with hx | hx | hx
 ·subst hx;have:markN l.length leaf≤3:=by unfold markN; cases leaf <;> simp <;> omega
  simp only [UInt8.toNat_ofNat',decide_eq_true_eq]; omega
 ·split at hx
  ·exact h x (List.mem_of_mem_take hx)
  ·simp at hx; subst hx; decide
 ·exact h x (List.mem_of_mem_drop hx)
theorem rows3 (w:World) (m:UInt8) (v:Value) (hv:v = .int .u8 m.toNat) (a1 a2:Option Addr) (n1 c1 n2 c2:Nat) (l1 l2:List UInt8) (h1:IsBs w a1 n1 c1 l1) (h2:IsBs w a2 n2 c2 l2) :
  Cc.IsRows ((w.alloc (.cells #[v] 5)).alloc (.cells #[.slice (some ⟨w.heap.size,0,none⟩) 1 1,.slice a1 n1 c1,.slice a2 n2 c2] 51)) (some ⟨w.heap.size+1,0,none⟩) 3 [[m],l1,l2]:=by
 subst hv;have hb:Below w.heap.size w ((w.alloc (.cells #[.int .u8 m.toNat] 5)).alloc (.cells #[.slice (some ⟨w.heap.size,0,none⟩) 1 1,.slice a1 n1 c1,.slice a2 n2 c2] 51)) :=
  ((Below.refl _ _).alloc (Nat.le_refl _) _).alloc (by simp) _
 refine ⟨rfl,fun j hj=>⟨w.heap.size+1,0,rfl,by simp,?_⟩⟩
 match j,hj with
 | 0,_ =>
  refine ⟨some ⟨w.heap.size,0,none⟩,1,1,by simp,⟨Nat.le_refl _,by unfold maxLen; omega,rfl,fun e=>(by cases e),fun q hq=>?_⟩⟩;obtain rfl:q=0:=by omega
  exact ⟨w.heap.size,0,rfl,by simp; omega,by simp⟩
 | 1,_=>exact ⟨a1,n1,c1,by simp,h1.below hb⟩
 | 2,_=>exact ⟨a2,n2,c2,by simp,h2.below hb⟩
theorem join_full (l:List UInt8) (leaf:Bool) (mk:UInt8) (l1 l2:List UInt8) (hf:[mk]++(l1++l2)=fullL l leaf) (hl:l.length≤64) (v:Value) (hv:v = .int .u8 mk.toNat) (w:World) (a1 a2:Option Addr) (n1 c1 n2 c2:Nat) (h1:IsBs w a1 n1 c1 l1) (h2:IsBs w a2 n2 c2 l2) :
  Calls Tryz.prog 71 #[.slice (some ⟨w.heap.size+1,0,none⟩) 3 3] ((w.alloc (.cells #[v] 5)).alloc (.cells #[.slice (some ⟨w.heap.size,0,none⟩) 1 1,.slice a1 n1 c1,.slice a2 n2 c2] 51)) fun e w'=>∃ a n cap,e = .returned (.slice a n cap)∧IsBs w' a n cap (fullL l leaf)∧Below w.heap.size w w':=by
 have e:[[mk],l1,l2].flatten=fullL l leaf:=by rw [← hf]; simp
 refine (join_any _ 3 3 [[mk],l1,l2] (by omega) (by rw [e,fullL_length]; omega) _ (rows3 w mk v hv a1 a2 n1 c1 n2 c2 l1 l2 h1 h2)).mono ?_;rintro en w' ⟨a,n,cap,rfl,hx,hb⟩;rw [e] at hx;exact ⟨a,n,cap,rfl,hx,(((Below.refl _ _).alloc (Nat.le_refl _) _).alloc (by simp) _).trans (hb.mono (by simp; omega))⟩
theorem pairs_full (l:List UInt8) (leaf:Bool) (hr:rightB l=true) (hl:l.length≤64) (a:Option Addr) (n cap:Nat) (w:World) (h:IsBs w a n cap (fullL l leaf)) :
  Calls Tryz.prog 101 #[.slice a n cap] w fun e w'=>e = .returned (.string ⟨(packL l leaf).toArray⟩)∧Below w.heap.size w w':=by
 have hn:n=2*(l.length/2+1):=by rw [← h.len,fullL_length]
 refine (pairs_any a n cap (fullL l leaf) (fullL_right l leaf hr) (by omega) (by omega) w h).mono ?_;rintro e w' ⟨rfl,hb⟩;have e2:n/2=l.length/2+1:=by omega
 refine ⟨?_,hb⟩;unfold packL;rw [e2]
theorem info_u8':(Tryz.prog.info? 5).map (fun i=>(i.zero,i.size,i.bytes))=some (some (.int .u8 0),1,1):=by kernel_rfl
theorem full_even (l:List UInt8) (leaf:Bool) (h:l.length%2=0):[UInt8.ofNat (markN l.length leaf)]++([0]++l)=fullL l leaf:=by
 unfold fullL;rw [if_neg (by omega),h,List.drop_zero]
theorem pack_even (a:Option Addr) (n c:Nat) (l:List UInt8) (leaf:Bool) (hn:n≤64) (h2:n%2=0) (hr:rightB l=true) (w:World) (h:IsBs w a n c l) :
  Calls Tryz.prog 147 #[.slice a n c,.bool leaf] w fun e w'=>e = .returned (.tuple #[.string ⟨(packL l leaf).toArray⟩,.int .i64 0])∧Below w.heap.size w w':=by
 have hR:=right_any a n c l w h;rw [hr] at hR;have HR:=hid hR;have hnc:=h.1;have hcm:=h.2.1;unfold maxLen at hcm;have H:=hid h;have hm:(n:Int)%2=0:=by omega
 obtain ⟨i0,hi,hz0,hz1,hz2⟩:=info_parts info_u8';have HI:Hid (_∧_∧_∧_):=hid ⟨hi,hz0,hz1,hz2⟩;have HFfalse:=hid (full_even l false (by rw [h.len]; exact h2));have HFtrue:=hid (full_even l true (by rw [h.len]; exact h2));have HVfalse:Hid (Value.int .u8 0 = .int .u8 (UInt8.ofNat (markN l.length false)).toNat):=hid (by simp [markN,h.len,h2]);have HVtrue:Hid (Value.int .u8 (bits .or .u8 0 2) = .int .u8 (UInt8.ofNat (markN l.length true)).toNat):=hid (by simp [markN,h.len,h2]; decide +kernel);have HRR:=hid hr;have hll:l.length≤64:=by rw [h.len]; exact hn
 clear hR hr h h2 hi hz0 hz1 hz2;cases leaf
 ·go_enter Tryz.func147,Tryz.ntmps147;go_wp2_with fail
  refine HR.out.mono ?_;rintro e w1 ⟨rfl,rfl⟩;go_wp2_with fail
  go_quiet ((go_at_call 178; exact Calls.quiet_of_same (cut_zero_q _ _ _ _)))
  go_wp2_with (at_builtin; refine wpList_append_grows _ rfl (.tmp 30) (.tmp 31) 51 rfl 5 i0 (.int .u8 0) 1 1 Tryz.underlying51 HI.out.1 HI.out.2.1 HI.out.2.2.1 HI.out.2.2.2 rfl (by decide) a 0 0 [] rfl (fun _=>⟨rfl,rfl⟩) rfl (by intro _ _ _ _ h; simp at h) ⟨w.heap.size,0,none⟩ 1 1 [.int .u8 0] rfl rfl ?c1 ?c2 (by omega) (by unfold maxLen; omega) (by omega) ?grow)
  case c1=>exact Bu.cell_one_new' _ _ _ _
  case c2=>intro u hu; simp at hu; subst hu; rfl
  case grow =>
   intro v' w2 hown hg;obtain ⟨a',cap',rfl,hx⟩:=IsBs.ofOwn (l:=[0]) hown;have HX:=hid hx;have H2:=hid (((H.out.drewN nq).alloc (.cells #[.int .u8 0] 5)).grown hg);clear hx hown;go_wp2_with fail
   refine (join_full l false (UInt8.ofNat (markN l.length false)) [0] l HFfalse.out (by omega) _ HVfalse.out _ _ _ _ _ _ _ HX.out H2.out).mono ?_;rintro e w3 ⟨a3,n3,c3,rfl,hx3,hb3⟩;go_wp2_with fail
   refine (pairs_full l false HRR.out (by omega) _ _ _ _ hx3).mono ?_;rintro e w4 ⟨rfl,hb4⟩;go_wp2;go_ret2
   have hbw:Below w.heap.size w w2:=((below_drewN (Below.refl w.heap.size w) nq).alloc (Nat.le_refl _) _).grown hg (by simp) (fun k hk=>by cases hk);exact ⟨rfl,(hbw.trans (hb3.mono hbw.size)).trans (hb4.mono (Nat.le_trans hbw.size hb3.size))⟩
 ·go_enter Tryz.func147,Tryz.ntmps147;go_wp2_with fail
  refine HR.out.mono ?_;rintro e w1 ⟨rfl,rfl⟩;go_wp2_with fail
  go_quiet ((go_at_call 178; exact Calls.quiet_of_same (cut_zero_q _ _ _ _)))
  go_wp2_with (at_builtin; refine wpList_append_grows _ rfl (.tmp 30) (.tmp 31) 51 rfl 5 i0 (.int .u8 0) 1 1 Tryz.underlying51 HI.out.1 HI.out.2.1 HI.out.2.2.1 HI.out.2.2.2 rfl (by decide) a 0 0 [] rfl (fun _=>⟨rfl,rfl⟩) rfl (by intro _ _ _ _ h; simp at h) ⟨w.heap.size,0,none⟩ 1 1 [.int .u8 0] rfl rfl ?d1 ?d2 (by omega) (by unfold maxLen; omega) (by omega) ?grow2)
  case d1=>exact Bu.cell_one_new' _ _ _ _
  case d2=>intro u hu; simp at hu; subst hu; rfl
  case grow2 =>
   intro v' w2 hown hg;obtain ⟨a',cap',rfl,hx⟩:=IsBs.ofOwn (l:=[0]) hown;have HX:=hid hx;have H2:=hid (((H.out.drewN nq).alloc (.cells #[.int .u8 0] 5)).grown hg);clear hx hown;go_wp2_with fail
   refine (join_full l true (UInt8.ofNat (markN l.length true)) [0] l HFtrue.out (by omega) _ HVtrue.out _ _ _ _ _ _ _ HX.out H2.out).mono ?_;rintro e w3 ⟨a3,n3,c3,rfl,hx3,hb3⟩;go_wp2_with fail
   refine (pairs_full l true HRR.out (by omega) _ _ _ _ hx3).mono ?_;rintro e w4 ⟨rfl,hb4⟩;go_wp2;go_ret2
   have hbw:Below w.heap.size w w2:=((below_drewN (Below.refl w.heap.size w) nq).alloc (Nat.le_refl _) _).grown hg (by simp) (fun k hk=>by cases hk);exact ⟨rfl,(hbw.trans (hb3.mono hbw.size)).trans (hb4.mono (Nat.le_trans hbw.size hb3.size))⟩
theorem full_odd (l:List UInt8) (leaf:Bool) (h:l.length%2=1):[UInt8.ofNat (markN l.length leaf)]++(l.take 1++l.drop 1)=fullL l leaf:=by
 unfold fullL;rw [if_pos h,h]
theorem first_bs {b off n c:Nat} {l:List UInt8} {w:World} (h:IsBs w (some ⟨b,off,none⟩) n c l) (h1:1≤n):IsBs w (some ⟨b,off,none⟩) 1 1 (l.take 1):=by
 refine ⟨Nat.le_refl _,by unfold maxLen; omega,by rw [List.length_take,h.len]; omega,fun e=>(by cases e),fun q hq=>?_⟩;obtain rfl:q=0:=by omega
 obtain ⟨b',off',e,h2,h3⟩:=h.at' 0 (by omega);simp at e;obtain ⟨rfl,rfl⟩:=e;refine ⟨b,off,rfl,h2,?_⟩;have e:(l.take 1).getD 0 0=l.getD 0 0:=by simp [List.getD]
 rw [e]; exact h3
theorem rest_bs0 {b off:Nat} {l:List UInt8} {w:World} (h:IsBs w (some ⟨b,off,none⟩) 1 1 l):IsBs w (some ⟨b,off,none⟩) 0 0 (l.drop 1) :=
 ⟨Nat.le_refl _,Nat.zero_le _,by rw [List.length_drop,h.len],fun _=>rfl,fun q hq=>absurd hq (Nat.not_lt_zero _)⟩
theorem rest_bs1 {b off n c:Nat} {l:List UInt8} {w:World} (h:IsBs w (some ⟨b,off,none⟩) n c l) (h1:1≤n):IsBs w (some ⟨b,off+1,none⟩) (n-1) (c-1) (l.drop 1):=by
 have hnc:=h.1;have hcm:=h.2.1;refine ⟨by omega,by omega,by rw [List.length_drop,h.len],fun e=>(by cases e),fun q hq=>?_⟩;obtain ⟨b',off',e,h2,h3⟩:=h.at' (1+q) (by omega);simp at e;obtain ⟨rfl,rfl⟩:=e;refine ⟨b,off+1,rfl,h2,?_⟩;have e:(l.drop 1).getD q 0=l.getD (1+q) 0:=by simp [List.getD,Nat.add_comm]
 rw [e,Nat.add_assoc]; exact h3
theorem pack_odd (b off:Nat) (n c:Nat) (l:List UInt8) (leaf:Bool) (hn:n≤64) (h2:n%2=1) (hr:rightB l=true) (w:World) (h:IsBs w (some ⟨b,off,none⟩) n c l) :
  Calls Tryz.prog 147 #[.slice (some ⟨b,off,none⟩) n c,.bool leaf] w fun e w'=>e = .returned (.tuple #[.string ⟨(packL l leaf).toArray⟩,.int .i64 0])∧Below w.heap.size w w':=by
 have hR:=right_any _ n c l w h;rw [hr] at hR;have HR:=hid hR;have hnc:=h.1;have hcm:=h.2.1;unfold maxLen at hcm;have H:=hid h;have hm:(n:Int)%2=1:=by omega
 have hn1:1≤n:=by omega
 have HRR:=hid hr;have hll:l.length≤64:=by rw [h.len]; exact hn
 have hw1:IntKind.i64.wrap 1=1:=by kernel_rfl
 have hc1:1≤c:=by omega
 have HFfalse:=hid (full_odd l false (by rw [h.len]; exact h2));have HFtrue:=hid (full_odd l true (by rw [h.len]; exact h2));have HVfalse:Hid (Value.int .u8 1 = .int .u8 (UInt8.ofNat (markN l.length false)).toNat):=hid (by simp [markN,h.len,h2]);have HVtrue:Hid (Value.int .u8 (bits .or .u8 1 2) = .int .u8 (UInt8.ofNat (markN l.length true)).toNat):=hid (by simp [markN,h.len,h2]; decide +kernel);have H1:Hid (IsBs w (some ⟨b,off,none⟩) 1 1 (l.take 1)):=hid (first_bs h hn1);clear hR hr h h2;by_cases hcc:c=1
 ·subst hcc;obtain rfl:n=1:=by omega
  have H2:Hid (IsBs w (some ⟨b,off,none⟩) 0 0 (l.drop 1)):=hid (rest_bs0 H.out);clear H;cases leaf
  ·go_enter Tryz.func147,Tryz.ntmps147;go_wp2_with fail
   refine HR.out.mono ?_;rintro e w1 ⟨rfl,rfl⟩;go_wp2_with fail
   go_quiet ((go_at_call 178; exact Calls.quiet_of_same (cut_one_q _ _ _ _ hc1 _ hcm)))
   clear hw1;go_wp2_with fail
   refine (join_full l false (UInt8.ofNat (markN l.length false)) (l.take 1) (l.drop 1) HFfalse.out hll _ HVfalse.out _ _ _ _ _ _ _ (H1.out.drewN _) (H2.out.drewN _)).mono ?_;rintro e w3 ⟨a3,n3,c3,rfl,hx3,hb3⟩;go_wp2_with fail
   refine (pairs_full l false HRR.out hll _ _ _ _ hx3).mono ?_;rintro e w4 ⟨rfl,hb4⟩;go_wp2;go_ret2
   exact ⟨rfl,((below_drewN (Below.refl w.heap.size w) _).trans hb3).trans (hb4.mono hb3.size)⟩
  ·go_enter Tryz.func147,Tryz.ntmps147;go_wp2_with fail
   refine HR.out.mono ?_;rintro e w1 ⟨rfl,rfl⟩;go_wp2_with fail
   go_quiet ((go_at_call 178; exact Calls.quiet_of_same (cut_one_q _ _ _ _ hc1 _ hcm)))
   clear hw1;go_wp2_with fail
   refine (join_full l true (UInt8.ofNat (markN l.length true)) (l.take 1) (l.drop 1) HFtrue.out hll _ HVtrue.out _ _ _ _ _ _ _ (H1.out.drewN _) (H2.out.drewN _)).mono ?_;rintro e w3 ⟨a3,n3,c3,rfl,hx3,hb3⟩;go_wp2_with fail
   refine (pairs_full l true HRR.out hll _ _ _ _ hx3).mono ?_;rintro e w4 ⟨rfl,hb4⟩;go_wp2;go_ret2
   exact ⟨rfl,((below_drewN (Below.refl w.heap.size w) _).trans hb3).trans (hb4.mono hb3.size)⟩
 ·have H2:Hid (IsBs w (some ⟨b,off+1,none⟩) (n-1) (c-1) (l.drop 1)):=hid (rest_bs1 H.out hn1);clear H;cases leaf
  ·go_enter Tryz.func147,Tryz.ntmps147;go_wp2_with fail
   refine HR.out.mono ?_;rintro e w1 ⟨rfl,rfl⟩;go_wp2_with fail
   go_quiet ((go_at_call 178; exact Calls.quiet_of_same (cut_one_q _ _ _ _ hc1 _ hcm)))
   clear hw1;go_wp2_with fail
   refine (join_full l false (UInt8.ofNat (markN l.length false)) (l.take 1) (l.drop 1) HFfalse.out hll _ HVfalse.out _ _ _ _ _ _ _ (H1.out.drewN _) (H2.out.drewN _)).mono ?_;rintro e w3 ⟨a3,n3,c3,rfl,hx3,hb3⟩;go_wp2_with fail
   refine (pairs_full l false HRR.out hll _ _ _ _ hx3).mono ?_;rintro e w4 ⟨rfl,hb4⟩;go_wp2;go_ret2
   exact ⟨rfl,((below_drewN (Below.refl w.heap.size w) _).trans hb3).trans (hb4.mono hb3.size)⟩
  ·go_enter Tryz.func147,Tryz.ntmps147;go_wp2_with fail
   refine HR.out.mono ?_;rintro e w1 ⟨rfl,rfl⟩;go_wp2_with fail
   go_quiet ((go_at_call 178; exact Calls.quiet_of_same (cut_one_q _ _ _ _ hc1 _ hcm)))
   clear hw1;go_wp2_with fail
   refine (join_full l true (UInt8.ofNat (markN l.length true)) (l.take 1) (l.drop 1) HFtrue.out hll _ HVtrue.out _ _ _ _ _ _ _ (H1.out.drewN _) (H2.out.drewN _)).mono ?_;rintro e w3 ⟨a3,n3,c3,rfl,hx3,hb3⟩;go_wp2_with fail
   refine (pairs_full l true HRR.out hll _ _ _ _ hx3).mono ?_;rintro e w4 ⟨rfl,hb4⟩;go_wp2;go_ret2
   exact ⟨rfl,((below_drewN (Below.refl w.heap.size w) _).trans hb3).trans (hb4.mono hb3.size)⟩
end Ni
end
end Go.Proofs.YtnecijeakeklaaaGreatDoor
