/-
 The contract of the plain answer's Sort of pairs.
-/
import Derived.Test.YtnecijeakeklaaaGreatDoorMd23
import Derived.Test.YtnecijeakeklaaaGreatDoorMd20
import Derived.Test.YtnecijeakeklaaaGreatDoorMd19
import Derived.Test.YtnecijeakeklaaaGreatDoorMd13
open Go.Lib (hid)
set_option linter.unusedSimpArgs false
set_option linter.unusedVariables false
set_option maxHeartbeats 40000000
set_option maxRecDepth 100000
namespace Go.Proofs.YtnecijeakeklaaaGreatDoor
section
open Go.RowKit
namespace Tm
open Tr Ni Pk Ky
theorem isPs_one {w:World} {b:Nat} {x:Tr.Pair} {t:TypeId} (hk:x.1.length=32) (h:Rg.Own w b (pairA x) t):IsPs w (some ⟨b,0,none⟩) 1 1 [x] :=
 ⟨Nat.le_refl _,by unfold maxLen; decide,rfl,fun e=>(by cases e),fun y hy=>by rw [List.mem_singleton.1 hy]; exact hk,fun j hj=>by
  obtain rfl:j=0:=by omega
  exact ⟨b,0,rfl,h.1,PairAt.own h⟩⟩
theorem take_less {S:List Tr.Pair} {x:Tr.Pair} {q:Nat} (h:∀ y∈S.take q,ltP y.1 x.1=true) (hq:q<S.length) (hl:ltP (S.getD q ([],eB)).1 x.1=true):∀ y∈S.take (q+1),ltP y.1 x.1=true:=fun y hy=>by
 rw [take_at hq,List.mem_append] at hy;rcases hy with hy | hy
 ·exact h y hy
 ·rw [List.mem_singleton.1 hy]; exact hl
theorem rsort_own (l:List Tr.Pair) (a:Option Addr) (n c:Nat) (w:World) (h:IsPs w a n c l) (hn:n≤1000) :
  Calls Tryz.prog 8 #[.slice a n c] w (GotOwnP w (sortL l)):=by
 have H:=hid h;have HL:=hid h.len;have HKs:=hid h.keys;clear h;go_enter Tryz.func8,Tryz.ntmps8;go_wp2_with fail
 go_loopw [3,4] (fun v i wr=>∃ j:Nat,j≤n∧i = .int .i64 j∧Hid (wr.ownsRow w.heap.size 33 33 v (sortL (l.take j)).length (rowP (sortL (l.take j))))∧Hid (Below w.heap.size w wr)) (fun _ i _=>n-(intOf i).toNat)
 case atStart=>exact ⟨0,Nat.zero_le _,rfl,hid (World.ownsRow_nil _ _ _ _),hid (Below.refl _ _)⟩
 case round =>
  obtain ⟨wo,rfl⟩:∃ wo,wo=wr:=⟨_,rfl⟩
  obtain ⟨j,hj,rfl,HR,HB⟩:=hrel;by_cases hlt:j<n
  ·obtain ⟨b1,o1,rfl,hb1,hpx,hkx⟩:=H.out.at' j hlt;have hji:(j:Int)<n:=by omega
   have hsl:=sort_len l j;have hsk:=sort_keys HKs.out j;have HF:=hid (sort_take (l:=l) (j:=j) (by rw [HL.out]; exact hlt));have hpxr:=hpx.below HB.out;have HKx:=hid hkx;generalize l.getD j ([],eB)=x at *
   generalize sortL (l.take j)=S at *
   obtain ⟨m,hm⟩:∃ m,S.length=m:=⟨_,rfl⟩
   rw [hm] at HR hsl;obtain ⟨a2,c2,rfl,hps⟩:=IsPs.ofOwn hsk hm HR.out;have hc2:=hps.1;have HP2:=hid hps;have HSm:=hid hm;have HSk:=hid hsk;clear hpx hkx hb1 hps hsk hm HR;go_wp2_with fail
   go_loopw [5] (fun k wr=>∃ q:Nat,q≤m∧k = .int .i64 q∧Hid (∀ y∈S.take q,ltP y.1 x.1=true)∧Hid (Below wo.heap.size wo wr)) (fun k _=>m-(intOf k).toNat)
   case atStart=>exact ⟨0,Nat.zero_le _,rfl,hid (fun y hy=>by cases hy),hid (Below.refl _ _)⟩
   case round =>
    obtain ⟨q,hq,rfl,HI,HB2⟩:=hrel;have HPx:=hid (hpxr.below HB2.out);by_cases hqm:q<m
    ·obtain ⟨b2,o2,rfl,hb2,hpyr,hky⟩:=HP2.out.at' q hqm;have hqi:(q:Int)<m:=by omega
     have HKy:=hid hky;obtain ⟨y,hyy⟩:∃ y,S.getD q ([],eB)=y:=⟨_,rfl⟩
     rw [hyy] at hpyr HKy;have HPy:=hid (hpyr.below HB2.out);clear hb2 hky;by_cases hlx:ltP y.1 x.1=true
     ·have HLs:Hid (∀ w,Calls Tryz.prog 12 #[.agg (kc y.1),.agg (kc x.1)] w fun e w'=>e = .returned (.bool true)∧Below w.heap.size w w'):=hid fun w=>(rless_any y.1 x.1 HKy.out HKx.out w).mono fun e w' g=>by rw [hlx] at g; exact g
      have HN:=hid (take_less HI.out (by rw [HSm.out]; exact hqm) (by rw [hyy]; exact hlx));clear hlx hyy;go_wp2_with fail
      refine wp_region_noPanic ?_;refine wp_region_held_drew (S:=fun w'=>Below wr.heap.size wr w') (by kernel_rfl) ((below_drewN (Below.refl _ _) 1)) (fun hld=>?_);refine Rg.tk (i:=0) rfl ?_;try simp only [Act.put,Rg.s]
      refine Rg.tk (i:=1) rfl ?_;try simp only [Act.put,Rg.s]
      refine Rg.tk (i:=2) rfl ?_;try simp only [Act.put,Rg.s]
      refine Rg.tk (i:=3) rfl ?_;try simp only [Act.put,Rg.s]
      refine Rg.tk (i:=4) rfl ?_;try simp only [Act.put,Rg.s]
      refine Rg.tk (i:=5) rfl ?_;try simp only [Act.put,Rg.s]
      refine Rg.tk (i:=6) rfl ?_;try simp only [Act.put,Rg.s]
      refine Rg.tk (i:=7) rfl ?_ (hy:=by intro wz hSw; (have q0:=hqi; have q1:=hqm; go_simp <;> with_reducible rfl));try simp only [Act.put,Rg.s]
      refine Rg.tk (i:=8) rfl ?_;try simp only [Act.put,Rg.s]
      refine Rg.tk (i:=9) rfl ?_ (hy:=by intro wz hSw; (refine op_load_key_mid HKy.out (HPy.out.below hSw).key ?_; exact ⟨_,rfl,rfl⟩));try simp only [Act.put,Rg.s]
      refine Rg.tk (i:=10) rfl ?_;try simp only [Act.put,Rg.s]
      refine Rg.tk (i:=11) rfl ?_;try simp only [Act.put,Rg.s]
      refine Rg.tk (i:=12) rfl ?_ (hy:=by intro wz hSw; (have q0:=hji; have q1:=hlt; go_simp <;> with_reducible rfl));try simp only [Act.put,Rg.s]
      refine Rg.tk (i:=13) rfl ?_;try simp only [Act.put,Rg.s]
      refine Rg.tk (i:=14) rfl ?_ (hy:=by intro wz hSw; (refine op_load_key_mid HKx.out (HPx.out.below hSw).key ?_; exact ⟨_,rfl,rfl⟩));try simp only [Act.put,Rg.s]
      refine Rg.rd (i:=15) rfl fun K hK=>?_;go_simp;go_at_call 12
      (with_reducible refine (HLs.out _).mono ?_)
      rintro e wv0 ⟨rfl,hbx⟩;refine hK.out _ _ ?_ (fun hld=>?_)
      ·exact Below.trans hld (hbx.mono hld.size)
      clear hK K;try simp only [Act.put,Rg.s]
      refine Rg.tk (i:=16) rfl ?_;try simp only [Act.put,Rg.s]
      refine wpAnyH_done (by kernel_rfl) ?_ _;refine NoPanic.normal ?_;have HBz:Hid (Below wo.heap.size wo wv0):=hid (bst HB2.out hld);clear hld hbx;go_wp2;go_roundw
      case rel=>exact ⟨q+1,by omega,by go_num,HN,HBz⟩
      case measure=>simp [intOf]; omega
     ·have HNl:Hid (ltP y.1 x.1=false):=hid (by simpa using hlx);have HLs:Hid (∀ w,Calls Tryz.prog 12 #[.agg (kc y.1),.agg (kc x.1)] w fun e w'=>e = .returned (.bool false)∧Below w.heap.size w w'):=hid fun w=>(rless_any y.1 x.1 HKy.out HKx.out w).mono fun e w' g=>by rw [HNl.out] at g; exact g
      clear hlx;by_cases hek:y.1=x.1
      ·have HEd:=hid (decide_eq_true hek);have HEk:=hid hek;have HYy:=hid hyy;clear hek hyy;go_wp2_with fail
       refine wp_region_noPanic ?_;refine wp_region_held_drew (S:=fun w'=>Below wr.heap.size wr w') (by kernel_rfl) ((below_drewN (Below.refl _ _) 1)) (fun hld=>?_);refine Rg.tk (i:=0) rfl ?_;try simp only [Act.put,Rg.s]
       refine Rg.tk (i:=1) rfl ?_;try simp only [Act.put,Rg.s]
       refine Rg.tk (i:=2) rfl ?_;try simp only [Act.put,Rg.s]
       refine Rg.tk (i:=3) rfl ?_;try simp only [Act.put,Rg.s]
       refine Rg.tk (i:=4) rfl ?_;try simp only [Act.put,Rg.s]
       refine Rg.tk (i:=5) rfl ?_;try simp only [Act.put,Rg.s]
       refine Rg.tk (i:=6) rfl ?_;try simp only [Act.put,Rg.s]
       refine Rg.tk (i:=7) rfl ?_ (hy:=by intro wz hSw; (have q0:=hqi; have q1:=hqm; go_simp <;> with_reducible rfl));try simp only [Act.put,Rg.s]
       refine Rg.tk (i:=8) rfl ?_;try simp only [Act.put,Rg.s]
       refine Rg.tk (i:=9) rfl ?_ (hy:=by intro wz hSw; (refine op_load_key_mid HKy.out (HPy.out.below hSw).key ?_; exact ⟨_,rfl,rfl⟩));try simp only [Act.put,Rg.s]
       refine Rg.tk (i:=10) rfl ?_;try simp only [Act.put,Rg.s]
       refine Rg.tk (i:=11) rfl ?_;try simp only [Act.put,Rg.s]
       refine Rg.tk (i:=12) rfl ?_ (hy:=by intro wz hSw; (have q0:=hji; have q1:=hlt; go_simp <;> with_reducible rfl));try simp only [Act.put,Rg.s]
       refine Rg.tk (i:=13) rfl ?_;try simp only [Act.put,Rg.s]
       refine Rg.tk (i:=14) rfl ?_ (hy:=by intro wz hSw; (refine op_load_key_mid HKx.out (HPx.out.below hSw).key ?_; exact ⟨_,rfl,rfl⟩));try simp only [Act.put,Rg.s]
       refine Rg.rd (i:=15) rfl fun K hK=>?_;go_simp;go_at_call 12
       (with_reducible refine (HLs.out _).mono ?_)
       rintro e wv0 ⟨rfl,hbx⟩;refine hK.out _ _ ?_ (fun hld=>?_)
       ·exact Below.trans hld (hbx.mono hld.size)
       clear hK K;try simp only [Act.put,Rg.s]
       refine Rg.tk (i:=16) rfl ?_;try simp only [Act.put,Rg.s]
       refine wpAnyH_done (by kernel_rfl) ?_ _;refine NoPanic.normal ?_;have HBz:Hid (Below wo.heap.size wo wv0):=hid (bst HB2.out hld);clear hld hbx;have hbz:=HBz.out.size;have HP3:=hid (HP2.out.below HBz.out);have HPx3:=hid (hpxr.below HBz.out);have HU3:Hid (IsPs (wv0.alloc (.cells #[] 33)) _ q c2 (S.take q)):=hid (((HP3.out.below (al1 _ _))).upto q (by omega))
       have HL3:Hid ((wv0.alloc (.cells #[] 33)).ownsRow wv0.heap.size 33 33 (.slice (some ⟨wv0.heap.size,0,none⟩) 0 0) 0 (rowP [])):=hid (World.ownsRow_lit (e:=33) (size:=33) (base:=wv0.heap.size) wv0 #[] 0 (Nat.le_refl _) (by unfold maxLen; decide) rfl);have hs3:wv0.heap.size≤(wv0.alloc (.cells #[] 33)).heap.size:=by simp
       have hq0:0+q≤1000000:=by omega
       have hqc:q≤c2:=by omega
       go_wp2_with (first
        | (refine Rg.run rfl _ _ (op_lit_none _ rfl rfl) ?_)
        | (refine Rg.run rfl _ _ (op_uptoB under_pairs size_pair hqc ⟨_,_,rfl,rfl,rfl⟩) ?_)
        | (at_builtin; refine wpl_append_pairs rfl _ _ rfl rfl rfl HL3.out HU3.out hq0 hs3 ?_))
       intro v4 w4 h4 hg4 hn4;have HR4:Hid (w4.ownsRow wv0.heap.size 33 33 v4 q (rowP (S.take q))):=hid (by simpa using h4);have HB4:Hid (Below wo.heap.size wo w4):=hid ((HBz.out.alloc HBz.out.size _).grown hg4 (by simp; omega) (fun k hk=>by cases hk; exact hbz));have hz4:wv0.heap.size<w4.heap.size:=by
        obtain ⟨_,_,_,hz,_⟩:=hg4;simp at hz;omega
       clear h4 hg4 hn4 HL3 HU3 hs3 hq0 HP3 HPx3;have HPx4:=hid (hpxr.below HB4.out);have HN4:=hid (Rg.Own.new w4 (pairA x) 33);have HU4:Hid (IsPs (w4.alloc (.cells (pairA x) 33)) (some ⟨w4.heap.size,0,none⟩) 1 1 [x]):=hid (isPs_one HKx.out HN4.out);have HR4':=hid (HR4.out.alloc (.cells (pairA x) 33));have hq4:q+1≤1000000:=by omega
       have hs4:wv0.heap.size≤(w4.alloc (.cells (pairA x) 33)).heap.size:=by simp; omega
       go_wp2_with (first
        | (refine Rg.run rfl _ _ (op_load_pair HKx.out HPx4.out ⟨_,rfl,rfl⟩) ?_)
        | (refine Rg.run rfl _ _ (op_lit_pair HKx.out _ rfl ⟨_,rfl,rfl⟩) ?_)
        | (at_builtin; refine wpl_append_pairs rfl _ _ rfl rfl rfl HR4'.out HU4.out hq4 hs4 ?_))
       intro v5 w5 h5 hg5 hn5;have HR5:Hid (w5.ownsRow wv0.heap.size 33 33 v5 (q+1) (rowP (S.take q++[x]))):=hid h5;have hlt4:=HR4.out.lt;have HB5:Hid (Below wo.heap.size wo w5):=hid ((HB4.out.alloc HB4.out.size _).grown hg5 (by have:=HB4.out.size; simp; omega) (fun k hk=>Nat.le_trans hbz (hlt4 k hk).1));have hz5:wv0.heap.size≤w5.heap.size:=by
        obtain ⟨_,_,_,hz,_⟩:=hg5;simp at hz;omega
       clear h5 hg5 hn5 HN4 HU4 HR4' hs4 hq4 HPx4 HR4 HB4 hlt4;have HP5:=hid (HP2.out.below HB5.out);have HPx5:=hid (hpxr.below HB5.out);have HPy5:=hid (hpyr.below HB5.out);go_wp2_with fail
       refine wp_region_noPanic ?_;refine wp_region_held_drew (S:=fun w'=>Below w5.heap.size w5 w') (by kernel_rfl) ((below_drewN (Below.refl _ _) 1)) (fun hld=>?_);refine Rg.tk (i:=0) rfl ?_;try simp only [Act.put,Rg.s]
       refine Rg.tk (i:=1) rfl ?_;try simp only [Act.put,Rg.s]
       refine Rg.tk (i:=2) rfl ?_;try simp only [Act.put,Rg.s]
       refine Rg.tk (i:=3) rfl ?_;try simp only [Act.put,Rg.s]
       refine Rg.tk (i:=4) rfl ?_;try simp only [Act.put,Rg.s]
       refine Rg.tk (i:=5) rfl ?_;try simp only [Act.put,Rg.s]
       refine Rg.tk (i:=6) rfl ?_;try simp only [Act.put,Rg.s]
       refine Rg.tk (i:=7) rfl ?_ (hy:=by intro wz hSw; (have q0:=hqi; have q1:=hqm; go_simp <;> with_reducible rfl));try simp only [Act.put,Rg.s]
       refine Rg.tk (i:=8) rfl ?_;try simp only [Act.put,Rg.s]
       refine Rg.tk (i:=9) rfl ?_ (hy:=by intro wz hSw; (refine op_load_key_mid HKy.out (HPy5.out.below hSw).key ?_; exact ⟨_,rfl,rfl⟩));try simp only [Act.put,Rg.s]
       refine Rg.tk (i:=10) rfl ?_;try simp only [Act.put,Rg.s]
       refine Rg.tk (i:=11) rfl ?_;try simp only [Act.put,Rg.s]
       refine Rg.tk (i:=12) rfl ?_ (hy:=by intro wz hSw; (have q0:=hji; have q1:=hlt; go_simp <;> with_reducible rfl));try simp only [Act.put,Rg.s]
       refine Rg.tk (i:=13) rfl ?_;try simp only [Act.put,Rg.s]
       refine Rg.tk (i:=14) rfl ?_ (hy:=by intro wz hSw; (refine op_load_key_mid HKx.out (HPx5.out.below hSw).key ?_; exact ⟨_,rfl,rfl⟩));try simp only [Act.put,Rg.s]
       refine Rg.tk (i:=15) rfl ?_ (hy:=by intro wz hSw; (refine op_eql_keys HKy.out HKx.out ?_; exact ⟨_,_,_,rfl,rfl,rfl⟩));try simp only [Act.put,Rg.s]
       refine Rg.tk (i:=16) rfl ?_;try simp only [Act.put,Rg.s]
       refine wpAnyH_done (by kernel_rfl) ?_ _;refine NoPanic.normal ?_;have HB6:Hid (Below wo.heap.size wo w5.drew):=hid (HB5.out.drew);have HR6:=hid (own_keepN HR5.out ((Below.refl _ _).drew));clear hld;have HZ6:Hid (w5.heap.size≤w5.drew.heap.size):=hid (Nat.le_refl _);obtain ⟨w6,hw6⟩:∃ W,w5.drew=W:=⟨_,rfl⟩
       rw [hw6] at HB6 HR6 HZ6 ⊢;clear hw6;rw [HEd.out];have HP6:=hid (HP2.out.below HB6.out);have HD6:=hid (HP6.out.from' (q+1) (by omega));have hz6:wv0.heap.size≤w6.heap.size:=Nat.le_trans hz5 HZ6.out;have hq6:q+1+(m-(q+1))≤1000000:=by omega
       have hkm:q+1≤m:=by omega
       have hlt6:=HR6.out.lt;go_wp2_with (first
        | (refine Rg.run rfl _ _ (op_fromB under_pairs size_pair hkm ⟨_,_,rfl,rfl,rfl⟩) ?_)
        | (at_builtin; refine wpl_append_pairs rfl _ _ rfl rfl rfl HR6.out HD6.out hq6 hz6 ?_))
       intro v7 w7 h7 hg7 hn7;have HR7:Hid (w7.ownsRow w.heap.size 33 33 v7 (S.take q++[x]++S.drop (q+1)).length (rowP (S.take q++[x]++S.drop (q+1)))):=hid (by
        rw [show (S.take q++[x]++S.drop (q+1)).length=m by simp only [List.length_append,List.length_take,List.length_drop,List.length_singleton,HSm.out]; omega,List.append_assoc];exact own_mono h7 (by have:=HB.out.size; omega))
       have HB7:Hid (Below w.heap.size w w7):=hid (HB.out.trans (((HB6.out.grown hg7 (by have:=HB6.out.size; omega) (fun k hk=>Nat.le_trans hbz (hlt6 k hk).1))).mono HB.out.size));clear h7 hg7 hn7;go_wp2;go_roundw
       case rel=>exact ⟨j+1,by omega,by go_num,hid (by rw [HF.out,ins_stop S x q (by rw [HSm.out]; omega) HI.out (fun _=>by rw [HYy.out]; exact HNl.out),if_pos ⟨by rw [HSm.out]; omega,by rw [HYy.out]; exact HEk.out⟩]; exact HR7.out),HB7⟩
       case measure=>simp [intOf]; omega
      ·have HEd:=hid (decide_eq_false hek);have HEk:=hid hek;have HYy:=hid hyy;clear hek hyy;go_wp2_with fail
       refine wp_region_noPanic ?_;refine wp_region_held_drew (S:=fun w'=>Below wr.heap.size wr w') (by kernel_rfl) ((below_drewN (Below.refl _ _) 1)) (fun hld=>?_);refine Rg.tk (i:=0) rfl ?_;try simp only [Act.put,Rg.s]
       refine Rg.tk (i:=1) rfl ?_;try simp only [Act.put,Rg.s]
       refine Rg.tk (i:=2) rfl ?_;try simp only [Act.put,Rg.s]
       refine Rg.tk (i:=3) rfl ?_;try simp only [Act.put,Rg.s]
       refine Rg.tk (i:=4) rfl ?_;try simp only [Act.put,Rg.s]
       refine Rg.tk (i:=5) rfl ?_;try simp only [Act.put,Rg.s]
       refine Rg.tk (i:=6) rfl ?_;try simp only [Act.put,Rg.s]
       refine Rg.tk (i:=7) rfl ?_ (hy:=by intro wz hSw; (have q0:=hqi; have q1:=hqm; go_simp <;> with_reducible rfl));try simp only [Act.put,Rg.s]
       refine Rg.tk (i:=8) rfl ?_;try simp only [Act.put,Rg.s]
       refine Rg.tk (i:=9) rfl ?_ (hy:=by intro wz hSw; (refine op_load_key_mid HKy.out (HPy.out.below hSw).key ?_; exact ⟨_,rfl,rfl⟩));try simp only [Act.put,Rg.s]
       refine Rg.tk (i:=10) rfl ?_;try simp only [Act.put,Rg.s]
       refine Rg.tk (i:=11) rfl ?_;try simp only [Act.put,Rg.s]
       refine Rg.tk (i:=12) rfl ?_ (hy:=by intro wz hSw; (have q0:=hji; have q1:=hlt; go_simp <;> with_reducible rfl));try simp only [Act.put,Rg.s]
       refine Rg.tk (i:=13) rfl ?_;try simp only [Act.put,Rg.s]
       refine Rg.tk (i:=14) rfl ?_ (hy:=by intro wz hSw; (refine op_load_key_mid HKx.out (HPx.out.below hSw).key ?_; exact ⟨_,rfl,rfl⟩));try simp only [Act.put,Rg.s]
       refine Rg.rd (i:=15) rfl fun K hK=>?_;go_simp;go_at_call 12
       (with_reducible refine (HLs.out _).mono ?_)
       rintro e wv0 ⟨rfl,hbx⟩;refine hK.out _ _ ?_ (fun hld=>?_)
       ·exact Below.trans hld (hbx.mono hld.size)
       clear hK K;try simp only [Act.put,Rg.s]
       refine Rg.tk (i:=16) rfl ?_;try simp only [Act.put,Rg.s]
       refine wpAnyH_done (by kernel_rfl) ?_ _;refine NoPanic.normal ?_;have HBz:Hid (Below wo.heap.size wo wv0):=hid (bst HB2.out hld);clear hld hbx;have hbz:=HBz.out.size;have HP3:=hid (HP2.out.below HBz.out);have HPx3:=hid (hpxr.below HBz.out);have HU3:Hid (IsPs (wv0.alloc (.cells #[] 33)) _ q c2 (S.take q)):=hid (((HP3.out.below (al1 _ _))).upto q (by omega))
       have HL3:Hid ((wv0.alloc (.cells #[] 33)).ownsRow wv0.heap.size 33 33 (.slice (some ⟨wv0.heap.size,0,none⟩) 0 0) 0 (rowP [])):=hid (World.ownsRow_lit (e:=33) (size:=33) (base:=wv0.heap.size) wv0 #[] 0 (Nat.le_refl _) (by unfold maxLen; decide) rfl);have hs3:wv0.heap.size≤(wv0.alloc (.cells #[] 33)).heap.size:=by simp
       have hq0:0+q≤1000000:=by omega
       have hqc:q≤c2:=by omega
       go_wp2_with (first
        | (refine Rg.run rfl _ _ (op_lit_none _ rfl rfl) ?_)
        | (refine Rg.run rfl _ _ (op_uptoB under_pairs size_pair hqc ⟨_,_,rfl,rfl,rfl⟩) ?_)
        | (at_builtin; refine wpl_append_pairs rfl _ _ rfl rfl rfl HL3.out HU3.out hq0 hs3 ?_))
       intro v4 w4 h4 hg4 hn4;have HR4:Hid (w4.ownsRow wv0.heap.size 33 33 v4 q (rowP (S.take q))):=hid (by simpa using h4);have HB4:Hid (Below wo.heap.size wo w4):=hid ((HBz.out.alloc HBz.out.size _).grown hg4 (by simp; omega) (fun k hk=>by cases hk; exact hbz));have hz4:wv0.heap.size<w4.heap.size:=by
        obtain ⟨_,_,_,hz,_⟩:=hg4;simp at hz;omega
       clear h4 hg4 hn4 HL3 HU3 hs3 hq0 HP3 HPx3;have HPx4:=hid (hpxr.below HB4.out);have HN4:=hid (Rg.Own.new w4 (pairA x) 33);have HU4:Hid (IsPs (w4.alloc (.cells (pairA x) 33)) (some ⟨w4.heap.size,0,none⟩) 1 1 [x]):=hid (isPs_one HKx.out HN4.out);have HR4':=hid (HR4.out.alloc (.cells (pairA x) 33));have hq4:q+1≤1000000:=by omega
       have hs4:wv0.heap.size≤(w4.alloc (.cells (pairA x) 33)).heap.size:=by simp; omega
       go_wp2_with (first
        | (refine Rg.run rfl _ _ (op_load_pair HKx.out HPx4.out ⟨_,rfl,rfl⟩) ?_)
        | (refine Rg.run rfl _ _ (op_lit_pair HKx.out _ rfl ⟨_,rfl,rfl⟩) ?_)
        | (at_builtin; refine wpl_append_pairs rfl _ _ rfl rfl rfl HR4'.out HU4.out hq4 hs4 ?_))
       intro v5 w5 h5 hg5 hn5;have HR5:Hid (w5.ownsRow wv0.heap.size 33 33 v5 (q+1) (rowP (S.take q++[x]))):=hid h5;have hlt4:=HR4.out.lt;have HB5:Hid (Below wo.heap.size wo w5):=hid ((HB4.out.alloc HB4.out.size _).grown hg5 (by have:=HB4.out.size; simp; omega) (fun k hk=>Nat.le_trans hbz (hlt4 k hk).1));have hz5:wv0.heap.size≤w5.heap.size:=by
        obtain ⟨_,_,_,hz,_⟩:=hg5;simp at hz;omega
       clear h5 hg5 hn5 HN4 HU4 HR4' hs4 hq4 HPx4 HR4 HB4 hlt4;have HP5:=hid (HP2.out.below HB5.out);have HPx5:=hid (hpxr.below HB5.out);have HPy5:=hid (hpyr.below HB5.out);go_wp2_with fail
       refine wp_region_noPanic ?_;refine wp_region_held_drew (S:=fun w'=>Below w5.heap.size w5 w') (by kernel_rfl) ((below_drewN (Below.refl _ _) 1)) (fun hld=>?_);refine Rg.tk (i:=0) rfl ?_;try simp only [Act.put,Rg.s]
       refine Rg.tk (i:=1) rfl ?_;try simp only [Act.put,Rg.s]
       refine Rg.tk (i:=2) rfl ?_;try simp only [Act.put,Rg.s]
       refine Rg.tk (i:=3) rfl ?_;try simp only [Act.put,Rg.s]
       refine Rg.tk (i:=4) rfl ?_;try simp only [Act.put,Rg.s]
       refine Rg.tk (i:=5) rfl ?_;try simp only [Act.put,Rg.s]
       refine Rg.tk (i:=6) rfl ?_;try simp only [Act.put,Rg.s]
       refine Rg.tk (i:=7) rfl ?_ (hy:=by intro wz hSw; (have q0:=hqi; have q1:=hqm; go_simp <;> with_reducible rfl));try simp only [Act.put,Rg.s]
       refine Rg.tk (i:=8) rfl ?_;try simp only [Act.put,Rg.s]
       refine Rg.tk (i:=9) rfl ?_ (hy:=by intro wz hSw; (refine op_load_key_mid HKy.out (HPy5.out.below hSw).key ?_; exact ⟨_,rfl,rfl⟩));try simp only [Act.put,Rg.s]
       refine Rg.tk (i:=10) rfl ?_;try simp only [Act.put,Rg.s]
       refine Rg.tk (i:=11) rfl ?_;try simp only [Act.put,Rg.s]
       refine Rg.tk (i:=12) rfl ?_ (hy:=by intro wz hSw; (have q0:=hji; have q1:=hlt; go_simp <;> with_reducible rfl));try simp only [Act.put,Rg.s]
       refine Rg.tk (i:=13) rfl ?_;try simp only [Act.put,Rg.s]
       refine Rg.tk (i:=14) rfl ?_ (hy:=by intro wz hSw; (refine op_load_key_mid HKx.out (HPx5.out.below hSw).key ?_; exact ⟨_,rfl,rfl⟩));try simp only [Act.put,Rg.s]
       refine Rg.tk (i:=15) rfl ?_ (hy:=by intro wz hSw; (refine op_eql_keys HKy.out HKx.out ?_; exact ⟨_,_,_,rfl,rfl,rfl⟩));try simp only [Act.put,Rg.s]
       refine Rg.tk (i:=16) rfl ?_;try simp only [Act.put,Rg.s]
       refine wpAnyH_done (by kernel_rfl) ?_ _;refine NoPanic.normal ?_;have HB6:Hid (Below wo.heap.size wo w5.drew):=hid (HB5.out.drew);have HR6:=hid (own_keepN HR5.out ((Below.refl _ _).drew));clear hld;have HZ6:Hid (w5.heap.size≤w5.drew.heap.size):=hid (Nat.le_refl _);obtain ⟨w6,hw6⟩:∃ W,w5.drew=W:=⟨_,rfl⟩
       rw [hw6] at HB6 HR6 HZ6 ⊢;clear hw6;rw [HEd.out];have HP6:=hid (HP2.out.below HB6.out);have HD6:=hid (HP6.out.from' (q) (by omega));have hz6:wv0.heap.size≤w6.heap.size:=Nat.le_trans hz5 HZ6.out;have hq6:q+1+(m-(q))≤1000000:=by omega
       have hkm:q≤m:=by omega
       have hlt6:=HR6.out.lt;go_wp2_with (first
        | (refine Rg.run rfl _ _ (op_fromB under_pairs size_pair hkm ⟨_,_,rfl,rfl,rfl⟩) ?_)
        | (at_builtin; refine wpl_append_pairs rfl _ _ rfl rfl rfl HR6.out HD6.out hq6 hz6 ?_))
       intro v7 w7 h7 hg7 hn7;have HR7:Hid (w7.ownsRow w.heap.size 33 33 v7 (S.take q++[x]++S.drop (q)).length (rowP (S.take q++[x]++S.drop (q)))):=hid (by
        rw [show (S.take q++[x]++S.drop (q)).length=q+1+(m-q) by simp only [List.length_append,List.length_take,List.length_drop,List.length_singleton,HSm.out]; omega,List.append_assoc];exact own_mono h7 (by have:=HB.out.size; omega))
       have HB7:Hid (Below w.heap.size w w7):=hid (HB.out.trans (((HB6.out.grown hg7 (by have:=HB6.out.size; omega) (fun k hk=>Nat.le_trans hbz (hlt6 k hk).1))).mono HB.out.size));clear h7 hg7 hn7;go_wp2;go_roundw
       case rel=>exact ⟨j+1,by omega,by go_num,hid (by rw [HF.out,ins_stop S x q (by rw [HSm.out]; omega) HI.out (fun _=>by rw [HYy.out]; exact HNl.out),if_neg (fun g=>HEk.out (by rw [← HYy.out]; exact g.2))]; exact HR7.out),HB7⟩
       case measure=>simp [intOf]; omega
    ·obtain rfl:q=m:=by omega
     have hqd:¬ ((q:Int)<q):=by omega
     go_wp2_with fail
     refine wp_region_noPanic ?_;refine wp_region_held_drew (S:=fun w'=>Below wr.heap.size wr w') (by kernel_rfl) ((below_drewN (Below.refl _ _) 1)) (fun hld=>?_);refine Rg.tk (i:=0) rfl ?_;try simp only [Act.put,Rg.s]
     refine Rg.tk (i:=1) rfl ?_;try simp only [Act.put,Rg.s]
     refine Rg.tk (i:=2) rfl ?_;try simp only [Act.put,Rg.s]
     refine Rg.tk (i:=3) rfl ?_ (hy:=by intro wz hSw; (have q0:=hqd; go_simp <;> with_reducible rfl));try simp only [Act.put,Rg.s]
     refine Rg.tk (i:=4) rfl ?_;try simp only [Act.put,Rg.s]
     refine Rg.takeL (i:=5) (v:=undef) rfl (by kernel_rfl) (by kernel_rfl) (by kernel_rfl) (fun _ _ _ h=>h) (Or.inr ⟨by rfl,rfl⟩) (by assumption) ?_;try simp only [Act.put,Rg.s]
     refine Rg.takeL (i:=6) (v:=undef) rfl (by kernel_rfl) (by kernel_rfl) (by kernel_rfl) (fun _ _ _ h=>h) (Or.inr ⟨by rfl,rfl⟩) (by assumption) ?_;try simp only [Act.put,Rg.s]
     refine Rg.takeL (i:=7) (v:=undef) rfl (by kernel_rfl) (by kernel_rfl) (by kernel_rfl) (fun _ _ _ h=>h) (Or.inr ⟨by rfl,rfl⟩) (by assumption) ?_;try simp only [Act.put,Rg.s]
     refine Rg.takeL (i:=8) (v:=undef) rfl (by kernel_rfl) (by kernel_rfl) (by kernel_rfl) (fun _ _ _ h=>h) (Or.inr ⟨by rfl,rfl⟩) (by assumption) ?_;try simp only [Act.put,Rg.s]
     refine Rg.takeL (i:=9) (v:=undef) rfl (by kernel_rfl) (by kernel_rfl) (by kernel_rfl) (fun _ _ _ h=>h) (Or.inr ⟨by rfl,rfl⟩) (by assumption) ?_;try simp only [Act.put,Rg.s]
     refine Rg.takeL (i:=10) (v:=undef) rfl (by kernel_rfl) (by kernel_rfl) (by kernel_rfl) (fun _ _ _ h=>h) (Or.inr ⟨by rfl,rfl⟩) (by assumption) ?_;try simp only [Act.put,Rg.s]
     refine Rg.takeL (i:=11) (v:=undef) rfl (by kernel_rfl) (by kernel_rfl) (by kernel_rfl) (fun _ _ _ h=>h) (Or.inr ⟨by rfl,rfl⟩) (by assumption) ?_;try simp only [Act.put,Rg.s]
     refine Rg.takeL (i:=12) (v:=undef) rfl (by kernel_rfl) (by kernel_rfl) (by kernel_rfl) (fun _ _ _ h=>h) (Or.inr ⟨by rfl,rfl⟩) (by assumption) ?_;try simp only [Act.put,Rg.s]
     refine Rg.takeL (i:=13) (v:=undef) rfl (by kernel_rfl) (by kernel_rfl) (by kernel_rfl) (fun _ _ _ h=>h) (Or.inr ⟨by rfl,rfl⟩) (by assumption) ?_;try simp only [Act.put,Rg.s]
     refine Rg.takeL (i:=14) (v:=undef) rfl (by kernel_rfl) (by kernel_rfl) (by kernel_rfl) (fun _ _ _ h=>h) (Or.inr ⟨by rfl,rfl⟩) (by assumption) ?_;try simp only [Act.put,Rg.s]
     refine Rg.takeL (i:=15) (v:=undef) rfl (by kernel_rfl) (by kernel_rfl) (by kernel_rfl) (fun _ _ _ h=>h) (Or.inr ⟨by rfl,rfl⟩) (by assumption) ?_;try simp only [Act.put,Rg.s]
     refine Rg.tk (i:=16) rfl ?_;try simp only [Act.put,Rg.s]
     refine wpAnyH_done (by kernel_rfl) ?_ _;refine NoPanic.normal ?_;have HBz:Hid (Below wo.heap.size wo wr.drew):=hid (HB2.out.drew);clear hld;obtain ⟨wv0,hwv⟩:∃ W,wr.drew=W:=⟨_,rfl⟩
     rw [hwv] at HBz ⊢;clear hwv;have hbz:=HBz.out.size;have HP3:=hid (HP2.out.below HBz.out);have HPx3:=hid (hpxr.below HBz.out);have HU3:Hid (IsPs (wv0.alloc (.cells #[] 33)) _ q c2 (S.take q)):=hid (((HP3.out.below (al1 _ _))).upto q (by omega));have HL3:Hid ((wv0.alloc (.cells #[] 33)).ownsRow wv0.heap.size 33 33 (.slice (some ⟨wv0.heap.size,0,none⟩) 0 0) 0 (rowP [])):=hid (World.ownsRow_lit (e:=33) (size:=33) (base:=wv0.heap.size) wv0 #[] 0 (Nat.le_refl _) (by unfold maxLen; decide) rfl)
     have hs3:wv0.heap.size≤(wv0.alloc (.cells #[] 33)).heap.size:=by simp
     have hq0:0+q≤1000000:=by omega
     have hqc:q≤c2:=by omega
     go_wp2_with (first
      | (refine Rg.run rfl _ _ (op_lit_none _ rfl rfl) ?_)
      | (refine Rg.run rfl _ _ (op_uptoB under_pairs size_pair hqc ⟨_,_,rfl,rfl,rfl⟩) ?_)
      | (at_builtin; refine wpl_append_pairs rfl _ _ rfl rfl rfl HL3.out HU3.out hq0 hs3 ?_))
     intro v4 w4 h4 hg4 hn4;have HR4:Hid (w4.ownsRow wv0.heap.size 33 33 v4 q (rowP (S.take q))):=hid (by simpa using h4);have HB4:Hid (Below wo.heap.size wo w4):=hid ((HBz.out.alloc HBz.out.size _).grown hg4 (by simp; omega) (fun k hk=>by cases hk; exact hbz));have hz4:wv0.heap.size<w4.heap.size:=by
      obtain ⟨_,_,_,hz,_⟩:=hg4;simp at hz;omega
     clear h4 hg4 hn4 HL3 HU3 hs3 hq0 HP3 HPx3;have HPx4:=hid (hpxr.below HB4.out);have HN4:=hid (Rg.Own.new w4 (pairA x) 33);have HU4:Hid (IsPs (w4.alloc (.cells (pairA x) 33)) (some ⟨w4.heap.size,0,none⟩) 1 1 [x]):=hid (isPs_one HKx.out HN4.out);have HR4':=hid (HR4.out.alloc (.cells (pairA x) 33));have hq4:q+1≤1000000:=by omega
     have hs4:wv0.heap.size≤(w4.alloc (.cells (pairA x) 33)).heap.size:=by simp; omega
     go_wp2_with (first
      | (refine Rg.run rfl _ _ (op_load_pair HKx.out HPx4.out ⟨_,rfl,rfl⟩) ?_)
      | (refine Rg.run rfl _ _ (op_lit_pair HKx.out _ rfl ⟨_,rfl,rfl⟩) ?_)
      | (at_builtin; refine wpl_append_pairs rfl _ _ rfl rfl rfl HR4'.out HU4.out hq4 hs4 ?_))
     intro v5 w5 h5 hg5 hn5;have HR5:Hid (w5.ownsRow wv0.heap.size 33 33 v5 (q+1) (rowP (S.take q++[x]))):=hid h5;have hlt4:=HR4.out.lt;have HB5:Hid (Below wo.heap.size wo w5):=hid ((HB4.out.alloc HB4.out.size _).grown hg5 (by have:=HB4.out.size; simp; omega) (fun k hk=>Nat.le_trans hbz (hlt4 k hk).1));have hz5:wv0.heap.size≤w5.heap.size:=by
      obtain ⟨_,_,_,hz,_⟩:=hg5;simp at hz;omega
     clear h5 hg5 hn5 HN4 HU4 HR4' hs4 hq4 HPx4 HR4 HB4 hlt4;have HP5:=hid (HP2.out.below HB5.out);have HPx5:=hid (hpxr.below HB5.out);go_wp2_with fail
     refine wp_region_noPanic ?_;refine wp_region_held_drew (S:=fun w'=>Below w5.heap.size w5 w') (by kernel_rfl) ((below_drewN (Below.refl _ _) 1)) (fun hld=>?_);refine Rg.tk (i:=0) rfl ?_;try simp only [Act.put,Rg.s]
     refine Rg.tk (i:=1) rfl ?_;try simp only [Act.put,Rg.s]
     refine Rg.tk (i:=2) rfl ?_;try simp only [Act.put,Rg.s]
     refine Rg.tk (i:=3) rfl ?_ (hy:=by intro wz hSw; (have q0:=hqd; go_simp <;> with_reducible rfl));try simp only [Act.put,Rg.s]
     refine Rg.tk (i:=4) rfl ?_;try simp only [Act.put,Rg.s]
     refine Rg.takeL (i:=5) (v:=undef) rfl (by kernel_rfl) (by kernel_rfl) (by kernel_rfl) (fun _ _ _ h=>h) (Or.inr ⟨by rfl,rfl⟩) (by assumption) ?_;try simp only [Act.put,Rg.s]
     refine Rg.takeL (i:=6) (v:=undef) rfl (by kernel_rfl) (by kernel_rfl) (by kernel_rfl) (fun _ _ _ h=>h) (Or.inr ⟨by rfl,rfl⟩) (by assumption) ?_;try simp only [Act.put,Rg.s]
     refine Rg.takeL (i:=7) (v:=undef) rfl (by kernel_rfl) (by kernel_rfl) (by kernel_rfl) (fun _ _ _ h=>h) (Or.inr ⟨by rfl,rfl⟩) (by assumption) ?_;try simp only [Act.put,Rg.s]
     refine Rg.takeL (i:=8) (v:=undef) rfl (by kernel_rfl) (by kernel_rfl) (by kernel_rfl) (fun _ _ _ h=>h) (Or.inr ⟨by rfl,rfl⟩) (by assumption) ?_;try simp only [Act.put,Rg.s]
     refine Rg.takeL (i:=9) (v:=undef) rfl (by kernel_rfl) (by kernel_rfl) (by kernel_rfl) (fun _ _ _ h=>h) (Or.inr ⟨by rfl,rfl⟩) (by assumption) ?_;try simp only [Act.put,Rg.s]
     refine Rg.takeL (i:=10) (v:=undef) rfl (by kernel_rfl) (by kernel_rfl) (by kernel_rfl) (fun _ _ _ h=>h) (Or.inr ⟨by rfl,rfl⟩) (by assumption) ?_;try simp only [Act.put,Rg.s]
     refine Rg.takeL (i:=11) (v:=undef) rfl (by kernel_rfl) (by kernel_rfl) (by kernel_rfl) (fun _ _ _ h=>h) (Or.inr ⟨by rfl,rfl⟩) (by assumption) ?_;try simp only [Act.put,Rg.s]
     refine Rg.takeL (i:=12) (v:=undef) rfl (by kernel_rfl) (by kernel_rfl) (by kernel_rfl) (fun _ _ _ h=>h) (Or.inr ⟨by rfl,rfl⟩) (by assumption) ?_;try simp only [Act.put,Rg.s]
     refine Rg.takeL (i:=13) (v:=undef) rfl (by kernel_rfl) (by kernel_rfl) (by kernel_rfl) (fun _ _ _ h=>h) (Or.inr ⟨by rfl,rfl⟩) (by assumption) ?_;try simp only [Act.put,Rg.s]
     refine Rg.takeL (i:=14) (v:=undef) rfl (by kernel_rfl) (by kernel_rfl) (by kernel_rfl) (fun _ _ _ h=>h) (Or.inr ⟨by rfl,rfl⟩) (by assumption) ?_;try simp only [Act.put,Rg.s]
     refine Rg.takeL (i:=15) (v:=undef) rfl (by kernel_rfl) (by kernel_rfl) (by kernel_rfl) (fun _ _ _ h=>h) (Or.inr ⟨by rfl,rfl⟩) (by assumption) ?_;try simp only [Act.put,Rg.s]
     refine Rg.tk (i:=16) rfl ?_;try simp only [Act.put,Rg.s]
     refine wpAnyH_done (by kernel_rfl) ?_ _;refine NoPanic.normal ?_;have HB6:Hid (Below wo.heap.size wo w5.drew):=hid (HB5.out.drew);have HR6:=hid (own_keepN HR5.out ((Below.refl _ _).drew));clear hld;have HZ6:Hid (w5.heap.size≤w5.drew.heap.size):=hid (Nat.le_refl _);obtain ⟨w6,hw6⟩:∃ W,w5.drew=W:=⟨_,rfl⟩
     rw [hw6] at HB6 HR6 HZ6 ⊢;clear hw6;have HP6:=hid (HP2.out.below HB6.out);have HD6:=hid (HP6.out.from' (q) (by omega));have hz6:wv0.heap.size≤w6.heap.size:=Nat.le_trans hz5 HZ6.out;have hq6:q+1+(q-(q))≤1000000:=by omega
     have hkm:q≤q:=by omega
     have hlt6:=HR6.out.lt;go_wp2_with (first
      | (refine Rg.run rfl _ _ (op_fromB under_pairs size_pair hkm ⟨_,_,rfl,rfl,rfl⟩) ?_)
      | (at_builtin; refine wpl_append_pairs rfl _ _ rfl rfl rfl HR6.out HD6.out hq6 hz6 ?_))
     intro v7 w7 h7 hg7 hn7;have HR7:Hid (w7.ownsRow w.heap.size 33 33 v7 (S.take q++[x]++S.drop (q)).length (rowP (S.take q++[x]++S.drop (q)))):=hid (by
      rw [show (S.take q++[x]++S.drop (q)).length=q+1 by simp only [List.length_append,List.length_take,List.length_drop,List.length_singleton,HSm.out]; omega,List.append_assoc];exact own_mono h7 (by have:=HB.out.size; omega))
     have HB7:Hid (Below w.heap.size w w7):=hid (HB.out.trans (((HB6.out.grown hg7 (by have:=HB6.out.size; omega) (fun k hk=>Nat.le_trans hbz (hlt6 k hk).1))).mono HB.out.size));clear h7 hg7 hn7;go_wp2;go_roundw
     case rel=>exact ⟨j+1,by omega,by go_num,hid (by rw [HF.out,ins_stop S x q (by rw [HSm.out]; omega) HI.out (fun g=>absurd g (by rw [HSm.out]; omega)),if_neg (fun g=>absurd g.1 (by rw [HSm.out]; omega))]; exact HR7.out),HB7⟩
     case measure=>simp [intOf]; omega
  ·obtain rfl:j=n:=by omega
   have HR':Hid (wo.ownsRow w.heap.size 33 33 _ (sortL l).length (rowP (sortL l))):=hid (by
    have e:=HR.out;rwa [List.take_of_length_le (by rw [HL.out]; exact Nat.le_refl _)] at e)
   clear HR;go_wp2;go_ret;exact ⟨_,rfl,HR'.out,HB.out⟩
end Tm
end
section
open Go.RowKit
namespace Tm
open Tr Ni Pk Ky No Rf Rl
open Sm (Tab)
theorem isBs_ne {w w':World} {g:Nat} {a:Option Addr} {n c:Nat} {l:List UInt8} (h:IsBs w a n c l) (hu:Rg.Upd w g w') (hne:∀ ad,a=some ad→0<n→ad.block≠g):IsBs w' a n c l:=by
 refine ⟨h.1,h.2.1,h.2.2.1,h.2.2.2.1,fun j hj=>?_⟩;obtain ⟨b,off,e,hlt,hc⟩:=h.at' j hj;exact ⟨b,off,e,by rw [hu.size]; exact hlt,by rw [World.cell?_of_block (hu.block b (hne _ e (by omega)))]; exact hc⟩
theorem RowK.fr {M M':Mp} {w w':World} {g cap:Nat} {ps:List (Option Addr)} (h:RowK w g cap ps) (f:Fr M M' w w') (hm:M.at_ g=none):RowK w' g cap ps:=by
 obtain ⟨cur,hO,h1⟩:=h;exact ⟨cur,own_fr hO f hm,h1⟩
namespace Op3
variable {w0:World} {M M':Mp} {w w':World} {bk bt:Nat} {K:List UInt8} {p:Option Addr} {t:T} {bn:Nat} {N:Nd} {a:Option Addr} {n c:Nat} {ka:Option Addr} {kc':Nat} {ps:List (Option Addr)} {bu:Nat} {pu:Option Addr} {u:T} {g cp:Nat} {ps2:List (Option Addr)} {ts2:List T}
end Op3
end Tm
end
section
open Go.RowKit
namespace Tm
open Tr Ni Pk Ky No Rf Rl
open Sm (Tab)
theorem make_any (M:Mp) (N:Nd) (ts:List T) (hM:Mk N ts) (pa:Option Addr) (pn pc:Nat) (ps:List (Option Addr)) (hA:Are M ps ts) (ka:Option Addr) (kn kc:Nat) (hn:kn≤1000000) (w:World) (hi:Inv M w) (hT:Tab w) (hB:IsBs w pa pn pc N.p) (hP:Ptrs w ka kn kc ps) :
  Calls Tryz.prog 28 #[.agg (ndC N pa pn pc),.slice ka kn kc] w (MakeP M w (makeT N ts) 0):=by
 obtain ⟨w2,hw2,hN,hX,hb2⟩:∃ w2,w2=(w.alloc (.cells (ndC N pa pn pc) 56)).alloc (.cells #[.pointer none] 28)∧OwnN w2 w.heap.size N pa pn pc∧Rg.Own w2 (w.heap.size+1) #[.pointer none] 28∧Below w.heap.size w w2:=by
  refine ⟨_,rfl,(Rg.Own.new _ _ _).below (al1 _ _),?_,al2 _ _ _⟩;have:=Rg.Own.new (w.alloc (.cells (ndC N pa pn pc) 56)) #[.pointer none] 28;simpa using this
 have hkn:(kidsL N.ks).length=kn:=by rw [hM.refs,List.length_map,← hA.1]; exact hP.2.2.1
 have hpn:pn≤1000000:=by have:=hB.len; have:=hM.pl; omega
 have HN:=hid hN;have HX:=hid hX;have HB:=hid hb2;have HBs:=hid (hB.below hb2);have HP:=hid (hP.below hb2);have HI:=hid (hi.below hb2);have HIz:=HI;have HTb:=hid (hT.below hb2 hT.pos);have HL:=hid hM.ks;have HW:Hid (_=_):=hid hw2;have HKd:=hid (kids_new N pa pn pc hM.ks w2);have HCk:=hid (fun wz hz=>check_may hM.ks hM.may hM.v hM.few pa pn pc wz hz)
 have HEnd:Hid (∀ w5 w8 e,Fr M M w2 w5→Tab w5→GotT M w5 (makeT N ts) e w8→∃ p,e = .returned (tv p)∧∀ w9,Rg.Upd w8 (w.heap.size+1) w9→MakeP M w (makeT N ts) 0 (.returned (.tuple #[tv p,.int .i64 0])) w9):=hid (fun w5 w8 e f t g=>make_end hi hT.pos hb2 hX (Nat.le_succ _) f t g)
 have HPl:Hid (∀ w5,Ptrs w5 ka kn kc ps→∀ wz,Below w5.heap.size w5 wz→Calls Tryz.prog 62 #[.agg (ndC N pa pn pc),.slice ka kn kc] wz fun e w'=>∃ va vn vc,e = .returned (.slice va vn vc)∧Ks0 M w5.heap.size w' va vn vc (partsT (makeT N ts))∧Below wz.heap.size wz w'):=hid (fun w5 hp wz hb=>by
  refine (placed_any M N hM.ks pa pn pc ps ts hA hM.kd' ka kn kc wz (hp.below hb) hn).mono ?_;rintro e w' ⟨va,vn,vc,he,hk,hb'⟩;exact ⟨va,vn,vc,he,hk.lo hb.size,hb'⟩)
 have HBu:=hid (built_make (makeT N ts) N.kd N.v hM.k hM.mv hM.ms);have HPt:=hid hM.mp;have HNe:=hid hM.mn;have HAt:Hid (M.at_ w.heap.size=none∧M.at_ (w.heap.size+1)=none):=hid ⟨hi.out (Nat.le_refl _),hi.out (by omega)⟩;have HM:=hid hM;have HA:=hid hA;obtain ⟨TT,hTT⟩:∃ TT,makeT N ts=TT:=⟨_,rfl⟩
 rw [hTT] at HEnd HPl HBu HPt HNe ⊢;obtain ⟨gN,hgN⟩:∃ g,w.heap.size=g:=⟨_,rfl⟩
 obtain ⟨gT,hgT⟩:∃ g,w.heap.size+1=g:=⟨_,rfl⟩
 have hgg:gN≠gT:=by omega
 have HGT:Hid (gT=w.heap.size+1):=hid hgT.symm;rw [hgT] at HX HEnd HAt;rw [hgN] at HN HAt;have HGN:Hid (_=_):=hid hgN;have HKn:=hid hkn;clear hN hX hb2 hB hP hi hT hM hA hw2 hTT hkn hgT hgN;have hgo:Calls Tryz.prog 28 #[.agg (ndC N pa pn pc),.slice ka kn kc] w (MakeP M w TT 0):=by
  go_enter Tryz.func28,Tryz.ntmps28;go_wp2_with (first
   | (refine Rg.run rfl _ _ (run_alloc_tree _ _ _ gT (by rw [HGT.out]; simp) rfl) ?_; rw [← HW.out,HGN.out])
   | (refine Rg.run rfl _ _ (op_load_nd HN.out HL.out ⟨_,rfl,rfl⟩) ?_))
  refine HKd.out.mono ?_;rintro e w3 ⟨a3,n3,c3,rfl,hS3,hn3,hb3⟩;obtain rfl:kn=n3:=by rw [← hS3.2.2.1]; exact HKn.out.symm
  have HN3:=hid (HN.out.below hb3);have HX3:=hid (HX.out.below hb3);have HB3:=hid (hb3);have HBs3:=hid (HBs.out.below hb3);have HS3:=hid hS3;have HN3':Hid (∀ b off,a3=some ⟨b,off,none⟩→M.at_ b=none):=hid (fun b off e=>HI.out.out (hn3 b off e));clear hS3 hn3 hb3 HKd HX HBs HW;go_wp2_with (first
   | (refine Rg.run rfl _ _ (op_load_nd HN3.out HL.out ⟨_,rfl,rfl⟩) ?_))
  refine (HCk.out w3 HBs3.out).mono ?_;rintro e w4 ⟨rfl,hb4⟩;have HN4:=hid (HN3.out.below hb4);have HX4:=hid (HX3.out.below hb4);have HBs4:=hid (HBs3.out.below hb4);have HB4:=hid (bst HB3.out hb4);have HS4:=hid (HS3.out.below hb4);have HP4:=hid (HP.out.below HB4.out);have HI4:=hid (HI.out.below HB4.out);have HT4:=hid (HTb.out.below HB4.out HTb.out.pos);have c0:=(nd_cells HN4.out).1;clear hb4 HN3 HX3 HB3 HBs3 HS3 HCk HP HI HTb;go_upto_region 4 with fail
  go_cut [36] (fun v wx=>v = .bool false∧Hid (Below w4.heap.size w4 wx))
  case first =>
   rcases HM.out.kd with ⟨h1,h2⟩ | ⟨h1,s,hts,hs1,hs2⟩ | ⟨h1,h2⟩
   ·rw [h1] at c0;clear h1 h2;go_wp2_with fail
    go_meet
    exact ⟨rfl,hid (Below.refl _ _)⟩
   ·rw [h1] at c0;have hps:ps.length=1:=by rw [HA.out.1,hts]; rfl
    have hk1:kn=1:=by rw [← HP4.out.2.2.1]; exact hps
    obtain ⟨b,off,hka,hlt,hc⟩:=HP4.out.2.2.2.2 0 (by omega);have ht:=HA.out.2 0 (by omega);rw [hts] at ht;have ht':IsT M (ps.getD 0 none) s:=ht;have hKd:=fun wz (hb:Below w4.heap.size w4 wz)=>Tm.kind_any M (ps.getD 0 none) s wz (HI4.out.below hb) ht';obtain ⟨p,hp⟩:∃ p,ps.getD 0 none=p:=⟨_,rfl⟩
    rw [hp] at hc hKd;have HKd:=hid hKd;obtain ⟨K,hK⟩:∃ K,kindT s=K:=⟨_,rfl⟩
    rw [hK] at HKd hs1 hs2;have k1:(K==1)=false:=by rw [beq_eq_false_iff_ne]; exact hs1
    have k2:(K==2)=false:=by rw [beq_eq_false_iff_ne]; exact hs2
    have k1':decide (K=1)=false:=decide_eq_false hs1;have k2':decide (K=2)=false:=decide_eq_false hs2;rw [Nat.add_zero] at hc;have HC:=hid hc;clear h1 hps ht ht' hKd hp hK hts;subst hk1;subst hka;go_wp2_with (first
     | (refine Rg.run rfl _ _ (op_load_tree HC.out ⟨_,rfl,rfl⟩) ?_)
     | (refine Rg.runW ?hw _ _ (op_load_tree HC.out ⟨_,rfl,rfl⟩) ?_; case hw=>rfl))
    refine (HKd.out w4 (Below.refl _ _)).mono ?_;rintro e w5 ⟨rfl,hb5⟩;have HC5:=hid ((Below.cell (p:=⟨b,off,none⟩) hb5 hlt).trans HC.out);have HB5:=hid hb5;clear hb5;go_wp2_with (first
     | (refine Rg.run rfl _ _ (op_load_tree HC5.out ⟨_,rfl,rfl⟩) ?_)
     | (refine Rg.runW ?hw _ _ (op_load_tree HC5.out ⟨_,rfl,rfl⟩) ?_; case hw=>rfl))
    refine (HKd.out w5 HB5.out).mono ?_;rintro e w6 ⟨rfl,hb6⟩;have HB6:=hid (bst HB5.out hb6);clear hb6;go_wp2_with fail
    go_meet
    exact ⟨rfl,HB6⟩
   ·rw [h1] at c0;clear h1 h2;go_wp2_with fail
    go_meet
    exact ⟨rfl,hid (Below.refl _ _)⟩
  case rest =>
  obtain ⟨rfl,HB5⟩:=hcut;obtain ⟨wd,hwd⟩:∃ wd,wd=wc:=⟨_,rfl⟩
  subst hwd;have HNd:=hid (HN4.out.below HB5.out);have HXd:=hid (HX4.out.below HB5.out);have HBsd:=hid (HBs4.out.below HB5.out);have HSd:=hid (HS4.out.below HB5.out);have HPd:=hid (HP4.out.below HB5.out);have HId:=hid (HI4.out.below HB5.out);have HTd:=hid (HT4.out.below HB5.out HT4.out.pos);have HF2d:Hid (Fr M M w2 wd):=hid (Fr.below M (bst HB4.out HB5.out));have HEq:=hid (equal_any M ps ts ka kn kc a3 kn c3 wd HPd.out HA.out HM.out.fine (by rw [← HM.out.refs]; exact HSd.out) HN3'.out hn HId.out HTd.out);clear HN4 HX4 HBs4 HS4 HP4 HI4 HT4 HB5 HB4 HSd c0;go_wp2_with fail
  refine HEq.out.mono ?_;rintro e w5 ⟨rfl,hf5,hi5,hT5⟩;have HN5:Hid (OwnN w5 gN N pa pn pc):=hid (own_fr HNd.out hf5 HAt.out.1);have HX5:=hid (own_fr HXd.out hf5 HAt.out.2);have HBs5:=hid (isBs_fr HId.out HBsd.out hf5);have HP5:=hid (HPd.out.frm HId.out hf5);have HI5:=hid hi5;replace HEnd:=hid (fun w8 e g=>HEnd.out w5 w8 e (HF2d.out.trans HIz.out hf5) hT5 g);replace HPl:=hid (HPl.out w5 HP5.out)
  have HCl:Hid (∀ wz,Below w5.heap.size w5 wz→Calls Tryz.prog 61 #[.slice pa pn pc] wz (GotBsF wz N.p)):=hid (fun wz hb=>cloneB_any pa pn pc N.p hpn wz (HBs5.out.below hb));clear hf5 hi5 hT5 HEq HNd HXd HBsd HPd HId HTd HF2d;go_wp2_with fail
  have HBel:Hid (Below w5.heap.size w5 w5.drew):=hid (Below.refl _ _).drew;refine wp_region_noPanic ?_;refine wp_region_held_drew (S:=fun w'=>OwnN w' gN N pa pn pc) (by kernel_rfl) (HN5.out.drew) (fun hld=>?_);refine Rg.tk (i:=0) rfl ?_;try simp only [Act.put,Rg.s]
  refine Rg.tk (i:=1) rfl ?_ (hy:=by intro wz hSw; (have q0:=(nd_cells hSw).1; go_simp <;> with_reducible rfl));try simp only [Act.put,Rg.s]
  refine Rg.tk (i:=2) rfl ?_;try simp only [Act.put,Rg.s]
  refine Rg.tk (i:=3) rfl ?_ (hy:=by intro wz hSw; (have q0:=(nd_cells hSw).2.1; go_simp <;> with_reducible rfl));try simp only [Act.put,Rg.s]
  refine Rg.tk (i:=5) rfl ?_;try simp only [Act.put,Rg.s]
  refine Rg.tk (i:=6) rfl ?_ (hy:=by intro wz hSw; (have q0:=(nd_cells hSw).2.2; go_simp <;> with_reducible rfl));try simp only [Act.put,Rg.s]
  refine Rg.tk (i:=7) rfl ?_ (hy:=by intro wz hSw; (refine op_load_nd hSw HL.out ?_; exact ⟨_,rfl,rfl⟩));try simp only [Act.put,Rg.s]
  refine Rg.tk (i:=8) rfl ?_;try simp only [Act.put,Rg.s]
  refine Rg.rd (i:=4) rfl fun K hK=>?_;go_simp;go_at_call 61
  (with_reducible refine (HCl.out _ HBel.out).mono ?_)
  rintro e wv0 ⟨a7,n7,c7,rfl,hB7,hbx⟩;have HB7:=hid (hB7.weak HBel.out.size);replace HBel:=hid (bst HBel.out hbx);clear hB7;refine hK.out _ _ ?_ (fun hld=>?_)
  ·exact hld.below hbx
  clear hK K hbx;try simp only [Act.put,Rg.s]
  refine Rg.rd (i:=9) rfl fun K hK=>?_;go_simp;go_at_call 62
  (with_reducible refine (HPl.out _ HBel.out).mono ?_)
  rintro e wv1 ⟨va,vn,vc,rfl,hks,hbx⟩;have HKs:=hid hks;replace HB7:=hid (HB7.out.below hbx);replace HBel:=hid (bst HBel.out hbx);clear hks;refine hK.out _ _ ?_ (fun hld=>?_)
  ·exact hld.below hbx
  clear hK K hbx;try simp only [Act.put,Rg.s]
  refine Rg.tk (i:=10) rfl ?_ (hy:=by intro wz hSw; (refine op_build (HBu.out a7 n7 c7 va vn vc) ?_; exact ⟨_,rfl,rfl⟩));try simp only [Act.put,Rg.s]
  refine Rg.rd (i:=11) rfl fun K hK=>?_;refine Rg.meetAlloc (by rfl) (op_box_part (t:=TT) ⟨_,rfl,rfl⟩) ?_;rintro wv2 b11 he11 h11 hbx;have ge11:w5.heap.size≤b11:=by rw [he11]; exact HBel.out.size
  replace HB7:=hid (HB7.out.below hbx);replace HKs:=hid (HKs.out.below hbx);replace HBel:=hid (bst HBel.out hbx);obtain ⟨p11,he12,hE⟩:=HEnd.out _ _ (got_part HI5.out HBel.out ge11 HNe.out h11.2 (by rw [HPt.out]; exact HB7.out.1) (fun ad e _=>Or.inr (HB7.out.2 ad e)) HKs.out);obtain rfl:p11=some ⟨b11,0,none⟩:=by cases he12; rfl
  have HE:=hid hE;clear hE he12 he11;refine hK.out _ _ ?_ (fun hld=>?_)
  ·exact hld.below hbx
  clear hK K hbx;try simp only [Act.put,Rg.s]
  refine Rg.tk (i:=12) rfl ?_;try simp only [Act.put,Rg.s]
  refine Rg.rd (i:=13) rfl fun K hK=>?_;refine meet_store_tree (by rfl) (HX5.out.below HBel.out) (off:=0) (by simp) (some ⟨b11,0,none⟩) ⟨_,_,rfl,rfl,rfl⟩ ?_;rintro wv3 hn hu;have HX9:Hid (Rg.Own wv3 gT #[.pointer (some ⟨b11,0,none⟩)] 28):=hid hn;have HP9:=hid (HE.out _ hu);refine hK.out _ _ ?_ (fun hld=>?_)
  ·exact hld.upd hu hgg
  clear hK K hn hu;try simp only [Act.put,Rg.s]
  refine Rg.tk (i:=14) rfl ?_;try simp only [Act.put,Rg.s]
  refine wpAnyH_done (by kernel_rfl) ?_ _;refine NoPanic.normal ?_;clear hld;go_wp2;exact bodyPost_ret (res_tree1 (q:=4) (u:=5) rfl _ rfl HX9.out) rfl HP9.out
 exact hgo
end Tm
end
end Go.Proofs.YtnecijeakeklaaaGreatDoor
