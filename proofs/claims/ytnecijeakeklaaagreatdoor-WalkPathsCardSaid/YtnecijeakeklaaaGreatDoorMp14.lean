/-
 Contracts of the plain answer's Rest, Begin, Common.
-/
import Derived.Test.YtnecijeakeklaaaGreatDoorMp13
import Derived.Test.YtnecijeakeklaaaGreatDoorMp4
import Derived.Test.YtnecijeakeklaaaGreatDoorMp2
import Derived.Test.YtnecijeakeklaaaGreatDoorMp8
import Derived.Test.YtnecijeakeklaaaGreatDoorMp5
open Go.Lib (hid)
set_option linter.unusedSimpArgs false
set_option linter.unusedVariables false
set_option maxHeartbeats 40000000
set_option maxRecDepth 100000
namespace Go.Proofs.YtnecijeakeklaaaGreatDoor
section
open Go.RowKit
namespace Tm
open Tr Ni Pk Ky
theorem getI {l:List Tr.In} {j:Nat} (h:j<l.length):l.getD j ([],eB)∈l∧l.take (j+1)=l.take j++[l.getD j ([],eB)]:=by
 have e:l.getD j ([],eB)=l[j]:=by simp [List.getD,h]
 rw [e];exact ⟨List.getElem_mem _,List.take_succ_eq_append_getElem h⟩
theorem rest_take {l:List Tr.In} {m j:Nat} (h:j<l.length):restL (l.take (j+1)) m=restL (l.take j) m++[((l.getD j ([],eB)).1.drop m,(l.getD j ([],eB)).2)]:=by
 rw [(getI h).2];unfold restL;rw [List.map_append];rfl
theorem rest_any (l:List Tr.In) (a:Option Addr) (n c m:Nat) (hm:∀ x∈l,m≤x.1.length) (w:World) (h:IsIns w a n c l) (hn:n≤1000000) :
  Calls Tryz.prog 38 #[.slice a n c,.int .i64 m] w (GotIns w (restL l m)):=by
 have HH:=hid h;have HL:=hid h.len;have HM:=hid hm;have hcap:=h.1;have hmx:=h.2.1;unfold maxLen at hmx;clear h hm;go_enter Tryz.func38,Tryz.ntmps38;go_wp2_with fail
 go_loopw [5,6] (fun v i wr=>∃ j:Nat,j≤n∧i = .int .i64 j∧Hid (RowN w.heap.size wr v (restL (l.take j) m))∧Hid (Below w.heap.size w wr)) (fun _ i _=>n-(intOf i).toNat)
 case atStart=>exact ⟨0,Nat.zero_le _,rfl,hid (RowN.nil _ _),hid (Below.refl _ _)⟩
 case round =>
  obtain ⟨j,hj,rfl,HR,HB⟩:=hrel;have hszr:=HB.out.size;by_cases hlt:j<n
  ·obtain ⟨b,off,hd,rfl,hblt,hin,hbs⟩:=HH.out.at' j hlt;have hji:(j:Int)<n:=by omega
   have hjl:j<l.length:=by rw [HL.out]; exact hlt
   have HS:=hid (rest_take (m:=m) hjl);have hmle:=HM.out _ (getI hjl).1;have hwl:(restL (l.take j) m).length≤j:=by unfold restL; rw [List.length_map,List.length_take]; exact Nat.min_le_left _ _
   obtain ⟨x,hx⟩:∃ x,l.getD j ([],eB)=x:=⟨_,rfl⟩
   rw [hx] at HS hin hbs hmle;obtain ⟨p,v⟩:=x;obtain ⟨h0,h1,h2⟩:=hd;dsimp only at hbs hmle HS;rw [hbs.len] at hmle;obtain ⟨W,hWW⟩:∃ W,restL (l.take j) m=W:=⟨_,rfl⟩
   rw [hWW] at HR HS hwl;have HIn:=hid hin;have HBs':=hid (bs_from hbs m hmle);clear hx hin hbs hWW;go_wp2_with fail
   refine wp_region_noPanic ?_;refine wp_region_held_drew (S:=fun w'=>Below w.heap.size w w') (by kernel_rfl) (below_drewN HB.out 1) (fun hld=>?_);refine Rg.tk (i:=0) rfl ?_;try simp only [Act.put,Rg.s]
   refine Rg.tk (i:=1) rfl ?_;try simp only [Act.put,Rg.s]
   refine Rg.tk (i:=2) rfl ?_;try simp only [Act.put,Rg.s]
   refine Rg.tk (i:=3) rfl ?_ (hy:=by intro wz hSw; have q0:=hji; have q1:=hlt; (try dsimp only at hSw); go_simp <;> with_reducible rfl);try simp only [Act.put,Rg.s]
   refine Rg.tk (i:=4) rfl ?_;try simp only [Act.put,Rg.s]
   refine Rg.tk (i:=5) rfl ?_ (hy:=by intro wz hSw; have hcc:=cell_on hSw HIn.out.1; (try dsimp only at hSw); go_simp <;> with_reducible rfl);try simp only [Act.put,Rg.s]
   refine Rg.tk (i:=6) rfl ?_;try simp only [Act.put,Rg.s]
   refine Rg.tk (i:=7) rfl ?_ (hy:=by intro wz hSw; (refine op_from (a:=h0) (n:=h1) (c:=h2) (i:=m) under_u8 size_u8 hmle ?_; exact ⟨_,_,rfl,rfl,rfl⟩));try simp only [Act.put,Rg.s]
   refine Rg.tk (i:=8) rfl ?_;try simp only [Act.put,Rg.s]
   refine Rg.tk (i:=9) rfl ?_;try simp only [Act.put,Rg.s]
   refine Rg.tk (i:=10) rfl ?_ (hy:=by intro wz hSw; have q0:=hji; have q1:=hlt; (try dsimp only at hSw); go_simp <;> with_reducible rfl);try simp only [Act.put,Rg.s]
   refine Rg.tk (i:=11) rfl ?_;try simp only [Act.put,Rg.s]
   refine Rg.tk (i:=12) rfl ?_ (hy:=by intro wz hSw; have hcc:=cell_on hSw HIn.out.2; (try dsimp only at hSw); go_simp <;> with_reducible rfl);try simp only [Act.put,Rg.s]
   refine Rg.tk (i:=13) rfl ?_;try simp only [Act.put,Rg.s]
   refine Rg.rd (i:=14) rfl fun K hK=>?_;refine meet_lit_in (x:=(p.drop m,v)) (h:=(fromA h0 h2 m,h1-m,h2-m)) (by rfl) ⟨_,rfl,rfl⟩ ?_;intro w6 b6 hbe hN hb6;have HN:=hid hN;have HB6:Hid (Below wr.heap.size wr w6):=hid (Below.trans (show Below wr.heap.size wr wr.drew from below_drewN (Below.refl _ _) 1) hb6);clear hN hb6 hbe;refine hK.out _ _ ?_ (fun hld=>?_)
   ·exact HB.out.trans (HB6.out.mono HB.out.size)
   clear hK K;try simp only [Act.put,Rg.s]
   refine Rg.rd (i:=15) rfl fun K hK=>?_;refine meet_push_in (by rfl) ⟨_,_,rfl,rfl,rfl⟩ (RowN.below HR.out HB6.out) HN.out (h:=(fromA h0 h2 m,h1-m,h2-m)) (x:=(p.drop m,v)) (BsP.apart (RowN.below HR.out HB6.out) HBs'.out hld (Nat.le_refl _)) (by omega) (Below.size hld) ?_;intro v7 w7 hR7 hg7;have HB7:Hid (Below w.heap.size w w7):=hid (below_pushN (RowN.below HR.out HB6.out) hld (Below.size hld) hg7);have HR7:=hid hR7;clear hR7 hg7;refine hK.out _ _ ?_ (fun hld=>?_)
   ·exact HB7.out
   clear hK K;try simp only [Act.put,Rg.s]
   refine Rg.tk (i:=16) rfl ?_;try simp only [Act.put,Rg.s]
   refine wpAnyH_done (by kernel_rfl) ?_ _;refine NoPanic.normal ?_;go_wp2;go_roundw
   case rel=>exact ⟨j+1,by omega,by go_num,hid (by rw [HS.out]; exact HR7.out),HB7⟩
   case measure=>simp [intOf]; omega
  ·obtain rfl:j=n:=by omega
   have HR':=HR.out;rw [List.take_of_length_le (by rw [HL.out]; exact Nat.le_refl _)] at HR';obtain ⟨a',n',c',rfl,hd⟩:=HR'.done;have HD:=hid hd;clear HR' hd HR;go_wp2;go_ret;exact ⟨_,_,_,rfl,HD.out,HB.out⟩
theorem begin_take {l:List Tr.In} {d:Fin 16} {j:Nat} (h:j<l.length):beginL (l.take (j+1)) d=beginL (l.take j) d++if ((l.getD j ([],eB)).1.getD 0 0).toNat=d.val then [l.getD j ([],eB)] else []:=by
 rw [(getI h).2];unfold beginL;rw [List.filter_append];congr 1;generalize l.getD j ([],eB)=x;by_cases e:(x.1.getD 0 0).toNat=d.val
 ·rw [if_pos e]; simp only [List.filter,e,decide_true]
 ·rw [if_neg e]; simp only [List.filter,e,decide_false]
theorem begin_len (l:List Tr.In) (d:Fin 16) (j:Nat):(beginL (l.take j) d).length≤j:=by
 unfold beginL;exact Nat.le_trans (List.length_filter_le _ _) (by rw [List.length_take]; exact Nat.min_le_left _ _)
theorem op_lit_in {ev:Operand→Value} {o:Oper} {w:World} {x:Tr.In} {h:Hdl} (b:Nat) (hb:b=w.heap.size) (ho:∃ y,o.op = .buildSlice 43 1 #[(0,y)]∧ev y = .agg (inA x h)) :
  (execOp ev o).run Tryz.prog w = .ok (.value (.slice (some ⟨b,0,none⟩) 1 1)) (w.alloc (.cells (inA x h) 84)):=by
 obtain ⟨y,ho,hx⟩:=ho;subst hb;unfold execOp;simp only [ho,List.map_toArray,List.map_cons,List.map_nil,hx];kernel_rfl
theorem begin_any (l:List Tr.In) (a:Option Addr) (n c:Nat) (d:Fin 16) (hm:∀ x∈l,0<x.1.length) (w:World) (h:IsIns w a n c l) (hn:n≤1000000) :
  Calls Tryz.prog 40 #[.slice a n c,.int .i64 d.val] w (GotIns w (beginL l d)):=by
 have HH:=hid h;have HL:=hid h.len;have HM:=hid hm;have hcap:=h.1;have hmx:=h.2.1;unfold maxLen at hmx;obtain ⟨D,hD⟩:∃ D:Nat,d.val=D:=⟨_,rfl⟩
 have HD:=hid hD;rw [hD];clear h hm hD;go_enter Tryz.func40,Tryz.ntmps40;go_wp2_with fail
 go_loopw [5,6] (fun v i wr=>∃ j:Nat,j≤n∧i = .int .i64 j∧Hid (RowN w.heap.size wr v (beginL (l.take j) d))∧Hid (Below w.heap.size w wr)) (fun _ i _=>n-(intOf i).toNat)
 case atStart=>exact ⟨0,Nat.zero_le _,rfl,hid (RowN.nil _ _),hid (Below.refl _ _)⟩
 case round =>
  obtain ⟨j,hj,rfl,HR,HB⟩:=hrel;have hszr:=HB.out.size;by_cases hlt:j<n
  ·obtain ⟨b,off,hd,rfl,hblt,hin,hbs⟩:=HH.out.at' j hlt;have hji:(j:Int)<n:=by omega
   have hjl:j<l.length:=by rw [HL.out]; exact hlt
   have HS:=hid (begin_take (d:=d) hjl);have hp0:=HM.out _ (getI hjl).1;have hwl:=begin_len l d j;obtain ⟨x,hx⟩:∃ x,l.getD j ([],eB)=x:=⟨_,rfl⟩
   rw [hx] at HS hin hbs hp0;obtain ⟨p,v⟩:=x;obtain ⟨h0,h1,h2⟩:=hd;dsimp only at hbs hp0 HS;rw [hbs.len] at hp0;obtain ⟨W,hWW⟩:∃ W,beginL (l.take j) d=W:=⟨_,rfl⟩
   rw [hWW] at HR HS hwl;have hin':=hin.below HB.out;have HIn:=hid hin';have HAp:=hid (BsP.apart HR.out (h:=(h0,h1,h2)) hbs HB.out (Nat.le_refl _));obtain ⟨b',off',rfl,hblt',hc0⟩:=(hbs.below HB.out).at' 0 hp0;have hcs:=hin'.1;dsimp only at hcs;obtain ⟨u,hu⟩:∃ u,(p.getD 0 0).toNat=u:=⟨_,rfl⟩
   have hu256:=UInt8.toNat_lt (p.getD 0 0);rw [hu,HD.out] at HS;rw [hu] at hc0 hu256;simp only [Nat.add_zero] at hc0;have hp0i:(0:Int)<h1:=by omega
   clear hx hin hbs hWW hin' hu;by_cases he:u=D
   ·have HS':Hid (beginL (l.take (j+1)) d=W++[(p,v)]):=hid (by rw [HS.out,if_pos he]);have hd:decide ((u:Int)=(D:Int))=true:=decide_eq_true (by omega);have hbq:((u:Int)==(D:Int))=true:=by simp; omega
    clear he HS;go_wp2_with (first
     | (refine Rg.run rfl _ _ (op_load_in HIn.out ⟨_,rfl,rfl⟩) ?_)
     | (refine Rg.run rfl _ _ (op_lit_in wr.heap.size (by simp) ⟨_,rfl,rfl⟩) ?_)
     | (refine wpl_push_in rfl ⟨_,_,rfl,rfl,rfl⟩ (RowN.below HR.out (al1 _ _)) (Rg.Own.new _ _ _) (h:=(some ⟨b',off',none⟩,h1,h2)) (x:=(p,v)) (BsP.kept HAp.out (by simp) (fun b _ hlt=>(al1 _ _).block b hlt)) ?d1 ?d2 ?_))
    case d1=>omega
    case d2=>simp; omega
    intro v7 w7 hR7 hg7;have HB7:Hid (Below w.heap.size w w7):=hid (below_pushN (RowN.below HR.out (al1 _ _)) (HB.out.trans ((al1 _ _).mono hszr)) (by simp; omega) hg7);have HR7:=hid hR7;clear hR7 hg7;go_wp2;go_roundw
    case rel=>exact ⟨j+1,by omega,by go_num,hid (by rw [HS'.out]; exact HR7.out),HB7⟩
    case measure=>simp [intOf]; omega
   ·have HS':Hid (beginL (l.take (j+1)) d=W):=hid (by rw [HS.out,if_neg he,List.append_nil]);have hd:decide ((u:Int)=(D:Int))=false:=decide_eq_false (by omega);have hbq:((u:Int)==(D:Int))=false:=by simp; omega
    clear he HS;go_wp2_with fail
    go_roundw
    case rel=>exact ⟨j+1,by omega,by go_num,hid (by rw [HS'.out]; exact HR.out),HB⟩
    case measure=>simp [intOf]; omega
  ·obtain rfl:j=n:=by omega
   have HR':=HR.out;rw [List.take_of_length_le (by rw [HL.out]; exact Nat.le_refl _)] at HR';obtain ⟨a',n',c',rfl,hd⟩:=HR'.done;have HD:=hid hd;clear HR' hd HR;go_wp2;go_ret;exact ⟨_,_,_,rfl,HD.out,HB.out⟩
theorem common_take:∀ {l:List Tr.In} {k:Nat},1≤k→k<l.length→commonL (l.take (k+1))=min (commonL (l.take k)) (cp (l.getD 0 ([],eB)).1 (l.getD k ([],eB)).1)
 | [],_,_,h=>absurd h (Nat.not_lt_zero _)
 | _::_,0,h,_=>absurd h (by omega)
 | x::r,k+1,_,h=>by
  have hk:k<r.length:=by simpa using h
  rw [List.take_succ_cons,List.take_succ_cons,List.take_succ_eq_append_getElem hk];have e:(x::r).getD (k+1) ([],eB)=r[k]:=by simp [List.getD,hk]
  rw [e];show List.foldl _ _ (r.take k++[r[k]])=_;rw [List.foldl_append];rfl
theorem common_any (l:List Tr.In) (a:Option Addr) (n c:Nat) (hm:∀ x∈l,x.1.length≤1000000) (h1:1≤n) (w:World) (h:IsIns w a n c l) (hn:n≤1000000) :
  Calls Tryz.prog 37 #[.slice a n c] w fun e w'=>e = .returned (.int .i64 (commonL l:Nat))∧Below w.heap.size w w':=by
 have HH:=hid h;have HL:=hid h.len;have HM:=hid hm;have hcap:=h.1;have hmx:=h.2.1;unfold maxLen at hmx;obtain ⟨b,off,hd0,rfl,hblt,hin0,hbs0⟩:=h.at' 0 (by omega);have HF:Hid (commonL (l.take 1)=(l.getD 0 ([],eB)).1.length):=hid (by
  match l,h.len,h1 with
  | [],e,h1=>simp at e; omega
  | x::r,_,_=>rfl)
 have HG6:=HM.out _ (getI (l:=l) (j:=0) (by rw [HL.out]; omega)).1;obtain ⟨x0,hx0⟩:∃ x,l.getD 0 ([],eB)=x:=⟨_,rfl⟩
 rw [hx0] at hin0 hbs0 HF HG6;have HX0:=hid hx0;obtain ⟨p,v0⟩:=x0;obtain ⟨g0,g1,g2⟩:=hd0;dsimp only at hbs0 HF HG6;rw [hbs0.len] at HF HG6;have hg6:=HG6;simp only [Nat.zero_mul,Nat.add_zero] at hin0;have hc0:=hin0.1;dsimp only at hc0;have HI0:=hid hin0;have HG:=hid hbs0;have hn0:(0:Int)<n:=by omega
 have hn0':0<n:=h1;clear h hm hx0 hin0 hbs0 HG6;go_enter Tryz.func37,Tryz.ntmps37;go_wp2_with fail
 go_loopw [3,4] (fun v i wr=>∃ j:Nat,1≤j∧j≤n∧i = .int .i64 j∧v = .int .i64 (commonL (l.take j):Nat)∧Hid (Below w.heap.size w wr)) (fun _ i _=>n-(intOf i).toNat)
 case atStart=>exact ⟨1,Nat.le_refl _,h1,rfl,by rw [HF.out],hid (Below.refl _ _)⟩
 case round =>
  obtain ⟨j,hj1,hj,rfl,rfl,HB⟩:=hrel;have hszr:=HB.out.size;by_cases hlt:j<n
  ·obtain ⟨b',off',hd,hbe,hblt',hin,hbs⟩:=HH.out.at' j hlt;cases hbe;have hji:(j:Int)<n:=by omega
   have hjl:j<l.length:=by rw [HL.out]; exact hlt
   have HS:=hid (common_take hj1 hjl);have hh6:=HM.out _ (getI hjl).1;rw [HX0.out] at HS;obtain ⟨x,hx⟩:∃ x,l.getD j ([],eB)=x:=⟨_,rfl⟩
   rw [hx] at HS hin hbs hh6;obtain ⟨q,v⟩:=x;obtain ⟨h0,h1,h2⟩:=hd;dsimp only at hbs hh6 HS;rw [hbs.len] at hh6;obtain ⟨Kn,hK⟩:∃ Kn,commonL (l.take j)=Kn:=⟨_,rfl⟩
   obtain ⟨C,hC⟩:∃ C,cp p q=C:=⟨_,rfl⟩
   rw [hK,hC] at HS;rw [hK];have HC:=hid hC;have hmin:((min Kn C:Nat):Int)=if (Kn:Int)<(C:Int) then (Kn:Int) else (C:Int):=by split <;> omega
   have HIn:=hid hin;have HBs':=hid hbs;clear hx hin hbs hK hC;go_wp2_with fail
   refine wp_region_noPanic ?_;refine wp_region_held_drew (S:=fun w'=>Below w.heap.size w w') (by kernel_rfl) (below_drewN HB.out 1) (fun hld=>?_);refine Rg.tk (i:=0) rfl ?_;try simp only [Act.put,Rg.s]
   refine Rg.tk (i:=1) rfl ?_;try simp only [Act.put,Rg.s]
   refine Rg.tk (i:=2) rfl ?_ (hy:=by intro wz hSw; have q0:=hn0; have q1:=hn0'; (try dsimp only at hSw); go_simp <;> with_reducible rfl);try simp only [Act.put,Rg.s]
   refine Rg.tk (i:=3) rfl ?_;try simp only [Act.put,Rg.s]
   refine Rg.tk (i:=4) rfl ?_ (hy:=by intro wz hSw; have hcc:=cell_on hSw HI0.out.1; (try dsimp only at hSw); go_simp <;> with_reducible rfl);try simp only [Act.put,Rg.s]
   refine Rg.tk (i:=5) rfl ?_;try simp only [Act.put,Rg.s]
   refine Rg.tk (i:=6) rfl ?_;try simp only [Act.put,Rg.s]
   refine Rg.tk (i:=7) rfl ?_ (hy:=by intro wz hSw; have q0:=hji; have q1:=hlt; (try dsimp only at hSw); go_simp <;> with_reducible rfl);try simp only [Act.put,Rg.s]
   refine Rg.tk (i:=8) rfl ?_;try simp only [Act.put,Rg.s]
   refine Rg.tk (i:=9) rfl ?_ (hy:=by intro wz hSw; have hcc:=cell_on hSw HIn.out.1; (try dsimp only at hSw); go_simp <;> with_reducible rfl);try simp only [Act.put,Rg.s]
   refine Rg.rd (i:=10) rfl fun K hK=>?_;go_simp;go_at_call 47
   (with_reducible refine (Ni.rcommon_any g0 h0 g1 h1 g2 h2 p q hg6 hh6 _ (HG.out.below hld) (HBs'.out.below hld)).mono ?_)
   rintro e w5 ⟨rfl,q5,rfl⟩;rw [cp_common,HC.out];have HB5:Hid (Below w.heap.size w (wr.drewN (1+q5))):=hid (below_drewN HB.out (1+q5));refine hK.out _ _ ?_ (fun hld=>?_)
   ·first | exact HB5.out | exact below_drewN (below_drewN HB.out 1) q5
   clear hK K;try simp only [Act.put,Rg.s]
   refine Rg.rd (i:=11) rfl fun K hK=>?_;go_simp;go_at_call 76
   (with_reducible refine (Lh.low_any (Kn:Int) (C:Int) _).mono ?_)
   rintro e w6 ⟨rfl,rfl⟩;refine hK.out _ _ ?_ (fun hld=>?_)
   ·first | exact HB5.out | exact below_drewN (below_drewN HB.out 1) q5
   clear hK K;try simp only [Act.put,Rg.s]
   refine Rg.tk (i:=12) rfl ?_;try simp only [Act.put,Rg.s]
   refine wpAnyH_done (by kernel_rfl) ?_ _;refine NoPanic.normal ?_;go_wp2;go_roundw
   case rel=>exact ⟨j+1,by omega,by omega,by go_num,by rw [HS.out]; congr 1; split <;> omega,HB5⟩
   case measure=>simp [intOf]; omega
  ·obtain rfl:j=n:=by omega
   rw [List.take_of_length_le (by rw [HL.out]; exact Nat.le_refl _)];go_wp2;go_ret;exact ⟨rfl,HB.out⟩
end Tm
end
section
open Go.RowKit
namespace Tm
open Tr Ni Pk Ky No
theorem rpath_new (k:List UInt8) (hk:k.length=32) (w:World) :
  Calls Tryz.prog 24 #[.agg (kc k)] w (GotBsF w (pathK k)):=by
 obtain ⟨i0,hi,hz0,hz1,hz2⟩:=info_parts Cc.info_u8;have HI:Hid (_∧_∧_∧_):=hid ⟨hi,hz0,hz1,hz2⟩;have hcell:∀ q,q<32→(w.alloc (.cells (kc k) 24)).cell? ⟨w.heap.size,q,none⟩=some (.int .u8 (k.getD q 0).toNat):=fun q hq=>by
  rw [World.cell?_alloc_mark];simp [kc,List.getD,hk,hq]
 have HC:=hid hcell;have HPS:=hid (fun j hj V hV=>pc_snoc k hk j hj V hV);have HPL:=hid (pathK_length k hk);obtain ⟨C,hC⟩:∃ C,kc k=C:=⟨_,rfl⟩
 rw [hC] at HC ⊢;clear hcell hi hz0 hz1 hz2 hC hk;go_enter Tryz.func24,Tryz.ntmps24;go_wp2;go_loopw [3,4] (fun v i wr=>∃ j:Nat,j≤64∧i = .int .i64 j∧Hid (wr.ownsRow (w.heap.size+1) 5 1 v j (pc k j))∧Below (w.heap.size+1) (w.alloc (.cells C 24)) wr) (fun _ i _=>64-(intOf i).toNat)
 case atStart=>exact ⟨0,Nat.zero_le _,rfl,hid (World.ownsRow_nil _ _ _ _),Below.refl _ _⟩
 case round =>
  obtain ⟨j,hj,rfl,HO,hB⟩:=hrel;by_cases hlt:j<64
  ·have hc0:=HC.out (j/2) (by omega);have hc:∀ o:Obj,wr.cell? ⟨w.heap.size,j/2,none⟩=some (.int .u8 (k.getD (j/2) 0).toNat):=fun _=>by
    rw [hB.cell (p:=⟨w.heap.size,j/2,none⟩) (by simp)]; exact hc0
   have hc:=hc (.cells #[] 0);have hx:=UInt8.toNat_lt (k.getD (j/2) 0);have hsz:w.heap.size+1≤wr.heap.size:=by have:=hB.size; simp at this; omega
   by_cases hp:j%2=0
   ·have HV:=hid (nib_even k j hp);obtain ⟨x,hxe⟩:∃ x,(k.getD (j/2) 0).toNat=x:=⟨_,rfl⟩
    rw [hxe] at hc hx HV;have HS:=hid (HPS.out j hlt ((x:Int)/16%16) (by rw [HV.out]; omega));have hp2:((j:Int)%2==0)=true:=by simp; omega
    clear hc0 hxe hp;go_wp2_with (at_builtin; refine wpList_append_own _ rfl _ _ 51 rfl (w.heap.size+1) 5 i0 (.int .u8 0) 1 1 Tryz.underlying51 HI.out.1 HI.out.2.1 HI.out.2.2.1 HI.out.2.2.2 rfl (by decide) _ _ _ rfl (HO.out.alloc _) ⟨wr.heap.size,0,none⟩ 1 1 [.int .u8 ((x:Int)/16%16)] rfl rfl ?c1 ?c2 ?c3 ?c4 ?c5 ?_)
    case c1=>exact Bu.cell_one_new' _ _ _ _
    case c2=>intro u hu; simp at hu; subst hu; rfl
    case c3=>unfold maxLen; omega
    case c4=>omega
    case c5=>simp; omega
    intro v' w2 hown2 hgrow _;have hlt':=HO.out.lt;go_wp2;go_roundw
    case rel=>exact ⟨j+1,by omega,by go_num,hid (by rw [HS.out]; exact hown2),(hB.alloc hsz _).grown hgrow (by simp; omega) (fun g hg=>(hlt' g hg).1)⟩
    case measure=>simp [intOf]; omega
   ·have HV:=hid (nib_odd k j hp);obtain ⟨x,hxe⟩:∃ x,(k.getD (j/2) 0).toNat=x:=⟨_,rfl⟩
    rw [hxe] at hc hx HV;have HS:=hid (HPS.out j hlt ((x:Int)%16) (by rw [HV.out]; omega));have hp2:((j:Int)%2==0)=false:=by simp; omega
    clear hc0 hxe hp;go_wp2_with (at_builtin; refine wpList_append_own _ rfl _ _ 51 rfl (w.heap.size+1) 5 i0 (.int .u8 0) 1 1 Tryz.underlying51 HI.out.1 HI.out.2.1 HI.out.2.2.1 HI.out.2.2.2 rfl (by decide) _ _ _ rfl (HO.out.alloc _) ⟨wr.heap.size,0,none⟩ 1 1 [.int .u8 ((x:Int)%16)] rfl rfl ?d1 ?d2 ?d3 ?d4 ?d5 ?_)
    case d1=>exact Bu.cell_one_new' _ _ _ _
    case d2=>intro u hu; simp at hu; subst hu; rfl
    case d3=>unfold maxLen; omega
    case d4=>omega
    case d5=>simp; omega
    intro v' w2 hown2 hgrow _;have hlt':=HO.out.lt;go_wp2;go_roundw
    case rel=>exact ⟨j+1,by omega,by go_num,hid (by rw [HS.out]; exact hown2),(hB.alloc hsz _).grown hgrow (by simp; omega) (fun g hg=>(hlt' g hg).1)⟩
    case measure=>simp [intOf]; omega
  ·obtain rfl:j=64:=by omega
   have hO:=HO.out;have e:pc k 64=(pathK k).map fun x=>Value.int .u8 x.toNat:=by
    unfold pc; rw [List.take_of_length_le (by rw [HPL.out]; exact Nat.le_refl _)]
   rw [e] at hO;obtain ⟨a,cap,rfl,hb⟩:=ofOwnF hO;have HB:=hid hb;have HBe:Hid (Below w.heap.size w wr):=hid (((Below.refl w.heap.size w).alloc (Nat.le_refl _) _).trans (hB.mono (by omega)));clear hO e hb;go_wp2;go_ret;exact ⟨a,_,cap,rfl,HB.out.weak (by omega),HBe.out⟩
theorem ins_row (l:List Tr.Pair) (a:Option Addr) (n c:Nat) (w:World) (h:IsPs w a n c l) (hn:n≤1000000) :
  Calls Tryz.prog 18 #[.slice a n c] w fun e w'=>∃ v,e = .returned v∧RowN w.heap.size w' v (insL l)∧Below w.heap.size w w':=by
 have HH:=hid h;have HL:=hid h.len;have hcap:=h.1;have hmx:=h.2.1;unfold maxLen at hmx;clear h;go_enter Tryz.func18,Tryz.ntmps18;go_wp2_with fail
 go_loopw [3,4] (fun v i wr=>∃ (j:Nat) (O:List Tr.In),j≤n∧i = .int .i64 j∧Hid (RowN w.heap.size wr v O)∧Hid (insL l=O++insL (l.drop j))∧O.length≤j∧Hid (Below w.heap.size w wr)) (fun _ i _=>n-(intOf i).toNat)
 case atStart=>exact ⟨0,[],Nat.zero_le _,rfl,hid (RowN.nil _ _),hid rfl,Nat.le_refl _,hid (Below.refl _ _)⟩
 case round =>
  obtain ⟨wo,hwo⟩:∃ x,x=wr:=⟨_,rfl⟩
  subst hwo;obtain ⟨j,O,hj,rfl,HR,HI,hO,HB⟩:=hrel;by_cases hlt:j<n
  ·obtain ⟨b,off,rfl,hblt,hpj,hkj⟩:=HH.out.at' j hlt;have hji:(j:Int)<n:=by omega
   have HDj:Hid (l.drop j=l.getD j ([],eB)::l.drop (j+1)):=hid (drop_at (by rw [HL.out]; exact hlt));obtain ⟨x,hx⟩:∃ x,l.getD j ([],eB)=x:=⟨_,rfl⟩
   rw [hx] at hpj hkj HDj;have HPj:=hid hpj;have HKj:=hid hkj;obtain ⟨T,hT⟩:∃ T,(l.drop (j+1)).any (fun y=>decide (y.1=x.1))=T:=⟨_,rfl⟩
   have HT:=hid hT;clear hx hpj hkj hT;go_wp2_with fail
   go_loopw [5,6] (fun f i wi=>∃ (k:Nat) (f':Bool),j+1≤k∧k≤n∧i = .int .i64 k∧f = .bool f'∧Hid ((f' && !((l.drop k).any (fun y=>decide (y.1=x.1)))) = !T)∧Hid (Below wo.heap.size wo wi)) (fun _ i _=>n-(intOf i).toNat)
   case atStart=>exact ⟨j+1,true,Nat.le_refl _,by omega,by go_num,rfl,hid (by rw [HT.out,Bool.true_and]),hid (Below.refl _ _)⟩
   case round =>
    obtain ⟨wi,hwi⟩:∃ x,x=wr:=⟨_,rfl⟩
    subst hwi;obtain ⟨k,f',hjk,hk,rfl,rfl,HF,HBq⟩:=hrel;have HBi:Hid (Below w.heap.size w wi):=hid (HB.out.trans (HBq.out.mono HB.out.size));by_cases hklt:k<n
    ·obtain ⟨b',off',hbe,hblt',hpk,hkk⟩:=HH.out.at' k hklt;cases hbe;have hki:(k:Int)<n:=by omega
     have HDk:Hid (l.drop k=l.getD k ([],eB)::l.drop (k+1)):=hid (drop_at (by rw [HL.out]; exact hklt));obtain ⟨y,hy⟩:∃ y,l.getD k ([],eB)=y:=⟨_,rfl⟩
     rw [hy] at hpk hkk HDk;have HPk:=hid hpk;have HKk:=hid hkk;clear hy hpk hkk;cases f'
     ·have HF':Hid ((false && !((l.drop (k+1)).any (fun y=>decide (y.1=x.1)))) = !T):=hid (by rw [← HF.out]; rfl);clear HF;go_wp2_with fail
      refine wp_region_noPanic ?_;refine wp_region_held_drew (S:=fun w'=>Below w.heap.size w w') (by kernel_rfl) (below_drewN HBi.out 1) (fun hld=>?_);refine Rg.tk (i:=0) rfl ?_;try simp only [Act.put,Rg.s]
      refine Rg.tk (i:=1) rfl ?_;try simp only [Act.put,Rg.s]
      refine Rg.takeL (i:=2) (v:=undef) rfl (by kernel_rfl) (by kernel_rfl) (by kernel_rfl) (fun _ _ _ h=>h) (Or.inr ⟨by rfl,rfl⟩) (by assumption) ?_;try simp only [Act.put,Rg.s]
      refine Rg.takeL (i:=3) (v:=undef) rfl (by kernel_rfl) (by kernel_rfl) (by kernel_rfl) (fun _ _ _ h=>h) (Or.inr ⟨by rfl,rfl⟩) (by assumption) ?_;try simp only [Act.put,Rg.s]
      refine Rg.takeL (i:=4) (v:=undef) rfl (by kernel_rfl) (by kernel_rfl) (by kernel_rfl) (fun _ _ _ h=>h) (Or.inr ⟨by rfl,rfl⟩) (by assumption) ?_;try simp only [Act.put,Rg.s]
      refine Rg.takeL (i:=5) (v:=undef) rfl (by kernel_rfl) (by kernel_rfl) (by kernel_rfl) (fun _ _ _ h=>h) (Or.inr ⟨by rfl,rfl⟩) (by assumption) ?_;try simp only [Act.put,Rg.s]
      refine Rg.takeL (i:=6) (v:=undef) rfl (by kernel_rfl) (by kernel_rfl) (by kernel_rfl) (fun _ _ _ h=>h) (Or.inr ⟨by rfl,rfl⟩) (by assumption) ?_;try simp only [Act.put,Rg.s]
      refine Rg.takeL (i:=7) (v:=undef) rfl (by kernel_rfl) (by kernel_rfl) (by kernel_rfl) (fun _ _ _ h=>h) (Or.inr ⟨by rfl,rfl⟩) (by assumption) ?_;try simp only [Act.put,Rg.s]
      refine Rg.takeL (i:=8) (v:=undef) rfl (by kernel_rfl) (by kernel_rfl) (by kernel_rfl) (fun _ _ _ h=>h) (Or.inr ⟨by rfl,rfl⟩) (by assumption) ?_;try simp only [Act.put,Rg.s]
      refine Rg.takeL (i:=9) (v:=undef) rfl (by kernel_rfl) (by kernel_rfl) (by kernel_rfl) (fun _ _ _ h=>h) (Or.inr ⟨by rfl,rfl⟩) (by assumption) ?_;try simp only [Act.put,Rg.s]
      refine Rg.takeL (i:=10) (v:=undef) rfl (by kernel_rfl) (by kernel_rfl) (by kernel_rfl) (fun _ _ _ h=>h) (Or.inr ⟨by rfl,rfl⟩) (by assumption) ?_;try simp only [Act.put,Rg.s]
      refine Rg.takeL (i:=11) (v:=undef) rfl (by kernel_rfl) (by kernel_rfl) (by kernel_rfl) (fun _ _ _ h=>h) (Or.inr ⟨by rfl,rfl⟩) (by assumption) ?_;try simp only [Act.put,Rg.s]
      refine Rg.takeL (i:=12) (v:=undef) rfl (by kernel_rfl) (by kernel_rfl) (by kernel_rfl) (fun _ _ _ h=>h) (Or.inr ⟨by rfl,rfl⟩) (by assumption) ?_;try simp only [Act.put,Rg.s]
      refine Rg.tk (i:=13) rfl ?_;try simp only [Act.put,Rg.s]
      refine Rg.tk (i:=14) rfl ?_;try simp only [Act.put,Rg.s]
      refine wpAnyH_done (by kernel_rfl) ?_ _;refine NoPanic.normal ?_;go_wp2;go_roundw
      case rel=>exact ⟨k+1,_,by omega,by omega,by go_num,rfl,HF',hid (HBq.out.trans (below_drewN (Below.refl _ _) 1))⟩
      case measure=>simp [intOf]; omega
     ·go_wp2_with fail
      refine wp_region_noPanic ?_;refine wp_region_held_drew (S:=fun w'=>Below w.heap.size w w') (by kernel_rfl) (below_drewN HBi.out 1) (fun hld=>?_);refine Rg.tk (i:=0) rfl ?_;try simp only [Act.put,Rg.s]
      refine Rg.tk (i:=1) rfl ?_;try simp only [Act.put,Rg.s]
      refine Rg.tk (i:=2) rfl ?_;try simp only [Act.put,Rg.s]
      refine Rg.tk (i:=3) rfl ?_;try simp only [Act.put,Rg.s]
      refine Rg.tk (i:=4) rfl ?_ (hy:=by intro wz hSw; have q0:=hki; have q1:=hklt; have q2:=hji; have q3:=hlt; (try dsimp only at hSw); go_simp <;> with_reducible rfl);try simp only [Act.put,Rg.s]
      refine Rg.tk (i:=5) rfl ?_;try simp only [Act.put,Rg.s]
      refine Rg.tk (i:=6) rfl ?_ (hy:=by intro wz hSw; (refine op_load_key_mid HKk.out (PairAt.below HPk.out hSw).key ?_; exact ⟨_,rfl,rfl⟩));try simp only [Act.put,Rg.s]
      refine Rg.tk (i:=7) rfl ?_;try simp only [Act.put,Rg.s]
      refine Rg.tk (i:=8) rfl ?_;try simp only [Act.put,Rg.s]
      refine Rg.tk (i:=9) rfl ?_ (hy:=by intro wz hSw; have q0:=hki; have q1:=hklt; have q2:=hji; have q3:=hlt; (try dsimp only at hSw); go_simp <;> with_reducible rfl);try simp only [Act.put,Rg.s]
      refine Rg.tk (i:=10) rfl ?_;try simp only [Act.put,Rg.s]
      refine Rg.tk (i:=11) rfl ?_ (hy:=by intro wz hSw; (refine op_load_key_mid HKj.out (PairAt.below HPj.out hSw).key ?_; exact ⟨_,rfl,rfl⟩));try simp only [Act.put,Rg.s]
      refine Rg.tk (i:=12) rfl ?_ (hy:=by intro wz hSw; (refine op_neq_keys HKk.out HKj.out ?_; exact ⟨_,_,_,rfl,rfl,rfl⟩));try simp only [Act.put,Rg.s]
      refine Rg.tk (i:=13) rfl ?_;try simp only [Act.put,Rg.s]
      refine Rg.tk (i:=14) rfl ?_;try simp only [Act.put,Rg.s]
      refine wpAnyH_done (by kernel_rfl) ?_ _;refine NoPanic.normal ?_;go_wp2;go_roundw
      case rel=>exact ⟨k+1,_,by omega,by omega,by go_num,rfl,hid (by rw [← HF.out,HDk.out,List.any_cons,Bool.true_and]; cases decide (y.1=x.1) <;> rfl),hid (HBq.out.trans (below_drewN (Below.refl _ _) 1))⟩
      case measure=>simp [intOf]; omega
    ·obtain rfl:k=n:=by omega
     have hT':f' = !T:=by
      have:=HF.out;rw [List.drop_of_length_le (by rw [HL.out]; exact Nat.le_refl _)] at this;simpa using this
     subst hT';have HRi:Hid (RowN w.heap.size wi u3 O):=hid (HR.out.below HBq.out);clear HF;cases T
     ·go_wp2_with fail
      refine wp_region_noPanic ?_;refine wp_region_held_drew (S:=fun w'=>Below w.heap.size w w') (by kernel_rfl) (below_drewN HBi.out 1) (fun hld=>?_);refine Rg.tk (i:=0) rfl ?_;try simp only [Act.put,Rg.s]
      refine Rg.tk (i:=1) rfl ?_;try simp only [Act.put,Rg.s]
      refine Rg.tk (i:=2) rfl ?_;try simp only [Act.put,Rg.s]
      refine Rg.tk (i:=3) rfl ?_ (hy:=by intro wz hSw; have q2:=hji; have q3:=hlt; (try dsimp only at hSw); go_simp <;> with_reducible rfl);try simp only [Act.put,Rg.s]
      refine Rg.tk (i:=4) rfl ?_;try simp only [Act.put,Rg.s]
      refine Rg.tk (i:=5) rfl ?_ (hy:=by intro wz hSw; (refine op_load_key_mid HKj.out (PairAt.below HPj.out hSw).key ?_; exact ⟨_,rfl,rfl⟩));try simp only [Act.put,Rg.s]
      refine Rg.tk (i:=7) rfl ?_;try simp only [Act.put,Rg.s]
      refine Rg.tk (i:=8) rfl ?_;try simp only [Act.put,Rg.s]
      refine Rg.tk (i:=9) rfl ?_ (hy:=by intro wz hSw; have q2:=hji; have q3:=hlt; (try dsimp only at hSw); go_simp <;> with_reducible rfl);try simp only [Act.put,Rg.s]
      refine Rg.tk (i:=10) rfl ?_;try simp only [Act.put,Rg.s]
      refine Rg.tk (i:=11) rfl ?_ (hy:=by intro wz hSw; have hcc:=(PairAt.below HPj.out hSw).val HKj.out; (try dsimp only at hSw); go_simp <;> with_reducible rfl);try simp only [Act.put,Rg.s]
      refine Rg.rd (i:=6) rfl fun K hK=>?_;go_simp;go_at_call 24
      (with_reducible refine (rpath_new x.1 HKj.out _).mono ?_)
      rintro e w5 ⟨pa,pn,pc,rfl,hpb,hb5⟩;have HB5:Hid (Below wi.heap.size wi w5):=hid (bst (show Below wi.heap.size wi wi.drew from below_drewN (Below.refl _ _) 1) hb5);have HP5:=hid hpb;clear hpb hb5;refine hK.out _ _ ?_ (fun hld=>?_)
      ·exact HBi.out.trans (HB5.out.mono HBi.out.size)
      clear hK K;try simp only [Act.put,Rg.s]
      refine Rg.tk (i:=12) rfl ?_;try simp only [Act.put,Rg.s]
      refine Rg.rd (i:=13) rfl fun K hK=>?_;refine meet_lit_in (x:=(pathK x.1,x.2)) (h:=(pa,pn,pc)) (by rfl) ⟨_,rfl,rfl⟩ ?_;intro w6 b6 hbe hN hb6;have HN:=hid hN;have HB6:Hid (Below w5.heap.size w5 w6):=hid hb6;clear hN hb6 hbe;refine hK.out _ _ ?_ (fun hld=>?_)
      ·exact Below.trans hld (HB6.out.mono (Below.size hld))
      clear hK K;try simp only [Act.put,Rg.s]
      refine Rg.rd (i:=14) rfl fun K hK=>?_;refine meet_push_in (by rfl) ⟨_,_,rfl,rfl,rfl⟩ (RowN.below (RowN.below HRi.out HB5.out) HB6.out) HN.out (h:=(pa,pn,pc)) (x:=(pathK x.1,x.2)) (BsP.kept (p:=fun b=>u3.ownBlock≠some b) (w:=w5) ⟨HP5.out.1,fun ad e _ he=>by have h1:=(HRi.out.lt _ he).2; have h2:=HP5.out.2 ad e; have h3:wi.heap.size≤ad.block:=h2; omega⟩ HB6.out.size (fun b _ hlt=>HB6.out.block b hlt)) (by omega) (Below.size hld) ?_;intro v7 w7 hR7 hg7
      have HB7:Hid (Below w.heap.size w w7):=hid (below_pushN (RowN.below (RowN.below HRi.out HB5.out) HB6.out) hld (Below.size hld) hg7);have HR7:=hid hR7;clear hR7 hg7;refine hK.out _ _ ?_ (fun hld=>?_)
      ·exact HB7.out
      clear hK K;try simp only [Act.put,Rg.s]
      refine Rg.tk (i:=15) rfl ?_;try simp only [Act.put,Rg.s]
      refine wpAnyH_done (by kernel_rfl) ?_ _;refine NoPanic.normal ?_;go_wp2;go_roundw
      case rel=>exact ⟨j+1,O++[(pathK x.1,x.2)],by omega,by go_num,HR7,hid (by rw [HI.out,HDj.out,insL,if_neg (by rw [HT.out]; exact Bool.false_ne_true),List.append_assoc]; rfl),by rw [List.length_append,List.length_singleton]; omega,HB7⟩
      case measure=>simp [intOf]; omega
     ·go_wp2_with fail
      go_roundw
      case rel=>exact ⟨j+1,O,by omega,by go_num,HRi,hid (by rw [HI.out,HDj.out,insL,if_pos HT.out]),by omega,HBi⟩
      case measure=>simp [intOf]; omega
  ·obtain rfl:j=n:=by omega
   have HR':=HR.out;have hi:=HI.out;rw [List.drop_of_length_le (by rw [HL.out]; exact Nat.le_refl _)] at hi;have hi':insL l=O:=by rw [hi]; exact List.append_nil _
   obtain ⟨a',n',c',rfl,hd⟩:=HR'.done;have HD:=hid HR';have HE:=hid hi';clear HR' hd HR hi hi' HI;go_wp2;go_ret;exact ⟨_,rfl,by rw [HE.out]; exact HD.out,HB.out⟩
theorem ins_any (l:List Tr.Pair) (a:Option Addr) (n c:Nat) (w:World) (h:IsPs w a n c l) (hn:n≤1000000):Calls Tryz.prog 18 #[.slice a n c] w (GotIns w (insL l)):=by
 refine (ins_row l a n c w h hn).mono ?_;rintro e w' ⟨v,rfl,hr,hb⟩;obtain ⟨a',n',c',rfl,hd⟩:=hr.done;exact ⟨a',n',c',rfl,hd,hb⟩
end Tm
end
section
open Go.RowKit
namespace Tm
open Tr Ni Pk Sm
def sz:T→Nat
 | .nil=>0
 | .leaf _ _=>1
 | .ext _ t=>sz t+1
 | .br ks=>((List.finRange 16).map fun i=>sz (ks i)).sum+1
 | .stub _=>1
theorem sum_mem:∀ (l:List Nat) (x:Nat),x∈l→x≤l.sum
 | [],_,h=>by cases h
 | y::l,x,h=>by
  rw [List.sum_cons];rcases List.mem_cons.1 h with rfl | h
  ·omega
  ·have:=sum_mem l x h;omega
theorem sz_kid (ks:Fin 16→T) (i:Fin 16):sz (ks i)<sz (.br ks):=by
 have h:=sum_mem ((List.finRange 16).map fun i=>sz (ks i)) (sz (ks i)) (List.mem_map.2 ⟨i,List.mem_finRange i,rfl⟩);show _<_+1;omega
def NoBP (w:World) (b:Nat):Prop:=(∀ j v,w.cell? ⟨b,j,none⟩=some v→(∀ x,v ≠ .int .u8 x)∧∀ p,v ≠ .pointer p)∧w.cell? ⟨b,8,none⟩=none
structure InvN (M:Mp) (n:Nat) (w:World):Prop where
 lt_:∀ k,M.ft k→k<w.heap.size
 part_:∀ b t,M.at_ b=some t→t ≠ .nil∧M.ft b∧NoBP w b∧(sz t<n→IsPart M w b t)
structure FrN (M:Mp) (n:Nat) (w w':World):Prop where
 os:w'.os=w.os
 tape:w'.tape=w.tape
 output:w'.output=w.output
 size:w.heap.size≤w'.heap.size
 block:∀ k,k<w.heap.size→(M.at_ k=none∨∃ t,M.at_ k=some t∧n≤sz t)→w'.heap[k]? = w.heap[k]?
theorem part_nobp {w:World} {b:Nat} {t:T} {a:Option Addr} {n c:Nat} {ka:Option Addr} {kn kc:Nat} {d:Int} {r:ByteArray} (h:w.heap[b]? = some (.cells (partC t a n c ka kn kc d r) 106 (0,0))):NoBP w b:=by
 refine ⟨fun j v hc=>part_no (cell_heap h hc),?_⟩;rw [World.cell?,h];rfl
theorem Inv.toN {M:Mp} {w:World} (h:Inv M w) (n:Nat):InvN M n w:=⟨h.lt_,fun b t hm=>by
 obtain ⟨h1,h2,h3⟩:=h.part_ b t hm;obtain ⟨a,n,c,ka,kn,kc,d,r,hb,hr⟩:=h3;exact ⟨h1,h2,part_nobp hb,fun _=>⟨a,n,c,ka,kn,kc,d,r,hb,hr⟩⟩⟩
theorem InvN.mono {M:Mp} {n m:Nat} {w:World} (h:InvN M n w) (hm:m≤n):InvN M m w:=⟨h.lt_,fun b t e=>by
 obtain ⟨h1,h2,h3,h4⟩:=h.part_ b t e;exact ⟨h1,h2,h3,fun hl=>h4 (by omega)⟩⟩
theorem InvN.no_byte {M:Mp} {n:Nat} {w:World} (h:InvN M n w) {b j:Nat} {x:Int} (hc:w.cell? ⟨b,j,none⟩=some (.int .u8 x)):M.at_ b=none:=by
 cases hm:M.at_ b with
 | none=>rfl
 | some t=>exact absurd rfl (((h.part_ b t hm).2.2.1.1 _ _ hc).1 x)
theorem InvN.no_ptr {M:Mp} {n:Nat} {w:World} (h:InvN M n w) {b j:Nat} {p:Option Addr} (hc:w.cell? ⟨b,j,none⟩=some (.pointer p)):M.at_ b=none:=by
 cases hm:M.at_ b with
 | none=>rfl
 | some t=>exact absurd rfl (((h.part_ b t hm).2.2.1.1 _ _ hc).2 p)
theorem FrN.below (M:Mp) (n:Nat) {w w':World} (h:Below w.heap.size w w'):FrN M n w w':=⟨h.os,h.tape,h.output,h.size,fun k hk _=>h.block k hk⟩
theorem FrN.trans {M:Mp} {n:Nat} {w w1 w2:World} (h:FrN M n w w1) (g:FrN M n w1 w2):FrN M n w w2:=⟨g.os.trans h.os,g.tape.trans h.tape,g.output.trans h.output,Nat.le_trans h.size g.size,fun k hk hc=>(g.block k (Nat.lt_of_lt_of_le hk h.size) hc).trans (h.block k hk hc)⟩
theorem FrN.mono {M:Mp} {n m:Nat} {w w':World} (h:FrN M n w w') (hm:n≤m):FrN M m w w':=⟨h.os,h.tape,h.output,h.size,fun k hk hc=>h.block k hk (hc.imp id (fun ⟨t,e,hl⟩=>⟨t,e,by omega⟩))⟩
theorem FrN.cell {M:Mp} {n:Nat} {w w':World} (h:FrN M n w w') {b o:Nat} {v:Value} (hc:w.cell? ⟨b,o,none⟩=some v) (hb:M.at_ b=none∨∃ t,M.at_ b=some t∧n≤sz t):w'.cell? ⟨b,o,none⟩=some v:=by
 rw [← hc];exact World.cell?_of_block (w:=w) (h.block b (World.block_lt_of_cell? w _ hc) hb)
theorem FrN.upd {M:Mp} {n:Nat} {w w1 w':World} {g:Nat} (h:FrN M n w w1) (hu:Rg.Upd w1 g w') (hg:w.heap.size≤g):FrN M n w w':=⟨hu.os.trans h.os,hu.tape.trans h.tape,hu.output.trans h.output,by rw [hu.size]; exact h.size,fun k hk hc=>(hu.block k (by omega)).trans (h.block k hk hc)⟩
theorem FrN.fr {M:Mp} {n:Nat} {w w':World} (h:FrN M n w w'):Fr M M w w':=⟨h.os,h.tape,h.output,h.size,fun k hk hm=>h.block k hk (Or.inl hm),fun _ _ h=>h,fun _ _ h=>h,fun _ h=>h,fun _ h=>Or.inl h⟩
theorem IsPart.keep {M:Mp} {w w':World} {b:Nat} {t:T} (h:IsPart M w b t) (hs:w.heap.size≤w'.heap.size) (hb:w'.heap[b]? = w.heap[b]?)
  (hk:∀ k j v,k<w.heap.size→w.cell? ⟨k,j,none⟩=some v→((∃ x,v = .int .u8 x)∨∃ p,v = .pointer p)→w'.heap[k]? = w.heap[k]?):IsPart M w' b t:=by
 obtain ⟨a,n,c,ka,kn,kc,d,r,h1,hB,hK,hd⟩:=h;refine ⟨a,n,c,ka,kn,kc,d,r,hb.trans h1,⟨⟨hB.1.1,hB.1.2.1,hB.1.2.2.1,hB.1.2.2.2.1,fun j hj=>?_⟩,hB.2⟩,⟨hK.1,hK.2.1,hK.2.2.1,hK.2.2.2.1,fun j hj=>?_⟩,hd⟩
 ·obtain ⟨b',off,e,hlt,hc⟩:=hB.1.2.2.2.2 j hj;exact ⟨b',off,e,Nat.lt_of_lt_of_le hlt hs,by rw [World.cell?_of_block (hk b' _ _ hlt hc (Or.inl ⟨_,rfl⟩))]; exact hc⟩
 ·obtain ⟨b',off,p,e,hlt,hf,hc,ht⟩:=hK.at' j hj;exact ⟨b',off,p,e,Nat.lt_of_lt_of_le hlt hs,hf,by rw [World.cell?_of_block (hk b' _ _ hlt hc (Or.inr ⟨_,rfl⟩))]; exact hc,ht⟩
theorem NoBP.keep {w w':World} {b:Nat} (h:NoBP w b) (hb:w'.heap[b]? = w.heap[b]?):NoBP w' b:=by
 have hc:∀ j,w'.cell? ⟨b,j,none⟩=w.cell? ⟨b,j,none⟩:=fun j=>World.cell?_of_block hb;exact ⟨fun j v h1=>h.1 j v (by rw [← hc j]; exact h1),by rw [hc 8]; exact h.2⟩
theorem InvN.after {M:Mp} {n m:Nat} {w w':World} (h:InvN M n w) (f:FrN M m w w') (g:InvN M m w'):InvN M n w':=by
 refine ⟨fun k hk=>Nat.lt_of_lt_of_le (h.lt_ k hk) f.size,fun b t hm=>?_⟩;obtain ⟨h1,h2,h3,h4⟩:=h.part_ b t hm;obtain ⟨_,_,g3,g4⟩:=g.part_ b t hm;refine ⟨h1,h2,g3,fun hl=>?_⟩;by_cases e:sz t<m
 ·exact g4 e
 ·refine (h4 hl).keep f.size (f.block b (h.lt_ b h2) (Or.inr ⟨t,hm,by omega⟩)) (fun k j v hlt hc hv=>f.block k hlt (Or.inl ?_));rcases hv with ⟨x,rfl⟩ | ⟨p,rfl⟩
  ·exact h.no_byte hc
  ·exact h.no_ptr hc
theorem InvN.below {M:Mp} {n:Nat} {w w':World} (h:InvN M n w) (hb:Below w.heap.size w w'):InvN M n w':=by
 refine ⟨fun k hk=>Nat.lt_of_lt_of_le (h.lt_ k hk) hb.size,fun b t hm=>?_⟩;obtain ⟨h1,h2,h3,h4⟩:=h.part_ b t hm;have hlt:=h.lt_ b h2;exact ⟨h1,h2,h3.keep (hb.block b hlt),fun hl=>(h4 hl).keep hb.size (hb.block b hlt) (fun k j v hk _ _=>hb.block k hk)⟩
theorem InvN.upd {M:Mp} {n:Nat} {w w':World} {g:Nat} (h:InvN M n w) (hu:Rg.Upd w g w') (hg:¬ M.ft g):InvN M n w':=by
 refine ⟨fun k hk=>by rw [hu.size]; exact h.lt_ k hk,fun b t hm=>?_⟩;obtain ⟨h1,h2,h3,h4⟩:=h.part_ b t hm;have hne:∀ k,M.ft k→k≠g:=fun k hk e=>hg (by rw [← e]; exact hk);refine ⟨h1,h2,h3.keep (hu.block b (hne b h2)),fun hl=>?_⟩;obtain ⟨a,n,c,ka,kn,kc,d,r,hb,hB,hK,hd⟩:=h4 hl;refine ⟨a,n,c,ka,kn,kc,d,r,(hu.block b (hne b h2)).trans hb,⟨⟨hB.1.1,hB.1.2.1,hB.1.2.2.1,hB.1.2.2.2.1,fun j hj=>?_⟩,hB.2⟩,⟨hK.1,hK.2.1,hK.2.2.1,hK.2.2.2.1,fun j hj=>?_⟩,hd⟩
 ·obtain ⟨b',off,e,hlt,hc⟩:=hB.1.2.2.2.2 j hj;exact ⟨b',off,e,by rw [hu.size]; exact hlt,by rw [World.cell?_of_block (hu.block b' (hne b' (hB.2 _ e (by omega))))]; exact hc⟩
 ·obtain ⟨b',off,p,e,hlt,hf,hc,ht⟩:=hK.at' j hj;exact ⟨b',off,p,e,by rw [hu.size]; exact hlt,hf,by rw [World.cell?_of_block (hu.block b' (hne b' hf))]; exact hc,ht⟩
theorem tab_none {M:Mp} {n:Nat} {w:World} (h:InvN M n w) (hT:Tab w):M.at_ 1=none:=by
 cases hm:M.at_ 1 with
 | none=>rfl
 | some t =>
  have h8:=(h.part_ 1 t hm).2.2.1.2;rw [hT 8 (by omega)] at h8;cases h8
theorem tab_frN {M:Mp} {n:Nat} {w w':World} (h:InvN M n w) (f:FrN M n w w') (hT:Tab w):Tab w':=fun i hi=>f.cell (hT i hi) (Or.inl (tab_none h hT))
theorem isBs_frN {M:Mp} {n:Nat} {w w':World} {a:Option Addr} {k c:Nat} {l:List UInt8} (hi:InvN M n w) (h:IsBs w a k c l) (f:FrN M n w w'):IsBs w' a k c l:=by
 refine ⟨h.1,h.2.1,h.2.2.1,h.2.2.2.1,fun j hj=>?_⟩;obtain ⟨b,off,e,hlt,hc⟩:=h.2.2.2.2 j hj;exact ⟨b,off,e,Nat.lt_of_lt_of_le hlt f.size,f.cell hc (Or.inl (hi.no_byte hc))⟩
structure Body (M:Mp) (w:World) (b:Nat) (t:T) (a:Option Addr) (n c:Nat) (ka:Option Addr) (kn kc:Nat):Prop where
 c0:w.cell? ⟨b,0,none⟩=some (.int .i64 (kindT t))
 c1:w.cell? ⟨b,1,none⟩=some (.slice a n c)
 c2:w.cell? ⟨b,2,none⟩=some (.string (valT t))
 c3:w.cell? ⟨b,3,none⟩=some (.slice ka kn kc)
 hb:IsBs w a n c (pathT t)
 hk:Ks M w ka kn kc (partsT t)
theorem IsPart.body {M:Mp} {w:World} {b:Nat} {t:T} (h:IsPart M w b t):∃ a n c ka kn kc,Body M w b t a n c ka kn kc:=by
 obtain ⟨a,n,c,ka,kn,kc,d,r,hb,hB,hK,_⟩:=h;obtain ⟨⟨c0,c1,c2,c3⟩,_⟩:=part_cells hb;exact ⟨a,n,c,ka,kn,kc,c0,c1,c2,c3,hB.1,hK⟩
theorem Ks.frN {M:Mp} {m:Nat} {w w':World} {a:Option Addr} {n c:Nat} {l:List T} (hi:InvN M m w) (h:Ks M w a n c l) (f:FrN M m w w'):Ks M w' a n c l:=by
 refine ⟨h.1,h.2.1,h.2.2.1,h.2.2.2.1,fun j hj=>?_⟩;obtain ⟨b,off,p,e,hlt,hm,hc,ht⟩:=h.at' j hj;exact ⟨b,off,p,e,Nat.lt_of_lt_of_le hlt f.size,hm,f.cell hc (Or.inl (hi.no_ptr hc)),ht⟩
theorem Body.frN {M:Mp} {m:Nat} {w w':World} {b:Nat} {t:T} {a:Option Addr} {n c:Nat} {ka:Option Addr} {kn kc:Nat} (h:Body M w b t a n c ka kn kc) (hi:InvN M m w) (f:FrN M m w w') (hm:M.at_ b=some t) (hl:m≤sz t):Body M w' b t a n c ka kn kc :=
 have e:=Or.inr ⟨t,hm,hl⟩
 ⟨f.cell h.c0 e,f.cell h.c1 e,f.cell h.c2 e,f.cell h.c3 e,isBs_frN hi h.hb f,h.hk.frN hi f⟩
theorem Body.below {M:Mp} {w w':World} {b:Nat} {t:T} {a:Option Addr} {n c:Nat} {ka:Option Addr} {kn kc:Nat} (h:Body M w b t a n c ka kn kc) (hb:Below w.heap.size w w'):Body M w' b t a n c ka kn kc:=by
 refine ⟨cell_on hb h.c0,cell_on hb h.c1,cell_on hb h.c2,cell_on hb h.c3,h.hb.below hb,h.hk.1,h.hk.2.1,h.hk.2.2.1,h.hk.2.2.2.1,fun j hj=>?_⟩;obtain ⟨b',off,p,e,hlt,hm,hc,ht⟩:=h.hk.at' j hj;exact ⟨b',off,p,e,Nat.lt_of_lt_of_le hlt hb.size,hm,cell_on hb hc,ht⟩
theorem kind_cell (b:Nat) (k:Int) (w:World) (hc:w.cell? ⟨b,0,none⟩=some (.int .i64 k)) :
  Calls Tryz.prog 52 #[.agg #[.pointer (some ⟨b,0,none⟩)]] w fun e w'=>e = .returned (.int .i64 k)∧Below w.heap.size w w':=by
 have h0:=box_tree w (some ⟨b,0,none⟩);have HE:=hid (empty_any (some ⟨b,0,none⟩) (w.alloc (.cells #[.pointer (some ⟨b,0,none⟩)] 28)));have hk:=cell_al (o':=.cells #[.pointer (some ⟨b,0,none⟩)] 28) hc;clear hc;go_enter Tryz.func52,Tryz.ntmps52;go_wp2_with fail
 refine HE.out.mono ?_;rintro e w2 ⟨rfl,hb⟩;have h1:=cell_on hb h0;have h2:=cell_on hb hk;clear h0 hk;go_wp2;go_ret;exact ⟨rfl,bst (al1 _ _) hb⟩
end Tm
end
section
open Go.RowKit
namespace Tm
open Tr Rf Rl Ni No Pk Sm
def TopPost (M:Mp) (t:T) (w:World) (e:Ending) (w':World):Prop:=∃ a n c,e = .returned (.agg (ndC (nodeT t) a n c))∧BsF w.heap.size w' a n c (nodeT t).p∧FrN M (sz t) w w'∧InvN M (sz t) w'
def RefC (t:T):Prop:=∀ (M:Mp) (w:World) (p:Option Addr),InvN M (sz t+1) w→IsT M p t→Tab w→Calls Tryz.prog 27 #[.agg #[.pointer p]] w fun e w'=>e = .returned (.string (ref t))∧FrN M (sz t+1) w w'∧InvN M (sz t+1) w'
theorem nd_no (N:Nd) (a:Option Addr) (n c:Nat):∀ (j:Nat) (x:Int),(ndC N a n c)[j]? ≠ some (Value.int .u8 x):=fun j x h=>by
 unfold ndC at h
 match j,h with
 | 0,h=>simp at h
 | 1,h=>simp at h
 | 2,h=>simp at h
 | j+3,h=>simp at h
theorem enterT (w:World) (p:Option Addr):∃ w2,w2=(w.alloc (.cells #[.pointer p] 28)).alloc (.cells (ndC nd0 none 0 0) 56)∧Rg.Own w2 w.heap.size #[.pointer p] 28∧OwnN w2 (w.heap.size+1) nd0 none 0 0∧Below w.heap.size w w2∧w2.heap.size=w.heap.size+2:=by
 refine ⟨_,rfl,(Rg.Own.new _ _ _).below (al1 _ _),?_,al2 _ _ _,by simp⟩;have:=Rg.Own.new (w.alloc (.cells #[.pointer p] 28)) (ndC nd0 none 0 0) 56;simpa using this
theorem top_leaf (M:Mp) (b:Nat) (q:Pa) (v:ByteArray) (hm:M.at_ b=some (.leaf q v)) (w:World) (hi:InvN M 1 w) (pa:Option Addr) (pn pc:Nat) (ka:Option Addr) (kn kc:Nat) (hB:Body M w b (.leaf q v) pa pn pc ka kn kc) (hq:q.length≤64) :
  Calls Tryz.prog 48 #[.agg #[.pointer (some ⟨b,0,none⟩)]] w (TopPost M (.leaf q v) w):=by
 obtain ⟨w2,hw2,hO0,hO1,hb2,hs2⟩:=enterT w (some ⟨b,0,none⟩);have hB2:=hB.below hb2;have h0:=own_cell (j:=0) hO0 rfl;have hlb:=hi.lt_ b (hi.part_ b _ hm).2.1;have hpn:q.length=pn:=hB.hb.len;have HK:=hid (kind_cell b 1 w2 hB2.c0);have HC':Hid (∀ w3,Below w2.heap.size w2 w3→(w3.cell? ⟨w.heap.size,0,none⟩=some (.pointer (some ⟨b,0,none⟩))∧w3.cell? ⟨b,1,none⟩=some (.slice pa pn pc)∧w3.cell? ⟨b,2,none⟩=some (.string v)) ∧
   (∀ wx,Below w3.heap.size w3 wx→Calls Tryz.prog 82 #[.slice pa pn pc,.string v] wx (GotNd wx ⟨1,q,v,zks⟩)) ∧
   (∀ w6,Below w3.heap.size w3 w6→∀ a6 n6 c6,BsF w3.heap.size w6 a6 n6 c6 q→OwnN w6 (w.heap.size+1) nd0 none 0 0∧∀ w10,Rg.Upd w6 (w.heap.size+1) w10→TopPost M (.leaf q v) w (.returned (.agg (ndC ⟨1,q,v,zks⟩ a6 n6 c6))) w10)):=hid (fun w3 hb3 =>
  ⟨⟨cell_on hb3 h0,cell_on hb3 hB2.c1,cell_on hb3 hB2.c2⟩,fun wx hbx=>No.leaf_any pa pn pc q (by omega) v wx (hB2.hb.below (bst hb3 hbx)),fun w6 hb6 a6 n6 c6 hx=>by
   have hO6:=hO1.below (bst hb3 hb6);have hbw:=bst hb2 (bst hb3 hb6);refine ⟨hO6,fun w10 hu=>⟨a6,n6,c6,rfl,⟨isBs_upd hx.1 (no_byte hO6 (nd_no _ _ _ _)) hu,fun ad e=>Nat.le_trans (Nat.le_trans hb2.size hb3.size) (hx.2 ad e)⟩,(FrN.below M _ hbw).upd hu (by omega),(hi.below hbw).upd hu (fun e=>by have:=hi.lt_ _ e; omega)⟩⟩⟩)
 have H0:=hid hO0;clear hO0 hO1 hb2 hs2 hB hB2 h0 hi hm hpn hq;subst hw2;go_enter Tryz.func48,Tryz.ntmps48;go_wp2_with (first | (refine Rg.run rfl _ _ (run_alloc_nd _ _ _ (w.heap.size+1) (by simp) rfl) ?_) | (refine Rg.run rfl _ _ (op_load_tree (own_cell (j:=0) H0.out rfl) ⟨_,rfl,rfl⟩) ?_))
 refine HK.out.mono ?_;rintro e w3 ⟨rfl,hb3⟩;obtain ⟨⟨d0,d1,d2⟩,HC,HF⟩:=HC'.out w3 hb3;replace HC:=hid HC;replace HF:=hid HF;clear hb3 HC' HK H0;go_wp2_with fail
 refine wp_region_noPanic ?_;refine wp_region_held_drew (S:=fun w'=>Bo (w.heap.size+1) w3 w') (by kernel_rfl) (Bo.of (below_drewN (Below.refl _ _) 1)) (fun hld=>?_);refine Rg.tk (i:=0) rfl ?_;try simp only [Act.put,Rg.s]
 refine Rg.tk (i:=1) rfl ?_ (hy:=by intro wz hSw; have hcc:=cell_bo hSw (by omega) d0; (try dsimp only at hSw); go_simp <;> with_reducible rfl);try simp only [Act.put,Rg.s]
 refine Rg.tk (i:=2) rfl ?_;try simp only [Act.put,Rg.s]
 refine Rg.tk (i:=3) rfl ?_;try simp only [Act.put,Rg.s]
 refine Rg.tk (i:=4) rfl ?_ (hy:=by intro wz hSw; have hcc:=cell_bo hSw (by omega) d1; (try dsimp only at hSw); go_simp <;> with_reducible rfl);try simp only [Act.put,Rg.s]
 refine Rg.tk (i:=5) rfl ?_;try simp only [Act.put,Rg.s]
 refine Rg.tk (i:=6) rfl ?_ (hy:=by intro wz hSw; have hcc:=cell_bo hSw (by omega) d0; (try dsimp only at hSw); go_simp <;> with_reducible rfl);try simp only [Act.put,Rg.s]
 refine Rg.tk (i:=7) rfl ?_;try simp only [Act.put,Rg.s]
 refine Rg.tk (i:=8) rfl ?_;try simp only [Act.put,Rg.s]
 refine Rg.tk (i:=9) rfl ?_ (hy:=by intro wz hSw; have hcc:=cell_bo hSw (by omega) d2; (try dsimp only at hSw); go_simp <;> with_reducible rfl);try simp only [Act.put,Rg.s]
 refine Rg.rd (i:=10) rfl fun K hK=>?_;go_simp;go_at_call 82
 (with_reducible refine (HC.out w3.drew (below_drewN (Below.refl _ _) 1)).mono ?_)
 intro e w6 hG;obtain ⟨a6,n6,c6,rfl,hB6,hl6,hb6⟩:=hG;have HL6:=hid hl6;have H6:=hid (HF.out w6 (bst (below_drewN (Below.refl _ _) 1) hb6) a6 n6 c6 hB6);have hB36:Below w3.heap.size w3 w6:=bst (below_drewN (Below.refl _ _) 1) hb6;have HO6:=hid H6.out.1;clear hl6 hb6 hB6;refine hK.out _ _ ?_ (fun hld=>?_)
 ·exact Bo.of hB36
 clear hK K;try simp only [Act.put,Rg.s]
 refine Rg.rd (i:=11) rfl fun K hK=>?_;refine Rg.meetStore (by rfl) HO6.out 56 (ndC ⟨1,q,v,zks⟩ a6 n6 c6) ⟨_,_,rfl,rfl,rfl⟩ (info_ndC _ _ _ _ HL6.out) (by rw [ndC_size _ _ _ _ zks_length,ndC_size _ _ _ _ HL6.out]) (ndC_one _ _ _ _) ?_;intro w10 hO10 hu10;have HO10:=hid hO10;have H10:=hid (H6.out.2 w10 hu10);clear hO10;refine hK.out _ _ ?_ (fun hld=>?_)
 ·exact (Bo.of hB36).upd hu10
 clear hK K;try simp only [Act.put,Rg.s]
 refine wpAnyH_done (by kernel_rfl) ?_ _;refine NoPanic.normal ?_;go_wp2;exact bodyPost_ret (res_nd rfl _ rfl HO10.out HL6.out) rfl H10.out
theorem top_ext (M:Mp) (b:Nat) (q:Pa) (s:T) (hm:M.at_ b=some (.ext q s)) (w:World) (hi:InvN M (sz s+1) w) (pa:Option Addr) (pn pc:Nat) (ka:Option Addr) (kn kc:Nat) (hB:Body M w b (.ext q s) pa pn pc ka kn kc) (hq:q.length≤64) (hT:Tab w) (hR:RefC s) :
  Calls Tryz.prog 48 #[.agg #[.pointer (some ⟨b,0,none⟩)]] w (TopPost M (.ext q s) w):=by
 obtain ⟨w2,hw2,hO0,hO1,hb2,hs2⟩:=enterT w (some ⟨b,0,none⟩);have hB2:=hB.below hb2;have hi2:=hi.below hb2;have h0:=own_cell (j:=0) hO0 rfl;have hlb:=hi.lt_ b (hi.part_ b _ hm).2.1;have hpn:q.length=pn:=hB.hb.len;obtain ⟨kb,ko,p0,rfl,hklt,hkf,hk0,hT0⟩:=hB2.hk.at' 0 (by rw [← hB2.hk.len]; exact Nat.one_pos);have hkn:kn=1:=hB2.hk.len.symm;have hkc:=hB2.hk.1;have hkm:=hB2.hk.2.1;unfold maxLen at hkm;rw [Nat.add_zero] at hk0;have hT0':IsT M p0 s:=hT0;have hkbl:=hi.lt_ kb hkf;have HK:=hid (kind_cell b 2 w2 hB2.c0);have h0w:=hT.pos
 have HC':Hid (∀ w3,Below w2.heap.size w2 w3→(w3.cell? ⟨w.heap.size,0,none⟩=some (.pointer (some ⟨b,0,none⟩))∧w3.cell? ⟨b,1,none⟩=some (.slice pa pn pc)∧w3.cell? ⟨b,3,none⟩=some (.slice (some ⟨kb,ko,none⟩) kn kc)∧w3.cell? ⟨kb,ko,none⟩=some (.pointer p0)) ∧
   Calls Tryz.prog 27 #[.agg #[.pointer p0]] w3.drew (fun e w'=>e = .returned (.string (ref s))∧FrN M (sz s+1) w3.drew w'∧InvN M (sz s+1) w') ∧
   ∀ w5,FrN M (sz s+1) w3.drew w5→InvN M (sz s+1) w5→(((w5.cell? ⟨w.heap.size,0,none⟩=some (.pointer (some ⟨b,0,none⟩))∧w5.cell? ⟨b,1,none⟩=some (.slice pa pn pc))∧w5.cell? ⟨b,3,none⟩=some (.slice (some ⟨kb,ko,none⟩) kn kc))∧w5.cell? ⟨kb,ko,none⟩=some (.pointer p0)) ∧
    Calls Tryz.prog 83 #[.slice pa pn pc,.string (ref s)] w5 (GotNd w5 ⟨2,q,eB,ref s::List.replicate 15 eB⟩) ∧
    ∀ w6,Below w5.heap.size w5 w6→∀ a6 n6 c6,BsF w5.heap.size w6 a6 n6 c6 q→(((w6.cell? ⟨w.heap.size,0,none⟩=some (.pointer (some ⟨b,0,none⟩))∧w6.cell? ⟨b,1,none⟩=some (.slice pa pn pc))∧w6.cell? ⟨b,3,none⟩=some (.slice (some ⟨kb,ko,none⟩) kn kc))∧w6.cell? ⟨kb,ko,none⟩=some (.pointer p0))∧OwnN w6 (w.heap.size+1) nd0 none 0 0 ∧
     ∀ w10,Rg.Upd w6 (w.heap.size+1) w10→(((w10.cell? ⟨w.heap.size,0,none⟩=some (.pointer (some ⟨b,0,none⟩))∧w10.cell? ⟨b,1,none⟩=some (.slice pa pn pc))∧w10.cell? ⟨b,3,none⟩=some (.slice (some ⟨kb,ko,none⟩) kn kc))∧w10.cell? ⟨kb,ko,none⟩=some (.pointer p0))∧TopPost M (.ext q s) w (.returned (.agg (ndC ⟨2,q,eB,one16 (ref s)⟩ a6 n6 c6))) w10):=hid (fun w3 hb3=>by
  have hb3d:Below w2.heap.size w2 w3.drew:=hb3.drew;have hi3:InvN M (sz s+1) w3.drew:=hi2.below hb3d;have e0:=cell_on hb3d h0;have e1:=cell_on hb3d hB2.c1;have e3:=cell_on hb3d hB2.c3;have ek:=cell_on hb3d hk0;have ne:M.at_ b=none∨∃ t,M.at_ b=some t∧sz s+1≤sz t:=Or.inr ⟨_,hm,Nat.le_refl _⟩;have hT3:Tab w3.drew:=hT.below (bst hb2 hb3d) h0w;refine ⟨⟨e0,e1,e3,ek⟩,hR M _ p0 hi3 hT0' hT3,fun w5 hf5 hi5=>?_⟩;have g0:=hf5.cell e0 (Or.inl (hi3.no_ptr e0));have g1:=hf5.cell e1 ne;have g3:=hf5.cell e3 ne
  have gk:=hf5.cell ek (Or.inl (hi3.no_ptr ek));have hP5:=isBs_frN hi3 (hB2.hb.below hb3d) hf5;have hg1:M.at_ (w.heap.size+1)=none:=by
   cases hmm:M.at_ (w.heap.size+1) with
   | none=>rfl
   | some t=>exact absurd (hi.lt_ _ (hi.part_ _ t hmm).2.1) (by omega)
  have hO5:OwnN w5 (w.heap.size+1) nd0 none 0 0:=⟨Nat.lt_of_lt_of_le (hO1.below hb3d).1 hf5.size,(hf5.block _ (hO1.below hb3d).1 (Or.inl hg1)).trans (hO1.below hb3d).2⟩
  refine ⟨⟨⟨⟨g0,g1⟩,g3⟩,gk⟩,No.ext_any pa pn pc q (by omega) (ref s) w5 hP5,fun w6 hb6 a6 n6 c6 hx=>?_⟩;have hO6:=hO5.below hb6;refine ⟨⟨⟨⟨cell_on hb6 g0,cell_on hb6 g1⟩,cell_on hb6 g3⟩,cell_on hb6 gk⟩,hO6,fun w10 hu=>?_⟩;have hc:∀ (b' o:Nat) (v:Value),b'≠w.heap.size+1→w6.cell? ⟨b',o,none⟩=some v→w10.cell? ⟨b',o,none⟩=some v:=fun b' o v hne h=>by
   rw [← h]; exact World.cell?_of_block (w:=w6) (hu.block b' hne)
  have hfw:FrN M (sz s+1) w w6:=((FrN.below M _ (bst hb2 hb3d)).trans hf5).trans (FrN.below M _ hb6);exact ⟨⟨⟨⟨hc _ _ _ (by omega) (cell_on hb6 g0),hc _ _ _ (by omega) (cell_on hb6 g1)⟩,hc _ _ _ (by omega) (cell_on hb6 g3)⟩,hc _ _ _ (by omega) (cell_on hb6 gk)⟩,
   a6,n6,c6,rfl,⟨isBs_upd hx.1 (no_byte hO6 (nd_no _ _ _ _)) hu,fun ad e=>Nat.le_trans (Nat.le_trans (Nat.le_trans hb2.size hb3d.size) hf5.size) (hx.2 ad e)⟩,hfw.upd hu (by omega),(hi5.below hb6).upd hu (fun e=>by have:=hi.lt_ _ e; omega)⟩)
 have H0:=hid hO0;clear hO0 hO1 hb2 hs2 hB hB2 h0 hi hi2 hm hpn hq hT hR h0w hk0 hT0 hT0' hkf hklt;subst hw2;go_enter Tryz.func48,Tryz.ntmps48;go_wp2_with (first | (refine Rg.run rfl _ _ (run_alloc_nd _ _ _ (w.heap.size+1) (by simp) rfl) ?_) | (refine Rg.run rfl _ _ (op_load_tree (own_cell (j:=0) H0.out rfl) ⟨_,rfl,rfl⟩) ?_))
 refine HK.out.mono ?_;rintro e w3 ⟨rfl,hb3⟩;obtain ⟨⟨d0,d1,d3,dk⟩,HC,HF⟩:=HC'.out w3 hb3;replace HC:=hid HC;replace HF:=hid HF;clear hb3 HC' HK H0;go_wp2_with fail
 refine wp_region_noPanic ?_;refine wp_region_held_drew (S:=fun w'=>((w'.cell? ⟨w.heap.size,0,none⟩=some (.pointer (some ⟨b,0,none⟩))∧w'.cell? ⟨b,1,none⟩=some (.slice pa pn pc))∧w'.cell? ⟨b,3,none⟩=some (.slice (some ⟨kb,ko,none⟩) kn kc))∧w'.cell? ⟨kb,ko,none⟩=some (.pointer p0)) (by kernel_rfl) (⟨⟨⟨d0,d1⟩,d3⟩,dk⟩) (fun hld=>?_);refine Rg.tk (i:=0) rfl ?_;try simp only [Act.put,Rg.s]
 refine Rg.tk (i:=1) rfl ?_ (hy:=by intro wz hSw; have hcc:=hSw.1.1.1; (try dsimp only at hSw); go_simp <;> with_reducible rfl);try simp only [Act.put,Rg.s]
 refine Rg.tk (i:=2) rfl ?_;try simp only [Act.put,Rg.s]
 refine Rg.tk (i:=3) rfl ?_;try simp only [Act.put,Rg.s]
 refine Rg.tk (i:=4) rfl ?_ (hy:=by intro wz hSw; have hcc:=hSw.1.1.2; (try dsimp only at hSw); go_simp <;> with_reducible rfl);try simp only [Act.put,Rg.s]
 refine Rg.tk (i:=5) rfl ?_;try simp only [Act.put,Rg.s]
 refine Rg.tk (i:=6) rfl ?_ (hy:=by intro wz hSw; have hcc:=hSw.1.1.1; (try dsimp only at hSw); go_simp <;> with_reducible rfl);try simp only [Act.put,Rg.s]
 refine Rg.tk (i:=7) rfl ?_;try simp only [Act.put,Rg.s]
 refine Rg.tk (i:=8) rfl ?_;try simp only [Act.put,Rg.s]
 refine Rg.tk (i:=9) rfl ?_ (hy:=by intro wz hSw; have hcc:=hSw.1.2; (try dsimp only at hSw); go_simp <;> with_reducible rfl);try simp only [Act.put,Rg.s]
 refine Rg.tk (i:=10) rfl ?_;try simp only [Act.put,Rg.s]
 refine Rg.tk (i:=11) rfl ?_ (hy:=by intro wz hSw; (refine op_load_tree hSw.2 ?_; exact ⟨_,rfl,rfl⟩));try simp only [Act.put,Rg.s]
 refine Rg.rd (i:=12) rfl fun K hK=>?_;go_simp;go_at_call 27
 (with_reducible refine HC.out.mono ?_)
 rintro e w5 ⟨rfl,hf5,hi5⟩;obtain ⟨hS5,H5⟩:=HF.out w5 hf5 hi5;replace H5:=hid H5;clear hf5 hi5;refine hK.out _ _ ?_ (fun hld=>?_)
 ·exact hS5
 clear hK K;try simp only [Act.put,Rg.s]
 refine Rg.rd (i:=13) rfl fun K hK=>?_;go_simp;go_at_call 83
 (with_reducible refine (H5.out.1).mono ?_)
 intro e w6 hG;obtain ⟨a6,n6,c6,rfl,hB6,hl6,hb6⟩:=hG;have HL6:=hid hl6;obtain ⟨hS6,hO6,H6'⟩:=H5.out.2 w6 hb6 a6 n6 c6 hB6;have H6:=hid H6';have HO6:=hid hO6;clear hl6 hb6 hB6 H6' hO6;refine hK.out _ _ ?_ (fun hld=>?_)
 ·exact hS6
 clear hK K;try simp only [Act.put,Rg.s]
 refine Rg.rd (i:=14) rfl fun K hK=>?_;refine Rg.meetStore (by rfl) HO6.out 56 (ndC ⟨2,q,eB,ref s::List.replicate 15 eB⟩ a6 n6 c6) ⟨_,_,rfl,rfl,rfl⟩ (info_ndC _ _ _ _ HL6.out) (by rw [ndC_size _ _ _ _ zks_length,ndC_size _ _ _ _ HL6.out]) (ndC_one _ _ _ _) ?_;intro w10 hO10 hu10;have HO10:=hid hO10;obtain ⟨hS10,H10'⟩:=H6.out w10 hu10;have H10:=hid H10';clear hO10 H10';refine hK.out _ _ ?_ (fun hld=>?_)
 ·exact hS10
 clear hK K;try simp only [Act.put,Rg.s]
 refine wpAnyH_done (by kernel_rfl) ?_ _;refine NoPanic.normal ?_;go_wp2;exact bodyPost_ret (res_nd rfl _ rfl HO10.out HL6.out) rfl H10.out
theorem top_none (p:Option Addr) (k:Int) (h1:k≠1) (h2:k≠2) (h3:k≠3) (w:World)
  (hK:∀ wx,Below w.heap.size w wx→Calls Tryz.prog 52 #[.agg #[.pointer p]] wx fun e w'=>e = .returned (.int .i64 k)∧Below wx.heap.size wx w') :
  Calls Tryz.prog 48 #[.agg #[.pointer p]] w fun e w'=>e = .returned (.agg (ndC nd0 none 0 0))∧Below w.heap.size w w':=by
 obtain ⟨w2,hw2,hO0,hO1,hb2,hs2⟩:=enterT w p;have HK:=hid (hK w2 hb2);have H3:Hid (∀ w3,Below w2.heap.size w2 w3→OwnN w3 (w.heap.size+1) nd0 none 0 0∧Below w.heap.size w w3):=hid (fun w3 hb3=>⟨hO1.below hb3,bst hb2 hb3⟩);have H0:=hid hO0;have e1:(k==1)=false:=by simp [h1]
 have e2:(k==2)=false:=by simp [h2]
 have e3:(k==3)=false:=by simp [h3]
 clear hO0 hO1 hb2 hs2 hK h1 h2 h3;subst hw2;go_enter Tryz.func48,Tryz.ntmps48;go_wp2_with (first | (refine Rg.run rfl _ _ (run_alloc_nd _ _ _ (w.heap.size+1) (by simp) rfl) ?_) | (refine Rg.run rfl _ _ (op_load_tree (own_cell (j:=0) H0.out rfl) ⟨_,rfl,rfl⟩) ?_))
 refine HK.out.mono ?_;rintro e w3 ⟨rfl,hb3⟩;obtain ⟨hO3,hB3⟩:=H3.out w3 hb3;have HO3:=hid hO3;have HB3:=hid hB3;clear hb3 H3 HK H0 hO3 hB3;go_wp2_with (first
  | (refine Rg.run rfl _ _ (op_build built0 ⟨_,rfl,rfl⟩) ?_)
  | (refine wpl_store_nd HO3.out zks_length nd0 none 0 0 zks_length rfl _ _ rfl rfl rfl rfl ?_))
 exact bodyPost_ret (res_nd rfl _ rfl (own_rowN HO3.out) zks_length) rfl ⟨rfl,below_rowN HB3.out (by omega) _⟩
end Tm
end
section
open Go.RowKit
namespace Tm
open Tr Rf Rl Ni No Pk Sm
theorem store_str_at {w:World} {b o:Nat} {cs:Array Value} {t:TypeId} (h:Rg.Own w b cs t) (ho:o<cs.size) (s:ByteArray):(Instr.storeAt 9 (.pointer (some ⟨b,o,none⟩)) (.string s)).run Tryz.prog w = .ok () (w.setCell ⟨b,o,none⟩ (.string s)):=by
 have hc:w.cell? ⟨b,o,none⟩=some cs[o]:=own_cell h (Array.getElem?_eq_getElem ho);have hz:w.frozen? ⟨b,o,none⟩=false:=own_free h;simp [go_sem,hc,hz]
theorem kidC_set (ks:List ByteArray) (i:Nat) (x:ByteArray):(kidC ks).setIfInBounds i (.string x)=kidC (ks.set i x):=by
 unfold kidC;rw [List.map_set];simp
theorem wpl_store_kid {ops:Array Oper} {rest:List Oper} {o:Oper} {act:Act} {w:World} {Q:Exit→Act→World→Prop} {b i:Nat} {ks:List ByteArray} (h:OwnK w b ks) (hl:ks.length=16) (hi:i<16) (s:ByteArray)
  (hgd:o.guard=none) (x y:Operand) (ho:o.op = .store 9 x y) (hx:act.eval x = .pointer (some ⟨b,i,none⟩)) (hy:act.eval y = .string s)
  (hQ:∀ w',OwnK w' b (ks.set i s)→Rg.Upd w b w'→wpList Tryz.prog ops Q rest (act.put o.dst undef) w'):wpList Tryz.prog ops Q (o::rest) act w :=
 wpList_plain hgd fun K hK=>by
  unfold Oper.wp execOp;simp only [ho,hx,hy,Sem.run_bind,Sem.run_pure,Result.andThen_ok,store_str_at h (o:=i) (by rw [kidC_size,hl]; exact hi) s];refine hK _ _ (hQ _ ?_ (upd_setCell _ _ _ _));have:=own_setCell (o:=i) h (.string s);rwa [kidC_set] at this
def firstR (l:List ByteArray) (j:Nat):List ByteArray:=l.take j++List.replicate (16-j) eB
theorem firstR_length {l:List ByteArray} (hl:l.length=16) {j:Nat} (hj:j≤16):(firstR l j).length=16:=by
 unfold firstR;rw [List.length_append,List.length_take,List.length_replicate,hl];omega
theorem firstR_set {l:List ByteArray} (hl:l.length=16) {j:Nat} (hj:j<16):(firstR l j).set j (l.getD j eB)=firstR l (j+1):=by
 unfold firstR;have h1:(l.take j).length=j:=by rw [List.length_take,hl]; omega
 have h2:List.replicate (16-j) eB=eB::List.replicate (16-(j+1)) eB:=by
  rw [show 16-j=(16-(j+1))+1 by omega,List.replicate_succ]
 have h3:l.take (j+1)=l.take j++[l.getD j eB]:=by
  have e:l.getD j eB=l[j]'(by omega):=by simp [List.getD,hl,hj]
  rw [e,List.take_succ_eq_append_getElem (by omega)]
 rw [h2,h3,List.set_append_right _ _ (by omega),h1,Nat.sub_self,List.set_cons_zero,List.append_assoc];rfl
theorem firstR_all {l:List ByteArray} (hl:l.length=16):firstR l 16=l:=by
 unfold firstR;rw [List.take_of_length_le (by omega)];simp
theorem firstR_none (l:List ByteArray):firstR l 0=zks:=by
 unfold firstR;simp [zks]
theorem InvN.none_at {M:Mp} {n:Nat} {w:World} (h:InvN M n w) {b:Nat} (hb:w.heap.size≤b):M.at_ b=none:=by
 cases hm:M.at_ b with
 | none=>rfl
 | some t=>exact absurd (h.lt_ b (h.part_ b t hm).2.1) (by omega)
theorem own_frN {M:Mp} {n:Nat} {w w':World} {b:Nat} {cs:Array Value} {t:TypeId} (h:Rg.Own w b cs t) (f:FrN M n w w') (hb:M.at_ b=none):Rg.Own w' b cs t:=⟨Nat.lt_of_lt_of_le h.1 f.size,(f.block b h.1 (Or.inl hb)).trans h.2⟩
theorem top_br (M:Mp) (b:Nat) (ks:Fin 16→T) (hm:M.at_ b=some (.br ks)) (w:World) (hi:InvN M (sz (.br ks)) w) (pa:Option Addr) (pn pc:Nat) (ka:Option Addr) (kn kc:Nat) (hB:Body M w b (.br ks) pa pn pc ka kn kc) (hT:Tab w) (hR:∀ i,RefC (ks i)) :
  Calls Tryz.prog 48 #[.agg #[.pointer (some ⟨b,0,none⟩)]] w (TopPost M (.br ks) w):=by
 obtain ⟨w2,hw2,hO0,hO1,hb2,hs2⟩:=enterT w (some ⟨b,0,none⟩);have hB2:=hB.below hb2;have hi2:=hi.below hb2;have h0:=own_cell (j:=0) hO0 rfl;have hlb:=hi.lt_ b (hi.part_ b _ hm).2.1;have hkn:kn=16:=by rw [← hB2.hk.len]; exact parts_br_len ks
 subst hkn;obtain ⟨kb,ko,p0,rfl,hklt,hkf,hzz⟩:=hB2.hk.at' 0 (by omega);clear hzz;have hkid:∀ j (hj:j<16),∃ p,w2.cell? ⟨kb,ko+j,none⟩=some (.pointer p)∧IsT M p (ks ⟨j,hj⟩):=fun j hj=>by
  obtain ⟨b',o',p,e,_,_,hc,ht⟩:=hB2.hk.at' j hj;obtain ⟨rfl,rfl⟩:kb=b'∧ko=o':=by simpa using e
  refine ⟨p,hc,?_⟩;have:=parts_br_at ks ⟨j,hj⟩;rw [this] at ht;exact ht
 have hkc:=hB2.hk.1;have hkm:=hB2.hk.2.1;unfold maxLen at hkm;have hkbl:=hi.lt_ kb hkf;have h0w:=hT.pos;have hT2:=hT.below hb2 h0w;have HK:=hid (kind_cell b 3 w2 hB2.c0);obtain ⟨L,hL⟩:∃ L,(kids16 fun i=>ref (ks i))=L:=⟨_,rfl⟩
 have hLl:L.length=16:=by rw [← hL]; exact kids16_length _
 have hLi:∀ j (hj:j<16),L.getD j eB=ref (ks ⟨j,hj⟩):=fun j hj=>by
  rw [← hL]; exact kids16_getD (fun i=>ref (ks i)) ⟨j,hj⟩
 have hg1:M.at_ (w.heap.size+1)=none:=hi.none_at (by omega);have HA:Hid (∀ w3,Below w2.heap.size w2 w3→(w3.cell? ⟨w.heap.size,0,none⟩=some (.pointer (some ⟨b,0,none⟩))∧w3.cell? ⟨b,3,none⟩=some (.slice (some ⟨kb,ko,none⟩) 16 kc)) ∧
   ((w3.alloc (.cells (kidC zks) 54)).cell? ⟨w.heap.size,0,none⟩=some (.pointer (some ⟨b,0,none⟩))∧(w3.alloc (.cells (kidC zks) 54)).cell? ⟨b,3,none⟩=some (.slice (some ⟨kb,ko,none⟩) 16 kc)) ∧
   M.at_ w3.heap.size=none∧w.heap.size+1<w3.heap.size∧OwnK (w3.alloc (.cells (kidC zks) 54)) w3.heap.size (firstR L 0)∧FrN M (sz (.br ks)) w2 (w3.alloc (.cells (kidC zks) 54))∧InvN M (sz (.br ks)) (w3.alloc (.cells (kidC zks) 54))):=hid (fun w3 hb3=>by
  have hb4:=bst hb3 (al1 w3 (.cells (kidC zks) 54));have hsz:=hb3.size;refine ⟨⟨cell_on hb3 h0,cell_on hb3 hB2.c3⟩,⟨cell_on hb4 h0,cell_on hb4 hB2.c3⟩,hi2.none_at (by omega),by omega,?_,FrN.below M _ hb4,hi2.below hb4⟩;rw [firstR_none];exact Rg.Own.new _ _ _)
 have HRd:Hid (∀ (bl:Nat) (wr:World),w2.heap.size≤bl→FrN M (sz (.br ks)) w2 wr→InvN M (sz (.br ks)) wr→∀ j (hj:j<16),OwnK wr bl (firstR L j)→∃ p,wr.cell? ⟨kb,ko+j,none⟩=some (.pointer p) ∧
   ∀ w5,Below wr.heap.size wr w5→Calls Tryz.prog 27 #[.agg #[.pointer p]] w5 (fun e w'=>e = .returned (.string (L.getD j eB))∧FrN M (sz (.br ks)) w5 w'∧InvN M (sz (.br ks)) w') ∧
   ∀ w6,FrN M (sz (.br ks)) w5 w6→InvN M (sz (.br ks)) w6→OwnK w6 bl (firstR L j) ∧
   ∀ w7,OwnK w7 bl ((firstR L j).set j (L.getD j eB))→Rg.Upd w6 bl w7→OwnK w7 bl (firstR L (j+1))∧FrN M (sz (.br ks)) w2 w7∧InvN M (sz (.br ks)) w7):=hid (fun bl wr hbl hf hir j hj hOK=>by
  obtain ⟨p,hcp,htp⟩:=hkid j hj;have hszk:=sz_kid ks ⟨j,hj⟩;refine ⟨p,hf.cell hcp (Or.inl (hi2.no_ptr hcp)),fun w5 hb5=>?_⟩;have hi5:=hir.below hb5;have hTr:=tab_frN hi2 hf hT2;have hT5:=hTr.below hb5 hTr.pos;refine ⟨(hR ⟨j,hj⟩ M w5 p (hi5.mono hszk) htp hT5).mono ?_,fun w6 hf6 hi6=>?_⟩
  ·rintro e w' ⟨rfl,hfe,hie⟩;exact ⟨by rw [hLi j hj],hfe.mono hszk,hi5.after hfe hie⟩
  ·have hOK6:OwnK w6 bl (firstR L j):=own_frN (hOK.below hb5) hf6 (hi2.none_at hbl);refine ⟨hOK6,fun w7 hO7 hu=>⟨by rw [← firstR_set hLl hj]; exact hO7,((hf.trans (FrN.below M _ hb5)).trans hf6).upd hu hbl,hi6.upd hu (fun e=>by have:=hi2.lt_ _ e; omega)⟩⟩)
 have HEnd:Hid (∀ (bl:Nat) (wr:World),FrN M (sz (.br ks)) w2 wr→InvN M (sz (.br ks)) wr→OwnK wr bl (firstR L 16)→OwnK wr bl L∧∀ w6,Below wr.heap.size wr w6→∀ a6 n6 c6,BsF wr.heap.size w6 a6 n6 c6 []→OwnN w6 (w.heap.size+1) nd0 none 0 0 ∧
   ∀ w10,Rg.Upd w6 (w.heap.size+1) w10→TopPost M (.br ks) w (.returned (.agg (ndC ⟨3,[],eB,L⟩ a6 n6 c6))) w10):=hid (fun bl wr hf hir hOK=>by
  rw [firstR_all hLl] at hOK;refine ⟨hOK,fun w6 hb6 a6 n6 c6 hx=>?_⟩;have hO6:=(own_frN hO1 hf hg1).below hb6;refine ⟨hO6,fun w10 hu=>⟨a6,n6,c6,by rw [← hL]; rfl,⟨isBs_upd hx.1 (no_byte hO6 (nd_no _ _ _ _)) hu,fun ad e=>Nat.le_trans (Nat.le_trans hb2.size hf.size) (hx.2 ad e)⟩,?_,(hir.below hb6).upd hu (fun e=>by have:=hi.lt_ _ e; omega)⟩⟩;exact (((FrN.below M _ hb2).trans hf).trans (FrN.below M _ hb6)).upd hu (by omega))
 have HLl:=hid hLl;have H0:=hid hO0;have hs2':=hs2;obtain ⟨N,hN⟩:∃ N,sz (.br ks)=N:=⟨_,rfl⟩
 rw [hN] at HA HRd HEnd;clear hO0 hO1 hb2 hB hB2 h0 hi hi2 hm hT hR h0w hT2 hkid hkf hklt hL hLi hg1 hN hLl hs2;have HW2:Hid (_=_):=hid hw2;clear hw2;go_enter Tryz.func48,Tryz.ntmps48;have H0':=H0;rw [HW2.out] at H0';go_wp2_with (first | (refine Rg.run rfl _ _ (run_alloc_nd _ _ _ (w.heap.size+1) (by simp) rfl) ?_) | (refine Rg.run rfl _ _ (op_load_tree (own_cell (j:=0) H0'.out rfl) ⟨_,rfl,rfl⟩) ?_))
 rw [← HW2.out];refine HK.out.mono ?_;rintro e w3 ⟨rfl,hb3⟩;obtain ⟨⟨d0,d3⟩,⟨e0,e3⟩,hnb,hsz3,hOK,hf4,hi4⟩:=HA.out w3 hb3;have HOK:=hid hOK;have HF4:=hid hf4;have HI4:=hid hi4;have hsz2:=hb3.size;clear hb3 HA HK H0 H0' HW2 hOK hf4 hi4;go_wp2_with (refine Rg.run rfl _ _ (run_alloc_ks _ _ _ w3.heap.size rfl rfl) ?_)
 clear d0 d3 e0 e3;go_loopw [45] (fun i wr=>∃ j:Nat,j≤16∧i = .int .i64 j∧Hid (OwnK wr w3.heap.size (firstR L j))∧Hid (FrN M N w2 wr)∧Hid (InvN M N wr)) (fun i _=>16-(intOf i).toNat)
 case atStart=>exact ⟨0,Nat.zero_le _,rfl,HOK,HF4,HI4⟩
 case round =>
  obtain ⟨j,hj,rfl,HO,HF,HI⟩:=hrel;clear HOK HF4 HI4;by_cases hlt:j<16
  ·obtain ⟨p,hkp,H5⟩:=HRd.out w3.heap.size wr hsz2 HF.out HI.out j hlt HO.out;replace H5:=hid H5;have hNew:=Rg.Own.new wr #[.pointer none] 28;have HN:=hid hNew;obtain ⟨R,hR⟩:∃ R,L.getD j eB=R:=⟨_,rfl⟩
   rw [hR] at H5;clear hNew HO HF HI HRd HEnd hR;go_wp2_with (first
    | (refine Rg.run rfl _ _ (op_load_tree hkp ⟨_,rfl,rfl⟩) ?_)
    | (refine Rg.run rfl _ _ (run_alloc_tree _ _ _ wr.heap.size rfl rfl) ?_)
    | (refine wpl_store_tree HN.out (by decide) p rfl _ _ rfl rfl rfl ?_; intro w5 hO5 hu5; have HO5:=hid hO5; have HB5:Hid (Below wr.heap.size wr w5):=hid (hu5.below (al1 _ _) (Nat.le_refl _)); clear hO5 hu5)
    | (refine Rg.run rfl _ _ (op_load_tree (own_cell (j:=0) HO5.out rfl) ⟨_,rfl,rfl⟩) ?_))
   obtain ⟨HC,H6⟩:=H5.out w5 HB5.out;replace HC:=hid HC;replace H6:=hid H6;clear H5 HB5 HO5 HN hkp;refine HC.out.mono ?_;rintro e w6 ⟨rfl,hf6,hi6⟩;obtain ⟨hO6,H7⟩:=H6.out w6 hf6 hi6;replace H7:=hid H7;have HO6:=hid hO6;clear hf6 hi6 H6 HC hO6;have hji:(j:Int)<16:=by omega
   go_wp2_with (refine wpl_store_kid HO6.out (firstR_length HLl.out (by omega)) hlt R rfl _ _ rfl rfl rfl ?_; intro w7 hO7 hu7; obtain ⟨g1,g2,g3⟩:=H7.out w7 hO7 hu7; have G1:=hid g1; have G2:=hid g2; have G3:=hid g3; clear g1 g2 g3 hO7 hu7)
   go_roundw
   case rel=>exact ⟨j+1,by omega,by go_num,G1,G2,G3⟩
   case measure=>simp [intOf]; omega
  ·obtain rfl:j=16:=by omega
   obtain ⟨hOL,H6⟩:=HEnd.out w3.heap.size wr HF.out HI.out HO.out;have HOL:=hid hOL;replace H6:=hid H6;have HBr:=hid (No.branch_any L HLl.out wr);clear HO HF HI HRd HEnd hOL;go_wp2_with (refine Rg.run rfl _ _ (op_load_kc HOL.out HLl.out ⟨_,rfl,rfl⟩) ?_)
   refine HBr.out.mono ?_;rintro e w6 ⟨a6,n6,c6,rfl,hB6,hl6,hb6⟩;obtain ⟨hO6,H10⟩:=H6.out w6 hb6 a6 n6 c6 hB6;have HO6:=hid hO6;replace H10:=hid H10;clear hB6 hl6 hb6 hO6 H6 HBr HOL;go_wp2_with (refine wpl_store_nd HO6.out zks_length ⟨3,[],eB,L⟩ a6 n6 c6 HLl.out rfl _ _ rfl rfl rfl rfl ?_)
   exact bodyPost_ret (res_nd rfl _ rfl (own_rowN HO6.out) HLl.out) rfl (H10.out _ (Rg.Upd.set _ _ _))
end Tm
end
end Go.Proofs.YtnecijeakeklaaaGreatDoor
