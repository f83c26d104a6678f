/-
 The contract of the plain answer's Sort of pairs.
-/
import Derived.Test.YtokaiemgjngcoaaGreatDoorVs24
import Derived.LaidMore
import Derived.ShutString
import Derived.Stop.Joined
open Go.Lib (hid)
open Go.Proofs.Tryz
set_option linter.unusedSimpArgs false
set_option linter.unusedVariables false
set_option maxHeartbeats 40000000
set_option maxRecDepth 100000
namespace Go.Proofs.YtokaiemgjngcoaaGreatDoor
variable {cap n:Nat} {v:Value} {a fa:aL} {ev:Operand->Value} {o:Oper} {P:Program} {W:World}
section
open Go.RowKit
namespace Tm
open Tr Ni Pk Ky
theorem Cj {w:World} {b:Nat} {x:Tr.Pair} {t:TypeId} (hk:x.1.length=32) (h:Rg.Own w b (dN x) t):fT w (some ⟨b,0,none⟩) 1 1 [x] :=
 ⟨aH,by unfold maxLen; decide,rfl,λe=>(by cases e),λy hy=>by rw [List.mem_singleton.1 hy]; exact hk,λj hj=>by
  obtain rfl:j=0:=by omega
  exact ⟨b,0,rfl,h.1,cK.own h⟩⟩
theorem Oc {S:List Tr.Pair} {x:Tr.Pair} {q:Nat} (h:∀ y∈S.take q,ltP y.1 x.1=true) (hq:q<S.length) (hl:ltP (S.getD q ([],eB)).1 x.1=true):∀ y∈S.take (q+1),ltP y.1 x.1=true:=λy hy=>by
 rw [take_at hq,List.mem_append] at hy;rcases hy with hy | hy
 .exact h y hy
 .rw [List.mem_singleton.1 hy]; exact hl
theorem NI (l:List Tr.Pair) (a:aL) (n c:Nat) (w:World) (h:fT w a n c l) (hn:n<=1000) :
  Calls prog 19 #[.slice a n c] w (wB w (iQ l)):=by
 have H:=hid h;have HL:=hid h.len;have gt:=hid h.keys;clear h;go_enter func19,ntmps19;go_wp2_with fail
 go_loopw [3,4] (λv i wr=>∃ j:Nat,j<=n/\i = .int .i64 j/\Hid (wr.ownsRow w.heap.size 60 33 v (iQ (l.take j)).length (rowP (iQ (l.take j))))/\Hid (Below w.heap.size w wr)) (λ_ i _=>n-(intOf i).toNat)
 case atStart=>exact ⟨0,Nat.zero_le _,rfl,hid (World.ownsRow_nil _ _ _ _),hid aI⟩
 case round =>
  obtain ⟨wo,rfl⟩:=ay wr
  obtain ⟨j,hj,rfl,HR,HB⟩:=hrel;by_cases hlt:j<n
  .obtain ⟨b1,o1,rfl,hb1,hpx,hkx⟩:=H.out.at' j hlt;have hji:(j:Int)<n:=by omega
   have hsl:=AQ l j;have hsk:=EA gt.out j;have HF:=hid (wJ (l:=l) (j:=j) (by rw [HL.out]; exact hlt));have fe:=hpx.below HB.out;have bi:=hid hkx;generalize l.getD j ([],eB)=x at *
   generalize iQ (l.take j)=S at *
   obtain ⟨m,hm⟩:=aA S.length
   rw [hm] at HR hsl;obtain ⟨a2,c2,rfl,hps⟩:=fT.ny hsk hm HR.out;have hc2:=hps.1;have kj:=hid hps;have pr:=hid hm;have EQ:=hid hsk;clear hpx hkx hb1 hps hsk hm HR;go_wp2_with fail
   go_loopw [5] (λk wr=>∃ q:Nat,q<=m/\k = .int .i64 q/\Hid (∀ y∈S.take q,ltP y.1 x.1=true)/\Hid (Below wo.heap.size wo wr)) (λk _=>m-(intOf k).toNat)
   case atStart=>exact ⟨0,Nat.zero_le _,rfl,hid (λy hy=>by cases hy),hid aI⟩
   case round =>
    obtain ⟨q,hq,rfl,HI,HB2⟩:=hrel;have P7:=hid (fe.below HB2.out);by_cases hqm:q<m
    .obtain ⟨b2,o2,rfl,hb2,rh,hky⟩:=kj.out.at' q hqm;have hqi:(q:Int)<m:=by omega
     have pt:=hid hky;obtain ⟨y,wj⟩:=aA (S.getD q ([],eB))
     rw [wj] at rh pt;have P8:=hid (rh.below HB2.out);clear hb2 hky;by_cases hlx:ltP y.1 x.1=true
     .have eM:Hid (∀ w,Calls prog 35 #[.agg (kc y.1),.agg (kc x.1)] w λe w'=>e = .returned (.bool true)/\Below w.heap.size w w'):=hid λw=>(ED y.1 x.1 pt.out bi.out w).mono λe w' g=>by rw [hlx] at g; exact g
      have HN:=hid (Oc HI.out (by rw [pr.out]; exact hqm) (by rw [wj]; exact hlx));clear hlx wj;go_wp2_with fail
      refine aD (S:=λw'=>Below wr.heap.size wr w') ((below_drewN aI 1)) λhld=>?_;refine aj 0 ?_;try simp only [Act.put,au]
      refine aj 1 ?_;try simp only [Act.put,au]
      refine aj 2 ?_;try simp only [Act.put,au]
      refine aj 3 ?_;try simp only [Act.put,au]
      refine aj 4 ?_;try simp only [Act.put,au]
      refine aj 5 ?_;try simp only [Act.put,au]
      refine aj 6 ?_;try simp only [Act.put,au]
      refine aj 7 ?_ (hy:=by intro wz hSw; (have q0:=hqi; have q1:=hqm; go_simp <;> with_reducible rfl));try simp only [Act.put,au]
      refine aj 8 ?_;try simp only [Act.put,au]
      refine aj 9 ?_ (hy:=by intro wz hSw; (refine bH pt.out (P8.out.below hSw).key ?_; exact ⟨_,rfl,rfl⟩));try simp only [Act.put,au]
      refine aj 10 ?_;try simp only [Act.put,au]
      refine aj 11 ?_;try simp only [Act.put,au]
      refine aj 12 ?_ (hy:=by intro wz hSw; (have q0:=hji; have q1:=hlt; go_simp <;> with_reducible rfl));try simp only [Act.put,au]
      refine aj 13 ?_;try simp only [Act.put,au]
      refine aj 14 ?_ (hy:=by intro wz hSw; (refine bH bi.out (P7.out.below hSw).key ?_; exact ⟨_,rfl,rfl⟩));try simp only [Act.put,au]
      refine ak 15 λK hK=>?_;go_simp;go_at_call 35
      (with_reducible refine (eM.out _).mono ?_)
      rintro e bc ⟨rfl,hbx⟩;refine hK.out _ _ (Below.trans hld (hbx.mono hld.size)) λhld=>?_;clear hK K;try simp only [Act.put,au]
      refine aj 16 ?_;try simp only [Act.put,au]
      refine aC ?_;have fw:Hid (Below wo.heap.size wo bc):=hid (bst HB2.out hld);clear hld hbx;go_wp2;go_roundw
      case rel=>exact ⟨q+1,by omega,by go_num,HN,fw⟩
      case measure=>simp [intOf]; omega
     .have dy:Hid (ltP y.1 x.1=false):=hid (by simpa using hlx);have eM:Hid (∀ w,Calls prog 35 #[.agg (kc y.1),.agg (kc x.1)] w λe w'=>e = .returned (.bool false)/\Below w.heap.size w w'):=hid λw=>(ED y.1 x.1 pt.out bi.out w).mono λe w' g=>by rw [dy.out] at g; exact g
      clear hlx;by_cases hek:y.1=x.1
      .have tp:=hid (aK hek);have P9:=hid hek;have qv:=hid wj;clear hek wj;go_wp2_with fail
       refine aD (S:=λw'=>Below wr.heap.size wr w') ((below_drewN aI 1)) λhld=>?_;refine aj 0 ?_;try simp only [Act.put,au]
       refine aj 1 ?_;try simp only [Act.put,au]
       refine aj 2 ?_;try simp only [Act.put,au]
       refine aj 3 ?_;try simp only [Act.put,au]
       refine aj 4 ?_;try simp only [Act.put,au]
       refine aj 5 ?_;try simp only [Act.put,au]
       refine aj 6 ?_;try simp only [Act.put,au]
       refine aj 7 ?_ (hy:=by intro wz hSw; (have q0:=hqi; have q1:=hqm; go_simp <;> with_reducible rfl));try simp only [Act.put,au]
       refine aj 8 ?_;try simp only [Act.put,au]
       refine aj 9 ?_ (hy:=by intro wz hSw; (refine bH pt.out (P8.out.below hSw).key ?_; exact ⟨_,rfl,rfl⟩));try simp only [Act.put,au]
       refine aj 10 ?_;try simp only [Act.put,au]
       refine aj 11 ?_;try simp only [Act.put,au]
       refine aj 12 ?_ (hy:=by intro wz hSw; (have q0:=hji; have q1:=hlt; go_simp <;> with_reducible rfl));try simp only [Act.put,au]
       refine aj 13 ?_;try simp only [Act.put,au]
       refine aj 14 ?_ (hy:=by intro wz hSw; (refine bH bi.out (P7.out.below hSw).key ?_; exact ⟨_,rfl,rfl⟩));try simp only [Act.put,au]
       refine ak 15 λK hK=>?_;go_simp;go_at_call 35
       (with_reducible refine (eM.out _).mono ?_)
       rintro e bc ⟨rfl,hbx⟩;refine hK.out _ _ (Below.trans hld (hbx.mono hld.size)) λhld=>?_;clear hK K;try simp only [Act.put,au]
       refine aj 16 ?_;try simp only [Act.put,au]
       refine aC ?_;have fw:Hid (Below wo.heap.size wo bc):=hid (bst HB2.out hld);clear hld hbx;have hbz:=fw.out.size;have sR:=hid (kj.out.below fw.out);have nz:=hid (fe.below fw.out);have jt:Hid (fT (bc.alloc (.cells #[] 60)) _ q c2 (S.take q)):=hid (((sR.out.below (al1 _ _))).upto q (by omega))
       have df:Hid ((bc.alloc (.cells #[] 60)).ownsRow bc.heap.size 60 33 (.slice (some ⟨bc.heap.size,0,none⟩) 0 0) 0 (rowP [])):=hid (World.ownsRow_lit (e:=60) (size:=33) (base:=bc.heap.size) bc #[] 0 aH (by unfold maxLen; decide) rfl);have hs3:bc.heap.size<=(bc.alloc (.cells #[] 60)).heap.size:=by simp
       have hq0:0+q<=1000000:=by omega
       have hqc:q<=c2:=by omega
       go_wp2_with (first
        | (refine aB (rF _ rfl rfl) ?_)
        | (refine aB (vN kL nO hqc ⟨_,_,rfl,rfl,rfl⟩) ?_)
        | (at_builtin; refine dH rfl _ _ rfl rfl rfl df.out jt.out hq0 hs3 ?_))
       intro v4 w4 h4 hg4 sA;have HR4:Hid (w4.ownsRow bc.heap.size 60 33 v4 q (rowP (S.take q))):=hid (by simpa using h4);have aq:Hid (Below wo.heap.size wo w4):=hid ((fw.out.alloc fw.out.size _).grown hg4 (by simp; omega) (λk hk=>by cases hk; exact hbz));have mN:bc.heap.size<w4.heap.size:=by
        obtain ⟨_,_,_,hz,_⟩:=hg4;simp at hz;omega
       clear h4 hg4 sA df jt hs3 hq0 sR nz;have ik:=hid (fe.below aq.out);have me:=hid (Rg.Own.new w4 (dN x) 60);have sT:Hid (fT (w4.alloc (.cells (dN x) 60)) (some ⟨w4.heap.size,0,none⟩) 1 1 [x]):=hid (Cj bi.out me.out);have fd:=hid (HR4.out.alloc (.cells (dN x) 60));have hq4:q+1<=1000000:=by omega
       have hs4:bc.heap.size<=(w4.alloc (.cells (dN x) 60)).heap.size:=by simp; omega
       go_wp2_with (first
        | (refine aB (dU bi.out ik.out ⟨_,rfl,rfl⟩) ?_)
        | (refine aB (jh bi.out _ rfl ⟨_,rfl,rfl⟩) ?_)
        | (at_builtin; refine dH rfl _ _ rfl rfl rfl fd.out sT.out hq4 hs4 ?_))
       intro v5 w5 h5 hg5 oX;have dt:Hid (w5.ownsRow bc.heap.size 60 33 v5 (q+1) (rowP (S.take q++[x]))):=hid h5;have il:=HR4.out.lt;have ae:Hid (Below wo.heap.size wo w5):=hid ((aq.out.alloc aq.out.size _).grown hg5 (by have:=aq.out.size; simp; omega) (λk hk=>Nat.le_trans hbz (il k hk).1));have si:bc.heap.size<=w5.heap.size:=by
        obtain ⟨_,_,_,hz,_⟩:=hg5;simp at hz;omega
       clear h5 hg5 oX me sT fd hs4 hq4 ik HR4 aq il;have eW:=hid (kj.out.below ae.out);have ri:=hid (fe.below ae.out);have wt:=hid (rh.below ae.out);go_wp2_with fail
       refine aD (S:=λw'=>Below w5.heap.size w5 w') ((below_drewN aI 1)) λhld=>?_;refine aj 0 ?_;try simp only [Act.put,au]
       refine aj 1 ?_;try simp only [Act.put,au]
       refine aj 2 ?_;try simp only [Act.put,au]
       refine aj 3 ?_;try simp only [Act.put,au]
       refine aj 4 ?_;try simp only [Act.put,au]
       refine aj 5 ?_;try simp only [Act.put,au]
       refine aj 6 ?_;try simp only [Act.put,au]
       refine aj 7 ?_ (hy:=by intro wz hSw; (have q0:=hqi; have q1:=hqm; go_simp <;> with_reducible rfl));try simp only [Act.put,au]
       refine aj 8 ?_;try simp only [Act.put,au]
       refine aj 9 ?_ (hy:=by intro wz hSw; (refine bH pt.out (wt.out.below hSw).key ?_; exact ⟨_,rfl,rfl⟩));try simp only [Act.put,au]
       refine aj 10 ?_;try simp only [Act.put,au]
       refine aj 11 ?_;try simp only [Act.put,au]
       refine aj 12 ?_ (hy:=by intro wz hSw; (have q0:=hji; have q1:=hlt; go_simp <;> with_reducible rfl));try simp only [Act.put,au]
       refine aj 13 ?_;try simp only [Act.put,au]
       refine aj 14 ?_ (hy:=by intro wz hSw; (refine bH bi.out (ri.out.below hSw).key ?_; exact ⟨_,rfl,rfl⟩));try simp only [Act.put,au]
       refine aj 15 ?_ (hy:=by intro wz hSw; (refine oV pt.out bi.out ?_; exact ⟨_,_,_,rfl,rfl,rfl⟩));try simp only [Act.put,au]
       refine aj 16 ?_;try simp only [Act.put,au]
       refine aC ?_;have ax:Hid (Below wo.heap.size wo w5.drew):=hid (ae.out.drew);have dr:=hid (iE dt.out (aI.drew));clear hld;have sX:Hid (w5.heap.size<=w5.drew.heap.size):=hid aH;obtain ⟨w6,eS⟩:=aA w5.drew
       rw [eS] at ax dr sX ⊢;clear eS;rw [tp.out];have dl:=hid (kj.out.below ax.out);have HD6:=hid (dl.out.from' (q+1) (by omega));have yh:bc.heap.size<=w6.heap.size:=Nat.le_trans si sX.out;have EV:q+1+(m-(q+1))<=1000000:=by omega
       have hkm:q+1<=m:=by omega
       have nB:=dr.out.lt;go_wp2_with (first
        | (refine aB (zW kL nO hkm ⟨_,_,rfl,rfl,rfl⟩) ?_)
        | (at_builtin; refine dH rfl _ _ rfl rfl rfl dr.out HD6.out EV yh ?_))
       intro v7 w7 h7 gA F0;have gC:Hid (w7.ownsRow w.heap.size 60 33 v7 (S.take q++[x]++S.drop (q+1)).length (rowP (S.take q++[x]++S.drop (q+1)))):=hid (by
        rw [show (S.take q++[x]++S.drop (q+1)).length=m by simp only [List.length_append,List.length_take,List.length_drop,List.length_singleton,pr.out]; omega,List.append_assoc];exact AL h7 (by have:=HB.out.size; omega))
       have cA:Hid (Below w.heap.size w w7):=hid (HB.out.trans (((ax.out.grown gA (by have:=ax.out.size; omega) (λk hk=>Nat.le_trans hbz (nB k hk).1))).mono HB.out.size));clear h7 gA F0;go_wp2;go_roundw
       case rel=>exact ⟨j+1,by omega,by go_num,hid (by rw [HF.out,uR S x q (by rw [pr.out]; omega) HI.out (λ_=>by rw [qv.out]; exact dy.out),if_pos ⟨by rw [pr.out]; omega,by rw [qv.out]; exact P9.out⟩]; exact gC.out),cA⟩
       case measure=>simp [intOf]; omega
      .have tp:=hid (decide_eq_false hek);have P9:=hid hek;have qv:=hid wj;clear hek wj;go_wp2_with fail
       refine aD (S:=λw'=>Below wr.heap.size wr w') ((below_drewN aI 1)) λhld=>?_;refine aj 0 ?_;try simp only [Act.put,au]
       refine aj 1 ?_;try simp only [Act.put,au]
       refine aj 2 ?_;try simp only [Act.put,au]
       refine aj 3 ?_;try simp only [Act.put,au]
       refine aj 4 ?_;try simp only [Act.put,au]
       refine aj 5 ?_;try simp only [Act.put,au]
       refine aj 6 ?_;try simp only [Act.put,au]
       refine aj 7 ?_ (hy:=by intro wz hSw; (have q0:=hqi; have q1:=hqm; go_simp <;> with_reducible rfl));try simp only [Act.put,au]
       refine aj 8 ?_;try simp only [Act.put,au]
       refine aj 9 ?_ (hy:=by intro wz hSw; (refine bH pt.out (P8.out.below hSw).key ?_; exact ⟨_,rfl,rfl⟩));try simp only [Act.put,au]
       refine aj 10 ?_;try simp only [Act.put,au]
       refine aj 11 ?_;try simp only [Act.put,au]
       refine aj 12 ?_ (hy:=by intro wz hSw; (have q0:=hji; have q1:=hlt; go_simp <;> with_reducible rfl));try simp only [Act.put,au]
       refine aj 13 ?_;try simp only [Act.put,au]
       refine aj 14 ?_ (hy:=by intro wz hSw; (refine bH bi.out (P7.out.below hSw).key ?_; exact ⟨_,rfl,rfl⟩));try simp only [Act.put,au]
       refine ak 15 λK hK=>?_;go_simp;go_at_call 35
       (with_reducible refine (eM.out _).mono ?_)
       rintro e bc ⟨rfl,hbx⟩;refine hK.out _ _ (Below.trans hld (hbx.mono hld.size)) λhld=>?_;clear hK K;try simp only [Act.put,au]
       refine aj 16 ?_;try simp only [Act.put,au]
       refine aC ?_;have fw:Hid (Below wo.heap.size wo bc):=hid (bst HB2.out hld);clear hld hbx;have hbz:=fw.out.size;have sR:=hid (kj.out.below fw.out);have nz:=hid (fe.below fw.out);have jt:Hid (fT (bc.alloc (.cells #[] 60)) _ q c2 (S.take q)):=hid (((sR.out.below (al1 _ _))).upto q (by omega))
       have df:Hid ((bc.alloc (.cells #[] 60)).ownsRow bc.heap.size 60 33 (.slice (some ⟨bc.heap.size,0,none⟩) 0 0) 0 (rowP [])):=hid (World.ownsRow_lit (e:=60) (size:=33) (base:=bc.heap.size) bc #[] 0 aH (by unfold maxLen; decide) rfl);have hs3:bc.heap.size<=(bc.alloc (.cells #[] 60)).heap.size:=by simp
       have hq0:0+q<=1000000:=by omega
       have hqc:q<=c2:=by omega
       go_wp2_with (first
        | (refine aB (rF _ rfl rfl) ?_)
        | (refine aB (vN kL nO hqc ⟨_,_,rfl,rfl,rfl⟩) ?_)
        | (at_builtin; refine dH rfl _ _ rfl rfl rfl df.out jt.out hq0 hs3 ?_))
       intro v4 w4 h4 hg4 sA;have HR4:Hid (w4.ownsRow bc.heap.size 60 33 v4 q (rowP (S.take q))):=hid (by simpa using h4);have aq:Hid (Below wo.heap.size wo w4):=hid ((fw.out.alloc fw.out.size _).grown hg4 (by simp; omega) (λk hk=>by cases hk; exact hbz));have mN:bc.heap.size<w4.heap.size:=by
        obtain ⟨_,_,_,hz,_⟩:=hg4;simp at hz;omega
       clear h4 hg4 sA df jt hs3 hq0 sR nz;have ik:=hid (fe.below aq.out);have me:=hid (Rg.Own.new w4 (dN x) 60);have sT:Hid (fT (w4.alloc (.cells (dN x) 60)) (some ⟨w4.heap.size,0,none⟩) 1 1 [x]):=hid (Cj bi.out me.out);have fd:=hid (HR4.out.alloc (.cells (dN x) 60));have hq4:q+1<=1000000:=by omega
       have hs4:bc.heap.size<=(w4.alloc (.cells (dN x) 60)).heap.size:=by simp; omega
       go_wp2_with (first
        | (refine aB (dU bi.out ik.out ⟨_,rfl,rfl⟩) ?_)
        | (refine aB (jh bi.out _ rfl ⟨_,rfl,rfl⟩) ?_)
        | (at_builtin; refine dH rfl _ _ rfl rfl rfl fd.out sT.out hq4 hs4 ?_))
       intro v5 w5 h5 hg5 oX;have dt:Hid (w5.ownsRow bc.heap.size 60 33 v5 (q+1) (rowP (S.take q++[x]))):=hid h5;have il:=HR4.out.lt;have ae:Hid (Below wo.heap.size wo w5):=hid ((aq.out.alloc aq.out.size _).grown hg5 (by have:=aq.out.size; simp; omega) (λk hk=>Nat.le_trans hbz (il k hk).1));have si:bc.heap.size<=w5.heap.size:=by
        obtain ⟨_,_,_,hz,_⟩:=hg5;simp at hz;omega
       clear h5 hg5 oX me sT fd hs4 hq4 ik HR4 aq il;have eW:=hid (kj.out.below ae.out);have ri:=hid (fe.below ae.out);have wt:=hid (rh.below ae.out);go_wp2_with fail
       refine aD (S:=λw'=>Below w5.heap.size w5 w') ((below_drewN aI 1)) λhld=>?_;refine aj 0 ?_;try simp only [Act.put,au]
       refine aj 1 ?_;try simp only [Act.put,au]
       refine aj 2 ?_;try simp only [Act.put,au]
       refine aj 3 ?_;try simp only [Act.put,au]
       refine aj 4 ?_;try simp only [Act.put,au]
       refine aj 5 ?_;try simp only [Act.put,au]
       refine aj 6 ?_;try simp only [Act.put,au]
       refine aj 7 ?_ (hy:=by intro wz hSw; (have q0:=hqi; have q1:=hqm; go_simp <;> with_reducible rfl));try simp only [Act.put,au]
       refine aj 8 ?_;try simp only [Act.put,au]
       refine aj 9 ?_ (hy:=by intro wz hSw; (refine bH pt.out (wt.out.below hSw).key ?_; exact ⟨_,rfl,rfl⟩));try simp only [Act.put,au]
       refine aj 10 ?_;try simp only [Act.put,au]
       refine aj 11 ?_;try simp only [Act.put,au]
       refine aj 12 ?_ (hy:=by intro wz hSw; (have q0:=hji; have q1:=hlt; go_simp <;> with_reducible rfl));try simp only [Act.put,au]
       refine aj 13 ?_;try simp only [Act.put,au]
       refine aj 14 ?_ (hy:=by intro wz hSw; (refine bH bi.out (ri.out.below hSw).key ?_; exact ⟨_,rfl,rfl⟩));try simp only [Act.put,au]
       refine aj 15 ?_ (hy:=by intro wz hSw; (refine oV pt.out bi.out ?_; exact ⟨_,_,_,rfl,rfl,rfl⟩));try simp only [Act.put,au]
       refine aj 16 ?_;try simp only [Act.put,au]
       refine aC ?_;have ax:Hid (Below wo.heap.size wo w5.drew):=hid (ae.out.drew);have dr:=hid (iE dt.out (aI.drew));clear hld;have sX:Hid (w5.heap.size<=w5.drew.heap.size):=hid aH;obtain ⟨w6,eS⟩:=aA w5.drew
       rw [eS] at ax dr sX ⊢;clear eS;rw [tp.out];have dl:=hid (kj.out.below ax.out);have HD6:=hid (dl.out.from' (q) (by omega));have yh:bc.heap.size<=w6.heap.size:=Nat.le_trans si sX.out;have EV:q+1+(m-(q))<=1000000:=by omega
       have hkm:q<=m:=by omega
       have nB:=dr.out.lt;go_wp2_with (first
        | (refine aB (zW kL nO hkm ⟨_,_,rfl,rfl,rfl⟩) ?_)
        | (at_builtin; refine dH rfl _ _ rfl rfl rfl dr.out HD6.out EV yh ?_))
       intro v7 w7 h7 gA F0;have gC:Hid (w7.ownsRow w.heap.size 60 33 v7 (S.take q++[x]++S.drop (q)).length (rowP (S.take q++[x]++S.drop (q)))):=hid (by
        rw [show (S.take q++[x]++S.drop (q)).length=q+1+(m-q) by simp only [List.length_append,List.length_take,List.length_drop,List.length_singleton,pr.out]; omega,List.append_assoc];exact AL h7 (by have:=HB.out.size; omega))
       have cA:Hid (Below w.heap.size w w7):=hid (HB.out.trans (((ax.out.grown gA (by have:=ax.out.size; omega) (λk hk=>Nat.le_trans hbz (nB k hk).1))).mono HB.out.size));clear h7 gA F0;go_wp2;go_roundw
       case rel=>exact ⟨j+1,by omega,by go_num,hid (by rw [HF.out,uR S x q (by rw [pr.out]; omega) HI.out (λ_=>by rw [qv.out]; exact dy.out),if_neg (λg=>P9.out (by rw [<-qv.out]; exact g.2))]; exact gC.out),cA⟩
       case measure=>simp [intOf]; omega
    .obtain rfl:q=m:=by omega
     have VM:¬ ((q:Int)<q):=by omega
     go_wp2_with fail
     refine aD (S:=λw'=>Below wr.heap.size wr w') ((below_drewN aI 1)) λhld=>?_;refine aj 0 ?_;try simp only [Act.put,au]
     refine aj 1 ?_;try simp only [Act.put,au]
     refine aj 2 ?_;try simp only [Act.put,au]
     refine aj 3 ?_ (hy:=by intro wz hSw; (have q0:=VM; go_simp <;> with_reducible rfl));try simp only [Act.put,au]
     refine aj 4 ?_;try simp only [Act.put,au]
     refine Rg.takeL (i:=5) (v:=undef) rfl (by kernel_rfl) (by kernel_rfl) (by kernel_rfl) (λ_ _ _ h=>h) (Or.inr ⟨by rfl,rfl⟩) (by assumption) ?_;try simp only [Act.put,au]
     refine Rg.takeL (i:=6) (v:=undef) rfl (by kernel_rfl) (by kernel_rfl) (by kernel_rfl) (λ_ _ _ h=>h) (Or.inr ⟨by rfl,rfl⟩) (by assumption) ?_;try simp only [Act.put,au]
     refine Rg.takeL (i:=7) (v:=undef) rfl (by kernel_rfl) (by kernel_rfl) (by kernel_rfl) (λ_ _ _ h=>h) (Or.inr ⟨by rfl,rfl⟩) (by assumption) ?_;try simp only [Act.put,au]
     refine Rg.takeL (i:=8) (v:=undef) rfl (by kernel_rfl) (by kernel_rfl) (by kernel_rfl) (λ_ _ _ h=>h) (Or.inr ⟨by rfl,rfl⟩) (by assumption) ?_;try simp only [Act.put,au]
     refine Rg.takeL (i:=9) (v:=undef) rfl (by kernel_rfl) (by kernel_rfl) (by kernel_rfl) (λ_ _ _ h=>h) (Or.inr ⟨by rfl,rfl⟩) (by assumption) ?_;try simp only [Act.put,au]
     refine Rg.takeL (i:=10) (v:=undef) rfl (by kernel_rfl) (by kernel_rfl) (by kernel_rfl) (λ_ _ _ h=>h) (Or.inr ⟨by rfl,rfl⟩) (by assumption) ?_;try simp only [Act.put,au]
     refine Rg.takeL (i:=11) (v:=undef) rfl (by kernel_rfl) (by kernel_rfl) (by kernel_rfl) (λ_ _ _ h=>h) (Or.inr ⟨by rfl,rfl⟩) (by assumption) ?_;try simp only [Act.put,au]
     refine Rg.takeL (i:=12) (v:=undef) rfl (by kernel_rfl) (by kernel_rfl) (by kernel_rfl) (λ_ _ _ h=>h) (Or.inr ⟨by rfl,rfl⟩) (by assumption) ?_;try simp only [Act.put,au]
     refine Rg.takeL (i:=13) (v:=undef) rfl (by kernel_rfl) (by kernel_rfl) (by kernel_rfl) (λ_ _ _ h=>h) (Or.inr ⟨by rfl,rfl⟩) (by assumption) ?_;try simp only [Act.put,au]
     refine Rg.takeL (i:=14) (v:=undef) rfl (by kernel_rfl) (by kernel_rfl) (by kernel_rfl) (λ_ _ _ h=>h) (Or.inr ⟨by rfl,rfl⟩) (by assumption) ?_;try simp only [Act.put,au]
     refine Rg.takeL (i:=15) (v:=undef) rfl (by kernel_rfl) (by kernel_rfl) (by kernel_rfl) (λ_ _ _ h=>h) (Or.inr ⟨by rfl,rfl⟩) (by assumption) ?_;try simp only [Act.put,au]
     refine aj 16 ?_;try simp only [Act.put,au]
     refine aC ?_;have fw:Hid (Below wo.heap.size wo wr.drew):=hid (HB2.out.drew);clear hld;obtain ⟨bc,hwv⟩:=aA wr.drew
     rw [hwv] at fw ⊢;clear hwv;have hbz:=fw.out.size;have sR:=hid (kj.out.below fw.out);have nz:=hid (fe.below fw.out);have jt:Hid (fT (bc.alloc (.cells #[] 60)) _ q c2 (S.take q)):=hid (((sR.out.below (al1 _ _))).upto q (by omega));have df:Hid ((bc.alloc (.cells #[] 60)).ownsRow bc.heap.size 60 33 (.slice (some ⟨bc.heap.size,0,none⟩) 0 0) 0 (rowP [])):=hid (World.ownsRow_lit (e:=60) (size:=33) (base:=bc.heap.size) bc #[] 0 aH (by unfold maxLen; decide) rfl)
     have hs3:bc.heap.size<=(bc.alloc (.cells #[] 60)).heap.size:=by simp
     have hq0:0+q<=1000000:=by omega
     have hqc:q<=c2:=by omega
     go_wp2_with (first
      | (refine aB (rF _ rfl rfl) ?_)
      | (refine aB (vN kL nO hqc ⟨_,_,rfl,rfl,rfl⟩) ?_)
      | (at_builtin; refine dH rfl _ _ rfl rfl rfl df.out jt.out hq0 hs3 ?_))
     intro v4 w4 h4 hg4 sA;have HR4:Hid (w4.ownsRow bc.heap.size 60 33 v4 q (rowP (S.take q))):=hid (by simpa using h4);have aq:Hid (Below wo.heap.size wo w4):=hid ((fw.out.alloc fw.out.size _).grown hg4 (by simp; omega) (λk hk=>by cases hk; exact hbz));have mN:bc.heap.size<w4.heap.size:=by
      obtain ⟨_,_,_,hz,_⟩:=hg4;simp at hz;omega
     clear h4 hg4 sA df jt hs3 hq0 sR nz;have ik:=hid (fe.below aq.out);have me:=hid (Rg.Own.new w4 (dN x) 60);have sT:Hid (fT (w4.alloc (.cells (dN x) 60)) (some ⟨w4.heap.size,0,none⟩) 1 1 [x]):=hid (Cj bi.out me.out);have fd:=hid (HR4.out.alloc (.cells (dN x) 60));have hq4:q+1<=1000000:=by omega
     have hs4:bc.heap.size<=(w4.alloc (.cells (dN x) 60)).heap.size:=by simp; omega
     go_wp2_with (first
      | (refine aB (dU bi.out ik.out ⟨_,rfl,rfl⟩) ?_)
      | (refine aB (jh bi.out _ rfl ⟨_,rfl,rfl⟩) ?_)
      | (at_builtin; refine dH rfl _ _ rfl rfl rfl fd.out sT.out hq4 hs4 ?_))
     intro v5 w5 h5 hg5 oX;have dt:Hid (w5.ownsRow bc.heap.size 60 33 v5 (q+1) (rowP (S.take q++[x]))):=hid h5;have il:=HR4.out.lt;have ae:Hid (Below wo.heap.size wo w5):=hid ((aq.out.alloc aq.out.size _).grown hg5 (by have:=aq.out.size; simp; omega) (λk hk=>Nat.le_trans hbz (il k hk).1));have si:bc.heap.size<=w5.heap.size:=by
      obtain ⟨_,_,_,hz,_⟩:=hg5;simp at hz;omega
     clear h5 hg5 oX me sT fd hs4 hq4 ik HR4 aq il;have eW:=hid (kj.out.below ae.out);have ri:=hid (fe.below ae.out);go_wp2_with fail
     refine aD (S:=λw'=>Below w5.heap.size w5 w') ((below_drewN aI 1)) λhld=>?_;refine aj 0 ?_;try simp only [Act.put,au]
     refine aj 1 ?_;try simp only [Act.put,au]
     refine aj 2 ?_;try simp only [Act.put,au]
     refine aj 3 ?_ (hy:=by intro wz hSw; (have q0:=VM; go_simp <;> with_reducible rfl));try simp only [Act.put,au]
     refine aj 4 ?_;try simp only [Act.put,au]
     refine Rg.takeL (i:=5) (v:=undef) rfl (by kernel_rfl) (by kernel_rfl) (by kernel_rfl) (λ_ _ _ h=>h) (Or.inr ⟨by rfl,rfl⟩) (by assumption) ?_;try simp only [Act.put,au]
     refine Rg.takeL (i:=6) (v:=undef) rfl (by kernel_rfl) (by kernel_rfl) (by kernel_rfl) (λ_ _ _ h=>h) (Or.inr ⟨by rfl,rfl⟩) (by assumption) ?_;try simp only [Act.put,au]
     refine Rg.takeL (i:=7) (v:=undef) rfl (by kernel_rfl) (by kernel_rfl) (by kernel_rfl) (λ_ _ _ h=>h) (Or.inr ⟨by rfl,rfl⟩) (by assumption) ?_;try simp only [Act.put,au]
     refine Rg.takeL (i:=8) (v:=undef) rfl (by kernel_rfl) (by kernel_rfl) (by kernel_rfl) (λ_ _ _ h=>h) (Or.inr ⟨by rfl,rfl⟩) (by assumption) ?_;try simp only [Act.put,au]
     refine Rg.takeL (i:=9) (v:=undef) rfl (by kernel_rfl) (by kernel_rfl) (by kernel_rfl) (λ_ _ _ h=>h) (Or.inr ⟨by rfl,rfl⟩) (by assumption) ?_;try simp only [Act.put,au]
     refine Rg.takeL (i:=10) (v:=undef) rfl (by kernel_rfl) (by kernel_rfl) (by kernel_rfl) (λ_ _ _ h=>h) (Or.inr ⟨by rfl,rfl⟩) (by assumption) ?_;try simp only [Act.put,au]
     refine Rg.takeL (i:=11) (v:=undef) rfl (by kernel_rfl) (by kernel_rfl) (by kernel_rfl) (λ_ _ _ h=>h) (Or.inr ⟨by rfl,rfl⟩) (by assumption) ?_;try simp only [Act.put,au]
     refine Rg.takeL (i:=12) (v:=undef) rfl (by kernel_rfl) (by kernel_rfl) (by kernel_rfl) (λ_ _ _ h=>h) (Or.inr ⟨by rfl,rfl⟩) (by assumption) ?_;try simp only [Act.put,au]
     refine Rg.takeL (i:=13) (v:=undef) rfl (by kernel_rfl) (by kernel_rfl) (by kernel_rfl) (λ_ _ _ h=>h) (Or.inr ⟨by rfl,rfl⟩) (by assumption) ?_;try simp only [Act.put,au]
     refine Rg.takeL (i:=14) (v:=undef) rfl (by kernel_rfl) (by kernel_rfl) (by kernel_rfl) (λ_ _ _ h=>h) (Or.inr ⟨by rfl,rfl⟩) (by assumption) ?_;try simp only [Act.put,au]
     refine Rg.takeL (i:=15) (v:=undef) rfl (by kernel_rfl) (by kernel_rfl) (by kernel_rfl) (λ_ _ _ h=>h) (Or.inr ⟨by rfl,rfl⟩) (by assumption) ?_;try simp only [Act.put,au]
     refine aj 16 ?_;try simp only [Act.put,au]
     refine aC ?_;have ax:Hid (Below wo.heap.size wo w5.drew):=hid (ae.out.drew);have dr:=hid (iE dt.out (aI.drew));clear hld;have sX:Hid (w5.heap.size<=w5.drew.heap.size):=hid aH;obtain ⟨w6,eS⟩:=aA w5.drew
     rw [eS] at ax dr sX ⊢;clear eS;have dl:=hid (kj.out.below ax.out);have HD6:=hid (dl.out.from' (q) (by omega));have yh:bc.heap.size<=w6.heap.size:=Nat.le_trans si sX.out;have EV:q+1+(q-(q))<=1000000:=by omega
     have hkm:q<=q:=by omega
     have nB:=dr.out.lt;go_wp2_with (first
      | (refine aB (zW kL nO hkm ⟨_,_,rfl,rfl,rfl⟩) ?_)
      | (at_builtin; refine dH rfl _ _ rfl rfl rfl dr.out HD6.out EV yh ?_))
     intro v7 w7 h7 gA F0;have gC:Hid (w7.ownsRow w.heap.size 60 33 v7 (S.take q++[x]++S.drop (q)).length (rowP (S.take q++[x]++S.drop (q)))):=hid (by
      rw [show (S.take q++[x]++S.drop (q)).length=q+1 by simp only [List.length_append,List.length_take,List.length_drop,List.length_singleton,pr.out]; omega,List.append_assoc];exact AL h7 (by have:=HB.out.size; omega))
     have cA:Hid (Below w.heap.size w w7):=hid (HB.out.trans (((ax.out.grown gA (by have:=ax.out.size; omega) (λk hk=>Nat.le_trans hbz (nB k hk).1))).mono HB.out.size));clear h7 gA F0;go_wp2;go_roundw
     case rel=>exact ⟨j+1,by omega,by go_num,hid (by rw [HF.out,uR S x q (by rw [pr.out]; omega) HI.out (λg=>absurd g (by rw [pr.out]; omega)),if_neg (λg=>absurd g.1 (by rw [pr.out]; omega))]; exact gC.out),cA⟩
     case measure=>simp [intOf]; omega
  .obtain rfl:j=n:=by omega
   have HR':Hid (wo.ownsRow w.heap.size 60 33 _ (iQ l).length (rowP (iQ l))):=hid (by
    have e:=HR.out;rwa [List.take_of_length_le (by rw [HL.out]; exact aH)] at e)
   clear HR;go_wp2;go_ret;exact ⟨_,rfl,HR'.out,HB.out⟩
end Tm
end
section
namespace Tr
open Rf Rl Ni No
theorem yu {l:List Pair} (hk:∀ x∈l,x.1.length=32):wN (iQ l):=(Tr.sorted l.length l rfl hk).1
theorem vD {l:List Pair} (h:wN l):Apart l:=h.imp λ{a b} g e=>by
 rw [e,lS] at g;cases g
theorem uV:∀ {l:List Pair},Apart l->∀ z∈l,dD l z.1=some z.2
 | [],_,_,h=>by cases h
 | x::r,h,z,hz=>by
  obtain ⟨h1,h2⟩:=List.pairwise_cons.1 h;unfold dD;rcases List.mem_cons.1 hz with rfl | hz
  .rw [if_pos rfl]
  .rw [if_neg (h1 z hz)];exact uV h2 z hz
end Tr
namespace Tm
open Tr Ni Pk Ky No
end Tm
end
section
open Go.RowKit
namespace Tm
open Tr Ni Pk Ky No Rf Rl da
open Sm (Tab)
namespace A10
variable {w0:World} {M:Mp} {w w':World} {ga gb g3:Nat} {p:aL} {t:T} {A B:aN}
end A10
end Tm
end
section
open Go.RowKit
namespace Tm
open Tr Ni Pk Ky No Rf Rl da
theorem Vt {t:T} {l:List Tr.Pair} (h:Has t (dQ l)) (h1:∀ x∈l,x.1.length=32) (h2:∀ x∈l,x.2.size≠0/\x.2.size<=65552) (hl:l.length<=24):jC t<=200000:=by
 by_cases hn:t = .nil
 .subst hn;show 1<=200000;omega
 .rw [xM t 64 h.good h.full hn,h.built h1 h2];have h3:=xG 64 (kV l) (wQ h1);have h4:(kV l).length<=24:=Nat.le_trans (zG _) hl;have h5:(64+1)*(kV l).length<=65*24:=Nat.mul_le_mul aH h4;omega
end Tm
end
section
open Go.RowKit
namespace Tm
open Tr Ni Pk Ky No Rf Rl
open Sm (Tab)
theorem ET {P:List Tr.Pair} (hk:∀ x∈P,x.1.length=32) (k:aN):dD (iQ P) k=dQ P k:=by
 cases e:dQ P k with
 | some v=>exact uV (vD (yu hk)) (k,v) (((Tr.sorted P.length P rfl hk).2 (k,v)).2 e)
 | none =>
  rw [BU (vD (yu hk)),kI];intro x hx hxk;have:=((Tr.sorted P.length P rfl hk).2 x).1 hx;rw [hxk,e] at this;cases this
theorem vP:prog.underlying 25=some (.slice 9):=underlying25
theorem Oo:prog.underlying 26=some (.slice 9):=underlying26
theorem uY (ty:TypeId) (a:aL) (n c:Nat) (x:Value) (w:World):(Builtin.append_ #[25,26] ty #[.slice a n c,x]).run prog w=(Builtin.append_ #[25,25] ty #[.slice a n c,x]).run prog w:=by
 unfold Builtin.append_;simp [run_underlying vP,run_underlying Oo]
theorem Gh {B:Nat} {w:World} {xs:List Value} (hR:w.ownsRow B 9 1 v n xs) (ty:TypeId) (fa:aL) (fc:Nat):(Builtin.append_ #[25,25] ty #[v,.slice fa 0 fc]).run prog w = .ok v w:=by
 obtain ⟨i0,hi,hz0,hz1,hz2⟩:=gQ;rcases hR.2 with ⟨rfl,rfl⟩ | ⟨g,cap,cur,rfl,_,_,hnc,_⟩
 .cases fa <;> simp [Builtin.append_,run_underlying vP,sizeOf,typeInfo,hi,Builtin.lenOf,Builtin.firstCells,loadCells,loadCellsFrom]
 .cases fa <;> simp [Builtin.append_,run_underlying vP,sizeOf,typeInfo,hi,Builtin.lenOf,Builtin.firstCells,hnc,storeCells,loadCells,loadCellsFrom]
theorem BJ {B fn fc:Nat} {w:World} {xs ys:List aM} (hR:w.ownsRow B 9 1 v xs.length (xs.map Value.string)) (hS:kD w fa fn fc ys) (hn:xs.length+ys.length<=1000000) (hB:B<=w.heap.size) (ty:TypeId) :
  ∃ v' w',(Builtin.append_ #[25,26] ty #[v,.slice fa fn fc]).run prog w = .ok v' w'/\w'.ownsRow B 9 1 v' (xs++ys).length ((xs++ys).map Value.string)/\w.grownBy w' v.ownBlock:=by
 have hl:=hS.len;obtain ⟨va,vn,vc,rfl⟩:∃ a n c,v = .slice a n c:=by
  rcases hR.2 with ⟨rfl,_⟩ | ⟨g,cap,cur,rfl,_⟩ <;> exact ⟨_,_,_,rfl⟩
 by_cases h0:fn=0
 .subst h0;have hy:ys=[]:=List.length_eq_zero_iff.1 hl;subst hy;refine ⟨_,w,(uY _ _ _ _ _ _).trans (Gh hR ty fa fc),?_,⟨rfl,rfl,rfl,aH,λ_ _ _=>rfl⟩⟩;rw [List.append_nil];exact hR
 .obtain ⟨i0,hi,hz0,hz1,hz2⟩:=gQ;obtain ⟨b,off,rfl,_,_⟩:=hS.at' 0 (by omega);obtain ⟨v',w',h1,h2,h3,_,_⟩:=run_append_own_at (P:=prog) w B 25 ty 9 i0 (.string ⟨#[]⟩) 1 16 vP hi hz0 hz1 hz2 rfl (by decide) _ xs.length (xs.map Value.string) hR ⟨b,off,none⟩ fn fc (ys.map Value.string) (by simp [hl]) (λj u hu=>by
   have hj:j<fn:=by have:=(List.getElem?_eq_some_iff.1 hu).1; simpa [hl] using this
   obtain ⟨b',off',e,_,hc⟩:=hS.at' j hj;cases e;rw [Addr.add_mid,hc,<-hu,List.getElem?_map];have hj':j<ys.length:=by omega
   simp [List.getD,hj']) (λu hu=>by
   obtain ⟨y,_,rfl⟩:=List.mem_map.1 hu;rfl) (by unfold maxLen; omega) (by omega) hB
  refine ⟨v',w',(uY _ _ _ _ _ _).trans h1,?_,h3⟩;rw [List.length_append,List.map_append,hl];exact h2
theorem Cq {w:World} (b:Nat) (hb:b=w.heap.size) (ho:o.op = .buildSlice 25 1 #[(0,.const (.string ⟨#[128]⟩))]) (hev:∀ x,ev (.const x)=x) :
  (execOp ev o).run prog w = .ok (.value (.slice (some ⟨b,0,none⟩) 1 1)) (w.alloc (.cells #[.string ⟨#[128]⟩] 9)):=by
 subst hb;unfold execOp;simp only [ho,List.map_toArray,List.map_cons,List.map_nil,hev];kernel_rfl
theorem Vg (w:World) (s:aM):(w.alloc (.cells #[.string s] 9)).ownsRow w.heap.size 9 1 (.slice (some ⟨w.heap.size,0,none⟩) 1 1) [s].length ([s].map Value.string) :=
 ⟨rfl,.inr ⟨w.heap.size,1,#[.string s],rfl,aH,(Rg.Own.new w #[.string s] 9).2,aH,by decide,rfl,rfl⟩⟩
theorem tJ {w w':World} {t tn:TypeId} {s x:Operand} {u v':Value} (ho:o.op = .call { callee:=.builtin .append,args:=#[s,x],argTypes:=#[t,tn] }) (hs:ev s=v) (hx:ev x=u) (hr:(Builtin.append_ #[t,tn] o.type #[v,u]).run prog w = .ok v' w'):(execOp ev o).run prog w = .ok (.value v') w':=by
 unfold execOp;simp only [ho,resolve,invoke,builtin,Sem.run_bind,Sem.run_pure,Result.andThen_ok,List.map_toArray,List.map_cons,List.map_nil,hs,hx,hr]
theorem XJ {P:List Tr.Pair} (ok:EY P) (hlen:P.length<=24):(cu (bW .nil P)).length<=2000:=by
 rw [show bW .nil P=build 64 (kV P) from ok.has.built ok.1 ok.2];have h1:=xG 64 (kV P) (wQ ok.1);have h2:(64+1)*(kV P).length<=65*24:=Nat.mul_le_mul aH (Nat.le_trans (zG _) hlen);omega
theorem SG (l:List Tr.Pair) (a:aL) (n c:Nat) (w:World) (h:fT w a n c l) (hn:n<=1000000) :
  Calls prog 21 #[.slice a n c] w λe w'=>∃ a n c,e = .returned (.slice a n c)/\gV w' a n c (kV l)/\Below w.heap.size w w':=by
 refine (Wq l a n c w h hn).mono ?_;rintro e w' ⟨v,rfl,hr,hb⟩;obtain ⟨a',n',c',rfl,hd⟩:=hr.done;exact ⟨a',n',c',rfl,hd,hb⟩
end Tm
end
section
open Go.RowKit
namespace Rf
open Rl Ni No Sh Sm
def NoC (xs:List aM) (j:Nat):Prop:=∀ p q,p<q->q<j->gG (xs.getD p eB)=gG (xs.getD q eB)->xs.getD p eB=xs.getD q eB
theorem NoC.all {xs:List aM} (h:NoC xs xs.length):∀ x∈xs,∀ y∈xs,gG x=gG y->x=y:=λx hx y hy e=>by
 obtain ⟨p,hp,rfl⟩:=List.getElem_of_mem hx;obtain ⟨q,hq,rfl⟩:=List.getElem_of_mem hy;have ep:xs.getD p eB=xs[p]:=by simp [List.getD,hp]
 have eq:xs.getD q eB=xs[q]:=by simp [List.getD,hq]
 rcases Nat.lt_trichotomy p q with h1 | h1 | h1
 .rw [<-ep,<-eq];exact h p q h1 hq (by rw [ep,eq]; exact e)
 .subst h1; rfl
 .rw [<-ep,<-eq];exact (h q p h1 hp (by rw [ep,eq]; exact e.symm)).symm
theorem Vy {s t:aM} (h:gG s=gG t):tH s=tH t:=by unfold tH; rw [h]
theorem uZ (xs:List aM) (hx:∀ k∈xs,k.size<=900000) (a:aL) (n cap:Nat) (w:World) (h:kD w a n cap xs) (hn:n<=1000000) :
  Calls prog 22 #[.slice a n cap] w λe w'=>∃ b:Bool,e = .returned (.bool b)/\(b=false->NoC xs xs.length)/\Below w.heap.size w w':=by
 have hm:=h.2.1;have hnc:=h.1;have hl:=h.len;unfold maxLen at hm;have H:=hid h;have HL:=hid hl;have HX:=hid hx;clear h hl hx;obtain ⟨i0,hi,hz0,hz1,hz2⟩:=gQ;have HI:Hid (_/\_/\_/\_):=hid ⟨hi,hz0,hz1,hz2⟩;clear hi hz0 hz1 hz2;go_enter func22,ntmps22;go_wp2;go_loopw [3,4] (λv i wr=>∃ j:Nat,j<=n/\i = .int .i64 j/\Hid (wr.ownsRow w.heap.size 9 1 v j (((xs.take j).map tH).map Value.string))/\Hid (Below w.heap.size w wr)/\Hid (NoC xs j)) (λ_ i _=>n-(intOf i).toNat)
 case atStart=>exact ⟨0,Nat.zero_le _,rfl,hid (World.ownsRow_nil _ _ _ _),hid aI,hid (λp q _ h=>absurd h (Nat.not_lt_zero _))⟩
 case round =>
  obtain ⟨j,hj,rfl,HR,HB,pv⟩:=hrel;have hsz:w.heap.size<=wr.heap.size:=HB.out.size;by_cases hlt:j<n
  .obtain ⟨b,off,rfl,hblt,hcj⟩:=H.out.at' j hlt;have hc':=(Below.cell (p:=⟨b,off+j,none⟩) HB.out hblt).trans hcj;have HM:Hid (j<xs.length):=hid (by rw [HL.out]; exact hlt);have de:=hid (MX (xs.getD j eB) (HX.out _ (VG HM.out)) wr);have ww:=hid (NV xs j HM.out);obtain ⟨X,hX⟩:=aA (xs.getD j eB)
   rw [hX] at de hc' ww;have Pi:=hid hX;rw [hX] at hcj;have F1:=hid hcj;obtain ⟨S,hS⟩:=aA (tH X)
   rw [hS] at de ww;have HS:=hid hS;obtain ⟨L,hL⟩:=aA ((xs.take j).map tH)
   rw [hL] at HR ww;clear hX hS hcj hL;go_wp2_with fail
   refine de.out.mono ?_;rintro e w1 ⟨rfl,hb1⟩;have HR1:=hid (GQ HR.out hb1);have HB1:=hid (bst HB.out hb1);have hsz1:w.heap.size<=w1.heap.size:=HB1.out.size;clear hb1 HR HB de hc';go_wp2_with (at_builtin; refine wpList_append_own _ rfl _ _ 25 rfl w.heap.size 9 i0 (.string ⟨#[]⟩) 1 16 underlying25 HI.out.1 HI.out.2.1 HI.out.2.2.1 HI.out.2.2.2 rfl (by decide) _ _ _ rfl (HR1.out.alloc _) ⟨w1.heap.size,0,none⟩ 1 1 [.string S] rfl rfl ?d1 ?d2 ?d3 ?d4 ?d5 ?_)
   case d1=>exact Bu.cell_one_new' _ _ _ _
   case d2=>intro u hu; simp at hu; subst hu; rfl
   case d3=>unfold maxLen; omega
   case d4=>omega
   case d5=>simp; omega
   intro v' w2 hown2 hgrow _;have hlt':=HR1.out.lt;have HB2:=hid ((HB1.out.alloc hsz1 _).grown hgrow (by simp; omega) (λg hg=>(hlt' g hg).1));have hown3:w2.ownsRow w.heap.size 9 1 v' (j+1) (((xs.take (j+1)).map tH).map Value.string):=by rw [ww.out,List.map_append]; exact hown2
   obtain ⟨a2,c2,rfl,hs2⟩:=kD.ny hown3;have HR2:=hid hown3;have HS2:=hid hs2;have hsc:=hs2.1;have hsm:=hs2.2.1;unfold maxLen at hsm;clear hown2 hown3 hgrow hlt' hs2 HR1 HB1 ww;have hB2:=HB2.out;obtain ⟨b2,off2,rfl,sY,Pp⟩:=HS2.out.at' j (by omega);rw [MI xs (j+1) j HM.out (by omega),Pi.out,HS.out] at Pp;have VS:=hid Pp;have VV:Hid (w2.cell? ⟨b,off+j,none⟩=some (.string X)):=hid ((Below.cell (p:=⟨b,off+j,none⟩) hB2 hblt).trans F1.out);clear Pp hB2;go_wp2_with fail
   go_loopw [5] (λi wq=>∃ k:Nat,k<=j/\i = .int .i64 k/\Hid (Below w2.heap.size w2 wq)/\Hid (∀ p,p<k->gG (xs.getD p eB)=gG (xs.getD j eB)->xs.getD p eB=xs.getD j eB)) (λi _=>j-(intOf i).toNat)
   case atStart=>exact ⟨0,Nat.zero_le _,rfl,hid aI,hid (λp h=>absurd h (Nat.not_lt_zero _))⟩
   case round =>
    obtain ⟨k,hk,rfl,jx,W6⟩:=hrel;by_cases hkj:k<j
    .obtain ⟨b',off',Hd,_,hck⟩:=H.out.at' k (by omega);obtain ⟨rfl,rfl⟩:b=b'/\off=off':=by simpa using Hd
     obtain ⟨b',off',F2,_,hcs⟩:=HS2.out.at' k (by omega);obtain ⟨rfl,rfl⟩:b2=b'/\off2=off':=by simpa using F2
     rw [MI xs (j+1) k HM.out (by omega)] at hcs;have f1:=(Below.cell (p:=⟨b2,off2+k,none⟩) jx.out sY).trans hcs;have f2:=(Below.cell (p:=⟨b2,off2+j,none⟩) jx.out sY).trans VS.out;have f3:=((Below.cell (p:=⟨b,off+k,none⟩) jx.out (aJ hblt HB2.out.size)).trans (Below.cell (p:=⟨b,off+k,none⟩) HB2.out hblt)).trans hck;have f4:=(Below.cell (p:=⟨b,off+j,none⟩) jx.out (aJ hblt HB2.out.size)).trans VV.out;obtain ⟨Xk,Pr⟩:=aA (xs.getD k eB)
     rw [Pr] at f1 f3;obtain ⟨Sk,Ps⟩:=aA (tH Xk)
     rw [Ps] at f1;have W7:=hid Pr;have EQ:=hid Ps;clear Hd F2 hck hcs Pr Ps;have F3:Hid ((Sk=S->Xk=X)->∀ p,p<k+1->gG (xs.getD p eB)=gG (xs.getD j eB)->xs.getD p eB=xs.getD j eB):=hid (λhh p hp e=>by
      by_cases hpk:p=k
      .subst hpk;rw [W7.out,Pi.out];rw [W7.out,Pi.out] at e;exact hh (by rw [<-EQ.out,<-HS.out]; exact Vy e)
      .exact W6.out p (by omega) e)
     by_cases hq:Sk=S
     .by_cases hx2:Xk=X
      .have Pu:=hid (F3.out λ_=>hx2);subst hq hx2;clear F3;go_wp2;go_quiet (fail)
       go_wp2;go_roundw
       case rel=>exact ⟨k+1,by omega,by go_num,hid (below_drewN jx.out _),Pu⟩
       case measure=>simp [intOf]; omega
      .have hs:(Xk.toList != X.toList)=true:=by
        show (!(Xk.toList==X.toList))=true;rw [str_eq,decide_eq_false hx2];rfl
       have hs2:(Xk.toList==X.toList)=false:=by rw [str_eq,decide_eq_false hx2]
       subst hq;have cI:Hid (Below w.heap.size w wr):=hid (HB2.out.trans (jx.out.mono HB2.out.size));clear F3 hx2;go_wp2;go_quiet (fail)
       go_wp2;go_ret;exact ⟨true,rfl,λe=>(by cases e),below_drewN cI.out _⟩
     .have hs:(Sk.toList==S.toList)=false:=by rw [str_eq,decide_eq_false hq]
      have Pu:=hid (F3.out λe=>absurd e hq);clear hq F3;go_wp2;go_quiet (fail)
      go_wp2;go_roundw
      case rel=>exact ⟨k+1,by omega,by go_num,hid (below_drewN jx.out _),Pu⟩
      case measure=>simp [intOf]; omega
    .obtain rfl:k=j:=by omega
     have HRq:=hid (GQ HR2.out jx.out);have cI:Hid (Below w.heap.size w wr):=hid (HB2.out.trans (jx.out.mono HB2.out.size));have HNn:Hid (NoC xs (k+1)):=hid (λp q hpq hq e=>by
      by_cases hqk:q=k
      .subst hqk;exact W6.out p hpq e
      .exact pv.out p q hpq (by omega) e)
     clear VS VV F1;go_wp2;go_roundw
     case rel=>exact ⟨k+1,by omega,by go_num,HRq,cI,HNn⟩
     case measure=>simp [intOf]; omega
  .obtain rfl:j=n:=by omega
   go_wp2;go_ret;exact ⟨false,rfl,λ_=>by rw [HL.out]; exact pv.out,HB.out⟩
end Rf
end
section
open Go.RowKit Go.ChangeShapes Go.WideShapes
def KP (w:World) (a:aL) (len cap:Nat) (xs:List aM):Prop :=
 len<=cap/\cap<=maxLen/\xs.length=len/\∀ j,j<len->∃ b off,a=some ⟨b,off,none⟩/\b<w.heap.size/\w.cell? ⟨b,off+j,none⟩=some (.string (xs.getD j ByteArray.empty))/\(xs.getD j ByteArray.empty).size<=maxLen
theorem lt_of_cell {w:World} {p:Addr} (h:w.cell? p=some v):p.block<w.heap.size:=by
 rcases Nat.lt_or_ge p.block w.heap.size with h' | h'
 .exact h'
 .simp [World.cell?,Array.getElem?_eq_none h'] at h
theorem NT {H:Type} {enc:TypeId × Value->H} {w:World} {t e:TypeId} {len:Nat} {d:DataW H} {p:List MemPlace}
  (ht:P.underlying t=some (.slice e)) (he:P.underlying e=some .string) (hc:P.cellsOf e=1)
  (h:DataW.Trod enc P w 0 (λ_=>true) true t (.slice a len cap) d p):∃ xs,KP w a len cap xs:=by
 obtain ⟨fuel,hf⟩:=h;rcases open_strings ht he hc hf with ⟨hcs,_⟩ | ⟨x,l,c,ss,hcs,_,hl,hm,hz,_,hcell,hws⟩
 .simp [Value.cells] at hcs;obtain ⟨rfl,rfl,rfl⟩:=hcs;exact ⟨[],aH,Nat.zero_le _,rfl,λj hj=>absurd hj (Nat.not_lt_zero _)⟩
 .simp [Value.cells] at hcs;obtain ⟨rfl,rfl,rfl⟩:=hcs;have hz':ss.length=cap:=by simpa using hz
  refine ⟨ss.take len,hl,hm,by rw [List.length_take]; omega,λj hj=>?_⟩;have hcj:=hcell j (by omega);obtain ⟨b,off,spot⟩:=x;have hspot:spot=none:=by simpa [Addr.add] using World.cell?_spot (hcell 0 (by omega))
  subst hspot;have e1:(ss.take len).getD j ByteArray.empty=ss.getD j ByteArray.empty:=by
   simp [List.getD,List.getElem?_take_of_lt hj]
  have e2:(⟨b,off,none⟩:Addr).add j=⟨b,off+j,none⟩:=by unfold Addr.add; split <;> simp_all
  rw [e2] at hcj;refine ⟨b,off,rfl,lt_of_cell hcj,by rw [e1]; exact hcj,?_⟩;rw [e1];have hj':j<ss.length:=by omega
  have e3:ss.getD j ByteArray.empty=ss[j]:=by simp [List.getD,hj']
  rw [e3];exact hws _ (List.getElem_mem _)
end
section
open Go.RowKit
namespace Tm
open Tr Ni Pk Ky No Rf Rl
open Sm (Tab)
theorem Np {w:World} {xs:List aM} (h:KP w a n cap xs):kD w a n cap xs/\∀ s∈xs,s.size<=maxLen:=by
 obtain ⟨h1,h2,h3,h4⟩:=h;refine ⟨⟨h1,h2,h3,λj hj=>?_⟩,λs hs=>?_⟩
 .obtain ⟨b,off,e1,e2,e3,_⟩:=h4 j hj;exact ⟨b,off,e1,e2,e3⟩
 .obtain ⟨j,hj,rfl⟩:=List.getElem_of_mem hs;obtain ⟨_,_,_,_,_,e4⟩:=h4 j (by omega);simpa [List.getD,hj] using e4
theorem XO (s:qN):∃ v i e,Oz s = .tuple #[.string v,.bool i,.int .i64 e]/\((s.1=none/\v=eB/\i=false/\e=9)\/(e=0/\∃ a,s.1=some a/\QS a = .tuple #[.string v,.bool i])):=by
 match s with
 | (none,u)=>exact ⟨_,_,_,rfl,.inl ⟨rfl,rfl,rfl,rfl⟩⟩
 | (some none,u)=>exact ⟨_,_,_,rfl,.inr ⟨rfl,none,rfl,rfl⟩⟩
 | (some (some v),u)=>exact ⟨_,_,_,rfl,.inr ⟨rfl,some v,rfl,rfl⟩⟩
theorem RI {v w:aM} {i j:Bool} (h:(Value.tuple #[.string v,.bool i]) = .tuple #[.string w,.bool j]):v=w/\i=j:=by
 injection h with h1;have h2:=congrArg (λx:aO=>x[0]?) h1;have h3:=congrArg (λx:aO=>x[1]?) h1;simp at h2 h3;exact ⟨h2,h3⟩
theorem KI (a:Option aM):∃ v i,QS a = .tuple #[.string v,.bool i]:=by
 cases a with
 | none=>exact ⟨_,_,rfl⟩
 | some v=>exact ⟨_,_,rfl⟩
theorem Lc (l:List Tr.Pair) (la:aL) (ln lc:Nat) (F:aN) (xs:List aM) (fa:aL) (fn fc:Nat) (w:World) (h:fT w la ln lc l) (hF:F.length=32) (hS0:KP w fa fn fc xs) (hT:Tab w) :
  Calls prog 5 #[.slice la ln lc,.agg (kc F),.slice fa fn fc] w λe w'=>e = .returned (.bool true)/\Below w.heap.size w w':=by
 obtain ⟨hS,hmx⟩:=Np hS0;obtain ⟨w1,hw1⟩:=ay (w.alloc (.cells (kc F) 24))
 have hb1:Below w.heap.size w w1:=by rw [hw1]; exact al1 _ _
 have hA:Rg.Own w1 w.heap.size (kc F) 24:=by rw [hw1]; exact Rg.Own.new _ _ _
 have j3:=hid ((Lw.start hT).below hb1);have HA1:=hid hA;have nF:=hid (NM xs fa fn fc w1 (hS.below hb1) hmx);have PA:=hid GY;have HS:=hid hS;have W9:=hid (h.below hb1);have HW:Hid (_=_):=hid hw1;obtain ⟨CF,wA⟩:=aA (kc F)
 have HCF:=hid wA;clear hA hb1 hT hw1 hS0;cases cS:CB xs with
 | false =>
  rw [cS] at nF;rw [wA];rw [wA] at HW;clear wA h hF;go_enter func5,ntmps5;go_wp2_with fail
  rw [<-HW.out];refine nF.out.mono ?_;rintro e w2 ⟨rfl,hb2⟩;have HL2:=hid (j3.out.below hb2);clear hb2 j3 HW;go_wp2_with fail
  refine (PA.out w2 HL2.out.t).mono ?_;rintro e w3 ⟨rfl,hb3⟩;have df:=hid (HL2.out.below hb3);go_wp2;go_ret;exact ⟨rfl,df.out.b⟩
 | true =>
  rw [cS] at nF;obtain ⟨hx7,F4⟩:=TN cS;have hxs:∀ s∈xs,s.size<=900000:=λs hs=>Nat.le_trans (hx7 s hs) (by decide);have hfn:fn<=80:=by rw [<-hS.len]; exact F4
  have HP:=hid (λW (hp:fT W la ln lc l)=>wU l la ln lc W hp);have hok:EY (fA l):=Jg h.keys;have hlen:=Ey l;have xT:=hid hF;obtain ⟨P,hP⟩:=aA (fA l)
  rw [hP] at HP hok hlen;have j1:=hid hok;have hhas:=hok.has;have hcnt:jC (bW .nil P)<=200000:=Vt hhas hok.1 hok.2 hlen;have xb:Whl (bW .nil P):=⟨hhas.fine,hhas.full,64,aH,hhas.good⟩
  have g9:Hid (∀ M W p,Inv M W->IsT M p (bW .nil P)->Tab W->Calls prog 17 #[tv p] W (OJ M W (.agg (Sm.kc (eG (bP (bW .nil P))))))):=hid (λM W p hi ht h=>LY M p _ xb W hi ht h);have hget:dD (iQ P) F=dQ P F:=ET hok.1 F;have hgt:Tr.get (bW .nil P) (bG F)=some (dQ P F):=hhas.get F hF;have hrl:=jE (bP (bW .nil P));have dq:∀ a n,NoC (⟨#[128]⟩::cu (bW .nil P)++xs) (⟨#[128]⟩::cu (bW .nil P)++xs).length->mY xs (eG (bP (bW .nil P))) (bG F)=(some a,n)->a=dQ P F:=λa n hc hk=>by
   have:=NA hhas.good hhas.full hhas.fine (fM F hF) (BO F) (NoC.all hc) hk;rw [hgt] at this;exact (Option.some.inj this).symm
  have o6:=XJ hok hlen;have kq:=xb.few;have Wa:=hhas.built hok.1 hok.2;have pv:Hid (∀ W a n c,gV W a n c (kV P)->n<=1000->Calls prog 20 #[.slice a n c] W (TW W (cu (bW .nil P)))):=hid (λW a n c hI hn=>by
   have:=Ld 64 aH _ (wQ hok.1) (IU hok.2) a n c W hI hn;rw [<-Wa] at this;exact this)
  have iz:Hid (∀ W a n c,fT W a n c P->n<=1000000->Calls prog 21 #[.slice a n c] W λe w'=>∃ a n c,e = .returned (.slice a n c)/\gV w' a n c (kV P)/\Below W.heap.size W w'):=hid (λW a n c h hn=>SG P a n c W h hn);have hil:(kV P).length<=24:=Nat.le_trans (zG P) hlen;have Wb:Hid (∀ W a n c,fT W a n c P->n<=1000->Calls prog 19 #[.slice a n c] W (Ua W (iQ P))):=hid (λW a n c h hn=>(NI P a n c W h hn).mono λ_ _ g=>g.ps λx hx=>by
   have h1:=((Tr.sorted P.length P rfl hok.1).2 x).1 hx;exact Classical.byContradiction λhne=>by
    rw [kI.2 (λy hy e=>hne (by rw [<-e]; exact hok.1 y hy))] at h1;cases h1)
  obtain ⟨vf,jf,Wc⟩:=KI (dQ P F);have gm:Hid (∀ W a n c,fT W a n c (iQ P)->n<=1000000->Calls prog 18 #[.slice a n c,.agg (kc F)] W λe w'=>e = .returned (.tuple #[.string vf,.bool jf])/\Below W.heap.size W w'):=hid (λW a n c h hn=>by
   have:=OV (iQ P) a n c F hF W h hn;rw [hget,Wc] at this;exact this)
  have hsl:(iQ P).length<=24:=by have:=AQ P P.length; rw [List.take_length] at this; omega
  obtain ⟨r9,se⟩:=aA (eG (bP (bW .nil P)))
  rw [se] at g9 dq hrl;have kt:Hid (∀ W a n c,kD W a n c xs->Tab W->Calls prog 8 #[.agg (Sm.kc r9),.agg (kc F),.slice a n c] W λe w'=>e = .returned (Oz (mY xs r9 (bG F)))/\Below W.heap.size W w'):=hid (λW a n c h t=>BH xs r9 F a n c W hrl hF h hxs (by have:=h.len; omega) t);obtain ⟨S,hSS⟩:=aA (mY xs r9 (bG F))
  rw [hSS] at kt dq;obtain ⟨t,ht⟩:=aA (bW .nil P)
  have HTt:=hid ht;rw [ht] at g9 pv dq o6 kq;obtain ⟨XN,We⟩:=aA (cu t)
  rw [We] at pv dq o6 kq;obtain ⟨SP,hSP⟩:=aA (iQ P)
  rw [hSP] at Wb gm hsl;obtain ⟨I,hI⟩:=aA (kV P)
  rw [hI] at iz pv hil;have o7:=hid dq;have t9:Hid (∀ s∈⟨#[128]⟩::XN++xs,s.size<=900000):=hid (λs hs=>by
   rcases List.mem_append.1 hs with hs | hs
   .rcases List.mem_cons.1 hs with rfl | hs
    .decide
    .exact kq s hs
   .exact hxs s hs)
  have fx:Hid ((⟨#[128]⟩::XN:List aM).length+xs.length<=1000000):=hid (by rw [List.length_cons]; omega);have ta:=hid hil;rw [wA];rw [wA] at HW;clear cS hx7 F4 hok hhas hcnt xb hget hgt hrl dq o6 kq Wa se hSS ht We hSP hI hP wA hxs hmx h hF hS hil;go_enter func5,ntmps5;go_wp2_with fail
  rw [<-HW.out];refine nF.out.mono ?_;rintro e w2 ⟨rfl,hb2⟩;have HL2:=hid (j3.out.below hb2);have HA2:=hid (HA1.out.below hb2);have F5:=hid (W9.out.below hb2);clear hb2 j3 HW nF HA1 W9;go_wp2_with fail
  refine (HP.out w2 F5.out).mono ?_;rintro e w3 ⟨pa,pn,pc,rfl,hps,hb3⟩;have hpn:pn<=24:=by rw [<-hps.len]; exact hlen
  have df:=hid (HL2.out.below hb3);have pd:=hid hps;have pi:=hid (HA2.out.below hb3);clear hps hb3 HL2 HA2 HP F5;go_wp2_with fail
  refine (FK M0 pa pn pc P j1.out w3 df.out.i pd.out (by omega)).mono ?_;intro e w4 hG;obtain ⟨p4,M4,rfl,s6,hL4,pH,hb4⟩:=df.out.got hG;rw [HTt.out] at s6;have yp:=hid (pi.out.below hb4);have G8:=hid (pd.out.below hb4);have uC:=hid hL4;have lE:=hid s6;have HN:=hid (Rg.Own.new w4 #[.pointer none] 46);have j7:=hid (hL4.i.free aH);have mN:=hL4.b.size;clear hG s6 hL4 pH hb4 df pd pi;go_wp2_with (first
   | (refine aB (bA _ _ _ w4.heap.size rfl rfl) ?_)
   | (refine bL HN.out (by decide) p4 rfl _ _ rfl rfl rfl ?_; intro w5 bo bd; have ae:=hid (bd.below (al1 w4 (.cells #[.pointer none] 46)) aH); have kp:Hid (A14 w M4 w5 w.heap.size w.heap.size w4.heap.size p4 t F F):=hid ⟨(uC.out.below (al1 _ _)).upd bd mN j7.out,yp.out.below ae.out,yp.out.below ae.out,xT.out,xT.out,⟨bo,j7.out,jv p4⟩,lE.out⟩; have eW:=hid (G8.out.below ae.out); clear bo bd))
  obtain ⟨g5,hg5⟩:=aA w4.heap.size
  rw [hg5] at kp;rw [hg5];clear HN uC lE j7 mN hg5 ae G8 yp;have HA:=kp;have j8:=eW;clear kp eW;obtain ⟨v,i,er,ld,hcs⟩:=XO S;rw [ld] at kt;have PB:=kt;clear ld kt;go_wp2_with fail
  replace HA:=hid (HA.out.below (aI.drew));replace j8:=hid (j8.out.below (aI.drew));refine aD (S:=λw'=>Rg.Own w' w.heap.size (kc F) 24/\w'.cell? ⟨g5,0,none⟩=some (.pointer p4)) (⟨HA.out.s.1,HA.out.s.2.2⟩) λhld=>?_;refine aj 0 ?_ (hy:=by intro wz hSw; (refine aW hSw.2 ?_; exact ⟨_,rfl,rfl⟩));try simp only [Act.put,au]
  refine aj 2 ?_ (hy:=by intro wz hSw; (refine bJ xT.out hSw.1.2 ?_; exact ⟨_,rfl,rfl⟩));try simp only [Act.put,au]
  refine aj 3 ?_;try simp only [Act.put,au]
  refine ak 1 λK hK=>?_;go_simp;go_at_call 17
  (with_reducible refine (g9.out M4 _ p4 HA.out.l.i HA.out.hT HA.out.l.t).mono ?_)
  intro e y1 hG;obtain ⟨rfl,hA,f⟩:=HA.out.say hG;replace j8:=hid (fT.frm j8.out HA.out.l.i f);replace HA:=hid hA;clear hG hA f;refine hK.out _ _ (⟨HA.out.s.1,HA.out.s.2.2⟩) λhld=>?_;clear hK K;try simp only [Act.put,au]
  refine ak 4 λK hK=>?_;go_simp;go_at_call 8
  (with_reducible refine (PB.out _ fa fn fc (HS.out.below HA.out.l.b) HA.out.l.t).mono ?_)
  rintro e y2 ⟨rfl,hb⟩;replace HA:=hid (HA.out.below hb);replace j8:=hid (j8.out.below hb);clear hb;refine hK.out _ _ (⟨HA.out.s.1,HA.out.s.2.2⟩) λhld=>?_;clear hK K;try simp only [Act.put,au]
  refine aj 5 ?_;try simp only [Act.put,au]
  refine aj 6 ?_;try simp only [Act.put,au]
  refine aj 7 ?_;try simp only [Act.put,au]
  refine aj 8 ?_;try simp only [Act.put,au]
  refine aj 9 ?_;try simp only [Act.put,au]
  refine aj 10 ?_;try simp only [Act.put,au]
  refine aj 11 ?_;try simp only [Act.put,au]
  refine aC ?_;clear hld;go_wp2_with fail
  replace HA:=hid (HA.out.below (aI.drew));replace j8:=hid (j8.out.below (aI.drew));refine aD (S:=λw'=>Rg.Own w' w.heap.size (kc F) 24/\w'.cell? ⟨g5,0,none⟩=some (.pointer p4)) (⟨HA.out.s.1,HA.out.s.2.2⟩) λhld=>?_;refine aj 0 ?_;try simp only [Act.put,au]
  refine aj 2 ?_ (hy:=by intro wz hSw; (refine bJ xT.out hSw.1.2 ?_; exact ⟨_,rfl,rfl⟩));try simp only [Act.put,au]
  refine ak 1 λK hK=>?_;go_simp;go_at_call 19
  (with_reducible refine (Wb.out _ pa pn pc j8.out (by omega)).mono ?_)
  rintro e y3 ⟨sa,sn,sc,rfl,hso,hb⟩;replace HA:=hid (HA.out.below hb);replace j8:=hid (j8.out.below hb);have F6:=hid hso;have hsn:sn<=24:=by rw [<-hso.len]; exact hsl
  clear hso;clear hb;refine hK.out _ _ (⟨HA.out.s.1,HA.out.s.2.2⟩) λhld=>?_;clear hK K;try simp only [Act.put,au]
  refine ak 3 λK hK=>?_;go_simp;go_at_call 18
  (with_reducible refine (gm.out _ sa sn sc F6.out (by omega)).mono ?_)
  rintro e y4 ⟨rfl,hb⟩;replace HA:=hid (HA.out.below hb);replace j8:=hid (j8.out.below hb);clear hb;refine hK.out _ _ (⟨HA.out.s.1,HA.out.s.2.2⟩) λhld=>?_;clear hK K;try simp only [Act.put,au]
  refine aj 4 ?_;try simp only [Act.put,au]
  refine aj 5 ?_;try simp only [Act.put,au]
  refine aj 6 ?_;try simp only [Act.put,au]
  refine aj 7 ?_;try simp only [Act.put,au]
  refine aj 8 ?_;try simp only [Act.put,au]
  refine aC ?_;clear hld;rcases hcs with ⟨_,rfl,rfl,rfl⟩ | ⟨rfl,a,ha,hV0⟩
  .go_wp2_with fail
   refine (PA.out _ HA.out.l.t).mono ?_;rintro e w20 ⟨rfl,o8⟩;have xd:=hid (HA.out.l.below o8);clear o8;go_wp2;go_ret;exact ⟨rfl,xd.out.b⟩
  by_cases hsame:v=vf/\i=jf
  .obtain ⟨rfl,rfl⟩:=hsame;go_wp2_with fail
   refine (PA.out _ HA.out.l.t).mono ?_;rintro e w20 ⟨rfl,o8⟩;have xd:=hid (HA.out.l.below o8);clear o8;go_wp2;go_ret;exact ⟨rfl,xd.out.b⟩
  have Hv:Hid (¬ NoC (⟨#[128]⟩::XN++xs) (⟨#[128]⟩::XN++xs).length):=hid (λhc=>by
   have e:=o7.out a S.2 hc (by rw [<-ha]);rw [e,Wc] at hV0;obtain ⟨h1,h2⟩:=RI hV0;exact hsame ⟨h1.symm,h2.symm⟩)
  have cP:=hid (Vg y4 ⟨#[128]⟩);have I0:=hid (HA.out.below (al1 y4 (.cells #[.string ⟨#[128]⟩] 9)));have I1:=hid (j8.out.below (al1 y4 (.cells #[.string ⟨#[128]⟩] 9)));have I2:w.heap.size<=y4.heap.size:=HA.out.l.b.size;clear HA j8 hV0 ha o7 F6;by_cases hv:v=vf
  .subst hv;have hij:(i==jf)=false:=beq_eq_false_iff_ne.2 (λe=>hsame ⟨rfl,e⟩);clear hsame;go_wp2_with (first
    | (refine aB (Cq y4.heap.size rfl rfl (λ_=>rfl)) ?_))
   refine (iz.out _ pa pn pc I1.out (by omega)).mono ?_;rintro e eN ⟨ia,in_,ic,rfl,hI,eC⟩;have hin:in_<=24:=by rw [<-hI.len]; exact ta.out
   have HI:=hid hI;have o9:=hid (I0.out.below eC);have oa:=hid (iE cP.out eC);clear hI eC I0 I1 cP;go_wp2_with fail
   refine (pv.out eN ia in_ ic HI.out (by omega)).mono ?_;rintro e qS ⟨v12,rfl,oc,eA⟩;have j9:=hid (iE oa.out eA);have xe:=hid oc;have od:=hid (o9.out.below eA).l.b;have oe:y4.heap.size<=qS.heap.size:=by
    have:=(j9.out.lt y4.heap.size rfl).2;omega
   have hlo:=fx.out;rw [List.length_cons] at hlo;clear oc eA o9 oa HI pv;go_wp2_with (at_builtin; refine jw rfl _ _ rfl rfl rfl j9.out xe.out (by rw [List.length_singleton]; omega) oe ?_)
   intro v13 pg ja jb _;have cr:=hid (od.out.grown jb od.out.size (λg hg=>Nat.le_trans I2 (j9.out.lt g hg).1));obtain ⟨v14,F7,hrun,oj,ol⟩:=BJ ja (HS.out.below cr.out) fx.out (Nat.le_trans oe jb.size) 25;have nd:=hid (cr.out.grown ol cr.out.size (λg hg=>Nat.le_trans I2 (ja.lt g hg).1));obtain ⟨PC,c14,rfl,hst⟩:=kD.ny oj;have F8:=hid (uZ _ t9.out PC _ c14 F7 hst (by rw [List.length_append]; exact fx.out));have ot:=hid hrun;obtain ⟨na,hna⟩:=aA ((⟨#[128]⟩::XN++xs:List aM).length)
   rw [hna] at F8 ot Hv;clear hna ja jb oj ol hst cr hrun;go_wp2_with (first
    | (at_builtin; refine Rg.runW ?hw _ _ (tJ rfl rfl rfl ot.out) ?_; case hw=>rfl))
   refine F8.out.mono ?_;rintro e w15 ⟨b,rfl,hb,ov⟩;have xf:=hid (bst nd.out ov);cases b with
   | false=>exact absurd (hb rfl) Hv.out
   | true =>
    clear hb ov;go_wp2;go_ret;exact ⟨rfl,xf.out⟩
  .have hne:=EJ hv;clear hsame hv;go_wp2_with (first
    | (refine aB (Cq y4.heap.size rfl rfl (λ_=>rfl)) ?_))
   refine (iz.out _ pa pn pc I1.out (by omega)).mono ?_;rintro e eN ⟨ia,in_,ic,rfl,hI,eC⟩;have hin:in_<=24:=by rw [<-hI.len]; exact ta.out
   have HI:=hid hI;have o9:=hid (I0.out.below eC);have oa:=hid (iE cP.out eC);clear hI eC I0 I1 cP;go_wp2_with fail
   refine (pv.out eN ia in_ ic HI.out (by omega)).mono ?_;rintro e qS ⟨v12,rfl,oc,eA⟩;have j9:=hid (iE oa.out eA);have xe:=hid oc;have od:=hid (o9.out.below eA).l.b;have oe:y4.heap.size<=qS.heap.size:=by
    have:=(j9.out.lt y4.heap.size rfl).2;omega
   have hlo:=fx.out;rw [List.length_cons] at hlo;clear oc eA o9 oa HI pv;go_wp2_with (at_builtin; refine jw rfl _ _ rfl rfl rfl j9.out xe.out (by rw [List.length_singleton]; omega) oe ?_)
   intro v13 pg ja jb _;have cr:=hid (od.out.grown jb od.out.size (λg hg=>Nat.le_trans I2 (j9.out.lt g hg).1));obtain ⟨v14,F7,hrun,oj,ol⟩:=BJ ja (HS.out.below cr.out) fx.out (Nat.le_trans oe jb.size) 25;have nd:=hid (cr.out.grown ol cr.out.size (λg hg=>Nat.le_trans I2 (ja.lt g hg).1));obtain ⟨PC,c14,rfl,hst⟩:=kD.ny oj;have F8:=hid (uZ _ t9.out PC _ c14 F7 hst (by rw [List.length_append]; exact fx.out));have ot:=hid hrun;obtain ⟨na,hna⟩:=aA ((⟨#[128]⟩::XN++xs:List aM).length)
   rw [hna] at F8 ot Hv;clear hna ja jb oj ol hst cr hrun;go_wp2_with (first
    | (at_builtin; refine Rg.runW ?hw _ _ (tJ rfl rfl rfl ot.out) ?_; case hw=>rfl))
   refine F8.out.mono ?_;rintro e w15 ⟨b,rfl,hb,ov⟩;have xf:=hid (bst nd.out ov);cases b with
   | false=>exact absurd (hb rfl) Hv.out
   | true =>
    clear hb ov;go_wp2;go_ret;exact ⟨rfl,xf.out⟩
end Tm
end
section
open Go.ChangeShapes Go.WideShapes Go.ChangeAt Go.WideMaps Go.WideElems Go.RowKit
namespace Sm
open Sh
theorem Wx : prog.globalNamed "dormouse/sum.rounds" = some 0 := by kernel_rfl
theorem Ve:(prog.globals[0]?).map (·.type)=some 211:=by kernel_rfl
theorem Vh {H:Type}:(Rows.laid_dormouse_sum_rounds:DataW H) = .agg ((List.range 64).map λi=>.lit (.int .u32 (kN i:Nat))):=rfl
theorem Po:prog.cellsOf 140=1:=by kernel_rfl
theorem yF (h : laidMetH prog [("dormouse/sum.rounds", Rows.laid_dormouse_sum_rounds)] W) : Tab W := by
 rw [MakeChecks.laidMetH_plain _ _ _ (by kernel_rfl)] at h;obtain ⟨ps,⟨g0,t0,cs0,f0,p0,q0,hg0,ht0,hv0,hd0,_⟩,_,_⟩:=h;obtain rfl:=Option.some.inj (Wx.symm.trans hg0);obtain rfl:=Option.some.inj (Ve.symm.trans ht0);obtain ⟨xs,m1,rfl,hx1,hlen,jj,hel⟩:=DataW.trod_array underlying211 hd0;rw [Vh] at hx1;simp only [Prod.mk.injEq,DataW.agg.injEq] at hx1;intro i hi;have h1:=hel i hi;rw [Po,Nat.mul_one] at h1;have hi2:i<xs.length:=by omega
 rw [List.getElem?_eq_getElem hi2] at h1;obtain ⟨n,e1,e2,_⟩:=DataW.trod_int underlying140 h1;have e3:=congrArg (λl=>l[i]?) hx1.1;simp only [List.getElem?_map,List.getElem?_eq_getElem hi2,List.getElem?_range hi,Option.map_some,e2] at e3;have e4:n=(kN i:Nat):=by
  have:=Option.some.inj e3;simpa using this.symm
 subst e4;rw [World.var?_cell hg0 hv0 i];obtain ⟨l⟩:=cs0;have e5:=congrArg (λl=>l[0]?) e1;simp only [List.getElem?_take,List.getElem?_drop,Nat.add_zero] at e5;simpa using e5
end Sm
end
section
open Go.RowKit Go.ChangeShapes Go.WideShapes
namespace Sm
open Sh
end Sm
end
end Go.Proofs.YtokaiemgjngcoaaGreatDoor
