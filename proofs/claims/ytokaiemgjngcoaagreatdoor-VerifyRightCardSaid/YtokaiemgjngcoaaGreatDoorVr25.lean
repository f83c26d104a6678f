/-
 The contract of the plain answer's Sort of pairs.
-/
import Derived.Test.YtokaiemgjngcoaaGreatDoorVr24
import Derived.LaidMore
import Derived.ShutString
import Derived.Stop.Joined
open Go.Lib (hid)
open Go.Proofs.Tryz
set_option linter.unusedSimpArgs false
set_option linter.unusedVariables false
set_option maxHeartbeats 40000000
set_option maxRecDepth 100000
namespace Go.Proofs.YtokaiemgjngcoaaGreatDoor
variable {W:World}
section
open Go.RowKit
namespace Tm
open Tr Ni Pk Ky
theorem yL {w:World} {b:Nat} {x:Tr.Pair} {t:TypeId} (hk:x.1.length=32) (h:Rg.Own w b (dD x) t):fA w (some ⟨b,0,none⟩) 1 1 [x] :=
 ⟨aH,by unfold maxLen; decide,rfl,λe=>(by cases e),λy hy=>by rw [List.mem_singleton.1 hy]; exact hk,λj hj=>by
  obtain rfl:j=0:=by omega
  exact ⟨b,0,rfl,h.1,cB.own h⟩⟩
theorem MI {S:List Tr.Pair} {x:Tr.Pair} {q:Nat} (h:∀ y∈S.take q,ltP y.1 x.1=true) (hq:q<S.length) (hl:ltP (S.getD q ([],eB)).1 x.1=true):∀ y∈S.take (q+1),ltP y.1 x.1=true:=λy hy=>by
 rw [take_at hq,List.mem_append] at hy;rcases hy with hy | hy
 .exact h y hy
 .rw [List.mem_singleton.1 hy]; exact hl
theorem Mq (l:List Tr.Pair) (a:aL) (n c:Nat) (w:World) (h:fA w a n c l) (hn:n<=1000) :
  Calls prog 19 #[.slice a n c] w (tQ w (gP l)):=by
 have H:=hid h;have HL:=hid h.len;have eR:=hid h.keys;clear h;go_enter func19,ntmps19;go_wp2_with fail
 go_loopw [3,4] (λv i wr=>∃ j:Nat,j<=n/\i = .int .i64 j/\Hid (wr.ownsRow w.heap.size 60 33 v (gP (l.take j)).length (rowP (gP (l.take j))))/\Hid (Below w.heap.size w wr)) (λ_ i _=>n-(intOf i).toNat)
 case atStart=>exact ⟨0,Nat.zero_le _,rfl,hid (World.ownsRow_nil _ _ _ _),hid aI⟩
 case round =>
  obtain ⟨wo,rfl⟩:=ay wr
  obtain ⟨j,hj,rfl,HR,HB⟩:=hrel;by_cases hlt:j<n
  .obtain ⟨b1,o1,rfl,hb1,hpx,hkx⟩:=H.out.at' j hlt;have hji:(j:Int)<n:=by omega
   have hsl:=yI l j;have hsk:=AX eR.out j;have HF:=hid (uE (l:=l) (j:=j) (by rw [HL.out]; exact hlt));have ef:=hpx.below HB.out;have aE:=hid hkx;generalize l.getD j ([],eB)=x at *
   generalize gP (l.take j)=S at *
   obtain ⟨m,hm⟩:=aA S.length
   rw [hm] at HR hsl;obtain ⟨a2,c2,rfl,hps⟩:=fA.pE hsk hm HR.out;have hc2:=hps.1;have gR:=hid hps;have m9:=hid hm;have V4:=hid hsk;clear hpx hkx hb1 hps hsk hm HR;go_wp2_with fail
   go_loopw [5] (λk wr=>∃ q:Nat,q<=m/\k = .int .i64 q/\Hid (∀ y∈S.take q,ltP y.1 x.1=true)/\Hid (Below wo.heap.size wo wr)) (λk _=>m-(intOf k).toNat)
   case atStart=>exact ⟨0,Nat.zero_le _,rfl,hid (λy hy=>by cases hy),hid aI⟩
   case round =>
    obtain ⟨q,hq,rfl,HI,HB2⟩:=hrel;have FS:=hid (ef.below HB2.out);by_cases hqm:q<m
    .obtain ⟨b2,o2,rfl,hb2,nF,hky⟩:=gR.out.at' q hqm;have hqi:(q:Int)<m:=by omega
     have ma:=hid hky;obtain ⟨y,s7⟩:=aA (S.getD q ([],eB))
     rw [s7] at nF ma;have G0:=hid (nF.below HB2.out);clear hb2 hky;by_cases hlx:ltP y.1 x.1=true
     .have dE:Hid (∀ w,Calls prog 35 #[.agg (kc y.1),.agg (kc x.1)] w λe w'=>e = .returned (.bool true)/\Below w.heap.size w w'):=hid λw=>(Ci y.1 x.1 ma.out aE.out w).mono λe w' g=>by rw [hlx] at g; exact g
      have HN:=hid (MI HI.out (by rw [m9.out]; exact hqm) (by rw [s7]; exact hlx));clear hlx s7;go_wp2_with fail
      refine aD (S:=λw'=>Below wr.heap.size wr w') ((below_drewN aI 1)) λhld=>?_;refine aj 0 ?_;try simp only [Act.put,au]
      refine aj 1 ?_;try simp only [Act.put,au]
      refine aj 2 ?_;try simp only [Act.put,au]
      refine aj 3 ?_;try simp only [Act.put,au]
      refine aj 4 ?_;try simp only [Act.put,au]
      refine aj 5 ?_;try simp only [Act.put,au]
      refine aj 6 ?_;try simp only [Act.put,au]
      refine aj 7 ?_ (hy:=by intro wz hSw; (have q0:=hqi; have q1:=hqm; go_simp <;> with_reducible rfl));try simp only [Act.put,au]
      refine aj 8 ?_;try simp only [Act.put,au]
      refine aj 9 ?_ (hy:=by intro wz hSw; (refine bJ ma.out (G0.out.below hSw).key ?_; exact ⟨_,rfl,rfl⟩));try simp only [Act.put,au]
      refine aj 10 ?_;try simp only [Act.put,au]
      refine aj 11 ?_;try simp only [Act.put,au]
      refine aj 12 ?_ (hy:=by intro wz hSw; (have q0:=hji; have q1:=hlt; go_simp <;> with_reducible rfl));try simp only [Act.put,au]
      refine aj 13 ?_;try simp only [Act.put,au]
      refine aj 14 ?_ (hy:=by intro wz hSw; (refine bJ aE.out (FS.out.below hSw).key ?_; exact ⟨_,rfl,rfl⟩));try simp only [Act.put,au]
      refine ak 15 λK hK=>?_;go_simp;go_at_call 35
      (with_reducible refine (dE.out _).mono ?_)
      rintro e az ⟨rfl,hbx⟩;refine hK.out _ _ (Below.trans hld (hbx.mono hld.size)) λhld=>?_;clear hK K;try simp only [Act.put,au]
      refine aj 16 ?_;try simp only [Act.put,au]
      refine aC ?_;have es:Hid (Below wo.heap.size wo az):=hid (bst HB2.out hld);clear hld hbx;go_wp2;go_roundw
      case rel=>exact ⟨q+1,by omega,by go_num,HN,es⟩
      case measure=>simp [intOf]; omega
     .have d8:Hid (ltP y.1 x.1=false):=hid (by simpa using hlx);have dE:Hid (∀ w,Calls prog 35 #[.agg (kc y.1),.agg (kc x.1)] w λe w'=>e = .returned (.bool false)/\Below w.heap.size w w'):=hid λw=>(Ci y.1 x.1 ma.out aE.out w).mono λe w' g=>by rw [d8.out] at g; exact g
      clear hlx;by_cases hek:y.1=x.1
      .have pT:=hid (aK hek);have G4:=hid hek;have n9:=hid s7;clear hek s7;go_wp2_with fail
       refine aD (S:=λw'=>Below wr.heap.size wr w') ((below_drewN aI 1)) λhld=>?_;refine aj 0 ?_;try simp only [Act.put,au]
       refine aj 1 ?_;try simp only [Act.put,au]
       refine aj 2 ?_;try simp only [Act.put,au]
       refine aj 3 ?_;try simp only [Act.put,au]
       refine aj 4 ?_;try simp only [Act.put,au]
       refine aj 5 ?_;try simp only [Act.put,au]
       refine aj 6 ?_;try simp only [Act.put,au]
       refine aj 7 ?_ (hy:=by intro wz hSw; (have q0:=hqi; have q1:=hqm; go_simp <;> with_reducible rfl));try simp only [Act.put,au]
       refine aj 8 ?_;try simp only [Act.put,au]
       refine aj 9 ?_ (hy:=by intro wz hSw; (refine bJ ma.out (G0.out.below hSw).key ?_; exact ⟨_,rfl,rfl⟩));try simp only [Act.put,au]
       refine aj 10 ?_;try simp only [Act.put,au]
       refine aj 11 ?_;try simp only [Act.put,au]
       refine aj 12 ?_ (hy:=by intro wz hSw; (have q0:=hji; have q1:=hlt; go_simp <;> with_reducible rfl));try simp only [Act.put,au]
       refine aj 13 ?_;try simp only [Act.put,au]
       refine aj 14 ?_ (hy:=by intro wz hSw; (refine bJ aE.out (FS.out.below hSw).key ?_; exact ⟨_,rfl,rfl⟩));try simp only [Act.put,au]
       refine ak 15 λK hK=>?_;go_simp;go_at_call 35
       (with_reducible refine (dE.out _).mono ?_)
       rintro e az ⟨rfl,hbx⟩;refine hK.out _ _ (Below.trans hld (hbx.mono hld.size)) λhld=>?_;clear hK K;try simp only [Act.put,au]
       refine aj 16 ?_;try simp only [Act.put,au]
       refine aC ?_;have es:Hid (Below wo.heap.size wo az):=hid (bst HB2.out hld);clear hld hbx;have hbz:=es.out.size;have px:=hid (gR.out.below es.out);have lm:=hid (ef.below es.out);have gj:Hid (fA (az.alloc (.cells #[] 60)) _ q c2 (S.take q)):=hid (((px.out.below (al1 _ _))).upto q (by omega))
       have dC:Hid ((az.alloc (.cells #[] 60)).ownsRow az.heap.size 60 33 (.slice (some ⟨az.heap.size,0,none⟩) 0 0) 0 (rowP [])):=hid (World.ownsRow_lit (e:=60) (size:=33) (base:=az.heap.size) az #[] 0 aH (by unfold maxLen; decide) rfl);have hs3:az.heap.size<=(az.alloc (.cells #[] 60)).heap.size:=by simp
       have hq0:0+q<=1000000:=by omega
       have hqc:q<=c2:=by omega
       go_wp2_with (first
        | (refine aB (pJ _ rfl rfl) ?_)
        | (refine aB (sJ jo lT hqc ⟨_,_,rfl,rfl,rfl⟩) ?_)
        | (at_builtin; refine dx rfl _ _ rfl rfl rfl dC.out gj.out hq0 hs3 ?_))
       intro v4 w4 h4 hg4 pm;have HR4:Hid (w4.ownsRow az.heap.size 60 33 v4 q (rowP (S.take q))):=hid (by simpa using h4);have bd:Hid (Below wo.heap.size wo w4):=hid ((es.out.alloc es.out.size _).grown hg4 (by simp; omega) (λk hk=>by cases hk; exact hbz));have kx:az.heap.size<w4.heap.size:=by
        obtain ⟨_,_,_,hz,_⟩:=hg4;simp at hz;omega
       clear h4 hg4 pm dC gj hs3 hq0 px lm;have fh:=hid (ef.below bd.out);have jp:=hid (Rg.Own.new w4 (dD x) 60);have py:Hid (fA (w4.alloc (.cells (dD x) 60)) (some ⟨w4.heap.size,0,none⟩) 1 1 [x]):=hid (yL aE.out jp.out);have ed:=hid (HR4.out.alloc (.cells (dD x) 60));have hq4:q+1<=1000000:=by omega
       have hs4:az.heap.size<=(w4.alloc (.cells (dD x) 60)).heap.size:=by simp; omega
       go_wp2_with (first
        | (refine aB (dO aE.out fh.out ⟨_,rfl,rfl⟩) ?_)
        | (refine aB (iI aE.out _ rfl ⟨_,rfl,rfl⟩) ?_)
        | (at_builtin; refine dx rfl _ _ rfl rfl rfl ed.out py.out hq4 hs4 ?_))
       intro v5 w5 h5 hg5 yb;have cW:Hid (w5.ownsRow az.heap.size 60 33 v5 (q+1) (rowP (S.take q++[x]))):=hid h5;have fk:=HR4.out.lt;have aa:Hid (Below wo.heap.size wo w5):=hid ((bd.out.alloc bd.out.size _).grown hg5 (by have:=bd.out.size; simp; omega) (λk hk=>Nat.le_trans hbz (fk k hk).1));have p7:az.heap.size<=w5.heap.size:=by
        obtain ⟨_,_,_,hz,_⟩:=hg5;simp at hz;omega
       clear h5 hg5 yb jp py ed hs4 hq4 fh HR4 bd fk;have eQ:=hid (gR.out.below aa.out);have o6:=hid (ef.below aa.out);have s8:=hid (nF.below aa.out);go_wp2_with fail
       refine aD (S:=λw'=>Below w5.heap.size w5 w') ((below_drewN aI 1)) λhld=>?_;refine aj 0 ?_;try simp only [Act.put,au]
       refine aj 1 ?_;try simp only [Act.put,au]
       refine aj 2 ?_;try simp only [Act.put,au]
       refine aj 3 ?_;try simp only [Act.put,au]
       refine aj 4 ?_;try simp only [Act.put,au]
       refine aj 5 ?_;try simp only [Act.put,au]
       refine aj 6 ?_;try simp only [Act.put,au]
       refine aj 7 ?_ (hy:=by intro wz hSw; (have q0:=hqi; have q1:=hqm; go_simp <;> with_reducible rfl));try simp only [Act.put,au]
       refine aj 8 ?_;try simp only [Act.put,au]
       refine aj 9 ?_ (hy:=by intro wz hSw; (refine bJ ma.out (s8.out.below hSw).key ?_; exact ⟨_,rfl,rfl⟩));try simp only [Act.put,au]
       refine aj 10 ?_;try simp only [Act.put,au]
       refine aj 11 ?_;try simp only [Act.put,au]
       refine aj 12 ?_ (hy:=by intro wz hSw; (have q0:=hji; have q1:=hlt; go_simp <;> with_reducible rfl));try simp only [Act.put,au]
       refine aj 13 ?_;try simp only [Act.put,au]
       refine aj 14 ?_ (hy:=by intro wz hSw; (refine bJ aE.out (o6.out.below hSw).key ?_; exact ⟨_,rfl,rfl⟩));try simp only [Act.put,au]
       refine aj 15 ?_ (hy:=by intro wz hSw; (refine nC ma.out aE.out ?_; exact ⟨_,_,_,rfl,rfl,rfl⟩));try simp only [Act.put,au]
       refine aj 16 ?_;try simp only [Act.put,au]
       refine aC ?_;have bj:Hid (Below wo.heap.size wo w5.drew):=hid (aa.out.drew);have eo:=hid (kE cW.out (aI.drew));clear hld;have pA:Hid (w5.heap.size<=w5.drew.heap.size):=hid aH;obtain ⟨w6,fW⟩:=aA w5.drew
       rw [fW] at bj eo pA ⊢;clear fW;rw [pT.out];have cT:=hid (gR.out.below bj.out);have HD6:=hid (cT.out.from' (q+1) (by omega));have sC:az.heap.size<=w6.heap.size:=Nat.le_trans p7 pA.out;have yd:q+1+(m-(q+1))<=1000000:=by omega
       have hkm:q+1<=m:=by omega
       have lr:=eo.out.lt;go_wp2_with (first
        | (refine aB (xY jo lT hkm ⟨_,_,rfl,rfl,rfl⟩) ?_)
        | (at_builtin; refine dx rfl _ _ rfl rfl rfl eo.out HD6.out yd sC ?_))
       intro v7 w7 h7 pB ye;have jz:Hid (w7.ownsRow w.heap.size 60 33 v7 (S.take q++[x]++S.drop (q+1)).length (rowP (S.take q++[x]++S.drop (q+1)))):=hid (by
        rw [show (S.take q++[x]++S.drop (q+1)).length=m by simp only [List.length_append,List.length_take,List.length_drop,List.length_singleton,m9.out]; omega,List.append_assoc];exact yX h7 (by have:=HB.out.size; omega))
       have db:Hid (Below w.heap.size w w7):=hid (HB.out.trans (((bj.out.grown pB (by have:=bj.out.size; omega) (λk hk=>Nat.le_trans hbz (lr k hk).1))).mono HB.out.size));clear h7 pB ye;go_wp2;go_roundw
       case rel=>exact ⟨j+1,by omega,by go_num,hid (by rw [HF.out,tC S x q (by rw [m9.out]; omega) HI.out (λ_=>by rw [n9.out]; exact d8.out),if_pos ⟨by rw [m9.out]; omega,by rw [n9.out]; exact G4.out⟩]; exact jz.out),db⟩
       case measure=>simp [intOf]; omega
      .have pT:=hid (decide_eq_false hek);have G4:=hid hek;have n9:=hid s7;clear hek s7;go_wp2_with fail
       refine aD (S:=λw'=>Below wr.heap.size wr w') ((below_drewN aI 1)) λhld=>?_;refine aj 0 ?_;try simp only [Act.put,au]
       refine aj 1 ?_;try simp only [Act.put,au]
       refine aj 2 ?_;try simp only [Act.put,au]
       refine aj 3 ?_;try simp only [Act.put,au]
       refine aj 4 ?_;try simp only [Act.put,au]
       refine aj 5 ?_;try simp only [Act.put,au]
       refine aj 6 ?_;try simp only [Act.put,au]
       refine aj 7 ?_ (hy:=by intro wz hSw; (have q0:=hqi; have q1:=hqm; go_simp <;> with_reducible rfl));try simp only [Act.put,au]
       refine aj 8 ?_;try simp only [Act.put,au]
       refine aj 9 ?_ (hy:=by intro wz hSw; (refine bJ ma.out (G0.out.below hSw).key ?_; exact ⟨_,rfl,rfl⟩));try simp only [Act.put,au]
       refine aj 10 ?_;try simp only [Act.put,au]
       refine aj 11 ?_;try simp only [Act.put,au]
       refine aj 12 ?_ (hy:=by intro wz hSw; (have q0:=hji; have q1:=hlt; go_simp <;> with_reducible rfl));try simp only [Act.put,au]
       refine aj 13 ?_;try simp only [Act.put,au]
       refine aj 14 ?_ (hy:=by intro wz hSw; (refine bJ aE.out (FS.out.below hSw).key ?_; exact ⟨_,rfl,rfl⟩));try simp only [Act.put,au]
       refine ak 15 λK hK=>?_;go_simp;go_at_call 35
       (with_reducible refine (dE.out _).mono ?_)
       rintro e az ⟨rfl,hbx⟩;refine hK.out _ _ (Below.trans hld (hbx.mono hld.size)) λhld=>?_;clear hK K;try simp only [Act.put,au]
       refine aj 16 ?_;try simp only [Act.put,au]
       refine aC ?_;have es:Hid (Below wo.heap.size wo az):=hid (bst HB2.out hld);clear hld hbx;have hbz:=es.out.size;have px:=hid (gR.out.below es.out);have lm:=hid (ef.below es.out);have gj:Hid (fA (az.alloc (.cells #[] 60)) _ q c2 (S.take q)):=hid (((px.out.below (al1 _ _))).upto q (by omega))
       have dC:Hid ((az.alloc (.cells #[] 60)).ownsRow az.heap.size 60 33 (.slice (some ⟨az.heap.size,0,none⟩) 0 0) 0 (rowP [])):=hid (World.ownsRow_lit (e:=60) (size:=33) (base:=az.heap.size) az #[] 0 aH (by unfold maxLen; decide) rfl);have hs3:az.heap.size<=(az.alloc (.cells #[] 60)).heap.size:=by simp
       have hq0:0+q<=1000000:=by omega
       have hqc:q<=c2:=by omega
       go_wp2_with (first
        | (refine aB (pJ _ rfl rfl) ?_)
        | (refine aB (sJ jo lT hqc ⟨_,_,rfl,rfl,rfl⟩) ?_)
        | (at_builtin; refine dx rfl _ _ rfl rfl rfl dC.out gj.out hq0 hs3 ?_))
       intro v4 w4 h4 hg4 pm;have HR4:Hid (w4.ownsRow az.heap.size 60 33 v4 q (rowP (S.take q))):=hid (by simpa using h4);have bd:Hid (Below wo.heap.size wo w4):=hid ((es.out.alloc es.out.size _).grown hg4 (by simp; omega) (λk hk=>by cases hk; exact hbz));have kx:az.heap.size<w4.heap.size:=by
        obtain ⟨_,_,_,hz,_⟩:=hg4;simp at hz;omega
       clear h4 hg4 pm dC gj hs3 hq0 px lm;have fh:=hid (ef.below bd.out);have jp:=hid (Rg.Own.new w4 (dD x) 60);have py:Hid (fA (w4.alloc (.cells (dD x) 60)) (some ⟨w4.heap.size,0,none⟩) 1 1 [x]):=hid (yL aE.out jp.out);have ed:=hid (HR4.out.alloc (.cells (dD x) 60));have hq4:q+1<=1000000:=by omega
       have hs4:az.heap.size<=(w4.alloc (.cells (dD x) 60)).heap.size:=by simp; omega
       go_wp2_with (first
        | (refine aB (dO aE.out fh.out ⟨_,rfl,rfl⟩) ?_)
        | (refine aB (iI aE.out _ rfl ⟨_,rfl,rfl⟩) ?_)
        | (at_builtin; refine dx rfl _ _ rfl rfl rfl ed.out py.out hq4 hs4 ?_))
       intro v5 w5 h5 hg5 yb;have cW:Hid (w5.ownsRow az.heap.size 60 33 v5 (q+1) (rowP (S.take q++[x]))):=hid h5;have fk:=HR4.out.lt;have aa:Hid (Below wo.heap.size wo w5):=hid ((bd.out.alloc bd.out.size _).grown hg5 (by have:=bd.out.size; simp; omega) (λk hk=>Nat.le_trans hbz (fk k hk).1));have p7:az.heap.size<=w5.heap.size:=by
        obtain ⟨_,_,_,hz,_⟩:=hg5;simp at hz;omega
       clear h5 hg5 yb jp py ed hs4 hq4 fh HR4 bd fk;have eQ:=hid (gR.out.below aa.out);have o6:=hid (ef.below aa.out);have s8:=hid (nF.below aa.out);go_wp2_with fail
       refine aD (S:=λw'=>Below w5.heap.size w5 w') ((below_drewN aI 1)) λhld=>?_;refine aj 0 ?_;try simp only [Act.put,au]
       refine aj 1 ?_;try simp only [Act.put,au]
       refine aj 2 ?_;try simp only [Act.put,au]
       refine aj 3 ?_;try simp only [Act.put,au]
       refine aj 4 ?_;try simp only [Act.put,au]
       refine aj 5 ?_;try simp only [Act.put,au]
       refine aj 6 ?_;try simp only [Act.put,au]
       refine aj 7 ?_ (hy:=by intro wz hSw; (have q0:=hqi; have q1:=hqm; go_simp <;> with_reducible rfl));try simp only [Act.put,au]
       refine aj 8 ?_;try simp only [Act.put,au]
       refine aj 9 ?_ (hy:=by intro wz hSw; (refine bJ ma.out (s8.out.below hSw).key ?_; exact ⟨_,rfl,rfl⟩));try simp only [Act.put,au]
       refine aj 10 ?_;try simp only [Act.put,au]
       refine aj 11 ?_;try simp only [Act.put,au]
       refine aj 12 ?_ (hy:=by intro wz hSw; (have q0:=hji; have q1:=hlt; go_simp <;> with_reducible rfl));try simp only [Act.put,au]
       refine aj 13 ?_;try simp only [Act.put,au]
       refine aj 14 ?_ (hy:=by intro wz hSw; (refine bJ aE.out (o6.out.below hSw).key ?_; exact ⟨_,rfl,rfl⟩));try simp only [Act.put,au]
       refine aj 15 ?_ (hy:=by intro wz hSw; (refine nC ma.out aE.out ?_; exact ⟨_,_,_,rfl,rfl,rfl⟩));try simp only [Act.put,au]
       refine aj 16 ?_;try simp only [Act.put,au]
       refine aC ?_;have bj:Hid (Below wo.heap.size wo w5.drew):=hid (aa.out.drew);have eo:=hid (kE cW.out (aI.drew));clear hld;have pA:Hid (w5.heap.size<=w5.drew.heap.size):=hid aH;obtain ⟨w6,fW⟩:=aA w5.drew
       rw [fW] at bj eo pA ⊢;clear fW;rw [pT.out];have cT:=hid (gR.out.below bj.out);have HD6:=hid (cT.out.from' (q) (by omega));have sC:az.heap.size<=w6.heap.size:=Nat.le_trans p7 pA.out;have yd:q+1+(m-(q))<=1000000:=by omega
       have hkm:q<=m:=by omega
       have lr:=eo.out.lt;go_wp2_with (first
        | (refine aB (xY jo lT hkm ⟨_,_,rfl,rfl,rfl⟩) ?_)
        | (at_builtin; refine dx rfl _ _ rfl rfl rfl eo.out HD6.out yd sC ?_))
       intro v7 w7 h7 pB ye;have jz:Hid (w7.ownsRow w.heap.size 60 33 v7 (S.take q++[x]++S.drop (q)).length (rowP (S.take q++[x]++S.drop (q)))):=hid (by
        rw [show (S.take q++[x]++S.drop (q)).length=q+1+(m-q) by simp only [List.length_append,List.length_take,List.length_drop,List.length_singleton,m9.out]; omega,List.append_assoc];exact yX h7 (by have:=HB.out.size; omega))
       have db:Hid (Below w.heap.size w w7):=hid (HB.out.trans (((bj.out.grown pB (by have:=bj.out.size; omega) (λk hk=>Nat.le_trans hbz (lr k hk).1))).mono HB.out.size));clear h7 pB ye;go_wp2;go_roundw
       case rel=>exact ⟨j+1,by omega,by go_num,hid (by rw [HF.out,tC S x q (by rw [m9.out]; omega) HI.out (λ_=>by rw [n9.out]; exact d8.out),if_neg (λg=>G4.out (by rw [<-n9.out]; exact g.2))]; exact jz.out),db⟩
       case measure=>simp [intOf]; omega
    .obtain rfl:q=m:=by omega
     have M3:¬ ((q:Int)<q):=by omega
     go_wp2_with fail
     refine aD (S:=λw'=>Below wr.heap.size wr w') ((below_drewN aI 1)) λhld=>?_;refine aj 0 ?_;try simp only [Act.put,au]
     refine aj 1 ?_;try simp only [Act.put,au]
     refine aj 2 ?_;try simp only [Act.put,au]
     refine aj 3 ?_ (hy:=by intro wz hSw; (have q0:=M3; go_simp <;> with_reducible rfl));try simp only [Act.put,au]
     refine aj 4 ?_;try simp only [Act.put,au]
     refine Rg.takeL (i:=5) (v:=undef) rfl (by kernel_rfl) (by kernel_rfl) (by kernel_rfl) (λ_ _ _ h=>h) (Or.inr ⟨by rfl,rfl⟩) (by assumption) ?_;try simp only [Act.put,au]
     refine Rg.takeL (i:=6) (v:=undef) rfl (by kernel_rfl) (by kernel_rfl) (by kernel_rfl) (λ_ _ _ h=>h) (Or.inr ⟨by rfl,rfl⟩) (by assumption) ?_;try simp only [Act.put,au]
     refine Rg.takeL (i:=7) (v:=undef) rfl (by kernel_rfl) (by kernel_rfl) (by kernel_rfl) (λ_ _ _ h=>h) (Or.inr ⟨by rfl,rfl⟩) (by assumption) ?_;try simp only [Act.put,au]
     refine Rg.takeL (i:=8) (v:=undef) rfl (by kernel_rfl) (by kernel_rfl) (by kernel_rfl) (λ_ _ _ h=>h) (Or.inr ⟨by rfl,rfl⟩) (by assumption) ?_;try simp only [Act.put,au]
     refine Rg.takeL (i:=9) (v:=undef) rfl (by kernel_rfl) (by kernel_rfl) (by kernel_rfl) (λ_ _ _ h=>h) (Or.inr ⟨by rfl,rfl⟩) (by assumption) ?_;try simp only [Act.put,au]
     refine Rg.takeL (i:=10) (v:=undef) rfl (by kernel_rfl) (by kernel_rfl) (by kernel_rfl) (λ_ _ _ h=>h) (Or.inr ⟨by rfl,rfl⟩) (by assumption) ?_;try simp only [Act.put,au]
     refine Rg.takeL (i:=11) (v:=undef) rfl (by kernel_rfl) (by kernel_rfl) (by kernel_rfl) (λ_ _ _ h=>h) (Or.inr ⟨by rfl,rfl⟩) (by assumption) ?_;try simp only [Act.put,au]
     refine Rg.takeL (i:=12) (v:=undef) rfl (by kernel_rfl) (by kernel_rfl) (by kernel_rfl) (λ_ _ _ h=>h) (Or.inr ⟨by rfl,rfl⟩) (by assumption) ?_;try simp only [Act.put,au]
     refine Rg.takeL (i:=13) (v:=undef) rfl (by kernel_rfl) (by kernel_rfl) (by kernel_rfl) (λ_ _ _ h=>h) (Or.inr ⟨by rfl,rfl⟩) (by assumption) ?_;try simp only [Act.put,au]
     refine Rg.takeL (i:=14) (v:=undef) rfl (by kernel_rfl) (by kernel_rfl) (by kernel_rfl) (λ_ _ _ h=>h) (Or.inr ⟨by rfl,rfl⟩) (by assumption) ?_;try simp only [Act.put,au]
     refine Rg.takeL (i:=15) (v:=undef) rfl (by kernel_rfl) (by kernel_rfl) (by kernel_rfl) (λ_ _ _ h=>h) (Or.inr ⟨by rfl,rfl⟩) (by assumption) ?_;try simp only [Act.put,au]
     refine aj 16 ?_;try simp only [Act.put,au]
     refine aC ?_;have es:Hid (Below wo.heap.size wo wr.drew):=hid (HB2.out.drew);clear hld;obtain ⟨az,hwv⟩:=aA wr.drew
     rw [hwv] at es ⊢;clear hwv;have hbz:=es.out.size;have px:=hid (gR.out.below es.out);have lm:=hid (ef.below es.out);have gj:Hid (fA (az.alloc (.cells #[] 60)) _ q c2 (S.take q)):=hid (((px.out.below (al1 _ _))).upto q (by omega));have dC:Hid ((az.alloc (.cells #[] 60)).ownsRow az.heap.size 60 33 (.slice (some ⟨az.heap.size,0,none⟩) 0 0) 0 (rowP [])):=hid (World.ownsRow_lit (e:=60) (size:=33) (base:=az.heap.size) az #[] 0 aH (by unfold maxLen; decide) rfl)
     have hs3:az.heap.size<=(az.alloc (.cells #[] 60)).heap.size:=by simp
     have hq0:0+q<=1000000:=by omega
     have hqc:q<=c2:=by omega
     go_wp2_with (first
      | (refine aB (pJ _ rfl rfl) ?_)
      | (refine aB (sJ jo lT hqc ⟨_,_,rfl,rfl,rfl⟩) ?_)
      | (at_builtin; refine dx rfl _ _ rfl rfl rfl dC.out gj.out hq0 hs3 ?_))
     intro v4 w4 h4 hg4 pm;have HR4:Hid (w4.ownsRow az.heap.size 60 33 v4 q (rowP (S.take q))):=hid (by simpa using h4);have bd:Hid (Below wo.heap.size wo w4):=hid ((es.out.alloc es.out.size _).grown hg4 (by simp; omega) (λk hk=>by cases hk; exact hbz));have kx:az.heap.size<w4.heap.size:=by
      obtain ⟨_,_,_,hz,_⟩:=hg4;simp at hz;omega
     clear h4 hg4 pm dC gj hs3 hq0 px lm;have fh:=hid (ef.below bd.out);have jp:=hid (Rg.Own.new w4 (dD x) 60);have py:Hid (fA (w4.alloc (.cells (dD x) 60)) (some ⟨w4.heap.size,0,none⟩) 1 1 [x]):=hid (yL aE.out jp.out);have ed:=hid (HR4.out.alloc (.cells (dD x) 60));have hq4:q+1<=1000000:=by omega
     have hs4:az.heap.size<=(w4.alloc (.cells (dD x) 60)).heap.size:=by simp; omega
     go_wp2_with (first
      | (refine aB (dO aE.out fh.out ⟨_,rfl,rfl⟩) ?_)
      | (refine aB (iI aE.out _ rfl ⟨_,rfl,rfl⟩) ?_)
      | (at_builtin; refine dx rfl _ _ rfl rfl rfl ed.out py.out hq4 hs4 ?_))
     intro v5 w5 h5 hg5 yb;have cW:Hid (w5.ownsRow az.heap.size 60 33 v5 (q+1) (rowP (S.take q++[x]))):=hid h5;have fk:=HR4.out.lt;have aa:Hid (Below wo.heap.size wo w5):=hid ((bd.out.alloc bd.out.size _).grown hg5 (by have:=bd.out.size; simp; omega) (λk hk=>Nat.le_trans hbz (fk k hk).1));have p7:az.heap.size<=w5.heap.size:=by
      obtain ⟨_,_,_,hz,_⟩:=hg5;simp at hz;omega
     clear h5 hg5 yb jp py ed hs4 hq4 fh HR4 bd fk;have eQ:=hid (gR.out.below aa.out);have o6:=hid (ef.below aa.out);go_wp2_with fail
     refine aD (S:=λw'=>Below w5.heap.size w5 w') ((below_drewN aI 1)) λhld=>?_;refine aj 0 ?_;try simp only [Act.put,au]
     refine aj 1 ?_;try simp only [Act.put,au]
     refine aj 2 ?_;try simp only [Act.put,au]
     refine aj 3 ?_ (hy:=by intro wz hSw; (have q0:=M3; go_simp <;> with_reducible rfl));try simp only [Act.put,au]
     refine aj 4 ?_;try simp only [Act.put,au]
     refine Rg.takeL (i:=5) (v:=undef) rfl (by kernel_rfl) (by kernel_rfl) (by kernel_rfl) (λ_ _ _ h=>h) (Or.inr ⟨by rfl,rfl⟩) (by assumption) ?_;try simp only [Act.put,au]
     refine Rg.takeL (i:=6) (v:=undef) rfl (by kernel_rfl) (by kernel_rfl) (by kernel_rfl) (λ_ _ _ h=>h) (Or.inr ⟨by rfl,rfl⟩) (by assumption) ?_;try simp only [Act.put,au]
     refine Rg.takeL (i:=7) (v:=undef) rfl (by kernel_rfl) (by kernel_rfl) (by kernel_rfl) (λ_ _ _ h=>h) (Or.inr ⟨by rfl,rfl⟩) (by assumption) ?_;try simp only [Act.put,au]
     refine Rg.takeL (i:=8) (v:=undef) rfl (by kernel_rfl) (by kernel_rfl) (by kernel_rfl) (λ_ _ _ h=>h) (Or.inr ⟨by rfl,rfl⟩) (by assumption) ?_;try simp only [Act.put,au]
     refine Rg.takeL (i:=9) (v:=undef) rfl (by kernel_rfl) (by kernel_rfl) (by kernel_rfl) (λ_ _ _ h=>h) (Or.inr ⟨by rfl,rfl⟩) (by assumption) ?_;try simp only [Act.put,au]
     refine Rg.takeL (i:=10) (v:=undef) rfl (by kernel_rfl) (by kernel_rfl) (by kernel_rfl) (λ_ _ _ h=>h) (Or.inr ⟨by rfl,rfl⟩) (by assumption) ?_;try simp only [Act.put,au]
     refine Rg.takeL (i:=11) (v:=undef) rfl (by kernel_rfl) (by kernel_rfl) (by kernel_rfl) (λ_ _ _ h=>h) (Or.inr ⟨by rfl,rfl⟩) (by assumption) ?_;try simp only [Act.put,au]
     refine Rg.takeL (i:=12) (v:=undef) rfl (by kernel_rfl) (by kernel_rfl) (by kernel_rfl) (λ_ _ _ h=>h) (Or.inr ⟨by rfl,rfl⟩) (by assumption) ?_;try simp only [Act.put,au]
     refine Rg.takeL (i:=13) (v:=undef) rfl (by kernel_rfl) (by kernel_rfl) (by kernel_rfl) (λ_ _ _ h=>h) (Or.inr ⟨by rfl,rfl⟩) (by assumption) ?_;try simp only [Act.put,au]
     refine Rg.takeL (i:=14) (v:=undef) rfl (by kernel_rfl) (by kernel_rfl) (by kernel_rfl) (λ_ _ _ h=>h) (Or.inr ⟨by rfl,rfl⟩) (by assumption) ?_;try simp only [Act.put,au]
     refine Rg.takeL (i:=15) (v:=undef) rfl (by kernel_rfl) (by kernel_rfl) (by kernel_rfl) (λ_ _ _ h=>h) (Or.inr ⟨by rfl,rfl⟩) (by assumption) ?_;try simp only [Act.put,au]
     refine aj 16 ?_;try simp only [Act.put,au]
     refine aC ?_;have bj:Hid (Below wo.heap.size wo w5.drew):=hid (aa.out.drew);have eo:=hid (kE cW.out (aI.drew));clear hld;have pA:Hid (w5.heap.size<=w5.drew.heap.size):=hid aH;obtain ⟨w6,fW⟩:=aA w5.drew
     rw [fW] at bj eo pA ⊢;clear fW;have cT:=hid (gR.out.below bj.out);have HD6:=hid (cT.out.from' (q) (by omega));have sC:az.heap.size<=w6.heap.size:=Nat.le_trans p7 pA.out;have yd:q+1+(q-(q))<=1000000:=by omega
     have hkm:q<=q:=by omega
     have lr:=eo.out.lt;go_wp2_with (first
      | (refine aB (xY jo lT hkm ⟨_,_,rfl,rfl,rfl⟩) ?_)
      | (at_builtin; refine dx rfl _ _ rfl rfl rfl eo.out HD6.out yd sC ?_))
     intro v7 w7 h7 pB ye;have jz:Hid (w7.ownsRow w.heap.size 60 33 v7 (S.take q++[x]++S.drop (q)).length (rowP (S.take q++[x]++S.drop (q)))):=hid (by
      rw [show (S.take q++[x]++S.drop (q)).length=q+1 by simp only [List.length_append,List.length_take,List.length_drop,List.length_singleton,m9.out]; omega,List.append_assoc];exact yX h7 (by have:=HB.out.size; omega))
     have db:Hid (Below w.heap.size w w7):=hid (HB.out.trans (((bj.out.grown pB (by have:=bj.out.size; omega) (λk hk=>Nat.le_trans hbz (lr k hk).1))).mono HB.out.size));clear h7 pB ye;go_wp2;go_roundw
     case rel=>exact ⟨j+1,by omega,by go_num,hid (by rw [HF.out,tC S x q (by rw [m9.out]; omega) HI.out (λg=>absurd g (by rw [m9.out]; omega)),if_neg (λg=>absurd g.1 (by rw [m9.out]; omega))]; exact jz.out),db⟩
     case measure=>simp [intOf]; omega
  .obtain rfl:j=n:=by omega
   have HR':Hid (wo.ownsRow w.heap.size 60 33 _ (gP l).length (rowP (gP l))):=hid (by
    have e:=HR.out;rwa [List.take_of_length_le (by rw [HL.out]; exact aH)] at e)
   clear HR;go_wp2;go_ret;exact ⟨_,rfl,HR'.out,HB.out⟩
end Tm
end
section
namespace Tr
open Rf Rl Ni No
theorem vI {l:List Pair} (hk:∀ x∈l,x.1.length=32):vB (gP l):=(Tr.sorted l.length l rfl hk).1
theorem tN {l:List Pair} (h:vB l):Apart l:=h.imp λ{a b} g e=>by
 rw [e,ku] at g;cases g
theorem rY:∀ {l:List Pair},Apart l->∀ z∈l,dF l z.1=some z.2
 | [],_,_,h=>by cases h
 | x::r,h,z,hz=>by
  obtain ⟨h1,h2⟩:=List.pairwise_cons.1 h;unfold dF;rcases List.mem_cons.1 hz with rfl | hz
  .rw [if_pos rfl]
  .rw [if_neg (h1 z hz)];exact rY h2 z hz
end Tr
namespace Tm
open Tr Ni Pk Ky No
end Tm
end
section
open Go.RowKit
namespace Tm
open Tr Ni Pk Ky No Rf Rl cI
open Sm (Tab)
namespace T4
variable {w0:World} {M:Mp} {w w':World} {ga gb g3:Nat} {p:aL} {t:T} {A B:aN}
end T4
end Tm
end
section
open Go.RowKit
namespace Tm
open Tr Ni Pk Ky No Rf Rl cI
theorem QX {t:T} {l:List Tr.Pair} (h:Has t (dS l)) (h1:∀ x∈l,x.1.length=32) (h2:∀ x∈l,x.2.size≠0/\x.2.size<=65552) (hl:l.length<=24):iQ t<=200000:=by
 by_cases hn:t = .nil
 .subst hn;show 1<=200000;omega
 .rw [um t 64 h.good h.full hn,h.built h1 h2];have h3:=MN 64 (qL l) (Da h1);have h4:(qL l).length<=24:=Nat.le_trans (JF _) hl;have h5:(64+1)*(qL l).length<=65*24:=Nat.mul_le_mul aH h4;omega
end Tm
end
section
open Go.RowKit
namespace Tm
open Tr Ni Pk Ky No Rf Rl
open Sm (Tab)
theorem Cx {P:List Tr.Pair} (hk:∀ x∈P,x.1.length=32) (k:aN):dF (gP P) k=dS P k:=by
 cases e:dS P k with
 | some v=>exact rY (tN (vI hk)) (k,v) (((Tr.sorted P.length P rfl hk).2 (k,v)).2 e)
 | none =>
  rw [zT (tN (vI hk)),jD];intro x hx hxk;have:=((Tr.sorted P.length P rfl hk).2 x).1 hx;rw [hxk,e] at this;cases this
theorem Px (a:Option aM) (n:Nat):∃ v i,Oj (some a,n) = .tuple #[.string v,.bool i,.int .i64 0]/\TB a = .tuple #[.string v,.bool i]:=by
 cases a with
 | none=>exact ⟨_,_,rfl,rfl⟩
 | some v=>exact ⟨_,_,rfl,rfl⟩
theorem GR (l:List Tr.Pair) (la:aL) (ln lc:Nat) (F:aN) (w:World) (h:fA w la ln lc l) (hF:F.length=32) (hT:Tab w) :
  Calls prog 4 #[.slice la ln lc,.agg (kc F)] w λe w'=>e = .returned (.bool true)/\Below w.heap.size w w':=by
 obtain ⟨w1,hw1⟩:=ay (w.alloc (.cells (kc F) 24))
 have hb1:Below w.heap.size w w1:=by rw [hw1]; exact al1 _ _
 have hA:Rg.Own w1 w.heap.size (kc F) 24:=by rw [hw1]; exact Rg.Own.new _ _ _
 have oE:=hid ((Lw.start hT).below hb1);have HA1:=hid hA;have HP:=hid (vg l la ln lc w1 (h.below hb1));have hok:EC (dY l):=Es h.keys;have hlen:=Bj l;have sY:=hid hF;obtain ⟨P,hP⟩:=aA (dY l)
 rw [hP] at HP hok hlen;have g8:=hid hok;have hhas:=hok.has;have hcnt:iQ (bQ .nil P)<=200000:=QX hhas hok.1 hok.2 hlen;have yf:Whl (bQ .nil P):=⟨hhas.fine,hhas.full,64,aH,hhas.good⟩
 have eL:Hid (∀ (M:Mp) (W:World) p,Inv M W->IsT M p (bQ .nil P)->Tab W->Calls prog 16 #[tv p,.agg (kc F)] W (OX M W (iV (bA (bQ .nil P) (bE F))))):=hid (λM W p hi ht h=>rM M p _ F hF hhas.good hhas.full hhas.fine hcnt W hi ht h);have ee:Hid (∀ M W p,Inv M W->IsT M p (bQ .nil P)->Tab W->Calls prog 17 #[tv p] W (MP M W (.agg (Sm.kc (fC (bX (bQ .nil P))))))):=hid (λM W p hi ht h=>JW M p _ yf W hi ht h);obtain ⟨a,ha,cg⟩:=zW hhas.good hhas.full hhas.fine F hF;have hfs:dF (gP P) F=a:=by
  rw [Cx hok.1 F];have:=hhas.get F hF;rw [show path F=bE F from rfl,ha] at this;exact (Option.some.inj this).symm
 have e9:=CB hhas.good hhas.fine (bE F);have hshort:=uT hhas.good F hF;have hrl:=iN (bX (bQ .nil P));obtain ⟨r9,oT⟩:=aA (fC (bX (bQ .nil P)))
 rw [oT] at ee cg hrl;obtain ⟨X,hX⟩:=aA (iV (bA (bQ .nil P) (bE F)))
 rw [hX] at eL e9 hshort cg;obtain ⟨v,i,pv,Mb⟩:=Px a X.length;have G5:Hid (∀ W a n c,kW W a n c X->Tab W->Calls prog 8 #[.agg (Sm.kc r9),.agg (kc F),.slice a n c] W λe w'=>e = .returned (.tuple #[.string v,.bool i,.int .i64 0])/\Below W.heap.size W w'):=hid (λW a n c h t=>by
  have:=xE X r9 F a n c W hrl hF h e9 (by have:=h.len; omega) t;rw [cg,pv] at this;exact this)
 have nz:Hid (∀ W a n c,kW W a n c X->Tab W->Calls prog 13 #[.agg (Sm.kc r9),.agg (kc F),.slice a n c] W λe w'=>e = .returned (.int .i64 (X.length:Nat))/\Below W.heap.size W w'):=hid (λW a n c h t=>by
  have:=AL X r9 F a n c W hrl hF h e9 (by have:=h.len; omega) t;rw [cg] at this;exact this)
 have Mm:Hid (∀ W a n c,fA W a n c P->n<=1000->Calls prog 19 #[.slice a n c] W (NM W (gP P))):=hid (λW a n c h hn=>(Mq P a n c W h hn).mono λ_ _ g=>g.ps λx hx=>by
  have h1:=((Tr.sorted P.length P rfl hok.1).2 x).1 hx;exact Classical.byContradiction λhne=>by
   rw [jD.2 (λy hy e=>hne (by rw [<-e]; exact hok.1 y hy))] at h1;cases h1)
 have ik:Hid (∀ W a n c,fA W a n c (gP P)->n<=1000000->Calls prog 18 #[.slice a n c,.agg (kc F)] W λe w'=>e = .returned (.tuple #[.string v,.bool i])/\Below W.heap.size W w'):=hid (λW a n c h hn=>by
  have:=Ls (gP P) a n c F hF W h hn;rw [hfs,Mb] at this;exact this)
 have hsl:(gP P).length<=24:=by have:=yI P P.length; rw [List.take_length] at this; omega
 have T5:=hid ET;obtain ⟨m,hm⟩:=aA X.length
 have T6:=hid hm;rw [hm] at nz;clear hA hb1 h hok hhas hcnt hF hT hP yf ha cg hfs e9 hshort hrl oT hX pv Mb hm;have HW:Hid (_=_):=hid hw1;clear hw1;obtain ⟨t,ht⟩:=aA (bQ .nil P)
 have T7:=hid ht;rw [ht] at eL ee;obtain ⟨SP,hSP⟩:=aA (gP P)
 rw [hSP] at Mm ik hsl;obtain ⟨CF,AG⟩:=aA (kc F)
 have Mn:=hid AG;rw [AG];rw [AG] at HW;clear ht AG hSP;go_enter func4,ntmps4;go_wp2_with fail
 rw [<-HW.out];refine HP.out.mono ?_;rintro e w2 ⟨pa,pn,pc,rfl,hps,hb2⟩;have hpn:pn<=24:=by rw [<-hps.len]; exact hlen
 have HL2:=hid (oE.out.below hb2);have lP:=hid hps;have HA2:=hid (HA1.out.below hb2);clear hps hb2 oE HA1 HP HW;go_wp2_with fail
 refine (Cw M0 pa pn pc P g8.out w2 HL2.out.i lP.out (by omega)).mono ?_;intro e w4 hG;obtain ⟨p4,M4,rfl,ox,hL4,ml,hb4⟩:=HL2.out.got hG;rw [T7.out] at ox;have t1:=hid (HA2.out.below hb4);have z7:=hid (lP.out.below hb4);have rn:=hid hL4;have nB:=hid ox;have HN:=hid (Rg.Own.new w4 #[.pointer none] 46);have gg:=hid (hL4.i.free aH);have kx:=hL4.b.size;clear hG ox hL4 ml hb4 HL2 lP HA2;go_wp2_with (first
  | (refine aB (aZ _ _ _ w4.heap.size rfl rfl) ?_)
  | (refine bD HN.out (by decide) p4 rfl _ _ rfl rfl rfl ?_; intro w5 bh ax; have aa:=hid (ax.below (al1 w4 (.cells #[.pointer none] 46)) aH); have eq:Hid (A14 w M4 w5 w.heap.size w.heap.size w4.heap.size p4 t F F):=hid ⟨(rn.out.below (al1 _ _)).upd ax kx gg.out,t1.out.below aa.out,t1.out.below aa.out,sY.out,sY.out,⟨bh,gg.out,iB p4⟩,nB.out⟩; have eQ:=hid (z7.out.below aa.out); clear bh ax)
  | (refine aB (aW (aV (j:=0) eq.out.bT.o rfl) ⟨_,rfl,rfl⟩) ?_)
  | (refine Rg.run rfl (.agg CF) _ (by rw [<-Mn.out]; exact bC sY.out eq.out.kb.2 ⟨_,rfl,rfl⟩) ?_))
 obtain ⟨g5,hg5⟩:=aA w4.heap.size
 rw [hg5] at eq;rw [hg5];clear HN rn nB gg kx hg5 aa z7 t1;rw [<-Mn.out];refine (eL.out M4 w5 p4 eq.out.l.i eq.out.hT eq.out.l.t).mono ?_;rintro e w6 ⟨a6,n6,c6,M6,rfl,hs6,ya,f6,i6,t6⟩;obtain rfl:n6=m:=by rw [<-hs6.len]; exact T6.out
 have HX:Hid (Stx M6 w6 a6 n6 c6 X):=hid ⟨hs6,ya⟩;have eh:=hid (fA.frm eQ.out eq.out.l.i f6);have HA:=hid (eq.out.fr f6 i6 t6);clear hs6 ya f6 i6 t6 eq eL eQ;go_wp2_with fail
 replace HA:=hid (HA.out.below (aI.drew));replace HX:=hid (HX.out.below (aI.drew));replace eh:=hid (eh.out.below (aI.drew));refine aD (S:=λw'=>Rg.Own w' w.heap.size (kc F) 24/\w'.cell? ⟨g5,0,none⟩=some (.pointer p4)) (⟨HA.out.s.1,HA.out.s.2.2⟩) λhld=>?_;refine aj 0 ?_ (hy:=by intro wz hSw; (refine aW hSw.2 ?_; exact ⟨_,rfl,rfl⟩));try simp only [Act.put,au]
 refine aj 2 ?_ (hy:=by intro wz hSw; (refine bC sY.out hSw.1.2 ?_; exact ⟨_,rfl,rfl⟩));try simp only [Act.put,au]
 refine aj 3 ?_;try simp only [Act.put,au]
 refine ak 1 λK hK=>?_;go_simp;go_at_call 17
 (with_reducible refine (ee.out M6 _ p4 HA.out.l.i HA.out.hT HA.out.l.t).mono ?_)
 intro e y1 hG;obtain ⟨rfl,hA,f⟩:=HA.out.say hG;replace HX:=hid (HX.out.fr f);replace eh:=hid (fA.frm eh.out HA.out.l.i f);replace HA:=hid hA;clear hG hA f;refine hK.out _ _ (⟨HA.out.s.1,HA.out.s.2.2⟩) λhld=>?_;clear hK K;try simp only [Act.put,au]
 refine ak 4 λK hK=>?_;go_simp;go_at_call 8
 (with_reducible refine (G5.out _ a6 n6 c6 HX.out.s HA.out.l.t).mono ?_)
 rintro e y2 ⟨rfl,hb⟩;replace HA:=hid (HA.out.below hb);replace HX:=hid (HX.out.below hb);replace eh:=hid (eh.out.below hb);clear hb;refine hK.out _ _ (⟨HA.out.s.1,HA.out.s.2.2⟩) λhld=>?_;clear hK K;try simp only [Act.put,au]
 refine aj 5 ?_;try simp only [Act.put,au]
 refine aj 6 ?_;try simp only [Act.put,au]
 refine aj 7 ?_;try simp only [Act.put,au]
 refine aj 8 ?_;try simp only [Act.put,au]
 refine aj 9 ?_;try simp only [Act.put,au]
 refine aj 10 ?_;try simp only [Act.put,au]
 refine aj 11 ?_;try simp only [Act.put,au]
 refine aC ?_;clear hld;go_wp2_with fail
 replace HA:=hid (HA.out.below (aI.drew));replace HX:=hid (HX.out.below (aI.drew));replace eh:=hid (eh.out.below (aI.drew));refine aD (S:=λw'=>Rg.Own w' w.heap.size (kc F) 24/\w'.cell? ⟨g5,0,none⟩=some (.pointer p4)) (⟨HA.out.s.1,HA.out.s.2.2⟩) λhld=>?_;refine aj 0 ?_;try simp only [Act.put,au]
 refine aj 2 ?_ (hy:=by intro wz hSw; (refine bC sY.out hSw.1.2 ?_; exact ⟨_,rfl,rfl⟩));try simp only [Act.put,au]
 refine ak 1 λK hK=>?_;go_simp;go_at_call 19
 (with_reducible refine (Mm.out _ pa pn pc eh.out (by omega)).mono ?_)
 rintro e y3 ⟨sa,sn,sc,rfl,hso,hb⟩;replace HA:=hid (HA.out.below hb);replace HX:=hid (HX.out.below hb);replace eh:=hid (eh.out.below hb);have G6:=hid hso;have hsn:sn<=24:=by rw [<-hso.len]; exact hsl
 clear hso;clear hb;refine hK.out _ _ (⟨HA.out.s.1,HA.out.s.2.2⟩) λhld=>?_;clear hK K;try simp only [Act.put,au]
 refine ak 3 λK hK=>?_;go_simp;go_at_call 18
 (with_reducible refine (ik.out _ sa sn sc G6.out (by omega)).mono ?_)
 rintro e y4 ⟨rfl,hb⟩;replace HA:=hid (HA.out.below hb);replace HX:=hid (HX.out.below hb);replace eh:=hid (eh.out.below hb);clear hb;refine hK.out _ _ (⟨HA.out.s.1,HA.out.s.2.2⟩) λhld=>?_;clear hK K;try simp only [Act.put,au]
 refine aj 4 ?_;try simp only [Act.put,au]
 refine aj 5 ?_;try simp only [Act.put,au]
 refine aj 6 ?_;try simp only [Act.put,au]
 refine aj 7 ?_;try simp only [Act.put,au]
 refine aj 8 ?_;try simp only [Act.put,au]
 refine aC ?_;clear hld;go_wp2_with fail
 replace HA:=hid (HA.out.below (aI.drew));replace HX:=hid (HX.out.below (aI.drew));replace eh:=hid (eh.out.below (aI.drew));refine aD (S:=λw'=>Rg.Own w' w.heap.size (kc F) 24/\w'.cell? ⟨g5,0,none⟩=some (.pointer p4)) (⟨HA.out.s.1,HA.out.s.2.2⟩) λhld=>?_;refine ak 0 λK hK=>?_;go_simp;go_at_call 7
 (with_reducible refine (T5.out _ HA.out.l.t).mono ?_)
 rintro e y5 ⟨rfl,hb⟩;replace HA:=hid (HA.out.below hb);replace HX:=hid (HX.out.below hb);replace eh:=hid (eh.out.below hb);clear hb;refine hK.out _ _ (⟨HA.out.s.1,HA.out.s.2.2⟩) λhld=>?_;clear hK K;try simp only [Act.put,au]
 refine aj 1 ?_;try simp only [Act.put,au]
 refine aj 2 ?_;try simp only [Act.put,au]
 refine aj 3 ?_;try simp only [Act.put,au]
 refine aj 4 ?_;try simp only [Act.put,au]
 refine aj 5 ?_;try simp only [Act.put,au]
 refine aj 6 ?_;try simp only [Act.put,au]
 refine aj 7 ?_;try simp only [Act.put,au]
 refine aj 8 ?_;try simp only [Act.put,au]
 refine aj 9 ?_;try simp only [Act.put,au]
 refine aj 10 ?_;try simp only [Act.put,au]
 refine aj 11 ?_;try simp only [Act.put,au]
 refine aj 12 ?_;try simp only [Act.put,au]
 refine aj 13 ?_;try simp only [Act.put,au]
 refine aj 14 ?_;try simp only [Act.put,au]
 refine aj 15 ?_;try simp only [Act.put,au]
 refine aj 16 ?_;try simp only [Act.put,au]
 refine aj 17 ?_;try simp only [Act.put,au]
 refine aj 18 ?_;try simp only [Act.put,au]
 refine aj 19 ?_;try simp only [Act.put,au]
 refine aj 20 ?_ (hy:=by intro wz hSw; (refine aW hSw.2 ?_; exact ⟨_,rfl,rfl⟩));try simp only [Act.put,au]
 refine aj 22 ?_ (hy:=by intro wz hSw; (refine bC sY.out hSw.1.2 ?_; exact ⟨_,rfl,rfl⟩));try simp only [Act.put,au]
 refine aj 23 ?_;try simp only [Act.put,au]
 refine aj 25 ?_;try simp only [Act.put,au]
 refine aj 26 ?_;try simp only [Act.put,au]
 refine ak 21 λK hK=>?_;go_simp;go_at_call 17
 (with_reducible refine (ee.out M6 _ p4 HA.out.l.i HA.out.hT HA.out.l.t).mono ?_)
 intro e y6 hG;obtain ⟨rfl,hA,f⟩:=HA.out.say hG;replace HX:=hid (HX.out.fr f);replace eh:=hid (fA.frm eh.out HA.out.l.i f);replace HA:=hid hA;clear hG hA f;refine hK.out _ _ (⟨HA.out.s.1,HA.out.s.2.2⟩) λhld=>?_;clear hK K;try simp only [Act.put,au]
 refine ak 24 λK hK=>?_;go_simp;go_at_call 13
 (with_reducible refine (nz.out _ a6 n6 c6 HX.out.s HA.out.l.t).mono ?_)
 rintro e y7 ⟨rfl,hb⟩;replace HA:=hid (HA.out.below hb);replace HX:=hid (HX.out.below hb);replace eh:=hid (eh.out.below hb);clear hb;refine hK.out _ _ (⟨HA.out.s.1,HA.out.s.2.2⟩) λhld=>?_;clear hK K;try simp only [Act.put,au]
 refine aj 27 ?_;try simp only [Act.put,au]
 refine aj 28 ?_;try simp only [Act.put,au]
 refine aj 29 ?_;try simp only [Act.put,au]
 refine aC ?_;clear hld;go_wp2;go_ret;exact ⟨rfl,HA.out.l.b⟩
end Tm
end
section
open Go.RowKit Go.ChangeShapes Go.WideShapes
end
section
open Go.ChangeShapes Go.WideShapes Go.ChangeAt Go.WideMaps Go.WideElems Go.RowKit
namespace Sm
open Sh
theorem Ru : prog.globalNamed "dormouse/sum.rounds" = some 0 := by kernel_rfl
theorem Rh:(prog.globals[0]?).map (·.type)=some 211:=by kernel_rfl
theorem SC {H:Type}:(Rows.laid_dormouse_sum_rounds:DataW H) = .agg ((List.range 64).map λi=>.lit (.int .u32 (kN i:Nat))):=rfl
theorem KF:prog.cellsOf 140=1:=by kernel_rfl
theorem vF (h : laidMetH prog [("dormouse/sum.rounds", Rows.laid_dormouse_sum_rounds)] W) : Tab W := by
 rw [MakeChecks.laidMetH_plain _ _ _ (by kernel_rfl)] at h;obtain ⟨ps,⟨g0,t0,cs0,f0,p0,q0,hg0,ht0,hv0,hd0,_⟩,_,_⟩:=h;obtain rfl:=Option.some.inj (Ru.symm.trans hg0);obtain rfl:=Option.some.inj (Rh.symm.trans ht0);obtain ⟨xs,m1,rfl,hx1,hlen,gh,hel⟩:=DataW.trod_array underlying211 hd0;rw [SC] at hx1;simp only [Prod.mk.injEq,DataW.agg.injEq] at hx1;intro i hi;have h1:=hel i hi;rw [KF,Nat.mul_one] at h1;have hi2:i<xs.length:=by omega
 rw [List.getElem?_eq_getElem hi2] at h1;obtain ⟨n,e1,e2,_⟩:=DataW.trod_int underlying140 h1;have e3:=congrArg (λl=>l[i]?) hx1.1;simp only [List.getElem?_map,List.getElem?_eq_getElem hi2,List.getElem?_range hi,Option.map_some,e2] at e3;have e4:n=(kN i:Nat):=by
  have:=Option.some.inj e3;simpa using this.symm
 subst e4;rw [World.var?_cell hg0 hv0 i];obtain ⟨l⟩:=cs0;have e5:=congrArg (λl=>l[0]?) e1;simp only [List.getElem?_take,List.getElem?_drop,Nat.add_zero] at e5;simpa using e5
end Sm
end
end Go.Proofs.YtokaiemgjngcoaaGreatDoor
