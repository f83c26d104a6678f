/-
 Layer 13: awake, ProofOf's walk, of the package's own functions.
-/
import Derived.Test.YtoipgepkhomfgaaGreatDoorPo17
import Derived.LaidMore
import Derived.ShutString
import Derived.Stop.Joined
open Go.Lib (hid)
open Go.Proofs.Tryz
set_option linter.unusedSimpArgs false
set_option linter.unusedVariables false
set_option maxHeartbeats 40000000
set_option maxRecDepth 100000
namespace Go.Proofs.YtoipgepkhomfgaaGreatDoor
variable {W:World}
section
open Go.RowKit
namespace Tm
open Tr Ni Pk Ky No Rf Rl
open Sm (Tab)
theorem Zn:bD (bL .nil lAB) (cZ kb)=[bC (bL .nil lAB),bC lBx]:=by kernel_rfl
theorem Yz:bF (bL .nil lAB)=gP (bC (bL .nil lAB)):=by kernel_rfl
theorem Yq:jI (bD (bL .nil lAB) (cZ kb))=[bF (bL .nil lAB),bF lBx]:=by
 have e2:bF lBx=gP (bC lBx):=rfl;have h32:32<=(gP (bC lBx)).size:=by rw [<-e2,TM]; decide
 rw [Zn,Yz,e2];unfold jI Tv;simp [h32]
theorem UW:eX [bF (bL .nil lAB),bF lBx]=118:=by
 rw [Te,TM];rfl
theorem Nl:∀ s∈[bF (bL .nil lAB),bF lBx],s.size<=900000:=λs hs=>by
 rcases List.mem_cons.1 hs with rfl | hs
 .exact (yP.enc Zp).2
 .rw [List.mem_singleton.1 hs];exact (FL.2.enc FL.1).2
theorem YZ:[bF (bL .nil lAB),bF lBx].Nodup:=by
 have h:bF (bL .nil lAB)≠bF lBx:=λe=>Yg (by rw [iX yP.ns,iX FL.2.ns,e]);simp [h]
theorem AL:∀ (t:T) (p:Pa),Full t->Tr.get t p≠none
 | .nil,_,_=>λh=>by cases h
 | .leaf q v,p,_=>λh=>by cases h
 | .ext q t,p,f=>by
  unfold Tr.get;split
  .exact AL t _ f
  .exact λh=>by cases h
 | .br ks,[],_=>λh=>by cases h
 | .br ks,c::r,f=>AL (ks (nb c)) r (f _)
 | .stub _,_,f=>f.elim
theorem IX (w:World) (hT:Tab w):Calls prog 10 #[] w λe w'=>e = .returned (.bool true)/\Below w.heap.size w w':=by
 refine Lc (λM W p hi ht hT=>?_) (λM W g a n c hi hT hB hS=>?_) (λW=>Bb 1 (by omega) W) (λW=>Bb 99 (by omega) W) (λW a n c h=>?_) w hT
 .have:=Eh M p _ kb yc uP.good uP.fine Zg W hi ht hT;rw [show Tr.get (bL .nil lAB) (cZ kb)=some (some sy) from XK,Yq] at this;exact this.mono λ_ _ h=>h.yes
 .have hn:n=2:=hS.s.len.symm;exact Lj M W g a n c _ _ (iZ _) nN hi hT hB.o hS.s (by omega) YZ (λs hs=>Nat.le_trans (Nl s hs) (by unfold maxLen; omega)) λW' a n c hb h hrow=>VK (hi.below hb) (hT.below hb hT.pos) a n c h λb off e=>hi.out (hrow b off e)
 .have hn:n=2:=h.len.symm;have:=Dr _ Nl a n c W h (by omega);rw [UW] at this;exact this
theorem UH (l:List Tr.Pair) (la:aK) (ln lc:Nat) (F:aM) (w:World) (h:nu w la ln lc l) (hF:F.length=32) (hT:Tab w) :
  Calls prog 3 #[.slice la ln lc,.agg (kc F)] w λe w'=>e = .returned (.bool true)/\Below w.heap.size w w' :=
 FD IX (λM W p t k hk hi ht hT hg hf hu hc=>by
   have:=Eh M p t k hk hg hf hc W hi ht hT;rw [show (Tr.get t (cZ k)).isSome=true from (by
    cases e:Tr.get t (cZ k) with
    | none=>exact absurd e (AL _ _ hu)
    | some x=>rfl)] at this
   exact this.mono λ_ _ h=>h.yes)
  (λn hn W=>Bb n hn W) (λW a n c xs h hn hx=>Dr xs hx a n c W h (by omega)) l la ln lc F w h hF hT
end Tm
end
section
open Go.RowKit Go.ChangeShapes Go.WideShapes
end
section
open Go.ChangeShapes Go.WideShapes Go.ChangeAt Go.WideMaps Go.WideElems Go.RowKit
namespace Sm
open Sh
theorem Xh : prog.globalNamed "dormouse/sum.rounds" = some 0 := by kernel_rfl
theorem VY:(prog.globals[0]?).map (·.type)=some 223:=by kernel_rfl
theorem VW {H:Type}:(Rows.laid_dormouse_sum_rounds:DataW H) = .agg ((List.range 64).map λi=>.lit (.int .u32 (kN i:Nat))):=rfl
theorem Qr:prog.cellsOf 125=1:=by kernel_rfl
theorem yY (h : laidMetH prog [("dormouse/sum.rounds", Rows.laid_dormouse_sum_rounds)] W) : Tab W := by
 rw [MakeChecks.laidMetH_plain _ _ _ (by kernel_rfl)] at h;obtain ⟨ps,⟨g0,t0,cs0,f0,p0,q0,hg0,ht0,hv0,hd0,_⟩,_,_⟩:=h;obtain rfl:=Option.some.inj (Xh.symm.trans hg0);obtain rfl:=Option.some.inj (VY.symm.trans ht0);obtain ⟨xs,m1,rfl,hx1,hlen,fX,hel⟩:=DataW.trod_array underlying223 hd0;rw [VW] at hx1;simp only [Prod.mk.injEq,DataW.agg.injEq] at hx1;intro i hi;have h1:=hel i hi;rw [Qr,Nat.mul_one] at h1;have hi2:i<xs.length:=by omega
 rw [List.getElem?_eq_getElem hi2] at h1;obtain ⟨n,e1,e2,_⟩:=DataW.trod_int underlying125 h1;have e3:=congrArg (λl=>l[i]?) hx1.1;simp only [List.getElem?_map,List.getElem?_eq_getElem hi2,List.getElem?_range hi,Option.map_some,e2] at e3;have e4:n=(kN i:Nat):=by
  have:=Option.some.inj e3;simpa using this.symm
 subst e4;rw [World.var?_cell hg0 hv0 i];obtain ⟨l⟩:=cs0;have e5:=congrArg (λl=>l[0]?) e1;simp only [List.getElem?_take,List.getElem?_drop,Nat.add_zero] at e5;simpa using e5
end Sm
end
end Go.Proofs.YtoipgepkhomfgaaGreatDoor
