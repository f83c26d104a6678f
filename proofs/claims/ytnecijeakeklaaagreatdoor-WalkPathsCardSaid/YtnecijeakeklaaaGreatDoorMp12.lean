/-
 Contracts of node.Reference, node.fits, node.Check, node.Get: of any bytes.
-/
import Derived.Test.YtnecijeakeklaaaGreatDoorMp11
import Derived.Test.YtnecijeakeklaaaGreatDoorMp4
import Derived.Test.YtnecijeakeklaaaGreatDoorMp3
import Derived.Test.YtnecijeakeklaaaGreatDoorMp6
import Derived.Test.YtnecijeakeklaaaGreatDoorMp10
import Derived.Deep.DeepCutAuto
import Derived.Test.YtnecijeakeklaaaGreatDoorMp1
import Derived.Test.YtnecijeakeklaaaGreatDoorMp2
import Derived.Deep.MidRow
open Go.Lib (hid)
set_option linter.unusedSimpArgs false
set_option linter.unusedVariables false
set_option maxHeartbeats 40000000
set_option maxRecDepth 100000
namespace Go.Proofs.YtnecijeakeklaaaGreatDoor
section
open Go.RowKit
namespace No
open Rl Ni
def RefC (k:ByteArray):Prop:=∀ w:World,Calls Tryz.prog 86 #[.string k] w fun e w'=>e = .returned (.bool (refP k))∧Below w.heap.size w w'
def GetPost (w:World) (r:Option Nd) (e:Ending) (w':World):Prop:=∃ (N:Nd) (a:Option Addr) (n c:Nat) (er:Int),e = .returned (.tuple #[.agg (ndC N a n c),.int .i64 er])∧(er=0∧r=some N∨er≠0∧N=nd0∧r=none) ∧
 BsF w.heap.size w' a n c N.p∧N.ks.length=16∧Below w.heap.size w w'
def GetC (s:ByteArray):Prop:=∀ w:World,Calls Tryz.prog 134 #[.string s] w (GetPost w (getP s.data.toList))
theorem laid_any (s:ByteArray) (h:GetC s) (w:World):Calls Tryz.prog 108 #[.string s] w fun e w'=>e = .returned (.bool (getP s.data.toList).isSome)∧Below w.heap.size w w':=by
 have HG:=hid (h w);obtain ⟨r,hr⟩:∃ r,getP s.data.toList=r:=⟨_,rfl⟩
 rw [hr] at HG ⊢;clear h hr;go_enter Tryz.func108,Tryz.ntmps108;go_wp2_with fail
 refine HG.out.mono ?_;rintro e w3 ⟨N,a3,n3,c3,er,rfl,hr3,hx3,hl3,hb3⟩;have HO:Hid (OwnN (w3.alloc (.cells (ndC nd0 none 0 0) 56)) w3.heap.size nd0 none 0 0):=hid (Rg.Own.new _ _ _);have HB:=hid (bst hb3 (al1 w3 (.cells (ndC nd0 none 0 0) 56)));have HL:=hid hl3;have hge:=hb3.size;clear hx3 hl3 hb3 HG;rcases hr3 with ⟨rfl,rfl⟩ | ⟨he,rfl,rfl⟩
 ·go_wp2_with (first
   | (refine Rg.run rfl _ _ (run_alloc_nd _ _ _ w3.heap.size rfl rfl) ?_)
   | (refine wpl_store_nd HO.out rfl N a3 n3 c3 HL.out rfl _ _ rfl rfl rfl rfl ?_))
  go_ret;exact ⟨rfl,below_rowN HB.out hge _⟩
 ·have hd:(er==0)=false:=by simp; exact he
  go_wp2_with (first
   | (refine Rg.run rfl _ _ (run_alloc_nd _ _ _ w3.heap.size rfl rfl) ?_)
   | (refine wpl_store_nd HO.out rfl nd0 a3 n3 c3 HL.out rfl _ _ rfl rfl rfl rfl ?_))
  go_ret;exact ⟨rfl,below_rowN HB.out hge _⟩
theorem ref_of (k:ByteArray) (hk:k.size≤9223372036854775807) (h:k.size<32→GetC k):RefC k:=by
 intro w;have HP:=hid (plain_any k w);cases hp:plainB k with
 | true =>
  have HF:Hid (refP k=true):=hid (by unfold refP; rw [hp]; rfl);rw [hp] at HP;rw [HF.out];clear h hp;go_enter Tryz.func86,Tryz.ntmps86;go_wp2_with fail
  refine HP.out.mono ?_;rintro e w3 ⟨rfl,rfl⟩;go_wp2;go_ret;exact ⟨rfl,Below.refl _ _⟩
 | false =>
  rw [hp] at HP;by_cases h32:k.size<32
  ·have HF:Hid (refP k=(getP k.data.toList).isSome):=hid (by unfold refP; rw [hp]; simp [h32]);have HG:=hid (laid_any k (h h32) w);rw [← HF.out] at HG;clear h hp HF;go_enter Tryz.func86,Tryz.ntmps86;go_wp2_with fail
   refine HP.out.mono ?_;rintro e w3 ⟨rfl,rfl⟩;go_wp2_with fail
   refine HG.out.mono ?_;rintro e w4 ⟨rfl,hb4⟩;have HB:=hid hb4;clear hb4;go_wp2;go_ret;exact ⟨rfl,HB.out⟩
  ·have HF:Hid (refP k=false):=hid (by unfold refP; rw [hp]; simp [h32]);rw [HF.out];clear h hp;go_enter Tryz.func86,Tryz.ntmps86;go_wp2_with fail
   refine HP.out.mono ?_;rintro e w3 ⟨rfl,rfl⟩;go_wp2;go_ret;exact ⟨rfl,Below.refl _ _⟩
theorem none_any (k:ByteArray) (h:RefC k) (w:World):Calls Tryz.prog 119 #[.string k] w fun e w'=>e = .returned (.bool (!refP k))∧Below w.heap.size w w':=by
 have HG:=hid (h w);obtain ⟨r,hr⟩:∃ r,refP k=r:=⟨_,rfl⟩
 rw [hr] at HG ⊢;clear h hr;go_enter Tryz.func119,Tryz.ntmps119;go_wp2_with fail
 refine HG.out.mono ?_;rintro e w3 ⟨rfl,hb3⟩;have HB:=hid hb3;clear hb3;go_wp2;go_ret;exact ⟨rfl,HB.out⟩
def IdxPost (w:World) (xs:List ByteArray) (e:Ending) (w':World):Prop:=∃ r:Int,e = .returned (.int .i64 r) ∧ -1≤r∧r≤9223372036854775807∧decide (0≤r) = !xs.all refP∧Below w.heap.size w w'
theorem take_all {xs:List ByteArray} {j:Nat} (hj:j<xs.length) (h:(xs.take j).all refP=true) (hk:refP (xs.getD j eB)=true):(xs.take (j+1)).all refP=true:=by
 have e:xs.getD j eB=xs[j]:=by simp [List.getD,hj]
 rw [List.take_succ_eq_append_getElem hj,List.all_append,h,List.all_cons,List.all_nil,← e,hk];rfl
theorem index_any (xs:List ByteArray) (hR:∀ k∈xs,RefC k) (a:Option Addr) (n cap:Nat) (w:World) (h:IsSt w a n cap xs) :
  Calls Tryz.prog 149 #[.slice a n cap,.func (Fn.func 119) #[] #[]] w (IdxPost w xs):=by
 have hm:=h.2.1;have hnc:=h.1;have hl:=h.len;unfold maxLen at hm;have H:=hid h;have HL:=hid hl;have HR:=hid hR;clear h hl hR;go_enter Tryz.func149,Tryz.ntmps149;go_wp2;go_loopw [8] (fun i wr=>∃ j:Nat,j≤n∧i = .int .i64 j∧Hid ((xs.take j).all refP=true)∧Hid (Below w.heap.size w wr)) (fun i _=>n-(intOf i).toNat)
 case atStart=>exact ⟨0,Nat.zero_le _,rfl,hid rfl,hid (Below.refl _ _)⟩
 case round =>
  obtain ⟨j,hj,rfl,HJ,HB⟩:=hrel;by_cases hlt:j<n
  ·obtain ⟨b,off,rfl,hblt,hc⟩:=H.out.at' j hlt;have hc':=(Below.cell (p:=⟨b,off+j,none⟩) HB.out hblt).trans hc;have HM:Hid (xs.getD j eB∈xs):=hid (by
    have hj':j<xs.length:=by rw [HL.out]; exact hlt
    have e:xs.getD j eB=xs[j]:=by simp [List.getD,hj']
    rw [e]; exact List.getElem_mem hj')
   have HC:=hid (none_any _ (HR.out _ HM.out) wr);have HT:Hid (refP (xs.getD j eB)=true→(xs.take (j+1)).all refP=true):=hid (take_all (by rw [HL.out]; exact hlt) HJ.out);obtain ⟨K,hK⟩:∃ K,xs.getD j eB=K:=⟨_,rfl⟩
   rw [hK] at HC HM HT hc';clear hK hc HJ;go_wp2_with fail
   refine HC.out.mono ?_;rintro e w5 ⟨rfl,hb5⟩;have HB5:=hid (bst HB.out hb5);clear hb5 HC HB hc';cases hf:refP K with
   | true =>
    have HJ':=hid (HT.out hf);clear HT hf;go_wp2;go_roundw
    case rel=>exact ⟨j+1,by omega,by go_num,HJ',HB5⟩
    case measure=>simp [intOf]; omega
   | false =>
    have HF:Hid (xs.all refP=false):=hid (by rw [List.all_eq_false]; exact ⟨K,HM.out,by rw [hf]; simp⟩);clear HT hf;go_wp2;go_ret;exact ⟨(j:Int),rfl,by omega,by omega,by rw [HF.out]; simp,HB5.out⟩
  ·obtain rfl:j=n:=by omega
   have HF:Hid (xs.all refP=true):=hid (by have:=HJ.out; rw [List.take_of_length_le (by rw [HL.out]; exact Nat.le_refl _)] at this; exact this);go_wp2;go_ret;exact ⟨-1,rfl,by decide,by decide,by rw [HF.out]; rfl,HB.out⟩
theorem contains_any (xs:List ByteArray) (hR:∀ k∈xs,RefC k) (a:Option Addr) (n cap:Nat) (w:World) (h:IsSt w a n cap xs) :
  Calls Tryz.prog 118 #[.slice a n cap,.func (Fn.func 119) #[] #[]] w fun e w'=>e = .returned (.bool (!xs.all refP))∧Below w.heap.size w w':=by
 have HI:=hid (index_any xs hR a n cap w h);unfold IdxPost at HI;obtain ⟨F,hF⟩:∃ F,(!xs.all refP)=F:=⟨_,rfl⟩
 rw [hF] at HI ⊢;clear h hR hF;go_enter Tryz.func118,Tryz.ntmps118;go_wp2_with fail
 refine HI.out.mono ?_;rintro e w3 ⟨r,rfl,h1,h2,h3,hb3⟩;have HB:=hid hb3;have H3:=hid h3;clear hb3 HI h3;go_wp2;go_ret;exact ⟨by rw [← H3.out]; rfl,HB.out⟩
theorem fits_any (N:Nd) (a:Option Addr) (n c:Nat) (hl:N.ks.length=16) (hp:N.p.length=n) (hm:n≤maxLen) (hv:N.v.size≤maxLen) (hR:∀ k∈N.ks,RefC k) (w:World) :
  Calls Tryz.prog 93 #[.agg (ndC N a n c)] w fun e w'=>e = .returned (.bool (fitsW refP N))∧Below w.heap.size w w':=by
 have HO:Hid (OwnN (w.alloc (.cells (ndC N a n c) 56)) w.heap.size N a n c):=hid (Rg.Own.new _ _ _);have HK:=hid (kids_any N a n c hl (w.alloc (.cells (ndC N a n c) 56)));have HR0:Hid (RefC (N.ks.getD 0 eB)):=hid (hR _ (by rw [List.getD_eq_getElem?_getD,List.getElem?_eq_getElem (by omega)]; exact List.getElem_mem _));have HRK:Hid (∀ k∈kidsL N.ks,RefC k):=hid (fun k hk=>hR k (List.mem_filter.1 hk).1);have HL:=hid hl;have HU:=hid (rfl:fitsW refP N=fitsW refP N);unfold fitsW at HU;unfold maxLen at hm hv;rw [hp] at HU
 obtain ⟨F,hF⟩:∃ F,fitsW refP N=F:=⟨_,rfl⟩
 have HF:Hid (F=if N.kd=1 then decide (N.v.size≠0)&&decide (N.v.size≤65552)&&decide ((kidsL N.ks).length=0) else
  if N.kd=2 then decide (0<n)&&decide (N.v.size=0)&&decide ((kidsL N.ks).length=1)&&decide ((N.ks.getD 0 eB).size≠0)&&refP (N.ks.getD 0 eB) else
  if N.kd=3 then decide (n=0)&&decide (N.v.size=0)&&decide (2≤(kidsL N.ks).length)&&(kidsL N.ks).all refP else false):=hid (by
   rw [← hF];unfold fitsW;rw [hp])
 rw [hF];clear HU hF hR hl hp;by_cases hkd:N.kd=1
 ·rw [if_pos hkd] at HF;go_enter Tryz.func93,Tryz.ntmps93;go_wp2_with (refine Rg.run rfl _ _ (op_load_nd HO.out HL.out ?_) ?_; · exact ⟨_,rfl,rfl⟩)
  refine HK.out.mono ?_;rintro e w3 ⟨a3,n3,cap3,rfl,hs3,hb3⟩;have hO3:=HO.out.below hb3;obtain ⟨c0,c1,c2⟩:=nd_cells hO3;have ck:w3.cell? ⟨w.heap.size,3,none⟩=some (.string (N.ks.getD 0 eB)):=nd_kid hO3 HL.out 0 (by decide);have hn3:=hs3.len;have hm3:=hs3.2.1;have hnc3:=hs3.1;unfold maxLen at hm3;have HS3:=hid hs3;have HB3:=hid (of_al (al_of hb3));rw [hn3] at HF;rw [hkd] at c0;clear hs3 hb3 hO3 HK hn3;by_cases hv0:N.v.size=0
  ·have hve:=size_zero hv0;rw [hve] at c2;go_wp2;go_ret;exact ⟨by rw [HF.out]; simp [hv0],HB3.out⟩
  ·have hvn:=Ni.not_empty (s:=N.v) (by omega);by_cases hv2:N.v.size≤65552
   ·by_cases hk3:n3=0
    ·subst hk3;go_wp2;go_ret;exact ⟨by rw [HF.out]; simp [hv0,hv2],HB3.out⟩
    ·go_wp2;go_ret;exact ⟨by rw [HF.out]; simp [hv0,hv2,hk3],HB3.out⟩
   ·go_wp2;go_ret;exact ⟨by rw [HF.out]; simp [hv0,hv2],HB3.out⟩
 ·rw [if_neg hkd] at HF;have hk1:(N.kd==1)=false:=by simp; exact hkd
  clear hkd;by_cases hkd:N.kd=2
  ·rw [if_pos hkd] at HF;go_enter Tryz.func93,Tryz.ntmps93;go_wp2_with (refine Rg.run rfl _ _ (op_load_nd HO.out HL.out ?_) ?_; · exact ⟨_,rfl,rfl⟩)
   refine HK.out.mono ?_;rintro e w3 ⟨a3,n3,cap3,rfl,hs3,hb3⟩;have hO3:=HO.out.below hb3;obtain ⟨c0,c1,c2⟩:=nd_cells hO3;have ck:w3.cell? ⟨w.heap.size,3,none⟩=some (.string (N.ks.getD 0 eB)):=nd_kid hO3 HL.out 0 (by decide);have hn3:=hs3.len;have hm3:=hs3.2.1;have hnc3:=hs3.1;unfold maxLen at hm3;have HS3:=hid hs3;have HB3:=hid (of_al (al_of hb3));rw [hn3] at HF;rw [hkd] at c0;clear hs3 hb3 hO3 HK hn3;by_cases hn0:0<n
   ·by_cases hv0:N.v.size=0
    ·have hve:=size_zero hv0;rw [hve] at c2;by_cases hk3:n3=1
     ·subst hk3;obtain ⟨K,hK⟩:∃ K,N.ks.getD 0 eB=K:=⟨_,rfl⟩
      rw [hK] at HF ck HR0;clear hK;by_cases hz:K.size=0
      ·obtain rfl:=size_zero hz;go_wp2;go_ret;exact ⟨by rw [HF.out]; rw [show decide (eB.size≠0)=false from rfl,Bool.and_false,Bool.false_and]; rfl,HB3.out⟩
      ·have hkn:=Ni.not_empty (s:=K) (by omega);go_wp2_with fail
       refine (HR0.out _).mono ?_;rintro e w4 ⟨rfl,hb4⟩;have HB4:=hid (bst HB3.out hb4);obtain ⟨rb,hrb⟩:∃ rb,refP K=rb:=⟨_,rfl⟩
       rw [hrb] at HF ⊢;clear hb4 hrb;go_wp2;go_ret;exact ⟨by rw [HF.out]; simp [hn0,hz,hv0],HB4.out⟩
     ·go_wp2;go_ret;exact ⟨by rw [HF.out]; simp [hk3],HB3.out⟩
    ·have hvn:=Ni.not_empty (s:=N.v) (by omega);go_wp2;go_ret;exact ⟨by rw [HF.out]; simp [hv0],HB3.out⟩
   ·obtain rfl:n=0:=by omega
    go_wp2;go_ret;exact ⟨by rw [HF.out]; simp,HB3.out⟩
  ·rw [if_neg hkd] at HF;have hk2:(N.kd==2)=false:=by simp; exact hkd
   clear hkd;by_cases hkd:N.kd=3
   ·rw [if_pos hkd] at HF;go_enter Tryz.func93,Tryz.ntmps93;go_wp2_with (refine Rg.run rfl _ _ (op_load_nd HO.out HL.out ?_) ?_; · exact ⟨_,rfl,rfl⟩)
    refine HK.out.mono ?_;rintro e w3 ⟨a3,n3,cap3,rfl,hs3,hb3⟩;have hO3:=HO.out.below hb3;obtain ⟨c0,c1,c2⟩:=nd_cells hO3;have ck:w3.cell? ⟨w.heap.size,3,none⟩=some (.string (N.ks.getD 0 eB)):=nd_kid hO3 HL.out 0 (by decide);have hn3:=hs3.len;have hm3:=hs3.2.1;have hnc3:=hs3.1;unfold maxLen at hm3;have HS3:=hid hs3;have HB3:=hid (of_al (al_of hb3));rw [hn3] at HF;rw [hkd] at c0;clear hs3 hb3 hO3 HK hn3;by_cases hn0:n=0
    ·subst hn0;by_cases hv0:N.v.size=0
     ·have hve:=size_zero hv0;rw [hve] at c2;by_cases hk3:2≤n3
      ·have HCn:=hid (fun w4 hb4=>contains_any (kidsL N.ks) HRK.out a3 n3 cap3 w4 (HS3.out.below hb4));obtain ⟨KL,hKL⟩:∃ KL,(kidsL N.ks).all refP=KL:=⟨_,rfl⟩
       rw [hKL] at HF HCn;clear hKL;go_wp2_with fail
       refine (HCn.out _ (Below.refl _ _)).mono ?_;rintro e w4 ⟨rfl,hb4⟩;have HB4:=hid (bst HB3.out hb4);clear hb4;go_wp2;go_ret;exact ⟨by rw [HF.out]; simp [hk3,hv0],HB4.out⟩
      ·go_wp2;go_ret;exact ⟨by rw [HF.out]; simp [hk3],HB3.out⟩
     ·have hvn:=Ni.not_empty (s:=N.v) (by omega);go_wp2;go_ret;exact ⟨by rw [HF.out]; simp [hv0],HB3.out⟩
    ·go_wp2;go_ret;exact ⟨by rw [HF.out]; simp [hn0],HB3.out⟩
   ·rw [if_neg hkd] at HF;have hk3':(N.kd==3)=false:=by simp; exact hkd
    go_enter Tryz.func93,Tryz.ntmps93;go_wp2_with (refine Rg.run rfl _ _ (op_load_nd HO.out HL.out ?_) ?_; · exact ⟨_,rfl,rfl⟩)
    refine HK.out.mono ?_;rintro e w3 ⟨a3,n3,cap3,rfl,hs3,hb3⟩;have hO3:=HO.out.below hb3;obtain ⟨c0,c1,c2⟩:=nd_cells hO3;have ck:w3.cell? ⟨w.heap.size,3,none⟩=some (.string (N.ks.getD 0 eB)):=nd_kid hO3 HL.out 0 (by decide);have hn3:=hs3.len;have hm3:=hs3.2.1;have hnc3:=hs3.1;unfold maxLen at hm3;have HS3:=hid hs3;have HB3:=hid (of_al (al_of hb3));clear hs3 hb3 hO3 HK hn3;go_wp2;go_ret;exact ⟨by rw [HF.out]; rfl,HB3.out⟩
theorem check_any (N:Nd) (a:Option Addr) (n c:Nat) (hl:N.ks.length=16) (w:World) (hB:IsBs w a n c N.p) (hv:N.v.size≤maxLen) (hR:∀ k∈N.ks,RefC k) :
  Calls Tryz.prog 58 #[.agg (ndC N a n c)] w fun e w'=>e = .returned (.int .i64 (if mayW refP N then 0 else 2))∧Below w.heap.size w w':=by
 have hp:=hB.len;have hm:=hB.2.1;have hnc:=hB.1;have HO:Hid (OwnN (w.alloc (.cells (ndC N a n c) 56)) w.heap.size N a n c):=hid (Rg.Own.new _ _ _);have HBe:=hid (al1 w (.cells (ndC N a n c) 56));have HFt:=hid (fits_any N a n c hl hp (by omega) hv hR (w.alloc (.cells (ndC N a n c) 56)));have HRi:=hid (right_any a n c N.p (w.alloc (.cells (ndC N a n c) 56)) (hB.below (al1 _ _)));obtain ⟨c0,c1,c2⟩:=nd_cells HO.out;have HL:=hid hl;unfold maxLen at hm;obtain ⟨F,hF⟩:∃ F,(if mayW refP N then (0:Int) else 2)=F:=⟨_,rfl⟩
 have HM:Hid (F=if (decide (n≤64)&&rightB N.p&&fitsW refP N)=true then 0 else 2):=hid (by rw [← hF]; unfold mayW; rw [hp]);rw [hF];clear hF hR hB hp hl hv;obtain ⟨R,hR⟩:∃ R,rightB N.p=R:=⟨_,rfl⟩
 obtain ⟨T,hT⟩:∃ T,fitsW refP N=T:=⟨_,rfl⟩
 rw [hR] at HM HRi;rw [hT] at HM HFt;clear hR hT;by_cases h64:n≤64
 ·have d64:decide (64<(n:Int))=false:=by simp; omega
  cases R with
  | true =>
   go_enter Tryz.func58,Tryz.ntmps58;go_wp2_with fail
   refine HRi.out.mono ?_;rintro e w3 ⟨rfl,rfl⟩;go_wp2_with (refine Rg.runW (by rfl) _ _ (op_load_nd HO.out HL.out ?_) ?_; · exact ⟨_,rfl,rfl⟩)
   refine HFt.out.mono ?_;rintro e w3 ⟨rfl,hb3⟩;have HB3:=hid (bst HBe.out hb3);clear hb3 HFt HRi;cases T;all_goals
    go_wp2;go_ret;exact ⟨by rw [HM.out]; simp [h64],HB3.out⟩
  | false =>
   go_enter Tryz.func58,Tryz.ntmps58;go_wp2_with fail
   refine HRi.out.mono ?_;rintro e w3 ⟨rfl,rfl⟩;go_wp2;go_ret;exact ⟨by rw [HM.out]; simp,HBe.out⟩
 ·have d64:decide (64<(n:Int))=true:=by simp; omega
  go_enter Tryz.func58,Tryz.ntmps58;go_wp2;go_ret;exact ⟨by rw [HM.out]; simp [h64],HBe.out⟩
end No
end
section
open Go.RowKit
namespace No
open Rl Ni
theorem good_of {s:List UInt8} {x:It} (hs:s.length≤1000000) (h:wholeL s = .ok x):∀ y∈x.xs,Good y:=by
 obtain ⟨g1,g2,g3⟩:=whole_back (by omega) h;intro y hy;have h1:=in_less g2 (by rw [g1]; omega) hy;rw [g1] at h1;have h2:=fits_mono y (fits_in g2 hy) (Nat.zero_le _);obtain ⟨i,hi⟩:=List.getElem?_of_mem hy;have h3:=sum_le x.xs i y hi;have h4:x.size=1+(x.xs.map It.size).sum:=by cases x; exact It.size_mk _ _ _
 have h5:=inner_le y;have h6:y.s.size≤y.inner.length:=by
  unfold It.inner;rw [List.length_append,len_s];omega
 exact ⟨h2,by omega,by omega,by omega⟩
theorem whole_code {s:List UInt8} {c:Int} (h:wholeL s = .error c):c≠0:=by
 unfold wholeL at h;split at h
 ·rename_i c' hr;cases h;have:=(codes s.length).1 _ _ _ _ (Nat.le_refl _) hr;omega
 ·split at h
  ·cases h; decide
  ·cases h
theorem readP_v {xs:List It} {N:Nd} (hG:∀ x∈xs,Good x) (h:readP xs=some N):N.v.size≤1000000:=by
 unfold readP at h;by_cases h2:xs.length=2
 ·rw [if_pos h2] at h;have h1:=hG _ (getD_mem' (xs:=xs) (i:=1) (by omega));unfold readPathP at h;split at h
  ·cases h
  ·split at h
   ·obtain rfl:=Option.some.inj h;exact h1.2.2.2
   ·obtain ⟨k,hk,rfl⟩:=Option.map_eq_some_iff.1 h;exact Nat.zero_le _
 ·rw [if_neg h2] at h;split at h
  ·unfold readBranchP at h;split at h
   ·cases h
   ·split at h
    ·obtain rfl:=Option.some.inj h;exact Nat.zero_le _
    ·cases h
  ·cases h
theorem get_step (s:ByteArray) (hs:s.size≤1000000) (ih:∀ k:ByteArray,k.size<32→k.size<s.size→GetC k):GetC s:=by
 intro w;have hsl:=len_s s;obtain ⟨w2,hw2⟩:∃ w2,w2=w.alloc (.cells (ndC nd0 none 0 0) 56):=⟨_,rfl⟩
 have hO:OwnN w2 w.heap.size nd0 none 0 0:=by rw [hw2]; exact Rg.Own.new _ _ _
 have hB2:Below w.heap.size w w2:=by rw [hw2]; exact al1 _ _
 have HO:=hid hO;have HB2:=hid hB2;have hW:=whole_any s (by omega) w2;have hgt:=getP_eq s.data.toList (by omega);cases hr:wholeL s.data.toList with
 | error c =>
  rw [hr] at hW hgt;have HW:Hid (Calls Tryz.prog 159 #[.string s] w2 fun e w'=>e = .returned (.tuple #[itV it0 none 0 0,.int .i64 c])∧Below w2.heap.size w2 w'):=hid hW;unfold itV at HW;dsimp only [it0,It.l,It.s] at HW;have hne:(c != 0)=true:=by simp; exact whole_code hr
  have HC:=hid (whole_code hr);have HG:Hid (getP s.data.toList=none):=hid hgt;rw [HG.out];clear hO hB2 hr hgt ih hW;subst hw2;go_enter Tryz.func134,Tryz.ntmps134;go_wp2_with (refine Rg.run rfl _ _ (run_alloc_nd _ _ _ w.heap.size rfl rfl) ?_)
  with_reducible refine HW.out.mono ?_
  rintro e w3 ⟨rfl,hb3⟩;have HO3:=hid ((HO.out.below hb3).below (al1 w3 (.cells #[.bool false,.string ⟨#[]⟩,.slice none 0 0] 168)));have HB3:=hid (bst (bst HB2.out hb3) (al1 w3 (.cells #[.bool false,.string ⟨#[]⟩,.slice none 0 0] 168)));clear hb3 HW;go_wp2_with (first
   | (refine Rg.run rfl _ _ (op_build built0 ?_) ?_; · exact ⟨_,rfl,rfl⟩)
   | (refine wpl_store_nd HO3.out rfl nd0 none 0 0 rfl rfl _ _ rfl rfl rfl rfl ?_))
  exact bodyPost_ret (res_nd1 rfl _ rfl (own_rowN HO3.out) rfl) rfl ⟨nd0,none,0,0,c,rfl,.inr ⟨HC.out,rfl,rfl⟩,BsF.nil _ _,rfl,below_rowN HB3.out (Nat.le_refl _) _⟩
 | ok x =>
  have hG:=good_of (by omega) hr;rw [hr] at hW hgt;dsimp only at hgt;have HW:Hid (Calls Tryz.prog 159 #[.string s] w2 fun e w'=>∃ a nn cap,e = .returned (.tuple #[itV x a nn cap,.int .i64 0])∧ItsIn w2.heap.size w' x.xs a nn cap∧Below w2.heap.size w2 w'):=hid hW;unfold itV at HW;have HRd:=hid (fun w a n cap h=>read_any x.xs a n cap w h hG);have HGt:=hid hgt;have HKs:Hid (∀ N,readP x.xs=some N→N.v.size≤maxLen∧∀ k∈N.ks,RefC k):=hid (fun N hN=>by
   have h1:=readP_v hG hN;obtain ⟨_,h2⟩:=kid_less (by omega) hr hN;refine ⟨Nat.le_trans h1 (by unfold maxLen; omega),fun k hk=>?_⟩;have hs0:0<s.size:=by
    have hb:=whole_back (by omega) hr;have:=bytes_pos hb.2.1 (by rw [hb.1]; omega);rw [hb.1] at this;have:=List.length_pos_iff.2 this;omega
   rcases h2 k hk with hp | ⟨h3,h4⟩
   ·have hp:=of_decide_eq_true hp;exact ref_of k (by omega) (fun h=>ih k h (by omega))
   ·exact ref_of k (by omega) (fun h=>ih k h (by omega)))
  obtain ⟨r,hrr⟩:∃ r,readP x.xs=r:=⟨_,rfl⟩
  obtain ⟨G,hGG⟩:∃ G,getP s.data.toList=G:=⟨_,rfl⟩
  rw [hrr] at HGt HRd HKs;rw [hGG] at HGt;rw [hGG];clear hO hB2 hr hgt ih hW hG hrr hGG;subst hw2;go_enter Tryz.func134,Tryz.ntmps134;go_wp2_with (refine Rg.run rfl _ _ (run_alloc_nd _ _ _ w.heap.size rfl rfl) ?_)
  with_reducible refine HW.out.mono ?_
  rintro e w3 ⟨a3,n3,c3,rfl,hI3,hb3⟩;obtain ⟨w4,hw4⟩:∃ w4,w4=w3.alloc (.cells #[.bool x.l,.string x.s,.slice a3 n3 c3] 168):=⟨_,rfl⟩
  have hb4:Below w3.heap.size w3 w4:=by rw [hw4]; exact al1 _ _
  have hO4:=(HO.out.below hb3).below hb4;have hB4:=bst (bst HB2.out hb3) hb4;have HR4:=hid (HRd.out w4 a3 n3 c3 (ItsIn.weak (hI3.stays hb4) (Nat.zero_le _)));have HO4:=hid hO4;have HB4:=hid hB4;clear hb3 hb4 hI3 hO4 hB4 HW HRd;subst hw4;go_wp2_with fail
  with_reducible refine HR4.out.mono ?_
  rintro e w5 ⟨N,a5,n5,c5,b5,rfl,hr5,hx5,hl5,hb5⟩;have hge5:=hb5.size;have hO5:=HO4.out.below hb5;have hB5:=bst HB4.out hb5;obtain ⟨w6,hw6⟩:∃ w6,w6=w5.alloc (.cells (ndC N a5 n5 c5) 56):=⟨_,rfl⟩
  have HN5:Hid (OwnN (w5.alloc (.cells (ndC nd0 none 0 0) 56)) w5.heap.size nd0 none 0 0):=hid (Rg.Own.new _ _ _);have HN6:Hid (OwnN ((w5.alloc (.cells (ndC nd0 none 0 0) 56)).setRow w5.heap.size (ndC N a5 n5 c5)) w5.heap.size N a5 n5 c5):=hid (own_rowN HN5.out);have hB6:Below w5.heap.size w5 ((w5.alloc (.cells (ndC nd0 none 0 0) 56)).setRow w5.heap.size (ndC N a5 n5 c5)):=below_rowN (al1 _ _) (Nat.le_refl _) _;have HO6:=hid (hO5.below hB6);have HB6:=hid (bst hB5 hB6);have HX6:=hid (hx5.below hB6);have HL5:=hid hl5;have hw0:=HO4.out.1
  clear hO5 hB5 hx5 hl5 hb5 hB6 HR4 HO4 HB4 hw6 w6;rcases hr5 with ⟨rfl,rfl⟩ | ⟨rfl,rfl⟩
  ·have hck:=check_any N a5 n5 c5 HL5.out ((w5.alloc (.cells (ndC nd0 none 0 0) 56)).setRow w5.heap.size (ndC N a5 n5 c5)) HX6.out.1 (HKs.out N rfl).1 (HKs.out N rfl).2;obtain ⟨M,hM⟩:∃ M,mayW refP N=M:=⟨_,rfl⟩
   have HG:Hid (G=if M=true then some N else none):=hid (by rw [HGt.out,← hM]);rw [hM] at hck;have HC:=hid hck;clear hM HGt HKs hck;go_wp2_with (first
    | (refine Rg.run rfl _ _ (run_alloc_nd _ _ _ w5.heap.size rfl rfl) ?_)
    | (refine wpl_store_nd HN5.out rfl N a5 n5 c5 HL5.out rfl _ _ rfl rfl rfl rfl ?_)
    | (refine Rg.runW (by rfl) _ _ (op_load_nd HN6.out HL5.out ?_) ?_; · exact ⟨_,rfl,rfl⟩))
   refine HC.out.mono ?_;rintro e w7 ⟨rfl,hb7⟩;have hs7:=hb7.size;have HN7:=hid (HN6.out.below hb7);have HO7:=hid (HO6.out.below hb7);have HB7:=hid (bst HB6.out hb7);have HX7:=hid (HX6.out.below hb7);clear hb7 HC HO6 HB6 HX6;cases M with
   | true =>
    go_wp2_with (first
     | (refine Rg.run rfl _ _ (op_load_nd HN7.out HL5.out ?_) ?_; · exact ⟨_,rfl,rfl⟩)
     | (refine wpl_store_nd HO7.out rfl N a5 n5 c5 HL5.out rfl _ _ rfl rfl rfl rfl ?_))
    exact bodyPost_ret (res_nd1 rfl _ rfl (own_rowN HO7.out) HL5.out) rfl ⟨N,a5,n5,c5,0,rfl,.inl ⟨rfl,HG.out⟩,(HX7.out.row (by omega) _).weak (by omega),HL5.out,below_rowN HB7.out (Nat.le_refl _) _⟩
   | false =>
    go_wp2_with (first
     | (refine Rg.run rfl _ _ (op_build built0 ?_) ?_; · exact ⟨_,rfl,rfl⟩)
     | (refine wpl_store_nd HO7.out rfl nd0 none 0 0 rfl rfl _ _ rfl rfl rfl rfl ?_))
    exact bodyPost_ret (res_nd1 rfl _ rfl (own_rowN HO7.out) rfl) rfl ⟨nd0,none,0,0,6,rfl,.inr ⟨by decide,rfl,HG.out⟩,BsF.nil _ _,rfl,below_rowN HB7.out (Nat.le_refl _) _⟩
  ·have HG:Hid (G=none):=HGt;go_wp2_with (first
    | (refine Rg.run rfl _ _ (run_alloc_nd _ _ _ w5.heap.size rfl rfl) ?_)
    | (refine wpl_store_nd HN5.out rfl N a5 n5 c5 HL5.out rfl _ _ rfl rfl rfl rfl ?_)
    | (refine Rg.run rfl _ _ (op_build built0 ?_) ?_; · exact ⟨_,rfl,rfl⟩)
    | (refine wpl_store_nd HO6.out rfl nd0 none 0 0 rfl rfl _ _ rfl rfl rfl rfl ?_))
   exact bodyPost_ret (res_nd1 rfl _ rfl (own_rowN HO6.out) rfl) rfl ⟨nd0,none,0,0,6,rfl,.inr ⟨by decide,rfl,HG.out⟩,BsF.nil _ _,rfl,below_rowN HB6.out (Nat.le_refl _) _⟩
theorem get_upto (N:Nat) (hN:N≤1000000):∀ s:ByteArray,s.size≤N→GetC s:=by
 induction N using Nat.strongRecOn with
 | ind N ih=>exact fun s hs=>get_step s (by omega) (fun k _ hk=>ih k.size (by omega) (by omega) k (Nat.le_refl _))
theorem nget_any (s:ByteArray) (hs:s.size≤1000000):GetC s:=get_upto s.size hs s (Nat.le_refl _)
theorem ref_any (k:ByteArray) (hk:k.size≤9223372036854775807):RefC k:=ref_of k hk (fun h=>nget_any k (by omega))
end No
end
section
open Go.RowKit
namespace Rf
open Rl Ni No
end Rf
end
section
open Go.RowKit
namespace Rf
open Rl Ni No Sh Sm
theorem str_eq (a b:ByteArray):(a.toList==b.toList)=decide (a=b):=by
 by_cases h:a=b
 ·subst h; simp
 ·rw [decide_eq_false h,beq_eq_false_iff_ne];intro e;apply h;rw [ByteArray.toList_eq,ByteArray.toList_eq] at e;apply ByteArray.ext;exact Array.ext' e
def ofP (s:ByteArray):ByteArray:=if s.size<32 then s else ⟨(sumB s).toArray⟩
theorem sum_of (s:ByteArray) (hs:s.size≤900000) (w:World) (hT:Tab w):Calls Tryz.prog 90 #[.string s] w fun e w'=>e = .returned (.agg (kc (sumB s)))∧Below w.heap.size w w':=Sm.of_any s hs w hT
theorem fof_any (s:ByteArray) (hs:s.size≤900000) (w:World) (hT:Tab w) :
  Calls Tryz.prog 55 #[.string s] w fun e w'=>e = .returned (.string (ofP s))∧Below w.heap.size w w':=by
 by_cases h:s.size<32
 ·have HF:Hid (ofP s=s):=hid (by unfold ofP; rw [if_pos h]);have hd:decide ((s.size:Int)<32)=true:=by simp; omega
  rw [HF.out];clear hT HF;go_enter Tryz.func55,Tryz.ntmps55;go_wp2;go_ret;exact ⟨rfl,Below.refl _ _⟩
 ·have HF:Hid (ofP s=⟨(sumB s).toArray⟩):=hid (by unfold ofP; rw [if_neg h]);have hd:decide ((s.size:Int)<32)=false:=by simp; omega
  have HOf:=hid (sum_of s hs w hT);have HTx:=hid (fun W=>Sm.text_any (sumB s) (sumB_length s) W);rw [HF.out];obtain ⟨K,hK⟩:∃ K,sumB s=K:=⟨_,rfl⟩
  rw [hK] at HOf HTx;rw [hK];obtain ⟨T,hTT⟩:∃ T,(⟨K.toArray⟩:ByteArray)=T:=⟨_,rfl⟩
  rw [hTT] at HTx;rw [hTT];clear hT HF hK hTT;go_enter Tryz.func55,Tryz.ntmps55;go_wp2_with fail
  refine HOf.out.mono ?_;rintro e w1 ⟨rfl,hb1⟩;go_wp2_with fail
  refine (HTx.out _).mono ?_;rintro e w2 ⟨rfl,hb2⟩;go_wp2;go_ret;exact ⟨rfl,bst hb1 hb2⟩
end Rf
end
section
open Go.RowKit
namespace No
open Rl Ni
def refI (k:ByteArray):It:=if plainB k then .mk false k [] else match wholeL k.data.toList with
 | .ok x=>x
 | .error _=>it0
abbrev pathI (n:Nd):It:=.mk false ⟨(packL n.p (decide (n.kd=1))).toArray⟩ []
def itemsP (n:Nd):List It:=if n.kd=3 then n.ks.map refI++[it0] else if n.kd=1 then [pathI n,.mk false n.v []] else [pathI n,refI (n.ks.getD 0 eB)]
def itemP (n:Nd):It:=.mk true ⟨#[]⟩ (itemsP n)
def putP (n:Nd):List UInt8:=(itemP n).bytes
theorem fits_by_len (x:It):∀ {d e:Nat},Fits d x→e+x.bytes.length≤65→Fits e x:=by
 induction x using It.ind with
 | h l s xs ih =>
  intro d e h he;have hb:=bytes_pos h (by omega);have hb1:=List.length_pos_iff.2 hb;have hless:∀ y∈xs,y.bytes.length<(It.mk l s xs).bytes.length:=fun y hy=>in_less h (by omega) hy;cases h with
  | mk ha hs hx hy=>exact .mk (by omega) hs hx (fun y hm=>ih y hm (hy y hm) (by have:=hless y hm; omega))
theorem sizes_le (xs:List It) (h:∀ y∈xs,y.size≤y.bytes.length):(xs.map It.size).sum≤((xs.map It.bytes).flatten).length:=by
 induction xs with
 | nil=>exact Nat.le_refl _
 | cons y ys ih =>
  rw [List.map_cons,List.sum_cons,List.map_cons,List.flatten_cons,List.length_append];have h1:=h y (List.mem_cons_self ..);have h2:=ih (fun z hz=>h z (List.mem_cons_of_mem _ hz));omega
theorem size_le_bytes (x:It):∀ {d:Nat},Fits d x→x.bytes.length≤4294967296→x.size≤x.bytes.length:=by
 induction x using It.ind with
 | h l s xs ih =>
  intro d h hb;have hp:=List.length_pos_iff.2 (bytes_pos h hb);have hless:∀ y∈xs,y.bytes.length<(It.mk l s xs).bytes.length:=fun y hy=>in_less h hb hy;have hle:=sizes_le xs (fun y hy=>ih y hy (fits_in h hy) (by have:=hless y hy; omega));rw [It.size_mk];cases l with
  | true =>
   have h1:=bytes_len h hb rfl;have h2:=headL_length (((It.mk true s xs).xs.map It.bytes).flatten).length true;simp only [It.xs] at h1 h2;omega
  | false =>
   cases h with
   | mk ha hs hx hy =>
    rw [hx rfl] at hp ⊢;rw [List.map_nil,List.sum_nil];exact hp
theorem whole_bytes {x:It} (h:Fits 0 x) (hb:x.bytes.length≤4294967296) (hk:x.size≤4096):wholeL x.bytes = .ok x:=by
 have:=forth x 0 0 [] h hb (by omega);rw [List.append_nil] at this;unfold wholeL;rw [this];dsimp only;rw [if_neg (by omega)]
theorem text_fits (d:Nat) (hd:d≤64) (s:ByteArray):Fits d (.mk false s []):=.mk hd (fun e=>by cases e) (fun _=>rfl) (fun y hy=>by cases hy)
theorem text_len (s:ByteArray) (h:s.size≤4294967296):(It.mk false s []).bytes.length≤9+s.size:=by
 rw [bytes_text s h,List.length_append,len_s];have:=headL_le s.size false (by omega);split
 ·simp
 ·omega
theorem ref_list {k:ByteArray} (hp:plainB k=false) (h:refP k=true):∃ x n,wholeL k.data.toList = .ok x∧refI k=x∧x.l=true∧readP x.xs=some n∧k.size<32∧x.bytes=k.data.toList∧Fits 0 x∧mayW refP n=true:=by
 unfold refP at h;rw [hp,Bool.false_or,Bool.and_eq_true] at h;have h32:k.size<32:=of_decide_eq_true h.1;obtain ⟨n,hn⟩:=Option.isSome_iff_exists.1 h.2;have hsl:=len_s k;obtain ⟨x,hw,hr,hm⟩:=getP_some (by omega) hn;obtain ⟨g1,g2,g3⟩:=whole_back (by omega) hw;refine ⟨x,n,hw,?_,?_,hr,h32,g1,g2,hm⟩
 ·unfold refI;rw [hp,hw];rfl
 ·refine has_list g2 (fun e=>?_);rw [e] at hr;cases hr
theorem refI_plain {k:ByteArray} (hp:plainB k=true):refI k = .mk false k []:=by
 unfold refI;rw [hp];rfl
theorem plain_size {k:ByteArray} (hp:plainB k=true):k.size=0∨k.size=32:=of_decide_eq_true hp
theorem refI_fits {k:ByteArray} (h:refP k=true):Fits 1 (refI k)∧(refI k).bytes.length≤41:=by
 cases hp:plainB k with
 | true =>
  rw [refI_plain hp];have:=plain_size hp;have h2:=text_len k (by omega);exact ⟨text_fits 1 (by omega) k,by omega⟩
 | false =>
  obtain ⟨x,n,hw,e,hl,hr,h32,hb,hf,_⟩:=ref_list hp h;have hsl:=len_s k;rw [e];exact ⟨fits_by_len x hf (by rw [hb]; omega),by rw [hb]; omega⟩
theorem kidP_refI {k:ByteArray} (h:refP k=true):kidP (refI k)=some k:=by
 cases hp:plainB k with
 | true =>
  rw [refI_plain hp];show (if plainB k then some k else none)=some k;rw [hp];rfl
 | false =>
  obtain ⟨x,n,hw,e,hl,hr,h32,hb,hf,_⟩:=ref_list hp h;have hsl:=len_s k;rw [e];unfold kidP;rw [hl,if_pos rfl,if_pos (by rw [hb]; omega),hb]
theorem flat_le (xs:List It) (m:Nat) (h:∀ y∈xs,y.bytes.length≤m):((xs.map It.bytes).flatten).length≤xs.length*m:=by
 induction xs with
 | nil=>simp
 | cons y ys ih =>
  rw [List.map_cons,List.flatten_cons,List.length_append,List.length_cons,Nat.succ_mul];have h1:=h y (List.mem_cons_self ..);have h2:=ih (fun z hz=>h z (List.mem_cons_of_mem _ hz));omega
theorem may_parts {n:Nd} (h:mayW refP n=true):n.p.length≤64∧rightB n.p=true∧fitsW refP n=true:=by
 unfold mayW at h;rw [Bool.and_eq_true,Bool.and_eq_true] at h;exact ⟨of_decide_eq_true h.1.1,h.1.2,h.2⟩
theorem kids_all {ks:List ByteArray} (h:(kidsL ks).all refP=true):∀ k∈ks,refP k=true:=by
 intro k hk;by_cases hz:k.size=0
 ·unfold refP plainB;simp [hz]
 ·exact List.all_eq_true.1 h k (List.mem_filter.2 ⟨hk,by simp; intro e; rw [e] at hz; exact hz rfl⟩)
theorem may_kinds {n:Nd} (_hl:n.ks.length=16) (h:mayW refP n=true) :
  n.kd=1∧n.v.size≠0∧n.v.size≤65552∧(kidsL n.ks).length=0∨n.kd=2∧0<n.p.length∧n.v.size=0∧(kidsL n.ks).length=1∧(n.ks.getD 0 eB).size≠0∧refP (n.ks.getD 0 eB)=true∨n.kd=3∧n.p=[]∧n.v.size=0∧2≤(kidsL n.ks).length∧∀ k∈n.ks,refP k=true:=by
 obtain ⟨_,_,h⟩:=may_parts h;unfold fitsW at h;by_cases h1:n.kd=1
 ·rw [if_pos h1] at h;simp only [Bool.and_eq_true,decide_eq_true_eq] at h;exact .inl ⟨h1,h.1.1,h.1.2,h.2⟩
 ·rw [if_neg h1] at h;by_cases h2:n.kd=2
  ·rw [if_pos h2] at h;simp only [Bool.and_eq_true,decide_eq_true_eq] at h;exact .inr (.inl ⟨h2,h.1.1.1.1,h.1.1.1.2,h.1.1.2,h.1.2,h.2⟩)
  ·rw [if_neg h2] at h;by_cases h3:n.kd=3
   ·rw [if_pos h3] at h;simp only [Bool.and_eq_true,decide_eq_true_eq] at h;exact .inr (.inr ⟨h3,List.eq_nil_of_length_eq_zero h.1.1.1,h.1.1.2,h.1.2,kids_all h.2⟩)
   ·rw [if_neg h3] at h; cases h
theorem items_good {n:Nd} (hl:n.ks.length=16) (h:mayW refP n=true):∀ y∈itemsP n,Fits 1 y∧y.bytes.length≤65561:=by
 obtain ⟨g1,g2,g3⟩:=may_parts h;have hpk:Fits 1 (pathI n)∧(pathI n).bytes.length≤65561:=by
  have:=packL_size n.p (decide (n.kd=1));have h2:=text_len ⟨(packL n.p (decide (n.kd=1))).toArray⟩ (by omega);exact ⟨text_fits 1 (by omega) _,Nat.le_trans h2 (by omega)⟩
 rcases may_kinds hl h with ⟨k1,v1,v2,_⟩ | ⟨k1,_,_,_,_,hr⟩ | ⟨k1,_,_,_,hr⟩
 ·unfold itemsP;rw [if_neg (by omega),if_pos k1];intro y hy;rcases List.mem_cons.1 hy with rfl | hy
  ·exact hpk
  ·rcases List.mem_cons.1 hy with rfl | hy
   ·have h2:=text_len n.v (by omega);exact ⟨text_fits 1 (by omega) _,by omega⟩
   ·cases hy
 ·unfold itemsP;rw [if_neg (by omega),if_neg (by omega)];intro y hy;rcases List.mem_cons.1 hy with rfl | hy
  ·exact hpk
  ·rcases List.mem_cons.1 hy with rfl | hy
   ·have:=refI_fits hr;exact ⟨this.1,by omega⟩
   ·cases hy
 ·unfold itemsP;rw [if_pos k1];intro y hy;rcases List.mem_append.1 hy with hy | hy
  ·obtain ⟨k,hk,rfl⟩:=List.mem_map.1 hy;have:=refI_fits (hr k hk);exact ⟨this.1,by omega⟩
  ·rcases List.mem_cons.1 hy with rfl | hy
   ·have h2:=text_len eB (by decide);refine ⟨text_fits 1 (by omega) _,?_⟩;have:eB.size=0:=rfl;show (It.mk false eB []).bytes.length≤_;omega
   ·cases hy
theorem items_few {n:Nd} (hl:n.ks.length=16):(itemsP n).length≤17:=by
 unfold itemsP;split
 ·simp [hl]
 ·split <;> simp
theorem item_fits {n:Nd} (hl:n.ks.length=16) (h:mayW refP n=true):Fits 0 (itemP n)∧(itemP n).bytes.length≤1200000∧(itemP n).size≤4096∧(putP n).length=(itemP n).bytes.length:=by
 have hg:=items_good hl h;have hf:Fits 0 (itemP n):=.mk (by omega) (fun _=>rfl) (fun e=>by cases e) (fun y hy=>(hg y hy).1);have hfew:=items_few hl;have hlen:=flat_le (itemsP n) 65561 (fun y hy=>(hg y hy).2);have hm:(itemsP n).length*65561≤17*65561:=Nat.mul_le_mul_right _ hfew;have hb:(itemP n).bytes.length≤1200000:=by
  unfold itemP;rw [bytes_list _ (by omega),List.length_append];have:=headL_le ((itemsP n).map It.bytes).flatten.length true (by omega);omega
 refine ⟨hf,hb,?_,rfl⟩;unfold itemP;rw [It.size_mk];have:∀ y∈itemsP n,y.size≤200:=by
  obtain ⟨g1,g2,g3⟩:=may_parts h;rcases may_kinds hl h with ⟨k1,v1,v2,_⟩ | ⟨k1,_,_,_,_,hr⟩ | ⟨k1,_,_,_,hr⟩
  ·unfold itemsP;rw [if_neg (by omega),if_pos k1];intro y hy;rcases List.mem_cons.1 hy with rfl | hy
   ·rw [It.size_mk]; simp
   ·rcases List.mem_cons.1 hy with rfl | hy
    ·rw [It.size_mk]; simp
    ·cases hy
  ·unfold itemsP;rw [if_neg (by omega),if_neg (by omega)];intro y hy;rcases List.mem_cons.1 hy with rfl | hy
   ·rw [It.size_mk]; simp
   ·rcases List.mem_cons.1 hy with rfl | hy
    ·have:=refI_fits hr;have:=size_le_bytes _ this.1 (by omega);omega
    ·cases hy
  ·unfold itemsP;rw [if_pos k1];intro y hy;rcases List.mem_append.1 hy with hy | hy
   ·obtain ⟨k,hk,rfl⟩:=List.mem_map.1 hy;have:=refI_fits (hr k hk);have:=size_le_bytes _ this.1 (by omega);omega
   ·rcases List.mem_cons.1 hy with rfl | hy
    ·unfold it0; rw [It.size_mk]; simp
    ·cases hy
 have hs:((itemsP n).map It.size).sum≤(itemsP n).length*200:=by
  generalize itemsP n=l at this
  induction l with
  | nil=>simp
  | cons y ys ih =>
   rw [List.map_cons,List.sum_cons,List.length_cons,Nat.succ_mul];have h1:=this y (List.mem_cons_self ..);have h2:=ih (fun z hz=>this z (List.mem_cons_of_mem _ hz));omega
 have:(itemsP n).length*200≤17*200:=Nat.mul_le_mul_right _ hfew;omega
theorem kidsL_nil {ks:List ByteArray} (h:(kidsL ks).length=0):ks=List.replicate ks.length eB:=by
 induction ks with
 | nil=>rfl
 | cons k ks ih =>
  unfold kidsL at h;rw [List.filter_cons] at h;split at h
  ·cases h
  ·rename_i hz;simp at hz;rw [List.length_cons,List.replicate_succ,← ih h];congr 1
theorem kids_one {ks:List ByteArray} (hl:ks.length=16) (h:(kidsL ks).length=1) (h0:(ks.getD 0 eB).size≠0):ks=one16 (ks.getD 0 eB):=by
 cases ks with
 | nil=>cases hl
 | cons k ks =>
  have h0':k.size≠0:=h0;unfold kidsL at h;rw [List.filter_cons,if_pos (by simp; intro e; rw [e] at h0'; exact h0' rfl),List.length_cons] at h;have:=kidsL_nil (ks:=ks) (by unfold kidsL; omega);unfold one16;rw [List.length_cons] at hl;rw [show ks.length=15 by omega] at this;rw [this];rfl
theorem allK_map {ks:List ByteArray} (h:∀ k∈ks,refP k=true):allK (ks.map refI)=some ks:=by
 induction ks with
 | nil=>rfl
 | cons k ks ih =>
  rw [List.map_cons];unfold allK;rw [kidP_refI (h k (List.mem_cons_self ..)),ih (fun z hz=>h z (List.mem_cons_of_mem _ hz))]
theorem read_items {n:Nd} (hl:n.ks.length=16) (h:mayW refP n=true):readP (itemsP n)=some n:=by
 obtain ⟨g1,g2,g3⟩:=may_parts h;have hsz:=packL_size n.p (decide (n.kd=1));have hgood:=pack_good n.p (decide (n.kd=1)) g2 g1;have hleaf:=pack_leaf n.p (decide (n.kd=1)) g2;have hpath:=pack_path n.p (decide (n.kd=1)) g2;obtain ⟨S,hS⟩:∃ S,(⟨(packL n.p (decide (n.kd=1))).toArray⟩:ByteArray)=S:=⟨_,rfl⟩
 have hpi:pathI n = .mk false S []:=by unfold pathI; rw [hS]
 rw [hS] at hsz hgood hleaf hpath;rcases may_kinds hl h with ⟨k1,v1,v2,hk⟩ | ⟨k1,hp0,hv,hk,hk0,hr⟩ | ⟨k1,hp,hv,hk,hr⟩
 ·have hI:itemsP n=[.mk false S [],.mk false n.v []]:=by unfold itemsP; rw [if_neg (by omega),if_pos k1,hpi]
  rw [hI];unfold readP;rw [if_pos (by rfl)];show readPathP (.mk false S []) (.mk false n.v [])=some n;unfold readPathP;rw [if_neg (by
   rintro (e | e)
   ·have e':S.size=0:=e;omega
   ·exact hgood e)]
  show (if leafB S=true then some (⟨1,pathL S,n.v,zks⟩:Nd) else _)=some n;rw [hleaf,hpath,k1,if_pos (by decide)];have:=kidsL_nil hk;rw [hl] at this;cases n;simp only at k1 this ⊢;rw [k1,this];rfl
 ·have hI:itemsP n=[.mk false S [],refI (n.ks.getD 0 eB)]:=by unfold itemsP; rw [if_neg (by omega),if_neg (by omega),hpi]
  rw [hI];unfold readP;rw [if_pos (by rfl)];show readPathP (.mk false S []) (refI (n.ks.getD 0 eB))=some n;unfold readPathP;rw [if_neg (by
   rintro (e | e)
   ·have e':S.size=0:=e;omega
   ·exact hgood e)]
  show (if leafB S=true then _ else (kidP (refI (n.ks.getD 0 eB))).map fun k=>(⟨2,pathL S,eB,one16 k⟩:Nd))=some n;rw [hleaf,hpath,k1,if_neg (by decide),kidP_refI hr,Option.map_some,← kids_one hl hk hk0];have hve:=size_zero hv;cases n;simp only at k1 hve ⊢;rw [k1,hve]
 ·have hI:itemsP n=n.ks.map refI++[it0]:=by unfold itemsP; rw [if_pos k1]
  rw [hI];unfold readP;have hlen:(n.ks.map refI++[it0]).length=17:=by simp [hl]
  rw [if_neg (by omega),if_pos hlen];unfold readBranchP;rw [List.take_append_of_le_length (by simp [hl]),List.take_of_length_le (by simp [hl]),allK_map hr];have e16:(n.ks.map refI++[it0]).getD 16 it0=it0:=by
   rw [List.getD_eq_getElem?_getD,List.getElem?_append_right (by simp [hl])];simp [hl]
  rw [e16];dsimp only;rw [if_pos ⟨rfl,rfl⟩];have hve:=size_zero hv;cases n;simp only at k1 hve hp ⊢;rw [k1,hve,hp]
theorem get_put {n:Nd} (hl:n.ks.length=16) (h:mayW refP n=true):getP (putP n)=some n:=by
 obtain ⟨f1,f2,f3,_⟩:=item_fits hl h;unfold putP;rw [getP_eq _ (by omega),whole_bytes f1 (by omega) f3];dsimp only;rw [show (itemP n).xs=itemsP n from rfl,read_items hl h];dsimp only;rw [h];rfl
end No
end
section
namespace Tr
open Rf Rl Ni No
def encN (n:Nd):ByteArray:=⟨(putP n).toArray⟩
def kids16 (f:Fin 16→ByteArray):List ByteArray:=(List.finRange 16).map f
def ref:T→ByteArray
 | .nil=>eB
 | .leaf p v=>ofP (encN ⟨1,p,v,zks⟩)
 | .ext q t=>ofP (encN ⟨2,q,eB,one16 (ref t)⟩)
 | .br ks=>ofP (encN ⟨3,[],eB,kids16 fun i=>ref (ks i)⟩)
 | .stub r=>r
def nodeT:T→Nd
 | .nil=>nd0
 | .leaf p v=>⟨1,p,v,zks⟩
 | .ext q t=>⟨2,q,eB,one16 (ref t)⟩
 | .br ks=>⟨3,[],eB,kids16 fun i=>ref (ks i)⟩
 | .stub _=>nd0
def encT:T→ByteArray
 | .nil=>eB
 | .stub _=>eB
 | t=>encN (nodeT t)
def IsStub:T→Prop
 | .stub _=>True
 | _=>False
theorem ref_enc {t:T} (h:¬ IsStub t):ref t=ofP (encT t):=by
 cases t with
 | stub r=>exact absurd trivial h
 | nil=>rfl
 | leaf p v=>rfl
 | ext q t=>rfl
 | br ks=>rfl
theorem full_stub {t:T} (h:Full t):¬ IsStub t:=by
 cases t with
 | stub r=>exact h.elim
 | _=>exact id
theorem kids16_length (f:Fin 16→ByteArray):(kids16 f).length=16:=by simp [kids16]
theorem nodeT_length (t:T):(nodeT t).ks.length=16:=by
 cases t with
 | nil=>rfl
 | leaf p v=>rfl
 | ext q t=>exact one16_length _
 | br ks=>exact kids16_length _
 | stub r=>rfl
theorem right_of {p:Pa} (h:Nib p):rightB p=true:=by
 unfold rightB;rw [List.all_eq_true];intro c hc;have:=h c hc;exact decide_eq_true (by omega)
def Fine:T→Prop
 | .nil=>True
 | .leaf _ v=>v.size≠0∧v.size≤65552
 | .ext _ t=>Fine t
 | .br ks=>∀ i,Fine (ks i)
 | .stub r=>refP r=true∧r.size≠0
theorem encN_size (n:Nd):(encN n).size=(putP n).length:=by
 show (putP n).toArray.size=_;simp
theorem encN_list (n:Nd):(encN n).data.toList=putP n:=by
 show (putP n).toArray.toList=_;simp
theorem put_pos {n:Nd} (hl:n.ks.length=16) (h:mayW refP n=true):0<(putP n).length:=by
 have:=No.get_put hl h;rcases Nat.eq_zero_or_pos (putP n).length with h0 | h0
 ·have:=got_own (s:=putP n) (by omega) this;omega
 ·exact h0
theorem ref_may {n:Nd} (hl:n.ks.length=16) (h:mayW refP n=true):refP (ofP (encN n))=true∧(ofP (encN n)).size≠0:=by
 have hp:=put_pos hl h;have hs:=encN_size n;unfold ofP;by_cases h32:(encN n).size<32
 ·rw [if_pos h32];refine ⟨?_,by omega⟩;unfold refP;rw [encN_list,No.get_put hl h,decide_eq_true h32];simp
 ·rw [if_neg h32];have hz:(⟨(sumB (encN n)).toArray⟩:ByteArray).size=32:=by
   have:(⟨(sumB (encN n)).toArray⟩:ByteArray).size=(sumB (encN n)).length:=by show (sumB (encN n)).toArray.size=_; simp
   rw [this,sumB_length]
  refine ⟨?_,by omega⟩;unfold refP;rw [show plainB _=true from decide_eq_true (.inr hz)];rfl
theorem kidsL_zks:(kidsL zks).length=0:=by decide +kernel
theorem kidsL_one {k:ByteArray} (h:k.size≠0):kidsL (one16 k)=[k]:=by
 have hz:kidsL (List.replicate 15 eB)=[]:=by decide +kernel
 have:kidsL (k::List.replicate 15 eB)=k::kidsL (List.replicate 15 eB):=by
  unfold kidsL;rw [List.filter_cons_of_pos (by simpa using h)]
 show kidsL (k::List.replicate 15 eB)=_;rw [this,hz]
theorem kidsL_two {f:Fin 16→ByteArray} {i j:Fin 16} (hij:i≠j) (hi:(f i).size≠0) (hj:(f j).size≠0):2≤(kidsL (kids16 f)).length:=by
 unfold kidsL kids16;rw [List.filter_map,List.length_map];have hnd:((List.finRange 16).filter ((fun k:ByteArray=>decide (k.size≠0)) ∘ f)).Nodup:=(List.nodup_finRange 16).filter _;have mi:i∈(List.finRange 16).filter ((fun k:ByteArray=>decide (k.size≠0)) ∘ f):=List.mem_filter.2 ⟨List.mem_finRange i,decide_eq_true hi⟩;have mj:j∈(List.finRange 16).filter ((fun k:ByteArray=>decide (k.size≠0)) ∘ f):=List.mem_filter.2 ⟨List.mem_finRange j,decide_eq_true hj⟩
 match hk:(List.finRange 16).filter ((fun k:ByteArray=>decide (k.size≠0)) ∘ f) with
 | []=>rw [hk] at mi; cases mi
 | [a] =>
  rw [hk] at mi mj;exact absurd ((List.mem_singleton.1 mi).trans (List.mem_singleton.1 mj).symm) hij
 | a::b::l=>simp
theorem kidsL_all {f:Fin 16→ByteArray} {R:ByteArray→Bool} (h:∀ i,(f i).size≠0→R (f i)=true):(kidsL (kids16 f)).all R=true:=by
 rw [List.all_eq_true];intro k hk;obtain ⟨h1,h2⟩:=List.mem_filter.1 hk;obtain ⟨i,_,rfl⟩:=List.mem_map.1 h1;exact h i (of_decide_eq_true h2)
theorem may_tree:∀ (t:T) (L:Nat),Good t L→L≤64→Fine t→t ≠ .nil→(¬ IsStub t→mayW refP (nodeT t)=true)∧refP (ref t)=true∧(ref t).size≠0
 | .nil,_,_,_,_,h=>absurd rfl h
 | .leaf p v,L,g,hL,hf,_=>by
  have hm:mayW refP ⟨1,p,v,zks⟩=true:=by
   unfold mayW fitsW;rw [decide_eq_true (show (⟨1,p,v,zks⟩:Nd).p.length≤64 from by show p.length≤64; rw [g.1]; exact hL),right_of (show Nib (⟨1,p,v,zks⟩:Nd).p from g.2),if_pos rfl,
    decide_eq_true (show (⟨1,p,v,zks⟩:Nd).v.size≠0 from hf.1),decide_eq_true (show (⟨1,p,v,zks⟩:Nd).v.size≤65552 from hf.2),decide_eq_true (show (kidsL (⟨1,p,v,zks⟩:Nd).ks).length=0 from kidsL_zks)]
   rfl
  exact ⟨fun _=>hm,ref_may rfl hm⟩
 | .ext q t,L,g,hL,hf,_=>by
  obtain ⟨g1,g2,g3,g4,g5⟩:=g;obtain ⟨_,h2,h3⟩:=may_tree t _ g5 (by omega) hf (isBr_ne g4);have hm:mayW refP ⟨2,q,eB,one16 (ref t)⟩=true:=by
   unfold mayW fitsW;rw [decide_eq_true (show (⟨2,q,eB,one16 (ref t)⟩:Nd).p.length≤64 from by show q.length≤64; omega),right_of (show Nib (⟨2,q,eB,one16 (ref t)⟩:Nd).p from g2),if_neg (show ¬ (⟨2,q,eB,one16 (ref t)⟩:Nd).kd=1 by show ¬ ((2:Int)=1); decide),if_pos rfl,
    decide_eq_true (show 0<(⟨2,q,eB,one16 (ref t)⟩:Nd).p.length from List.length_pos_iff.2 g1),decide_eq_true (show (⟨2,q,eB,one16 (ref t)⟩:Nd).v.size=0 from rfl),
    decide_eq_true (show (kidsL (⟨2,q,eB,one16 (ref t)⟩:Nd).ks).length=1 from by show (kidsL (one16 (ref t))).length=1; rw [kidsL_one h3]; rfl),
    decide_eq_true (show ((⟨2,q,eB,one16 (ref t)⟩:Nd).ks.getD 0 eB).size≠0 from h3),show refP ((⟨2,q,eB,one16 (ref t)⟩:Nd).ks.getD 0 eB)=true from h2]
   rfl
  exact ⟨fun _=>hm,ref_may (one16_length _) hm⟩
 | .br ks,L,g,hL,hf,_=>by
  obtain ⟨g1,⟨i,j,hij,hi,hj⟩,g3⟩:=g;have hk:∀ i,(ref (ks i)).size≠0→refP (ref (ks i))=true:=fun i h=>by
   refine (may_tree (ks i) _ (g3 i) (by omega) (hf i) (fun e=>h ?_)).2.1;rw [e]; rfl
  have hm:mayW refP ⟨3,[],eB,kids16 fun i=>ref (ks i)⟩=true:=by
   unfold mayW fitsW;rw [decide_eq_true (show (⟨3,[],eB,kids16 fun i=>ref (ks i)⟩:Nd).p.length≤64 from Nat.zero_le _),right_of (show Nib (⟨3,[],eB,kids16 fun i=>ref (ks i)⟩:Nd).p from .nil),if_neg (show ¬ (⟨3,[],eB,kids16 fun i=>ref (ks i)⟩:Nd).kd=1 by show ¬ ((3:Int)=1); decide),if_neg (show ¬ (⟨3,[],eB,kids16 fun i=>ref (ks i)⟩:Nd).kd=2 by show ¬ ((3:Int)=2); decide),if_pos rfl,
    decide_eq_true (show (⟨3,[],eB,kids16 fun i=>ref (ks i)⟩:Nd).p.length=0 from rfl),decide_eq_true (show (⟨3,[],eB,kids16 fun i=>ref (ks i)⟩:Nd).v.size=0 from rfl),
    decide_eq_true (show 2≤(kidsL (⟨3,[],eB,kids16 fun i=>ref (ks i)⟩:Nd).ks).length from kidsL_two (f:=fun i=>ref (ks i)) hij (may_tree (ks i) _ (g3 i) (by omega) (hf i) hi).2.2 (may_tree (ks j) _ (g3 j) (by omega) (hf j) hj).2.2),
    show (kidsL (⟨3,[],eB,kids16 fun i=>ref (ks i)⟩:Nd).ks).all refP=true from kidsL_all hk]
   rfl
  exact ⟨fun _=>hm,ref_may (kids16_length _) hm⟩
 | .stub r,_,_,_,hf,_=>⟨fun h=>absurd trivial h,hf⟩
theorem fine_wrap {s:Pa} {t:T} (h:Fine t):Fine (wrap s t):=by
 unfold wrap;split
 ·exact h
 ·exact h
theorem fine_two {i j:Fin 16} {a b:T} (ha:Fine a) (hb:Fine b):Fine (two i j a b):=fun k=>by
 dsimp only;split
 ·exact ha
 ·split
  ·exact hb
  ·trivial
theorem fine_put:∀ (t:T),Fine t→∀ (p:Pa) (v:ByteArray),v.size≠0→v.size≤65552→Fine (put t p v)
 | .nil,_,_,v,h1,h2=>⟨h1,h2⟩
 | .leaf q u,f,p,v,h1,h2=>by
  unfold put;split
  ·exact ⟨h1,h2⟩
  ·unfold fork; exact fine_wrap (fine_two f ⟨h1,h2⟩)
 | .ext q t,f,p,v,h1,h2=>by
  unfold put;split
  ·exact fine_put t f _ v h1 h2
  ·unfold fork; exact fine_wrap (fine_two (fine_wrap f) ⟨h1,h2⟩)
 | .br ks,f,p,v,h1,h2=>by
  cases p with
  | nil=>exact f
  | cons c r =>
   intro k;dsimp only;split
   ·exact fine_put (ks k) (f k) r v h1 h2
   ·exact f k
 | .stub _,f,_,_,_,_=>f
theorem fine_build:∀ (L:Nat) (l:List In),(∀ x∈l,x.2.size≠0∧x.2.size≤65552)→Fine (build L l):=by
 intro L
 induction L using Nat.strongRecOn with
 | ind L ih =>
  intro l h;have hr:∀ (m:List In) (n:Nat),(∀ x∈m,x.2.size≠0∧x.2.size≤65552)→∀ x∈restL m n,x.2.size≠0∧x.2.size≤65552:=fun m n hm x hx=>by
   obtain ⟨y,hy,rfl⟩:=List.mem_map.1 hx;exact hm y hy
  match l with
  | []=>rw [build]; trivial
  | [x]=>rw [build]; exact h x (by simp)
  | x::y::r =>
   rw [build];split
   ·exact ih _ (by omega) _ (hr _ _ h)
   ·split
    ·exact fun c=>ih _ (by omega) _ (hr _ _ (fun z hz=>h z (mem_begin.1 hz).1))
    ·trivial
end Tr
end
section
namespace Tr
open Rf Rl Ni No
abbrev Key:=List UInt8
abbrev Pair:=Key × ByteArray
def path (k:Key):Pa:=nibsL ⟨k.toArray⟩
theorem path_length (k:Key):(path k).length=2*k.length:=by
 unfold path;rw [nibsL_length];rfl
theorem nib_of_right {p:Pa} (h:rightB p=true):Nib p:=fun c hc=>by
 unfold rightB at h;have:=of_decide_eq_true (List.all_eq_true.1 h c hc);omega
theorem path_nib (k:Key):Nib (path k):=nib_of_right (nibsL_right _)
theorem path_inj {k k':Key} (hl:k.length=k'.length) (h:path k=path k'):k=k':=by
 have h1:=pairs_nibs ⟨k.toArray⟩;have h2:=pairs_nibs ⟨k'.toArray⟩;have e1:(⟨k.toArray⟩:ByteArray).size=k.length:=by show k.toArray.size=_; simp
 have e2:(⟨k'.toArray⟩:ByteArray).size=k'.length:=by show k'.toArray.size=_; simp
 rw [e1] at h1;rw [e2] at h2;unfold path at h;rw [h,hl,h2] at h1;simpa using h1.symm
theorem path_key {p:Pa} (hp:p.length=64) (hn:Nib p):∃ k:Key,k.length=32∧path k=p:=by
 refine ⟨pairsK p 32,pairsK_length _ _,?_⟩;exact nibs_pairs p (right_of hn) 32 (by omega)
structure Has (t:T) (m:Key→Option ByteArray):Prop where
 good:Good t 64
 full:Full t
 fine:Fine t
 get:∀ k:Key,k.length=32→get t (path k)=some (m k)
theorem Has.nil:Has .nil (fun _=>none):=⟨trivial,trivial,trivial,fun _ _=>rfl⟩
theorem Has.put {t:T} {m:Key→Option ByteArray} (h:Has t m) {k:Key} (hk:k.length=32) {v:ByteArray} (h1:v.size≠0) (h2:v.size≤65552):Has (put t (path k) v) (fun x=>if x=k then some v else m x):=by
 have hl:(path k).length=64:=by rw [path_length]; omega
 refine ⟨good_put t 64 h.good _ v hl (path_nib k),full_put t h.full _ v,fine_put t h.fine _ v h1 h2,fun x hx=>?_⟩;rw [Tr.get_put t 64 h.good _ v hl (path_nib k) (by rw [h.get k hk]; intro e; cases e) (path x) (by rw [path_length]; omega) (path_nib x),h.get x hx];by_cases e:x=k
 ·subst e; rw [if_pos rfl,if_pos rfl]
 ·rw [if_neg e,if_neg (fun h=>e (path_inj (by omega) h))]
theorem Has.congr {t:T} {m m':Key→Option ByteArray} (h:Has t m) (e:∀ k:Key,k.length=32→m k=m' k):Has t m':=⟨h.good,h.full,h.fine,fun k hk=>by rw [h.get k hk,e k hk]⟩
theorem Has.one {t t':T} {m:Key→Option ByteArray} (h:Has t m) (g:Has t' m):t=t' :=
 uniq t t' 64 h.good h.full g.good g.full (fun p h1 h2=>by
  obtain ⟨k,hk,rfl⟩:=path_key h1 h2;rw [h.get k hk,g.get k hk])
def insL:List Pair→List In
 | []=>[]
 | x::r=>if r.any (fun y=>decide (y.1=x.1)) then insL r else (path x.1,x.2)::insL r
def lastL:List Pair→Key→Option ByteArray
 | [],_=>none
 | x::r,k=>match lastL r k with
  | some v=>some v
  | none=>if x.1=k then some x.2 else none
theorem last_none:∀ {l:List Pair} {k:Key},lastL l k=none↔∀ x∈l,x.1≠k
 | [],_=>by simp [lastL]
 | x::r,k=>by
  unfold lastL;cases h:lastL r k with
  | some v =>
   have h2:¬ ∀ x∈r,x.1≠k:=fun g=>by rw [last_none.2 g] at h; cases h
   constructor
   ·intro e; cases e
   ·intro g; exact absurd (fun y hy=>g y (List.mem_cons_of_mem _ hy)) h2
  | none =>
   have h2:=last_none.1 h;constructor
   ·intro g y hy;rcases List.mem_cons.1 hy with rfl | hy
    ·intro e; simp [e] at g
    ·exact h2 y hy
   ·intro g;have:=g x List.mem_cons_self;simp [this]
theorem mem_ins:∀ {l:List Pair} {y:In},y∈insL l→∃ x∈l,y=(path x.1,x.2)
 | [],_,h=>by cases h
 | x::r,y,h=>by
  unfold insL at h;split at h
  ·obtain ⟨z,hz,e⟩:=mem_ins h;exact ⟨z,List.mem_cons_of_mem _ hz,e⟩
  ·rcases List.mem_cons.1 h with rfl | h
   ·exact ⟨x,List.mem_cons_self,rfl⟩
   ·obtain ⟨z,hz,e⟩:=mem_ins h;exact ⟨z,List.mem_cons_of_mem _ hz,e⟩
theorem ok_ins:∀ {l:List Pair},(∀ x∈l,x.1.length=32)→Ok 64 (insL l)
 | [],_=>⟨fun _ h=>(by cases h),List.Pairwise.nil⟩
 | x::r,h=>by
  have ih:=ok_ins (l:=r) (fun y hy=>h y (List.mem_cons_of_mem _ hy));have hx:=h x List.mem_cons_self;unfold insL;split
  ·exact ih
  ·rename_i hn;refine ⟨fun y hy=>?_,List.pairwise_cons.2 ⟨fun y hy=>?_,ih.2⟩⟩
   ·rcases List.mem_cons.1 hy with rfl | hy
    ·exact ⟨by rw [path_length]; omega,path_nib _⟩
    ·exact ih.1 y hy
   ·obtain ⟨z,hz,rfl⟩:=mem_ins hy;intro e;have:=path_inj (by rw [hx,h z (List.mem_cons_of_mem _ hz)]) e;apply hn;rw [List.any_eq_true];exact ⟨z,hz,by simpa using this.symm⟩
theorem find_ins:∀ {l:List Pair},(∀ x∈l,x.1.length=32)→∀ k:Key,k.length=32→findL (insL l) (path k)=lastL l k
 | [],_,k,_=>rfl
 | x::r,h,k,hk=>by
  have hr:∀ y∈r,y.1.length=32:=fun y hy=>h y (List.mem_cons_of_mem _ hy);have ih:=find_ins hr k hk;have hx:=h x List.mem_cons_self;unfold insL lastL;by_cases e:x.1=k
  ·by_cases hn:r.any (fun y=>decide (y.1=x.1))=true
   ·rw [if_pos hn,ih];cases hl:lastL r k with
    | some v=>rfl
    | none =>
     exfalso;obtain ⟨z,hz,ez⟩:=List.any_eq_true.1 hn;exact last_none.1 hl z hz (by rw [← e]; simpa using ez)
   ·rw [if_neg hn];have hl:lastL r k=none:=last_none.2 (fun y hy e2=>hn (List.any_eq_true.2 ⟨y,hy,by simp [e2,e]⟩));rw [hl];simp [findL,e]
  ·have hp:¬ path x.1=path k:=fun h=>e (path_inj (by omega) h);have hs:(match lastL r k with | some v=>some v | none=>if x.1=k then some x.2 else none)=lastL r k:=by
    cases lastL r k with
    | some v=>rfl
    | none=>simp [e]
   rw [hs,← ih];split
   ·rfl
   ·simp [findL,hp]
theorem fine_ins {l:List Pair} (h:∀ x∈l,x.2.size≠0∧x.2.size≤65552):∀ x∈insL l,x.2.size≠0∧x.2.size≤65552:=fun y hy=>by
 obtain ⟨x,hx,rfl⟩:=mem_ins hy;exact h x hx
theorem has_build {l:List Pair} (h:∀ x∈l,x.1.length=32) (hv:∀ x∈l,x.2.size≠0∧x.2.size≤65552):Has (build 64 (insL l)) (lastL l) :=
 ⟨good_build 64 _ (ok_ins h),build_full 64 _,fine_build 64 _ (fine_ins hv),fun k hk=>by
  rw [get_build 64 _ (ok_ins h) (path k) (by rw [path_length]; omega) (path_nib k),find_ins h k hk]⟩
theorem Has.built {t:T} {l:List Pair} (g:Has t (lastL l)) (h:∀ x∈l,x.1.length=32) (hv:∀ x∈l,x.2.size≠0∧x.2.size≤65552):t=build 64 (insL l):=g.one (has_build h hv)
theorem last_snoc:∀ (l:List Pair) (x:Pair) (k:Key),lastL (l++[x]) k=if k=x.1 then some x.2 else lastL l k
 | [],x,k=>by
  by_cases e:k=x.1
  ·simp [lastL,e]
  ·have:¬ x.1=k:=fun h=>e h.symm;simp [lastL,e,this]
 | y::l,x,k=>by
  show lastL (y::(l++[x])) k=_;have e1:lastL (y::(l++[x])) k=match lastL (l++[x]) k with
   | some v=>some v
   | none=>if y.1=k then some y.2 else none:=rfl
  rw [e1,last_snoc l x k];by_cases e:k=x.1
  ·rw [if_pos e,if_pos e]
  ·rw [if_neg e,if_neg e];rfl
def putAll (t:T) (l:List Pair):T:=l.foldl (fun t x=>put t (path x.1) x.2) t
theorem putAll_snoc (t:T) (l:List Pair) (x:Pair):putAll t (l++[x])=put (putAll t l) (path x.1) x.2:=by
 unfold putAll;rw [List.foldl_append];rfl
theorem has_all:∀ (n:Nat) (l:List Pair),l.length=n→(∀ x∈l,x.1.length=32)→(∀ x∈l,x.2.size≠0∧x.2.size≤65552)→Has (putAll .nil l) (lastL l)
 | 0,l,hl,_,_=>by
  obtain rfl:=List.eq_nil_of_length_eq_zero hl;exact Has.nil
 | n+1,l,hl,h,hv=>by
  have hne:l≠[]:=fun e=>by rw [e] at hl; cases hl
  obtain ⟨r,x,rfl⟩:∃ r x,l=r++[x]:=⟨l.dropLast,l.getLast hne,(List.dropLast_concat_getLast hne).symm⟩
  rw [List.length_append,List.length_singleton] at hl;have ih:=has_all n r (by omega) (fun y hy=>h y (List.mem_append_left _ hy)) (fun y hy=>hv y (List.mem_append_left _ hy));have hx:=h x (by simp);have hvx:=hv x (by simp);rw [putAll_snoc];exact (ih.put hx hvx.1 hvx.2).congr (fun k _=>(last_snoc r x k).symm)
end Tr
end
section
namespace Tr
open Rf Rl Ni No
def kidsT:T→List T
 | .ext _ t=>[t]
 | .br ks=>(kidsOf ks).map ks
 | _=>[]
theorem ref_size {t:T} {L:Nat} (g:Good t L) (hL:L≤64) (f:Fine t):(ref t).size≠0↔t ≠ .nil:=by
 constructor
 ·rintro h rfl; exact h rfl
 ·intro h; exact (may_tree t L g hL f h).2.2
theorem kids16_getD (f:Fin 16→ByteArray) (i:Fin 16):(kids16 f).getD i.val eB=f i:=by
 have hi:=i.isLt;unfold kids16;rw [List.getD_eq_getElem?_getD,List.getElem?_map,List.getElem?_eq_getElem (by simp)];simp
end Tr
end
section
namespace Tr
open Rf Rl Ni No
def nodesT:T→List ByteArray
 | .nil=>[]
 | .leaf p v=>[encT (.leaf p v)]
 | .ext q t=>encT (.ext q t)::nodesT t
 | .br ks=>encT (.br ks)::((List.finRange 16).map fun i=>nodesT (ks i)).flatten
 | .stub _=>[]
def pathsT:T→Pa→List (Pa × ByteArray)
 | .nil,_=>[]
 | .leaf p v,a=>[(a++p,v)]
 | .ext q t,a=>pathsT t (a++q)
 | .br ks,a=>((List.finRange 16).map fun i=>pathsT (ks i) (a++[nibOf i])).flatten
 | .stub _,_=>[]
def ltP:List UInt8→List UInt8→Bool
 | a::p,b::q=>if a=b then ltP p q else decide (a.toNat<b.toNat)
 | _,_=>false
theorem ltP_irrefl:∀ p:List UInt8,ltP p p=false
 | []=>rfl
 | a::p=>by simp [ltP,ltP_irrefl p]
theorem ltP_trans:∀ {p q r:List UInt8},ltP p q=true→ltP q r=true→ltP p r=true
 | [],_,_,h,_=>by simp [ltP] at h
 | _::_,[],_,h,_=>by simp [ltP] at h
 | _::_,_::_,[],_,h=>by simp [ltP] at h
 | a::p,b::q,c::r,h,g=>by
  unfold ltP at h g ⊢;by_cases e1:a=b
  ·subst e1;rw [if_pos rfl] at h;by_cases e2:a=c
   ·subst e2;rw [if_pos rfl] at g ⊢;exact ltP_trans h g
   ·rw [if_neg e2] at g ⊢;exact g
  ·rw [if_neg e1] at h;have h1:=of_decide_eq_true h;by_cases e2:b=c
   ·subst e2;rw [if_neg e1];exact h
   ·rw [if_neg e2] at g;have h2:=of_decide_eq_true g;have:a≠c:=by rintro rfl; omega
    rw [if_neg this];exact decide_eq_true (by omega)
theorem ltP_total:∀ {p q:List UInt8},p.length=q.length→p≠q→ltP p q=true∨ltP q p=true
 | [],[],_,h=>absurd rfl h
 | [],_::_,hl,_=>by simp at hl
 | _::_,[],hl,_=>by simp at hl
 | a::p,b::q,hl,h=>by
  unfold ltP;by_cases e:a=b
  ·subst e;rw [if_pos rfl,if_pos rfl];exact ltP_total (by simpa using hl) (fun k=>h (by rw [k]))
  ·rw [if_neg e,if_neg (fun k=>e k.symm)];have:a.toNat≠b.toNat:=fun k=>e (UInt8.toNat_inj.1 k);rcases Nat.lt_or_ge a.toNat b.toNat with h1 | h1
   ·exact .inl (decide_eq_true h1)
   ·exact .inr (decide_eq_true (by omega))
theorem ltP_append:∀ (a p q:List UInt8),ltP (a++p) (a++q)=ltP p q
 | [],_,_=>rfl
 | c::a,p,q=>by simp [ltP,ltP_append a p q]
theorem ltP_part (a:List UInt8) {x y:UInt8} (h:x.toNat<y.toNat) (p q:List UInt8):ltP (a++x::p) (a++y::q)=true:=by
 rw [ltP_append];have:x≠y:=by rintro rfl; omega
 simp [ltP,this,h]
def Rising {α:Type} (l:List (List UInt8 × α)):Prop:=l.Pairwise fun x y=>ltP x.1 y.1=true
theorem rising_one {α:Type}:∀ {l m:List (List UInt8 × α)},Rising l→Rising m→(∀ x,x∈l↔x∈m)→l=m
 | [],[],_,_,_=>rfl
 | [],y::m,_,_,h=>absurd ((h y).2 List.mem_cons_self) List.not_mem_nil
 | x::l,[],_,_,h=>absurd ((h x).1 List.mem_cons_self) List.not_mem_nil
 | x::l,y::m,h1,h2,h=>by
  obtain ⟨a1,a2⟩:=List.pairwise_cons.1 h1;obtain ⟨b1,b2⟩:=List.pairwise_cons.1 h2;have hxy:x=y:=by
   rcases List.mem_cons.1 ((h x).1 List.mem_cons_self) with e | e
   ·exact e
   ·rcases List.mem_cons.1 ((h y).2 List.mem_cons_self) with e2 | e2
    ·exact e2.symm
    ·have:=ltP_trans (a1 y e2) (b1 x e);rw [ltP_irrefl] at this;cases this
  subst hxy;have:l=m:=rising_one a2 b2 (fun z=>by
   constructor
   ·intro hz;rcases List.mem_cons.1 ((h z).1 (List.mem_cons_of_mem _ hz)) with e | e
    ·have:=a1 z hz;rw [e,ltP_irrefl] at this;cases this
    ·exact e
   ·intro hz;rcases List.mem_cons.1 ((h z).2 (List.mem_cons_of_mem _ hz)) with e | e
    ·have:=b1 z hz;rw [e,ltP_irrefl] at this;cases this
    ·exact e)
  rw [this]
theorem mem_paths:∀ (t:T) (L:Nat) (a:Pa),Good t L→Full t→∀ (p:Pa) (v:ByteArray),(p,v)∈pathsT t a↔∃ r:Pa,p=a++r∧r.length=L∧Nib r∧get t r=some (some v)
 | .nil,L,a,_,_,p,v=>by
  constructor
  ·intro h; cases h
  ·rintro ⟨r,_,_,_,h⟩; cases h
 | .leaf q u,L,a,g,_,p,v=>by
  constructor
  ·intro h;have e:=List.mem_singleton.1 h;obtain ⟨e1,e2⟩:=Prod.mk.inj e;refine ⟨q,e1,g.1,g.2,?_⟩;rw [e2]; simp [get]
  ·rintro ⟨r,h1,h2,h3,h4⟩;have:q=r∧u=v:=by
    simp only [get] at h4;by_cases e:q=r
    ·rw [if_pos e] at h4;exact ⟨e,Option.some.inj (Option.some.inj h4)⟩
    ·rw [if_neg e] at h4; cases h4
   obtain ⟨rfl,rfl⟩:=this;rw [h1];exact List.mem_singleton.2 rfl
 | .ext q t,L,a,g,f,p,v=>by
  obtain ⟨g1,g2,g3,g4,g5⟩:=g;show (p,v)∈pathsT t (a++q)↔_;rw [mem_paths t _ (a++q) g5 f p v];constructor
  ·rintro ⟨r,h1,h2,h3,h4⟩;exact ⟨q++r,by rw [h1,List.append_assoc],by rw [List.length_append]; omega,g2.append h3,by rw [get_ext]; exact h4⟩
  ·rintro ⟨r,h1,h2,h3,h4⟩;by_cases e:q<+:r
   ·obtain ⟨s,rfl⟩:=e;rw [List.length_append] at h2;rw [get_ext] at h4;exact ⟨s,by rw [h1,List.append_assoc],by omega,h3.right,h4⟩
   ·rw [get_ext_not _ e] at h4; cases h4
 | .br ks,L,a,g,f,p,v=>by
  have hL:=g.1;show (p,v)∈((List.finRange 16).map fun i=>pathsT (ks i) (a++[nibOf i])).flatten↔_;rw [List.mem_flatten];constructor
  ·rintro ⟨l,hl,h⟩;obtain ⟨i,_,rfl⟩:=List.mem_map.1 hl;obtain ⟨r,h1,h2,h3,h4⟩:=(mem_paths (ks i) _ _ (g.2.2 i) (f i) p v).1 h;exact ⟨nibOf i::r,by rw [h1]; simp,by rw [List.length_cons]; omega,.cons (nibOf_lt i) h3,by rw [get_br]; exact h4⟩
  ·rintro ⟨r,h1,h2,h3,h4⟩;cases r with
   | nil=>simp at h2; omega
   | cons c s =>
    rw [List.length_cons] at h2;refine ⟨_,List.mem_map.2 ⟨nb c,List.mem_finRange _,rfl⟩,(mem_paths (ks (nb c)) _ _ (g.2.2 _) (f _) p v).2 ⟨s,?_,by omega,h3.tail,h4⟩⟩;rw [h1,of_nb h3.head];simp
 | .stub _,_,_,_,f,_,_=>absurd f id
theorem rising_append {α:Type} {l m:List (List UInt8 × α)} (h1:Rising l) (h2:Rising m) (h:∀ x∈l,∀ y∈m,ltP x.1 y.1=true):Rising (l++m):=List.pairwise_append.2 ⟨h1,h2,h⟩
theorem paths_rising:∀ (t:T) (L:Nat) (a:Pa),Good t L→Full t→Rising (pathsT t a)
 | .nil,_,_,_,_=>List.Pairwise.nil
 | .leaf _ _,_,_,_,_=>List.pairwise_singleton _ _
 | .ext q t,L,a,g,f=>paths_rising t _ (a++q) g.2.2.2.2 f
 | .br ks,L,a,g,f=>by
  have key:∀ l:List (Fin 16),l.Pairwise (· < ·)→Rising (l.map fun i=>pathsT (ks i) (a++[nibOf i])).flatten:=by
   intro l
   induction l with
   | nil=>intro _; exact List.Pairwise.nil
   | cons i l ih =>
    intro h;obtain ⟨h1,h2⟩:=List.pairwise_cons.1 h;rw [List.map_cons,List.flatten_cons];refine rising_append (paths_rising (ks i) _ _ (g.2.2 i) (f i)) (ih h2) (fun x hx y hy=>?_);obtain ⟨m,hm,hy⟩:=List.mem_flatten.1 hy;obtain ⟨j,hj,rfl⟩:=List.mem_map.1 hm;obtain ⟨x1,x2⟩:=x;obtain ⟨y1,y2⟩:=y;obtain ⟨r,e1,_⟩:=(mem_paths (ks i) _ _ (g.2.2 i) (f i) x1 x2).1 hx;obtain ⟨s,e2,_⟩:=(mem_paths (ks j) _ _ (g.2.2 j) (f j) y1 y2).1 hy;have hij:i<j:=h1 j hj;have:=ltP_part a (x:=nibOf i) (y:=nibOf j) (by rw [nibOf_toNat,nibOf_toNat]; exact hij) r s
    show ltP x1 y1=true;rw [e1,e2];simpa using this
  refine key _ ?_;exact List.pairwise_lt_finRange 16
 | .stub _,_,_,_,f=>absurd f id
end Tr
end
section
open Go.RowKit
namespace Tm
open Tr
structure Mp where
 at_:Nat→Option T
 ft:Nat→Prop
def IsT (M:Mp) (p:Option Addr) (t:T):Prop:=match p with
 | none=>t = .nil
 | some ad=>∃ b,ad=⟨b,0,none⟩∧M.at_ b=some t∧t ≠ .nil
def kindT:T→Int
 | .nil=>0
 | .leaf _ _=>1
 | .ext _ _=>2
 | .br _=>3
 | .stub _ => -1
def pathT:T→Pa
 | .leaf p _=>p
 | .ext q _=>q
 | _=>[]
def valT:T→ByteArray
 | .leaf _ v=>v
 | _=>eB
def partsT:T→List T
 | .ext _ t=>[t]
 | .br ks=>(List.finRange 16).map ks
 | _=>[]
def memo0:T→ByteArray
 | .stub r=>r
 | _=>eB
def Bs (M:Mp) (w:World) (a:Option Addr) (n c:Nat) (l:List UInt8):Prop:=IsBs w a n c l∧∀ ad,a=some ad→0<n→M.ft ad.block
def Ks (M:Mp) (w:World) (a:Option Addr) (n c:Nat) (l:List T):Prop :=
 n≤c∧c≤maxLen∧l.length=n∧(a=none→c=0)∧∀ j,j<n→∃ b off p,a=some ⟨b,off,none⟩∧b<w.heap.size∧M.ft b∧w.cell? ⟨b,off+j,none⟩=some (.pointer p)∧IsT M p (l.getD j .nil)
def partC (t:T) (a:Option Addr) (n c:Nat) (ka:Option Addr) (kn kc:Nat) (d:Int) (r:ByteArray):Array Value :=
 #[.int .i64 (kindT t),.slice a n c,.string (valT t),.slice ka kn kc,.int .u32 d,.int .i32 0,.int .u32 0,.string r]
def IsPart (M:Mp) (w:World) (b:Nat) (t:T):Prop :=
 ∃ a n c ka kn kc d r,w.heap[b]? = some (.cells (partC t a n c ka kn kc d r) 106 (0,0))∧Bs M w a n c (pathT t)∧Ks M w ka kn kc (partsT t)∧(d=0∧r=memo0 t∨d=1 ∧ ¬ IsStub t∧r=ref t)
structure Inv (M:Mp) (w:World):Prop where
 lt_:∀ k,M.ft k→k<w.heap.size
 part_:∀ b t,M.at_ b=some t→t ≠ .nil∧M.ft b∧IsPart M w b t
def HasByte (w:World) (k:Nat):Prop:=∃ j x,w.cell? ⟨k,j,none⟩=some (.int .u8 x)
structure Fr (M M':Mp) (w w':World):Prop where
 os:w'.os=w.os
 tape:w'.tape=w.tape
 output:w'.output=w.output
 size:w.heap.size≤w'.heap.size
 block:∀ k,k<w.heap.size→M.at_ k=none→w'.heap[k]? = w.heap[k]?
 mono:∀ k t,M.at_ k=some t→M'.at_ k=some t
 fresh:∀ k,k<w.heap.size→M.at_ k=none→M'.at_ k=none
 grow:∀ k,M.ft k→M'.ft k
 foot:∀ k,M'.ft k→M.ft k∨w.heap.size≤k∨HasByte w k
def M0:Mp:=⟨fun _=>none,fun _=>False⟩
theorem IsT.mono {M M':Mp} {p:Option Addr} {t:T} (h:IsT M p t) (hm:∀ k t,M.at_ k=some t→M'.at_ k=some t):IsT M' p t:=by
 cases p with
 | none=>exact h
 | some ad =>
  obtain ⟨b,e,h1,h2⟩:=h;exact ⟨b,e,hm _ _ h1,h2⟩
theorem IsT.nil_iff {M:Mp} {p:Option Addr} {t:T} (h:IsT M p t):p=none↔t = .nil:=by
 cases p with
 | none=>exact ⟨fun _=>h,fun _=>rfl⟩
 | some ad =>
  obtain ⟨b,_,_,hn⟩:=h;exact ⟨fun e=>(by cases e),fun e=>absurd e hn⟩
theorem IsT.at_ {M:Mp} {p:Option Addr} {t:T} (h:IsT M p t) (hn:t ≠ .nil):∃ b,p=some ⟨b,0,none⟩∧M.at_ b=some t:=by
 cases p with
 | none=>exact absurd h hn
 | some ad =>
  obtain ⟨b,e,hm,_⟩:=h;exact ⟨b,by rw [e],hm⟩
theorem Ks.nil (M:Mp) (w:World):Ks M w none 0 0 []:=⟨Nat.le_refl _,Nat.zero_le _,rfl,fun _=>rfl,fun _ h=>absurd h (Nat.not_lt_zero _)⟩
theorem Ks.len {M:Mp} {w:World} {a:Option Addr} {n c:Nat} {l:List T} (h:Ks M w a n c l):l.length=n:=h.2.2.1
theorem Ks.at' {M:Mp} {w:World} {a:Option Addr} {n c:Nat} {l:List T} (h:Ks M w a n c l) (j:Nat) (hj:j<n):∃ b off p,a=some ⟨b,off,none⟩∧b<w.heap.size∧M.ft b∧w.cell? ⟨b,off+j,none⟩=some (.pointer p)∧IsT M p (l.getD j .nil):=h.2.2.2.2 j hj
theorem Inv.part {M:Mp} {w:World} (h:Inv M w) {b:Nat} {t:T} (hm:M.at_ b=some t):IsPart M w b t:=(h.part_ b t hm).2.2
theorem Inv.lt {M:Mp} {w:World} (h:Inv M w) {b:Nat} {t:T} (hm:M.at_ b=some t):b<w.heap.size:=h.lt_ b (h.part_ b t hm).2.1
theorem Inv.zero (w:World):Inv M0 w:=⟨fun _ h=>h.elim,fun _ _ h=>by cases h⟩
theorem part_no {t:T} {a:Option Addr} {n c:Nat} {ka:Option Addr} {kn kc:Nat} {d:Int} {r:ByteArray} {j:Nat} {v:Value} (h:(partC t a n c ka kn kc d r)[j]? = some v):(∀ x,v ≠ .int .u8 x)∧∀ p,v ≠ .pointer p:=by
 unfold partC at h
 match j,h with
 | 0,h | 1,h | 2,h | 3,h | 4,h | 5,h | 6,h | 7,h =>
  simp at h;subst h;exact ⟨fun x e=>(by cases e),fun p e=>(by cases e)⟩
 | j+8,h=>simp at h
theorem cell_heap {w:World} {b j:Nat} {cs:Array Value} {t:TypeId} {f:Nat × Nat} {v:Value} (h:w.heap[b]? = some (.cells cs t f)) (hc:w.cell? ⟨b,j,none⟩=some v):cs[j]? = some v:=by
 rw [World.cell?,h] at hc;simpa using hc
theorem Inv.no_byte {M:Mp} {w:World} (hi:Inv M w) {b j:Nat} {x:Int} (hc:w.cell? ⟨b,j,none⟩=some (.int .u8 x)):M.at_ b=none:=by
 cases hm:M.at_ b with
 | none=>rfl
 | some t =>
  obtain ⟨_,_,_,_,_,_,_,_,hb,_⟩:=hi.part hm;exact absurd rfl ((part_no (cell_heap hb hc)).1 x)
theorem Inv.no_ptr {M:Mp} {w:World} (hi:Inv M w) {b j:Nat} {p:Option Addr} (hc:w.cell? ⟨b,j,none⟩=some (.pointer p)):M.at_ b=none:=by
 cases hm:M.at_ b with
 | none=>rfl
 | some t =>
  obtain ⟨_,_,_,_,_,_,_,_,hb,_⟩:=hi.part hm;exact absurd rfl ((part_no (cell_heap hb hc)).2 p)
theorem Fr.refl (M:Mp) (w:World):Fr M M w w:=⟨rfl,rfl,rfl,Nat.le_refl _,fun _ _ _=>rfl,fun _ _ h=>h,fun _ _ h=>h,fun _ h=>h,fun _ h=>Or.inl h⟩
theorem HasByte.back {M M':Mp} {w w':World} {k:Nat} (h:HasByte w' k) (f:Fr M M' w w') (hk:k<w.heap.size) (hm:M.at_ k=none):HasByte w k:=by
 obtain ⟨j,x,hc⟩:=h;exact ⟨j,x,by rw [← hc]; exact (World.cell?_of_block (w:=w) (f.block k hk hm)).symm⟩
theorem Fr.trans {M M1 M2:Mp} {w w1 w2:World} (hi:Inv M w) (h:Fr M M1 w w1) (g:Fr M1 M2 w1 w2):Fr M M2 w w2 :=
 ⟨g.os.trans h.os,g.tape.trans h.tape,g.output.trans h.output,Nat.le_trans h.size g.size,
  fun k hk hm=>(g.block k (Nat.lt_of_lt_of_le hk h.size) (h.fresh k hk hm)).trans (h.block k hk hm),fun k t hm=>g.mono k t (h.mono k t hm),fun k hk hm=>g.fresh k (Nat.lt_of_lt_of_le hk h.size) (h.fresh k hk hm),
  fun k hk=>g.grow k (h.grow k hk),fun k hk=>by
  rcases g.foot k hk with h1 | h1 | h1
  ·exact h.foot k h1
  ·exact Or.inr (Or.inl (Nat.le_trans h.size h1))
  ·by_cases hlt:k<w.heap.size
   ·cases hm:M.at_ k with
    | none=>exact Or.inr (Or.inr (h1.back h hlt hm))
    | some t=>exact Or.inl (hi.part_ k t hm).2.1
   ·exact Or.inr (Or.inl (by omega))⟩
theorem Fr.below (M:Mp) {w w':World} (hb:Below w.heap.size w w'):Fr M M w w':=⟨hb.os,hb.tape,hb.output,hb.size,fun k hk _=>hb.block k hk,fun _ _ h=>h,fun _ _ h=>h,fun _ h=>h,fun _ h=>Or.inl h⟩
theorem Fr.all {M':Mp} {w w':World} (h:Fr M0 M' w w'):Below w.heap.size w w':=⟨h.os,h.tape,h.output,h.size,fun k hk=>h.block k hk rfl⟩
theorem Fr.cell {M M':Mp} {w w':World} (h:Fr M M' w w') {b o:Nat} (hb:b<w.heap.size) (hm:M.at_ b=none):w'.cell? ⟨b,o,none⟩=w.cell? ⟨b,o,none⟩:=World.cell?_of_block (w:=w) (h.block b hb hm)
theorem Bs.fr {M M':Mp} {w w':World} {a:Option Addr} {n c:Nat} {l:List UInt8} (hi:Inv M w) (h:Bs M w a n c l) (f:Fr M M' w w'):Bs M' w' a n c l:=by
 refine ⟨⟨h.1.1,h.1.2.1,h.1.2.2.1,h.1.2.2.2.1,fun j hj=>?_⟩,fun ad e hn=>f.grow _ (h.2 ad e hn)⟩;obtain ⟨b,off,e,hlt,hc⟩:=h.1.2.2.2.2 j hj;exact ⟨b,off,e,Nat.lt_of_lt_of_le hlt f.size,by rw [f.cell hlt (hi.no_byte hc)]; exact hc⟩
theorem isBs_fr {M M':Mp} {w w':World} {a:Option Addr} {n c:Nat} {l:List UInt8} (hi:Inv M w) (h:IsBs w a n c l) (f:Fr M M' w w'):IsBs w' a n c l:=by
 refine ⟨h.1,h.2.1,h.2.2.1,h.2.2.2.1,fun j hj=>?_⟩;obtain ⟨b,off,e,hlt,hc⟩:=h.2.2.2.2 j hj;exact ⟨b,off,e,Nat.lt_of_lt_of_le hlt f.size,by rw [f.cell hlt (hi.no_byte hc)]; exact hc⟩
theorem Ks.fr {M M':Mp} {w w':World} {a:Option Addr} {n c:Nat} {l:List T} (hi:Inv M w) (h:Ks M w a n c l) (f:Fr M M' w w'):Ks M' w' a n c l:=by
 refine ⟨h.1,h.2.1,h.2.2.1,h.2.2.2.1,fun j hj=>?_⟩;obtain ⟨b,off,p,e,hlt,hm,hc,ht⟩:=h.at' j hj;exact ⟨b,off,p,e,Nat.lt_of_lt_of_le hlt f.size,f.grow b hm,by rw [f.cell hlt (hi.no_ptr hc)]; exact hc,ht.mono f.mono⟩
theorem Inv.below {M:Mp} {w w':World} (h:Inv M w) (hb:Below w.heap.size w w'):Inv M w':=by
 refine ⟨fun k hk=>Nat.lt_of_lt_of_le (h.lt_ k hk) hb.size,fun b t hm=>?_⟩;have hlt:=h.lt hm;refine ⟨(h.part_ b t hm).1,(h.part_ b t hm).2.1,?_⟩;obtain ⟨a,n,c,ka,kn,kc,d,r,h1,h2,h3,h4⟩:=h.part hm;exact ⟨a,n,c,ka,kn,kc,d,r,(hb.block b hlt).trans h1,h2.fr h (Fr.below M hb),h3.fr h (Fr.below M hb),h4⟩
theorem Inv.out {M:Mp} {w:World} (h:Inv M w) {b:Nat} (hb:w.heap.size≤b):M.at_ b=none:=by
 cases hm:M.at_ b with
 | none=>rfl
 | some t=>exact absurd (h.lt hm) (by omega)
theorem Inv.upd {M:Mp} {w w':World} {g:Nat} (h:Inv M w) (hu:Rg.Upd w g w') (hg:¬ M.ft g):Inv M w':=by
 refine ⟨fun k hk=>by rw [hu.size]; exact h.lt_ k hk,fun b t hm=>?_⟩;obtain ⟨h1,h2,h3⟩:=h.part_ b t hm;refine ⟨h1,h2,?_⟩;obtain ⟨a,n,c,ka,kn,kc,d,r,hb,hB,hK,hd⟩:=h3;have hne:∀ k,M.ft k→k≠g:=fun k hk e=>hg (by rw [← e]; exact hk);refine ⟨a,n,c,ka,kn,kc,d,r,(hu.block b (hne b h2)).trans hb,⟨⟨hB.1.1,hB.1.2.1,hB.1.2.2.1,hB.1.2.2.2.1,fun j hj=>?_⟩,hB.2⟩,⟨hK.1,hK.2.1,hK.2.2.1,hK.2.2.2.1,fun j hj=>?_⟩,hd⟩
 ·obtain ⟨b',off,e,hlt,hc⟩:=hB.1.2.2.2.2 j hj;exact ⟨b',off,e,by rw [hu.size]; exact hlt,by rw [World.cell?_of_block (hu.block b' (hne b' (hB.2 _ e (by omega))))]; exact hc⟩
 ·obtain ⟨b',off,p,e,hlt,hf,hc,ht⟩:=hK.at' j hj;exact ⟨b',off,p,e,by rw [hu.size]; exact hlt,hf,by rw [World.cell?_of_block (hu.block b' (hne b' hf))]; exact hc,ht⟩
theorem Fr.box {M M':Mp} {w w':World} (f:Fr M M' w w') {g:Nat} (hg:¬ M.ft g) (hlt:g<w.heap.size) (hb:¬ HasByte w g):¬ M'.ft g:=fun h=>by
 rcases f.foot g h with h1 | h1 | h1
 ·exact hg h1
 ·omega
 ·exact hb h1
theorem Inv.free {M:Mp} {w:World} (h:Inv M w) {g:Nat} (hg:w.heap.size≤g):¬ M.ft g:=fun e=>by
 have:=h.lt_ g e;omega
theorem one_no (p:Option Addr):∀ (j:Nat) (x:Int),(#[Value.pointer p]:Array Value)[j]? ≠ some (Value.int .u8 x):=fun j x h=>by
 match j,h with
 | 0,h=>simp at h
 | j+1,h=>simp at h
theorem no_byte {w:World} {g:Nat} {cs:Array Value} {t:TypeId} (hO:Rg.Own w g cs t) (hne:∀ (j:Nat) (x:Int),cs[j]? ≠ some (Value.int .u8 x)):¬ HasByte w g:=fun ⟨_,_,hc⟩=>hne _ _ (cell_heap hO.2 hc)
theorem isBs_upd {w w':World} {g:Nat} {a:Option Addr} {n c:Nat} {l:List UInt8} (h:IsBs w a n c l) (hg:¬ HasByte w g) (hu:Rg.Upd w g w'):IsBs w' a n c l:=by
 refine ⟨h.1,h.2.1,h.2.2.1,h.2.2.2.1,fun j hj=>?_⟩;obtain ⟨b,off,e,hlt,hc⟩:=h.2.2.2.2 j hj;have hbg:b≠g:=by
  rintro rfl;exact hg ⟨_,_,hc⟩
 exact ⟨b,off,e,by rw [hu.size]; exact hlt,by rw [World.cell?_of_block (hu.block b hbg)]; exact hc⟩
def plus (M:Mp) (S:Nat→Prop):Mp:=⟨M.at_,fun k=>M.ft k∨S k⟩
theorem Inv.plus {M:Mp} {w:World} (h:Inv M w) {S:Nat→Prop} (hS:∀ k,S k→k<w.heap.size):Inv (Tm.plus M S) w:=by
 refine ⟨fun k hk=>hk.elim (h.lt_ k) (hS k),fun b t hm=>?_⟩;obtain ⟨h1,h2,a,n,c,ka,kn,kc,d,r,hb,hB,hK,hd⟩:=h.part_ b t hm;exact ⟨h1,Or.inl h2,a,n,c,ka,kn,kc,d,r,hb,⟨hB.1,fun ad e hn=>Or.inl (hB.2 ad e hn)⟩,⟨hK.1,hK.2.1,hK.2.2.1,hK.2.2.2.1,fun j hj=>by
  obtain ⟨b',off,p,e,hlt,hf,hc,ht⟩:=hK.at' j hj;exact ⟨b',off,p,e,hlt,Or.inl hf,hc,ht.mono fun _ _ h=>h⟩⟩,hd⟩
theorem isT_plus {M:Mp} {S:Nat→Prop} {p:Option Addr} {t:T} (h:IsT M p t):IsT (plus M S) p t:=h.mono fun _ _ h=>h
theorem Fr.plus {M M':Mp} {w w':World} {S:Nat→Prop} (f:Fr M M' w w') (hS:∀ k,S k→w.heap.size≤k∨HasByte w k):Fr M (Tm.plus M' S) w w' :=
 ⟨f.os,f.tape,f.output,f.size,f.block,f.mono,f.fresh,fun k hk=>Or.inl (f.grow k hk),fun k hk=>hk.elim (f.foot k) (fun h=>Or.inr (hS k h))⟩
def inS (a:Option Addr) (n:Nat) (k:Nat):Prop:=∃ ad,a=some ad∧0<n∧ad.block=k
theorem inS_byte {w:World} {a:Option Addr} {n c:Nat} {l:List UInt8} (h:IsBs w a n c l) {k:Nat} (hk:inS a n k):HasByte w k∧k<w.heap.size:=by
 obtain ⟨ad,e,hn,hb⟩:=hk;obtain ⟨b,off,e',hlt,hc⟩:=h.at' 0 hn;rw [e] at e';obtain rfl:=Option.some.inj e';obtain rfl:b=k:=hb;exact ⟨⟨_,_,hc⟩,hlt⟩
theorem HasByte.below {w w':World} {k:Nat} (h:HasByte w' k) (hb:Below w.heap.size w w'):w.heap.size≤k∨HasByte w k:=by
 by_cases hlt:k<w.heap.size
 ·obtain ⟨j,x,hc⟩:=h;exact Or.inr ⟨j,x,by rw [← hc]; exact (World.cell?_of_block (w:=w) (hb.block k hlt)).symm⟩
 ·exact Or.inl (by omega)
theorem Bs.in_ {M:Mp} {w:World} {a:Option Addr} {n c:Nat} {l:List UInt8} (h:IsBs w a n c l):Bs (plus M (inS a n)) w a n c l:=⟨h,fun ad e hn=>Or.inr ⟨ad,e,hn,rfl⟩⟩
def GotT (M:Mp) (w:World) (t:T) (e:Ending) (w':World):Prop:=∃ p M',e = .returned (.agg #[.pointer p])∧IsT M' p t∧Fr M M' w w'∧Inv M' w'∧Below w.heap.size w w'
def more (M:Mp) (b:Nat) (t:T) (lo hi:Nat):Mp:=⟨fun k=>if k=b then some t else M.at_ k,fun k=>M.ft k∨lo≤k∧k<hi⟩
theorem more_at (M:Mp) (b:Nat) (t:T) (lo hi:Nat):(more M b t lo hi).at_ b=some t:=if_pos rfl
theorem more_not {M:Mp} {b:Nat} {t:T} {lo hi k:Nat} (h:k≠b):(more M b t lo hi).at_ k=M.at_ k:=if_neg h
theorem Fr.more {M:Mp} {w w':World} (hi:Inv M w) (hb:Below w.heap.size w w') (b:Nat) (t:T) (hB:w.heap.size≤b):Fr M (more M b t w.heap.size w'.heap.size) w w':=by
 refine ⟨hb.os,hb.tape,hb.output,hb.size,fun k hk _=>hb.block k hk,fun k u hm=>?_,fun k hk hm=>?_,fun k hk=>Or.inl hk,fun k hk=>hk.elim Or.inl (fun h=>Or.inr (Or.inl h.1))⟩
 ·have:=hi.lt hm;rw [more_not (by omega)]; exact hm
 ·rw [more_not (by omega)]; exact hm
def Ks0 (M:Mp) (lo:Nat) (w:World) (a:Option Addr) (n c:Nat) (l:List T):Prop :=
 n≤c∧c≤maxLen∧l.length=n∧(a=none→c=0)∧∀ j,j<n→∃ b off p,a=some ⟨b,off,none⟩∧b<w.heap.size∧(M.ft b∨lo≤b)∧w.cell? ⟨b,off+j,none⟩=some (.pointer p)∧IsT M p (l.getD j .nil)
theorem Ks.weak {M:Mp} {w:World} {lo:Nat} {a:Option Addr} {n c:Nat} {l:List T} (h:Ks M w a n c l):Ks0 M lo w a n c l :=
 ⟨h.1,h.2.1,h.2.2.1,h.2.2.2.1,fun j hj=>by
  obtain ⟨b,off,p,e,hlt,hf,hc,ht⟩:=h.at' j hj;exact ⟨b,off,p,e,hlt,Or.inl hf,hc,ht⟩⟩
theorem got_part {M:Mp} {w w':World} {b:Nat} {t:T} {a:Option Addr} {n c:Nat} {ka:Option Addr} {kn kc:Nat} (hi:Inv M w) (hb:Below w.heap.size w w') (hB:w.heap.size≤b) (hn:t ≠ .nil)
  (hc:w'.heap[b]? = some (.cells (partC t a n c ka kn kc 0 (memo0 t)) 106 (0,0))) (hp:IsBs w' a n c (pathT t)) (hf:∀ ad,a=some ad→0<n→M.ft ad.block∨w.heap.size≤ad.block) (hk:Ks0 M w.heap.size w' ka kn kc (partsT t)) :
  GotT M w t (.returned (.agg #[.pointer (some ⟨b,0,none⟩)])) w':=by
 have f:=Fr.more hi hb b t hB;have hlt:b<w'.heap.size:=(Array.getElem?_eq_some_iff.1 hc).1;refine ⟨_,Tm.more M b t w.heap.size w'.heap.size,rfl,⟨b,rfl,more_at _ _ _ _ _,hn⟩,f,⟨fun k hk=>hk.elim (fun h=>Nat.lt_of_lt_of_le (hi.lt_ k h) hb.size) (fun h=>h.2),fun k u hm=>?_⟩,hb⟩;by_cases e:k=b
 ·subst e;rw [more_at] at hm;obtain rfl:=Option.some.inj hm;refine ⟨hn,Or.inr ⟨hB,hlt⟩,a,n,c,ka,kn,kc,0,_,hc,⟨hp,fun ad e hn=>?_⟩,⟨hk.1,hk.2.1,hk.2.2.1,hk.2.2.2.1,fun j hj=>?_⟩,Or.inl ⟨rfl,rfl⟩⟩
  ·obtain ⟨b',off,e',hlt',_⟩:=hp.at' 0 hn;rcases hf ad e hn with h | h
   ·exact Or.inl h
   ·rw [e] at e';obtain rfl:=Option.some.inj e';exact Or.inr ⟨h,hlt'⟩
  ·obtain ⟨b',off,p,e,hlt',hm,hcb,ht⟩:=hk.2.2.2.2 j hj;exact ⟨b',off,p,e,hlt',hm.elim Or.inl (fun h=>Or.inr ⟨h,hlt'⟩),hcb,ht.mono f.mono⟩
 ·rw [more_not e] at hm;have hlt:=hi.lt hm;obtain ⟨h1,h2,a,n,c,ka,kn,kc,d,r,g1,g2,g3,g4⟩:=hi.part_ k u hm;exact ⟨h1,Or.inl h2,a,n,c,ka,kn,kc,d,r,(hb.block k hlt).trans g1,g2.fr hi f,g3.fr hi f,g4⟩
theorem got_old {M:Mp} {w w':World} {p:Option Addr} {t:T} (hi:Inv M w) (ht:IsT M p t) (hb:Below w.heap.size w w'):GotT M w t (.returned (.agg #[.pointer p])) w' :=
 ⟨p,M,rfl,ht,Fr.below M hb,hi.below hb,hb⟩
def rowT (ps:List (Option Addr)):Array Value:=(ps.map Value.pointer).toArray
theorem Ks0.row {M:Mp} {w:World} {lo:Nat} {b:Nat} {ps:List (Option Addr)} {t:TypeId} {l:List T} (hlo:lo≤b) (h:Rg.Own w b (rowT ps) t) (hl:ps.length=l.length) (hm:ps.length≤maxLen) (ht:∀ j,j<ps.length→IsT M (ps.getD j none) (l.getD j .nil)):Ks0 M lo w (some ⟨b,0,none⟩) ps.length ps.length l:=by
 refine ⟨Nat.le_refl _,hm,hl.symm,fun e=>(by cases e),fun j hj=>?_⟩;have hc:w.cell? ⟨b,j,none⟩=some (.pointer (ps.getD j none)):=by
  rw [cell_of_row w b _ _ _ _ h.2];simp [rowT,List.getD,hj]
 exact ⟨b,0,_,rfl,h.1,Or.inr hlo,by rw [Nat.zero_add]; exact hc,ht j hj⟩
end Tm
end
section
open Go.RowKit
namespace Tm
open Tr
abbrev tv (p:Option Addr):Value:=.agg #[.pointer p]
theorem box_tree (w:World) (p:Option Addr):(w.alloc (.cells #[.pointer p] 28)).cell? ⟨w.heap.size,0,none⟩=some (.pointer p):=by
 rw [World.cell?_alloc_mark]; rfl
theorem cell_on {w1 w2:World} (hb:Below w1.heap.size w1 w2) {b o:Nat} {v:Value} (hc:w1.cell? ⟨b,o,none⟩=some v):w2.cell? ⟨b,o,none⟩=some v :=
 (hb.cell (p:=⟨b,o,none⟩) (World.block_lt_of_cell? w1 _ hc)).trans hc
theorem cell_al {w:World} {o':Obj} {b o:Nat} {v:Value} (hc:w.cell? ⟨b,o,none⟩=some v):(w.alloc o').cell? ⟨b,o,none⟩=some v:=cell_on (al1 _ _) hc
theorem empty_any (p:Option Addr) (w:World):Calls Tryz.prog 34 #[.agg #[.pointer p]] w fun e w'=>e = .returned (.bool p.isNone)∧Below w.heap.size w w':=by
 have h0:=box_tree w p;cases p with
 | none =>
  go_enter Tryz.func34,Tryz.ntmps34;go_wp2;go_ret;exact ⟨rfl,al1 _ _⟩
 | some ad =>
  go_enter Tryz.func34,Tryz.ntmps34;go_wp2;go_ret;exact ⟨rfl,al1 _ _⟩
theorem part_cells {w:World} {b:Nat} {t:T} {a:Option Addr} {n c:Nat} {ka:Option Addr} {kn kc:Nat} {d:Int} {r:ByteArray} (h:w.heap[b]? = some (.cells (partC t a n c ka kn kc d r) 106 (0,0))) :
  (w.cell? ⟨b,0,none⟩=some (.int .i64 (kindT t))∧w.cell? ⟨b,1,none⟩=some (.slice a n c)∧w.cell? ⟨b,2,none⟩=some (.string (valT t))∧w.cell? ⟨b,3,none⟩=some (.slice ka kn kc)) ∧
  w.cell? ⟨b,4,none⟩=some (.int .u32 d)∧w.cell? ⟨b,5,none⟩=some (.int .i32 0)∧w.cell? ⟨b,6,none⟩=some (.int .u32 0)∧w.cell? ⟨b,7,none⟩=some (.string r):=by
 refine ⟨⟨?_,?_,?_,?_⟩,?_,?_,?_,?_⟩;all_goals
  rw [cell_of_row w b _ _ _ _ h];rfl
theorem Inv.kind {M:Mp} {w:World} (hi:Inv M w) {b:Nat} {t:T} (hm:M.at_ b=some t):w.cell? ⟨b,0,none⟩=some (.int .i64 (kindT t)):=by
 obtain ⟨a,n,c,ka,kn,kc,d,r,hb,_⟩:=hi.part hm;exact (part_cells hb).1.1
theorem kind_any (M:Mp) (p:Option Addr) (t:T) (w:World) (hi:Inv M w) (ht:IsT M p t) :
  Calls Tryz.prog 52 #[.agg #[.pointer p]] w fun e w'=>e = .returned (.int .i64 (kindT t))∧Below w.heap.size w w':=by
 have h0:=box_tree w p;have HE:=hid (empty_any p (w.alloc (.cells #[.pointer p] 28)));cases p with
 | none =>
  obtain rfl:t = .nil:=ht;go_enter Tryz.func52,Tryz.ntmps52;go_wp2_with fail
  refine HE.out.mono ?_;rintro e w2 ⟨rfl,hb⟩;go_wp2;go_ret;exact ⟨rfl,bst (al1 _ _) hb⟩
 | some ad =>
  obtain ⟨b,rfl,hm,_⟩:=ht;have hk:=cell_al (o':=.cells #[.pointer (some ⟨b,0,none⟩)] 28) (hi.kind hm);go_enter Tryz.func52,Tryz.ntmps52;go_wp2_with fail
  refine HE.out.mono ?_;rintro e w2 ⟨rfl,hb⟩;have h1:=cell_on hb h0;have h2:=cell_on hb hk;clear h0 hk;go_wp2;go_ret;exact ⟨rfl,bst (al1 _ _) hb⟩
end Tm
end
section
open Go.RowKit
namespace Tm
open Tr
def fromA (a:Option Addr) (c i:Nat):Option Addr:=if c=i then a else a.map (·.add i)
theorem size_u8 (w:World):(sizeOf (Tryz.prog.elem 51)).run Tryz.prog w = .ok 1 w:=by kernel_rfl
theorem size_tree (w:World):(sizeOf (Tryz.prog.elem 57)).run Tryz.prog w = .ok 1 w:=by kernel_rfl
theorem under_u8:Tryz.prog.underlying 51=some (.slice (Tryz.prog.elem 51)):=by kernel_rfl
theorem under_trees:Tryz.prog.underlying 57=some (.slice (Tryz.prog.elem 57)):=by kernel_rfl
section
variable {P:Program} {t:TypeId} {a:Option Addr} {n c:Nat}
theorem run_from (ht:P.underlying t=some (.slice (P.elem t))) (hs:∀ w,(sizeOf (P.elem t)).run P w = .ok 1 w) (i:Nat) (hi:i≤n) (w:World) :
  (Instr.sliceAt t (.slice a n c) (some (.int .i64 i)) none none).run P w = .ok (.slice (fromA a c i) (n-i) (c-i)) w:=by
 rw [run_sliceAt_slice (h:=ht),run_slice_l w t a n c ht .i64 i (by omega) (by omega),hs];simp [Result.andThen,sliced,fromA]
theorem run_upto (ht:P.underlying t=some (.slice (P.elem t))) (hs:∀ w,(sizeOf (P.elem t)).run P w = .ok 1 w) (j:Nat) (hj:j≤c) (w:World) :
  (Instr.sliceAt t (.slice a n c) none (some (.int .i64 j)) none).run P w = .ok (.slice a j c) w:=by
 rw [run_sliceAt_slice (h:=ht),run_slice_h w t a n c ht .i64 j (by omega) (by omega),hs];have:a.map (fun x=>x.add 0)=a:=by cases a <;> simp [Addr.add]
 simp [Result.andThen,sliced,this]
end
theorem op_from {P:Program} {t:TypeId} {a:Option Addr} {n c:Nat} {ev:Operand→Value} {o:Oper} {w:World} {i:Nat} (ht:P.underlying t=some (.slice (P.elem t))) (hs:∀ w,(sizeOf (P.elem t)).run P w = .ok 1 w) (hi:i≤n)
  (ho:∃ x lo,o.op = .slice t x (some lo) none none∧ev x = .slice a n c∧ev lo = .int .i64 i):(execOp ev o).run P w = .ok (.value (.slice (fromA a c i) (n-i) (c-i))) w:=by
 obtain ⟨x,lo,ho,hx,hl⟩:=ho;unfold execOp;simp only [ho,hx,hl,Option.map_some,Option.map_none,Sem.run_bind,Sem.run_pure,Result.andThen_ok,run_from ht hs i hi]
theorem op_upto {P:Program} {t:TypeId} {a:Option Addr} {n c:Nat} {ev:Operand→Value} {o:Oper} {w:World} {j:Nat} (ht:P.underlying t=some (.slice (P.elem t))) (hs:∀ w,(sizeOf (P.elem t)).run P w = .ok 1 w) (hj:j≤c)
  (ho:∃ x hi,o.op = .slice t x none (some hi) none∧ev x = .slice a n c∧ev hi = .int .i64 j):(execOp ev o).run P w = .ok (.value (.slice a j c)) w:=by
 obtain ⟨x,lo,ho,hx,hl⟩:=ho;unfold execOp;simp only [ho,hx,hl,Option.map_some,Option.map_none,Sem.run_bind,Sem.run_pure,Result.andThen_ok,run_upto ht hs j hj]
theorem bs_from {w:World} {a:Option Addr} {n c:Nat} {l:List UInt8} (h:IsBs w a n c l) (i:Nat) (hi:i≤n):IsBs w (fromA a c i) (n-i) (c-i) (l.drop i):=by
 have h1:=h.1;have h2:=h.2.1;refine ⟨by omega,by omega,by rw [List.length_drop,h.len],fun e=>?_,fun j hj=>?_⟩
 ·unfold fromA at e;split at e
  ·omega
  ·have:a=none:=by simpa using e
   have:=h.2.2.2.1 this;omega
 ·obtain ⟨b,off,e,hlt,hc⟩:=h.at' (i+j) (by omega);refine ⟨b,off+i,?_,hlt,?_⟩
  ·unfold fromA;rw [if_neg (by omega),e];simp [Addr.add_mid]
  ·rw [Nat.add_assoc,hc];simp [List.getD]
theorem fromA_block {a:Option Addr} {c i:Nat} {ad:Addr} (h:fromA a c i=some ad):∃ ad',a=some ad'∧ad'.block=ad.block:=by
 unfold fromA at h;split at h
 ·exact ⟨ad,h,rfl⟩
 ·cases a with
  | none=>cases h
  | some x =>
   refine ⟨x,rfl,?_⟩;have:x.add i=ad:=by simpa using h
   rw [← this];unfold Addr.add;split <;> rfl
theorem Bs.from' {M:Mp} {w:World} {a:Option Addr} {n c:Nat} {l:List UInt8} (h:Bs M w a n c l) (i:Nat) (hi:i≤n):Bs M w (fromA a c i) (n-i) (c-i) (l.drop i) :=
 ⟨bs_from h.1 i hi,fun ad e hn=>by
  obtain ⟨ad',e',hb⟩:=fromA_block e;rw [← hb];exact h.2 ad' e' (by omega)⟩
theorem Bs.upto {M:Mp} {w:World} {a:Option Addr} {n c:Nat} {l:List UInt8} (h:Bs M w a n c l) (j:Nat) (hj:j≤n):Bs M w a j c (l.take j):=by
 have h1:=h.1.1;refine ⟨⟨by omega,h.1.2.1,by rw [List.length_take,h.1.len]; omega,h.1.2.2.2.1,fun i hi=>?_⟩,fun ad e hn=>h.2 ad e (by omega)⟩;obtain ⟨b,off,e,hlt,hc⟩:=h.1.at' i (by omega);refine ⟨b,off,e,hlt,?_⟩;rw [hc];simp [List.getD,hi]
theorem info_tree:(Tryz.prog.info? 28).map (·.size)=some 1:=by kernel_rfl
theorem load_tree {w:World} {b o:Nat} {p:Option Addr} (hc:w.cell? ⟨b,o,none⟩=some (.pointer p)):(loadVar 28 ⟨b,o,none⟩).run Tryz.prog w = .ok (tv p) w :=
 run_loadVar_mid w b o 28 [.pointer p] _ (fun j v hv=>by
  cases j with
  | zero=>simp at hv; subst hv; exact hc
  | succ j=>simp at hv) Tryz.underlying28 rfl (by rw [info_tree]; rfl)
theorem op_load_tree {ev:Operand→Value} {o:Oper} {w:World} {b off:Nat} {p:Option Addr} (hc:w.cell? ⟨b,off,none⟩=some (.pointer p)) (ho:∃ x,o.op = .load 28 x∧ev x = .pointer (some ⟨b,off,none⟩)) :
  (execOp ev o).run Tryz.prog w = .ok (.value (tv p)) w:=by
 obtain ⟨x,ho,hx⟩:=ho;unfold execOp;simp only [ho,hx,Instr.loadAt,Instr.sureAddr,Sem.run_bind,Sem.run_pure,Result.andThen_ok,load_tree hc]
theorem upd_setCell (w:World) (b o:Nat) (v:Value):Rg.Upd w b (w.setCell ⟨b,o,none⟩ v):=⟨rfl,rfl,rfl,by simp,fun k hk=>Below.heap_setCell w _ v k hk⟩
theorem own_setCell {w:World} {b o:Nat} {cs:Array Value} {t:TypeId} (h:Rg.Own w b cs t) (v:Value):Rg.Own (w.setCell ⟨b,o,none⟩ v) b (cs.setIfInBounds o v) t:=by
 refine ⟨by simp; exact h.1,?_⟩;have hb:=h.2;simp only [World.setCell,Array.getElem?_modify,hb];simp
theorem own_cell {w:World} {b j:Nat} {cs:Array Value} {t:TypeId} {v:Value} (h:Rg.Own w b cs t) (hv:cs[j]? = some v):w.cell? ⟨b,j,none⟩=some v:=by
 rw [cell_of_row w b _ _ _ _ h.2]; exact hv
theorem store_tree {w:World} {b o:Nat} {cs:Array Value} {t:TypeId} (h:Rg.Own w b cs t) (ho:o<cs.size) (p:Option Addr) :
  (Instr.storeAt 28 (.pointer (some ⟨b,o,none⟩)) (tv p)).run Tryz.prog w = .ok () (w.setCell ⟨b,o,none⟩ (.pointer p)):=by
 have hc:w.cell? ⟨b,o,none⟩=some cs[o]:=own_cell h (Array.getElem?_eq_getElem ho);exact run_storeAt_mid w b o 28 #[.pointer p] (fun j hj=>by
  obtain rfl:j=0:=by simp at hj; exact hj
  exact ⟨by rw [Nat.add_zero,hc]; rfl,own_free h⟩) (by rw [info_tree]; rfl) (by simp [Value.oneCell'])
theorem wpl_store_tree {ops:Array Oper} {rest:List Oper} {o:Oper} {act:Act} {w:World} {Q:Exit→Act→World→Prop} {b off:Nat} {cs:Array Value} {t:TypeId} (h:Rg.Own w b cs t) (hof:off<cs.size) (p:Option Addr)
  (hgd:o.guard=none) (x y:Operand) (ho:o.op = .store 28 x y) (hx:act.eval x = .pointer (some ⟨b,off,none⟩)) (hy:act.eval y=tv p)
  (hQ:∀ w',Rg.Own w' b (cs.setIfInBounds off (.pointer p)) t→Rg.Upd w b w'→wpList Tryz.prog ops Q rest (act.put o.dst undef) w'):wpList Tryz.prog ops Q (o::rest) act w :=
 wpList_plain hgd fun K hK=>by
  unfold Oper.wp execOp;simp only [ho,hx,hy,Sem.run_bind,Sem.run_pure,Result.andThen_ok,store_tree h hof p];exact hK _ _ (hQ _ (own_setCell h _) (upd_setCell _ _ _ _))
theorem meet_store_tree {o:Oper} {a:Act} {w:World} {K:Act→World→Prop} {Q:Exit→Act→World→Prop} {ops:Array Oper} (hw:Region.wanted o (yielded ops a.tmps)=true) {b off:Nat} {cs:Array Value} {t:TypeId} (hg:Rg.Own w b cs t) (hof:off<cs.size) (p:Option Addr)
  (ho:∃ x y,o.op = .store 28 x y∧a.eval x = .pointer (some ⟨b,off,none⟩)∧a.eval y=tv p)
  (h:∀ w',Rg.Own w' b (cs.setIfInBounds off (.pointer p)) t→Rg.Upd w b w'→K (a.put o.dst undef) w'):if Region.wanted o (yielded ops a.tmps)=true then Oper.wp Tryz.prog o a w K Q else K (a.put o.dst undef) w:=by
 obtain ⟨x,y,ho,hx,hy⟩:=ho;refine Rg.want hw ?_;unfold Oper.wp execOp;simp only [ho,hx,hy,Sem.run_bind,Sem.run_pure,Result.andThen_ok,store_tree hg hof p];exact h _ (own_setCell hg _) (upd_setCell _ _ _ _)
theorem res_tree {fn:Func} {q:Tmp} (hf:fn.results = #[.cell q 28]) (tmps:Array Value) {w:World} {b:Nat} {p:Option Addr} (hp:tmps.getD q undef = .pointer (some ⟨b,0,none⟩)) (h:Rg.Own w b #[.pointer p] 28) :
  (results fn tmps).run Tryz.prog w = .ok (tv p) w:=by
 have hp':tmps[q]?.getD undef = .pointer (some ⟨b,0,none⟩):=by simpa using hp
 simp [results,hf,hp',asAddr,load_tree (own_cell (j:=0) h rfl)]
theorem res_tree1 {fn:Func} {q u:Tmp} (hf:fn.results = #[.cell q 28,.tmp u]) (tmps:Array Value) {w:World} {b:Nat} {p:Option Addr} (hp:tmps.getD q undef = .pointer (some ⟨b,0,none⟩)) (h:Rg.Own w b #[.pointer p] 28) :
  (results fn tmps).run Tryz.prog w = .ok (.tuple #[tv p,tmps.getD u undef]) w:=by
 have hp':tmps[q]?.getD undef = .pointer (some ⟨b,0,none⟩):=by simpa using hp
 simp [results,hf,hp',asAddr,load_tree (own_cell (j:=0) h rfl)]
theorem run_alloc_tree (ev:Operand→Value) (o:Oper) (w:World) (b:Nat) (hb:b=w.heap.size) (ho:o.op = .alloc 28) :
  (execOp ev o).run Tryz.prog w = .ok (.value (.pointer (some ⟨b,0,none⟩))) (w.alloc (.cells #[.pointer none] 28)):=by
 subst hb;unfold execOp;rw [ho];kernel_rfl
theorem built_leaf (a:Option Addr) (n c:Nat) (p:Pa) (v:ByteArray):Tryz.prog.built 106 [(0,.int .i64 1),(1,.slice a n c),(2,.string v)]=some (partC (.leaf p v) a n c none 0 0 0 eB):=by kernel_rfl
theorem built_ext (a:Option Addr) (n c:Nat) (ka:Option Addr) (kn kc:Nat) (q:Pa) (t:T):Tryz.prog.built 106 [(0,.int .i64 2),(1,.slice a n c),(3,.slice ka kn kc)]=some (partC (.ext q t) a n c ka kn kc 0 eB):=by kernel_rfl
theorem built_br (ka:Option Addr) (kn kc:Nat) (ks:Fin 16→T):Tryz.prog.built 106 [(0,.int .i64 3),(3,.slice ka kn kc)]=some (partC (.br ks) none 0 0 ka kn kc 0 eB):=by kernel_rfl
theorem op_box_part {ev:Operand→Value} {o:Oper} {w:World} {t:T} {a:Option Addr} {n c:Nat} {ka:Option Addr} {kn kc:Nat} {d:Int} {r:ByteArray} (ho:∃ x,o.op = .box 106 x∧ev x = .agg (partC t a n c ka kn kc d r)) :
  (execOp ev o).run Tryz.prog w = .ok (.value (.pointer (some ⟨w.heap.size,0,none⟩))) (w.alloc (.cells (partC t a n c ka kn kc d r) 106)):=by
 obtain ⟨x,ho,hx⟩:=ho;unfold execOp;simp only [ho,hx];rfl
end Tm
end
end Go.Proofs.YtnecijeakeklaaaGreatDoor
