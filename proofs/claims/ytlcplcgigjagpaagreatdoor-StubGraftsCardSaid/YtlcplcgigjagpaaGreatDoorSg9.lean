/-
 Contracts of node.Reference, node.fits, node.Check, node.Get: of any bytes.
-/
import Derived.Test.YtlcplcgigjagpaaGreatDoorSg8
open Go.Lib (hid)
open Go.Proofs.Tryz
set_option linter.unusedSimpArgs false
set_option linter.unusedVariables false
set_option maxHeartbeats 40000000
set_option maxRecDepth 100000
namespace Go.Proofs.YtlcplcgigjagpaaGreatDoor
variable {L cap g i j kn off:Nat} {v:Value} {r x:aK} {w w':World} {cs cur:aM} {o:Oper} {S:Nat->Prop} {o':Obj} {d:Int} {ev:Operand->Value} {ops:Array Oper} {act:Act} {Q:Exit->Act->World->Prop} {K:Act->World->Prop}
section
open Go.RowKit
namespace No
open Rl Ni
def mX (k:aK):Prop:=∀ w:World,Calls prog 97 #[.string k] w λe w'=>e = .returned (.bool (bP k))/\Below w.heap.size w w'
def Fe (w:World) (r:Option Nd) (e:Ending) (w':World):Prop:=∃ (N:Nd) (a:aJ) (n c:Nat) (er:Int),e = .returned (.tuple #[.agg (ndC N a n c),.int .i64 er])/\(er=0/\r=some N\/er≠0/\N=nd0/\r=none)/\
 BsF w.heap.size w' a n c N.p/\N.ks.length=16/\Below w.heap.size w w'
def Qy (s:aK):Prop:=∀ w:World,Calls prog 160 #[.string s] w (Fe w (vW s.data.toList))
theorem Sz (s:aK) (h:Qy s) (w:World):Calls prog 132 #[.string s] w λe w'=>e = .returned (.bool (vW s.data.toList).isSome)/\Below w.heap.size w w':=by
 have HG:=hid (h w);obtain ⟨r,hr⟩:=av (vW s.data.toList)
 rw [hr] at HG ⊢;clear h hr;go_enter func132,ntmps132;go_wp2_with fail
 refine HG.out.mono ?_;rintro e w3 ⟨N,a3,n3,c3,er,rfl,hr3,hx3,hl3,hb3⟩;have HO:Hid (dJ (w3.alloc (.cells (ndC nd0 none 0 0) 56)) w3.heap.size nd0 none 0 0):=hid (Rg.Own.new _ _ _);have HB:=hid (bst hb3 (al1 w3 (.cells (ndC nd0 none 0 0) 56)));have HL:=hid hl3;have hge:=hb3.size;clear hx3 hl3 hb3 HG;rcases hr3 with ⟨rfl,rfl⟩ | ⟨he,rfl,rfl⟩
 .go_wp2_with (first
   | (refine ay (aY _ _ _ w3.heap.size rfl rfl) ?_)
   | (refine bD HO.out rfl N a3 n3 c3 HL.out rfl _ _ rfl rfl rfl rfl ?_))
  go_ret;exact ⟨rfl,bS HB.out hge _⟩
 .have hd:(er==0)=false:=by simp; exact he
  go_wp2_with (first
   | (refine ay (aY _ _ _ w3.heap.size rfl rfl) ?_)
   | (refine bD HO.out rfl nd0 a3 n3 c3 HL.out rfl _ _ rfl rfl rfl rfl ?_))
  go_ret;exact ⟨rfl,bS HB.out hge _⟩
theorem Kr (k:aK) (hk:k.size<=9223372036854775807) (h:k.size<32->Qy k):mX k:=by
 intro w;have HP:=hid (xL k w);cases hp:dB k with
 | true =>
  have HF:Hid (bP k=true):=hid (by unfold bP; rw [hp]; rfl);rw [hp] at HP;rw [HF.out];clear h hp;go_enter func97,ntmps97;go_wp2_with fail
  refine HP.out.mono ?_;rintro e w3 ⟨rfl,rfl⟩;go_wp2;go_ret;exact ⟨rfl,aG⟩
 | false =>
  rw [hp] at HP;by_cases h32:k.size<32
  .have HF:Hid (bP k=(vW k.data.toList).isSome):=hid (by unfold bP; rw [hp]; simp [h32]);have HG:=hid (Sz k (h h32) w);rw [<-HF.out] at HG;clear h hp HF;go_enter func97,ntmps97;go_wp2_with fail
   refine HP.out.mono ?_;rintro e w3 ⟨rfl,rfl⟩;go_wp2_with fail
   refine HG.out.mono ?_;rintro e w4 ⟨rfl,hb4⟩;have HB:=hid hb4;clear hb4;go_wp2;go_ret;exact ⟨rfl,HB.out⟩
  .have HF:Hid (bP k=false):=hid (by unfold bP; rw [hp]; simp [h32]);rw [HF.out];clear h hp;go_enter func97,ntmps97;go_wp2_with fail
   refine HP.out.mono ?_;rintro e w3 ⟨rfl,rfl⟩;go_wp2;go_ret;exact ⟨rfl,aG⟩
theorem TB (k:aK) (h:mX k) (w:World):Calls prog 137 #[.string k] w λe w'=>e = .returned (.bool (!bP k))/\Below w.heap.size w w':=by
 have HG:=hid (h w);obtain ⟨r,hr⟩:=av (bP k)
 rw [hr] at HG ⊢;clear h hr;go_enter func137,ntmps137;go_wp2_with fail
 refine HG.out.mono ?_;rintro e w3 ⟨rfl,hb3⟩;have HB:=hid hb3;clear hb3;go_wp2;go_ret;exact ⟨rfl,HB.out⟩
def Mw (w:World) (xs:List aK) (e:Ending) (w':World):Prop:=∃ r:Int,e = .returned (.int .i64 r)/\-1<=r/\r<=9223372036854775807/\decide (0<=r) = !xs.all bP/\Below w.heap.size w w'
theorem Vh {xs:List aK} (hj:j<xs.length) (h:(xs.take j).all bP=true) (hk:bP (xs.getD j eB)=true):(xs.take (j+1)).all bP=true:=by
 have e:xs.getD j eB=xs[j]:=by simp [List.getD,hj]
 rw [List.take_succ_eq_append_getElem hj,List.all_append,h,List.all_cons,List.all_nil,<-e,hk];rfl
theorem NP (xs:List aK) (hR:∀ k∈xs,mX k) (a:aJ) (n cap:Nat) (w:World) (h:lW w a n cap xs) :
  Calls prog 162 #[.slice a n cap,.func (Fn.func 137) #[] #[]] w (Mw w xs):=by
 have hm:=h.2.1;have hnc:=h.1;have hl:=h.len;unfold maxLen at hm;have H:=hid h;have HL:=hid hl;have HR:=hid hR;clear h hl hR;go_enter func162,ntmps162;go_wp2;go_loopw [8] (λi wr=>∃ j:Nat,j<=n/\i = .int .i64 j/\Hid ((xs.take j).all bP=true)/\Hid (Below w.heap.size w wr)) (λi _=>n-(intOf i).toNat)
 case atStart=>exact ⟨0,Nat.zero_le _,rfl,hid rfl,hid aG⟩
 case round =>
  obtain ⟨j,hj,rfl,HJ,HB⟩:=hrel;by_cases hlt:j<n
  .obtain ⟨b,off,rfl,hblt,hc⟩:=H.out.at' j hlt;have hc':=(Below.cell (p:=⟨b,off+j,none⟩) HB.out hblt).trans hc;have HM:Hid (xs.getD j eB∈xs):=hid (by
    have hj':j<xs.length:=by rw [HL.out]; exact hlt
    have e:xs.getD j eB=xs[j]:=by simp [List.getD,hj']
    rw [e]; exact List.getElem_mem hj')
   have HC:=hid (TB _ (HR.out _ HM.out) wr);have HT:Hid (bP (xs.getD j eB)=true->(xs.take (j+1)).all bP=true):=hid (Vh (by rw [HL.out]; exact hlt) HJ.out);obtain ⟨K,hK⟩:=av (xs.getD j eB)
   rw [hK] at HC HM HT hc';clear hK hc HJ;go_wp2_with fail
   refine HC.out.mono ?_;rintro e w5 ⟨rfl,hb5⟩;have ag:=hid (bst HB.out hb5);clear hb5 HC HB hc';cases hf:bP K with
   | true =>
    have F2:=hid (HT.out hf);clear HT hf;go_wp2;go_roundw
    case rel=>exact ⟨j+1,by omega,by go_num,F2,ag⟩
    case measure=>simp [intOf]; omega
   | false =>
    have HF:Hid (xs.all bP=false):=hid (by rw [List.all_eq_false]; exact ⟨K,HM.out,by rw [hf]; simp⟩);clear HT hf;go_wp2;go_ret;exact ⟨(j:Int),rfl,by omega,by omega,by rw [HF.out]; simp,ag.out⟩
  .obtain rfl:j=n:=by omega
   have HF:Hid (xs.all bP=true):=hid (by have:=HJ.out; rw [List.take_of_length_le (by rw [HL.out]; exact aF)] at this; exact this);go_wp2;go_ret;exact ⟨-1,rfl,by decide,by decide,by rw [HF.out]; rfl,HB.out⟩
theorem FN (xs:List aK) (hR:∀ k∈xs,mX k) (a:aJ) (n cap:Nat) (w:World) (h:lW w a n cap xs) :
  Calls prog 136 #[.slice a n cap,.func (Fn.func 137) #[] #[]] w λe w'=>e = .returned (.bool (!xs.all bP))/\Below w.heap.size w w':=by
 have HI:=hid (NP xs hR a n cap w h);unfold Mw at HI;obtain ⟨F,hF⟩:=av (!xs.all bP)
 rw [hF] at HI ⊢;clear h hR hF;go_enter func136,ntmps136;go_wp2_with fail
 refine HI.out.mono ?_;rintro e w3 ⟨r,rfl,h1,h2,h3,hb3⟩;have HB:=hid hb3;have H3:=hid h3;clear hb3 HI h3;go_wp2;go_ret;exact ⟨by rw [<-H3.out]; rfl,HB.out⟩
theorem UC (N:Nd) (a:aJ) (n c:Nat) (hl:N.ks.length=16) (hp:N.p.length=n) (hm:n<=maxLen) (hv:N.v.size<=maxLen) (hR:∀ k∈N.ks,mX k) (w:World) :
  Calls prog 102 #[.agg (ndC N a n c)] w λe w'=>e = .returned (.bool (lI bP N))/\Below w.heap.size w w':=by
 have HO:Hid (dJ (w.alloc (.cells (ndC N a n c) 56)) w.heap.size N a n c):=hid (Rg.Own.new _ _ _);have HK:=hid (UY N a n c hl (w.alloc (.cells (ndC N a n c) 56)));have im:Hid (mX (N.ks.getD 0 eB)):=hid (hR _ (by rw [List.getD_eq_getElem?_getD,List.getElem?_eq_getElem (by omega)]; exact List.getElem_mem _));have Y4:Hid (∀ k∈bJ N.ks,mX k):=hid (λk hk=>hR k (List.mem_filter.1 hk).1);have HL:=hid hl;have HU:=hid (rfl:lI bP N=lI bP N);unfold lI at HU;unfold maxLen at hm hv;rw [hp] at HU;obtain ⟨F,hF⟩:=av (lI bP N)
 have HF:Hid (F=if N.kd=1 then decide (N.v.size≠0)&&decide (N.v.size<=65552)&&decide ((bJ N.ks).length=0) else
  if N.kd=2 then decide (0<n)&&decide (N.v.size=0)&&decide ((bJ N.ks).length=1)&&decide ((N.ks.getD 0 eB).size≠0)&&bP (N.ks.getD 0 eB) else
  if N.kd=3 then decide (n=0)&&decide (N.v.size=0)&&decide (2<=(bJ N.ks).length)&&(bJ N.ks).all bP else false):=hid (by
   rw [<-hF];unfold lI;rw [hp])
 rw [hF];clear HU hF hR hl hp;by_cases hkd:N.kd=1
 .rw [if_pos hkd] at HF;go_enter func102,ntmps102;go_wp2_with (refine ay (dn HO.out HL.out ?_) ?_; · exact ⟨_,rfl,rfl⟩)
  refine HK.out.mono ?_;rintro e w3 ⟨a3,n3,qk,rfl,hs3,hb3⟩;have hO3:=HO.out.below hb3;obtain ⟨c0,c1,c2⟩:=bW hO3;have ck:w3.cell? ⟨w.heap.size,3,none⟩=some (.string (N.ks.getD 0 eB)):=sG hO3 HL.out 0 (by decide);have fY:=hs3.len;have tG:=hs3.2.1;have tI:=hs3.1;unfold maxLen at tG;have cC:=hid hs3;have HB3:=hid (pU (zh hb3));rw [fY] at HF;rw [hkd] at c0;clear hs3 hb3 hO3 HK fY;by_cases hv0:N.v.size=0
  .have o7:=eF hv0;rw [o7] at c2;go_wp2;go_ret;exact ⟨by rw [HF.out]; simp [hv0],HB3.out⟩
  .have R8:=Ni.dP (s:=N.v) (by omega);by_cases hv2:N.v.size<=65552
   .by_cases hk3:n3=0
    .subst hk3;go_wp2;go_ret;exact ⟨by rw [HF.out]; simp [hv0,hv2],HB3.out⟩
    .go_wp2;go_ret;exact ⟨by rw [HF.out]; simp [hv0,hv2,hk3],HB3.out⟩
   .go_wp2;go_ret;exact ⟨by rw [HF.out]; simp [hv0,hv2],HB3.out⟩
 .rw [if_neg hkd] at HF;have hk1:(N.kd==1)=false:=by simp; exact hkd
  clear hkd;by_cases hkd:N.kd=2
  .rw [if_pos hkd] at HF;go_enter func102,ntmps102;go_wp2_with (refine ay (dn HO.out HL.out ?_) ?_; · exact ⟨_,rfl,rfl⟩)
   refine HK.out.mono ?_;rintro e w3 ⟨a3,n3,qk,rfl,hs3,hb3⟩;have hO3:=HO.out.below hb3;obtain ⟨c0,c1,c2⟩:=bW hO3;have ck:w3.cell? ⟨w.heap.size,3,none⟩=some (.string (N.ks.getD 0 eB)):=sG hO3 HL.out 0 (by decide);have fY:=hs3.len;have tG:=hs3.2.1;have tI:=hs3.1;unfold maxLen at tG;have cC:=hid hs3;have HB3:=hid (pU (zh hb3));rw [fY] at HF;rw [hkd] at c0;clear hs3 hb3 hO3 HK fY;by_cases hn0:0<n
   .by_cases hv0:N.v.size=0
    .have o7:=eF hv0;rw [o7] at c2;by_cases hk3:n3=1
     .subst hk3;obtain ⟨K,hK⟩:=av (N.ks.getD 0 eB)
      rw [hK] at HF ck im;clear hK;by_cases hz:K.size=0
      .obtain rfl:=eF hz;go_wp2;go_ret;exact ⟨by rw [HF.out]; rw [show decide (eB.size≠0)=false from rfl,Bool.and_false,Bool.false_and]; rfl,HB3.out⟩
      .have hkn:=Ni.dP (s:=K) (by omega);go_wp2_with fail
       refine (im.out _).mono ?_;rintro e w4 ⟨rfl,hb4⟩;have cz:=hid (bst HB3.out hb4);obtain ⟨rb,hrb⟩:=av (bP K)
       rw [hrb] at HF ⊢;clear hb4 hrb;go_wp2;go_ret;exact ⟨by rw [HF.out]; simp [hn0,hz,hv0],cz.out⟩
     .go_wp2;go_ret;exact ⟨by rw [HF.out]; simp [hk3],HB3.out⟩
    .have R8:=Ni.dP (s:=N.v) (by omega);go_wp2;go_ret;exact ⟨by rw [HF.out]; simp [hv0],HB3.out⟩
   .obtain rfl:n=0:=by omega
    go_wp2;go_ret;exact ⟨by rw [HF.out]; simp,HB3.out⟩
  .rw [if_neg hkd] at HF;have hk2:(N.kd==2)=false:=by simp; exact hkd
   clear hkd;by_cases hkd:N.kd=3
   .rw [if_pos hkd] at HF;go_enter func102,ntmps102;go_wp2_with (refine ay (dn HO.out HL.out ?_) ?_; · exact ⟨_,rfl,rfl⟩)
    refine HK.out.mono ?_;rintro e w3 ⟨a3,n3,qk,rfl,hs3,hb3⟩;have hO3:=HO.out.below hb3;obtain ⟨c0,c1,c2⟩:=bW hO3;have ck:w3.cell? ⟨w.heap.size,3,none⟩=some (.string (N.ks.getD 0 eB)):=sG hO3 HL.out 0 (by decide);have fY:=hs3.len;have tG:=hs3.2.1;have tI:=hs3.1;unfold maxLen at tG;have cC:=hid hs3;have HB3:=hid (pU (zh hb3));rw [fY] at HF;rw [hkd] at c0;clear hs3 hb3 hO3 HK fY;by_cases hn0:n=0
    .subst hn0;by_cases hv0:N.v.size=0
     .have o7:=eF hv0;rw [o7] at c2;by_cases hk3:2<=n3
      .have R9:=hid (λw4 hb4=>FN (bJ N.ks) Y4.out a3 n3 qk w4 (cC.out.below hb4));obtain ⟨KL,AC⟩:=av ((bJ N.ks).all bP)
       rw [AC] at HF R9;clear AC;go_wp2_with fail
       refine (R9.out _ aG).mono ?_;rintro e w4 ⟨rfl,hb4⟩;have cz:=hid (bst HB3.out hb4);clear hb4;go_wp2;go_ret;exact ⟨by rw [HF.out]; simp [hk3,hv0],cz.out⟩
      .go_wp2;go_ret;exact ⟨by rw [HF.out]; simp [hk3],HB3.out⟩
     .have R8:=Ni.dP (s:=N.v) (by omega);go_wp2;go_ret;exact ⟨by rw [HF.out]; simp [hv0],HB3.out⟩
    .go_wp2;go_ret;exact ⟨by rw [HF.out]; simp [hn0],HB3.out⟩
   .rw [if_neg hkd] at HF;have Y5:(N.kd==3)=false:=by simp; exact hkd
    go_enter func102,ntmps102;go_wp2_with (refine ay (dn HO.out HL.out ?_) ?_; · exact ⟨_,rfl,rfl⟩)
    refine HK.out.mono ?_;rintro e w3 ⟨a3,n3,qk,rfl,hs3,hb3⟩;have hO3:=HO.out.below hb3;obtain ⟨c0,c1,c2⟩:=bW hO3;have ck:w3.cell? ⟨w.heap.size,3,none⟩=some (.string (N.ks.getD 0 eB)):=sG hO3 HL.out 0 (by decide);have fY:=hs3.len;have tG:=hs3.2.1;have tI:=hs3.1;unfold maxLen at tG;have cC:=hid hs3;have HB3:=hid (pU (zh hb3));clear hs3 hb3 hO3 HK fY;go_wp2;go_ret;exact ⟨by rw [HF.out]; rfl,HB3.out⟩
theorem qg (N:Nd) (a:aJ) (n c:Nat) (hl:N.ks.length=16) (w:World) (hB:bq w a n c N.p) (hv:N.v.size<=maxLen) (hR:∀ k∈N.ks,mX k) :
  Calls prog 70 #[.agg (ndC N a n c)] w λe w'=>e = .returned (.int .i64 (if fG bP N then 0 else 2))/\Below w.heap.size w w':=by
 have hp:=hB.len;have hm:=hB.2.1;have hnc:=hB.1;have HO:Hid (dJ (w.alloc (.cells (ndC N a n c) 56)) w.heap.size N a n c):=hid (Rg.Own.new _ _ _);have cD:=hid (al1 w (.cells (ndC N a n c) 56));have zj:=hid (UC N a n c hl hp (by omega) hv hR (w.alloc (.cells (ndC N a n c) 56)));have oY:=hid (fC a n c N.p (w.alloc (.cells (ndC N a n c) 56)) (hB.below (al1 _ _)));obtain ⟨c0,c1,c2⟩:=bW HO.out;have HL:=hid hl;unfold maxLen at hm;obtain ⟨F,hF⟩:=av (if fG bP N then (0:Int) else 2)
 have HM:Hid (F=if (decide (n<=64)&&dx N.p&&lI bP N)=true then 0 else 2):=hid (by rw [<-hF]; unfold fG; rw [hp]);rw [hF];clear hF hR hB hp hl hv;obtain ⟨R,hR⟩:=av (dx N.p)
 obtain ⟨T,hT⟩:=av (lI bP N)
 rw [hR] at HM oY;rw [hT] at HM zj;clear hR hT;by_cases h64:n<=64
 .have Y6:decide (64<(n:Int))=false:=by simp; omega
  cases R with
  | true =>
   go_enter func70,ntmps70;go_wp2_with fail
   refine oY.out.mono ?_;rintro e w3 ⟨rfl,rfl⟩;go_wp2_with (refine Rg.runW (by rfl) _ _ (dn HO.out HL.out ?_) ?_; · exact ⟨_,rfl,rfl⟩)
   refine zj.out.mono ?_;rintro e w3 ⟨rfl,hb3⟩;have HB3:=hid (bst cD.out hb3);clear hb3 zj oY;cases T;all_goals
    go_wp2;go_ret;exact ⟨by rw [HM.out]; simp [h64],HB3.out⟩
  | false =>
   go_enter func70,ntmps70;go_wp2_with fail
   refine oY.out.mono ?_;rintro e w3 ⟨rfl,rfl⟩;go_wp2;go_ret;exact ⟨by rw [HM.out]; simp,cD.out⟩
 .have Y6:decide (64<(n:Int))=true:=by simp; omega
  go_enter func70,ntmps70;go_wp2;go_ret;exact ⟨by rw [HM.out]; simp [h64],cD.out⟩
theorem Wq {s:aL} {x:It} (hs:s.length<=1000000) (h:iy s = .ok x):∀ y∈x.xs,Good y:=by
 obtain ⟨g1,g2,g3⟩:=oH (by omega) h;intro y hy;have h1:=zG g2 (by rw [g1]; omega) hy;rw [g1] at h1;have h2:=OQ y (Ng g2 hy) (Nat.zero_le _);obtain ⟨i,hi⟩:=List.getElem?_of_mem hy;have h3:=Uo x.xs i y hi;have h4:x.size=1+(x.xs.map It.size).sum:=by cases x; exact It.size_mk _ _ _
 have h5:=lF y;have h6:y.s.size<=y.inner.length:=by
  unfold It.inner;rw [List.length_append,jg];omega
 exact ⟨h2,by omega,by omega,by omega⟩
theorem Ba {s:aL} {c:Int} (h:iy s = .error c):c≠0:=by
 unfold iy at h;split at h
 .rename_i c' hr;cases h;have:=(codes s.length).1 _ _ _ _ aF hr;omega
 .split at h
  .cases h; decide
  .cases h
theorem WY {xs:List It} {N:Nd} (hG:∀ x∈xs,Good x) (h:eT xs=some N):N.v.size<=1000000:=by
 unfold eT at h;by_cases h2:xs.length=2
 .rw [if_pos h2] at h;have h1:=hG _ (xS (xs:=xs) (i:=1) (by omega));unfold iW at h;split at h
  .cases h
  .split at h
   .obtain rfl:=Option.some.inj h;exact h1.2.2.2
   .obtain ⟨k,hk,rfl⟩:=Option.map_eq_some_iff.1 h;exact Nat.zero_le _
 .rw [if_neg h2] at h;split at h
  .unfold dK at h;split at h
   .cases h
   .split at h
    .obtain rfl:=Option.some.inj h;exact Nat.zero_le _
    .cases h
  .cases h
theorem Uf (s:aK) (hs:s.size<=1000000) (ih:∀ k:aK,k.size<32->k.size<s.size->Qy k):Qy s:=by
 intro w;have hsl:=jg s;obtain ⟨w2,hw2⟩:=au (w.alloc (.cells (ndC nd0 none 0 0) 56))
 have hO:dJ w2 w.heap.size nd0 none 0 0:=by rw [hw2]; exact Rg.Own.new _ _ _
 have hB2:Below w.heap.size w w2:=by rw [hw2]; exact al1 _ _
 have HO:=hid hO;have HB2:=hid hB2;have hW:=DN s (by omega) w2;have hgt:=FJ s.data.toList (by omega);cases hr:iy s.data.toList with
 | error c =>
  rw [hr] at hW hgt;have HW:Hid (Calls prog 144 #[.string s] w2 λe w'=>e = .returned (.tuple #[itV it0 none 0 0,.int .i64 c])/\Below w2.heap.size w2 w'):=hid hW;unfold itV at HW;dsimp only [it0,It.l,It.s] at HW;have hne:(c != 0)=true:=by simp; exact Ba hr
  have HC:=hid (Ba hr);have HG:Hid (vW s.data.toList=none):=hid hgt;rw [HG.out];clear hO hB2 hr hgt ih hW;subst hw2;go_enter func160,ntmps160;go_wp2_with (refine ay (aY _ _ _ w.heap.size rfl rfl) ?_)
  with_reducible refine HW.out.mono ?_
  rintro e w3 ⟨rfl,hb3⟩;have am:=hid ((HO.out.below hb3).below (al1 w3 (.cells #[.bool false,.string ⟨#[]⟩,.slice none 0 0] 130)));have HB3:=hid (bst (bst HB2.out hb3) (al1 w3 (.cells #[.bool false,.string ⟨#[]⟩,.slice none 0 0] 130)));clear hb3 HW;go_wp2_with (first
   | (refine ay (bK qN ?_) ?_; · exact ⟨_,rfl,rfl⟩)
   | (refine bD am.out rfl nd0 none 0 0 rfl rfl _ _ rfl rfl rfl rfl ?_))
  exact bodyPost_ret (fB rfl _ rfl (dz am.out) rfl) rfl ⟨nd0,none,0,0,c,rfl,.inr ⟨HC.out,rfl,rfl⟩,BsF.nil _ _,rfl,bS HB3.out aF _⟩
 | ok x =>
  have hG:=Wq (by omega) hr;rw [hr] at hW hgt;dsimp only at hgt;have HW:Hid (Calls prog 144 #[.string s] w2 λe w'=>∃ a nn cap,e = .returned (.tuple #[itV x a nn cap,.int .i64 0])/\bL w2.heap.size w' x.xs a nn cap/\Below w2.heap.size w2 w'):=hid hW;unfold itV at HW;have gS:=hid (λw a n cap h=>RJ x.xs a n cap w h hG);have q9:=hid hgt;have ov:Hid (∀ N,eT x.xs=some N->N.v.size<=maxLen/\∀ k∈N.ks,mX k):=hid (λN hN=>by
   have h1:=WY hG hN;obtain ⟨_,h2⟩:=Gt (by omega) hr hN;refine ⟨Nat.le_trans h1 (by unfold maxLen; omega),λk hk=>?_⟩;have hs0:0<s.size:=by
    have hb:=oH (by omega) hr;have:=tZ hb.2.1 (by rw [hb.1]; omega);rw [hb.1] at this;have:=List.length_pos_iff.2 this;omega
   rcases h2 k hk with hp | ⟨h3,h4⟩
   .have hp:=of_decide_eq_true hp;exact Kr k (by omega) (λh=>ih k h (by omega))
   .exact Kr k (by omega) (λh=>ih k h (by omega)))
  obtain ⟨r,hrr⟩:=av (eT x.xs)
  obtain ⟨G,Kx⟩:=av (vW s.data.toList)
  rw [hrr] at q9 gS ov;rw [Kx] at q9;rw [Kx];clear hO hB2 hr hgt ih hW hG hrr Kx;subst hw2;go_enter func160,ntmps160;go_wp2_with (refine ay (aY _ _ _ w.heap.size rfl rfl) ?_)
  with_reducible refine HW.out.mono ?_
  rintro e w3 ⟨a3,n3,c3,rfl,B7,hb3⟩;obtain ⟨w4,hw4⟩:=au (w3.alloc (.cells #[.bool x.l,.string x.s,.slice a3 n3 c3] 130))
  have hb4:Below w3.heap.size w3 w4:=by rw [hw4]; exact al1 _ _
  have hO4:=(HO.out.below hb3).below hb4;have hB4:=bst (bst HB2.out hb3) hb4;have HR4:=hid (gS.out w4 a3 n3 c3 (bL.weak (B7.stays hb4) (Nat.zero_le _)));have ch:=hid hO4;have cz:=hid hB4;clear hb3 hb4 B7 hO4 hB4 HW gS;subst hw4;go_wp2_with fail
  with_reducible refine HR4.out.mono ?_
  rintro e w5 ⟨N,a5,n5,c5,b5,rfl,Y7,hx5,hl5,hb5⟩;have Y8:=hb5.size;have aE:=ch.out.below hb5;have ge:=bst cz.out hb5;obtain ⟨w6,eQ⟩:=au (w5.alloc (.cells (ndC N a5 n5 c5) 56))
  have kp:Hid (dJ (w5.alloc (.cells (ndC nd0 none 0 0) 56)) w5.heap.size nd0 none 0 0):=hid (Rg.Own.new _ _ _);have ud:Hid (dJ ((w5.alloc (.cells (ndC nd0 none 0 0) 56)).setRow w5.heap.size (ndC N a5 n5 c5)) w5.heap.size N a5 n5 c5):=hid (dz kp.out);have cL:Below w5.heap.size w5 ((w5.alloc (.cells (ndC nd0 none 0 0) 56)).setRow w5.heap.size (ndC N a5 n5 c5)):=bS (al1 _ _) aF _;have cM:=hid (aE.below cL);have cg:=hid (bst ge cL);have lO:=hid (hx5.below cL);have fc:=hid hl5;have hw0:=ch.out.1
  clear aE ge hx5 hl5 hb5 cL HR4 ch cz eQ w6;rcases Y7 with ⟨rfl,rfl⟩ | ⟨rfl,rfl⟩
  .have hck:=qg N a5 n5 c5 fc.out ((w5.alloc (.cells (ndC nd0 none 0 0) 56)).setRow w5.heap.size (ndC N a5 n5 c5)) lO.out.1 (ov.out N rfl).1 (ov.out N rfl).2;obtain ⟨M,hM⟩:=av (fG bP N)
   have HG:Hid (G=if M=true then some N else none):=hid (by rw [q9.out,<-hM]);rw [hM] at hck;have HC:=hid hck;clear hM q9 ov hck;go_wp2_with (first
    | (refine ay (aY _ _ _ w5.heap.size rfl rfl) ?_)
    | (refine bD kp.out rfl N a5 n5 c5 fc.out rfl _ _ rfl rfl rfl rfl ?_)
    | (refine Rg.runW (by rfl) _ _ (dn ud.out fc.out ?_) ?_; · exact ⟨_,rfl,rfl⟩))
   refine HC.out.mono ?_;rintro e w7 ⟨rfl,cE⟩;have hs7:=cE.size;have Y9:=hid (ud.out.below cE);have kv:=hid (cM.out.below cE);have cq:=hid (bst cg.out cE);have ur:=hid (lO.out.below cE);clear cE HC cM cg lO;cases M with
   | true =>
    go_wp2_with (first
     | (refine ay (dn Y9.out fc.out ?_) ?_; · exact ⟨_,rfl,rfl⟩)
     | (refine bD kv.out rfl N a5 n5 c5 fc.out rfl _ _ rfl rfl rfl rfl ?_))
    exact bodyPost_ret (fB rfl _ rfl (dz kv.out) fc.out) rfl ⟨N,a5,n5,c5,0,rfl,.inl ⟨rfl,HG.out⟩,(ur.out.row (by omega) _).weak (by omega),fc.out,bS cq.out aF _⟩
   | false =>
    go_wp2_with (first
     | (refine ay (bK qN ?_) ?_; · exact ⟨_,rfl,rfl⟩)
     | (refine bD kv.out rfl nd0 none 0 0 rfl rfl _ _ rfl rfl rfl rfl ?_))
    exact bodyPost_ret (fB rfl _ rfl (dz kv.out) rfl) rfl ⟨nd0,none,0,0,6,rfl,.inr ⟨by decide,rfl,HG.out⟩,BsF.nil _ _,rfl,bS cq.out aF _⟩
  .have HG:Hid (G=none):=q9;go_wp2_with (first
    | (refine ay (aY _ _ _ w5.heap.size rfl rfl) ?_)
    | (refine bD kp.out rfl N a5 n5 c5 fc.out rfl _ _ rfl rfl rfl rfl ?_)
    | (refine ay (bK qN ?_) ?_; · exact ⟨_,rfl,rfl⟩)
    | (refine bD cM.out rfl nd0 none 0 0 rfl rfl _ _ rfl rfl rfl rfl ?_))
   exact bodyPost_ret (fB rfl _ rfl (dz cM.out) rfl) rfl ⟨nd0,none,0,0,6,rfl,.inr ⟨by decide,rfl,HG.out⟩,BsF.nil _ _,rfl,bS cg.out aF _⟩
theorem UH (N:Nat) (hN:N<=1000000):∀ s:aK,s.size<=N->Qy s:=by
 induction N using Nat.strongRecOn with
 | ind N ih=>exact λs hs=>Uf s (by omega) (λk _ hk=>ih k.size (by omega) (by omega) k aF)
theorem Vj (s:aK) (hs:s.size<=1000000):Qy s:=UH s.size hs s aF
theorem kX (k:aK) (hk:k.size<=9223372036854775807):mX k:=Kr k hk (λh=>Vj k (by omega))
end No
end
section
open Go.RowKit
namespace Rf
open Rl Ni No
def oh (k:aK):Nat:=if k.size=0 then 0 else if k.size=32 then 1 else if bP k then 2 else 3
theorem dF (k:aK) (hk:k.size<=maxLen) (w:World) :
  Calls prog 62 #[.string k] w λe w'=>e = .returned (.int .i64 (oh k))/\Below w.heap.size w w':=by
 unfold maxLen at hk;have HR:=hid (kX k (by omega) w);by_cases h0:k.size=0
 .obtain rfl:=eF h0;have HF:Hid (oh eB=0):=hid rfl;rw [HF.out];clear HR hk h0 HF;go_enter func62,ntmps62;go_wp2;go_ret;exact ⟨rfl,aG⟩
 have hne:=Ni.dP (s:=k) (by omega);by_cases h32:k.size=32
 .have HF:Hid (oh k=1):=hid (by unfold oh; rw [if_neg h0,if_pos h32]);have hd:(((k.size:Int)==32):Bool)=true:=by simp; omega
  rw [HF.out];clear HR HF h0 h32;go_enter func62,ntmps62;go_wp2;go_ret;exact ⟨rfl,aG⟩
 have HF:Hid (oh k=if bP k then 2 else 3):=hid (by unfold oh; rw [if_neg h0,if_neg h32]);have hd:(((k.size:Int)==32):Bool)=false:=by simp; omega
 rw [HF.out];obtain ⟨r,hr⟩:=av (bP k)
 rw [hr] at HR;rw [hr];clear HF h0 h32 hr;cases r;all_goals
  go_enter func62,ntmps62;go_wp2_with fail
  refine HR.out.mono ?_;rintro e w1 ⟨rfl,hb1⟩;go_wp2;go_ret;exact ⟨rfl,hb1⟩
open Sh
open Sm
theorem str_eq (a b:aK):(a.toList==b.toList)=decide (a=b):=by
 by_cases h:a=b
 .subst h; simp
 .rw [decide_eq_false h,beq_eq_false_iff_ne];intro e;apply h;rw [ByteArray.toList_eq,ByteArray.toList_eq] at e;apply ByteArray.ext;exact Array.ext' e
def ofP (s:aK):aK:=if s.size<32 then s else ⟨(jI s).toArray⟩
theorem Yn (s:aK) (hs:s.size<=900000) (w:World) (hT:Tab w):Calls prog 93 #[.string s] w λe w'=>e = .returned (.agg (kc (jI s)))/\Below w.heap.size w w':=Sm.EJ s hs w hT
theorem Wi (s:aK) (hs:s.size<=900000) (w:World) (hT:Tab w) :
  Calls prog 56 #[.string s] w λe w'=>e = .returned (.string (ofP s))/\Below w.heap.size w w':=by
 by_cases h:s.size<32
 .have HF:Hid (ofP s=s):=hid (by unfold ofP; rw [if_pos h]);have hd:decide ((s.size:Int)<32)=true:=by simp; omega
  rw [HF.out];clear hT HF;go_enter func56,ntmps56;go_wp2;go_ret;exact ⟨rfl,aG⟩
 .have HF:Hid (ofP s=⟨(jI s).toArray⟩):=hid (by unfold ofP; rw [if_neg h]);have hd:decide ((s.size:Int)<32)=false:=by simp; omega
  have eV:=hid (Yn s hs w hT);have nz:=hid (λW=>Sm.kZ (jI s) (pE s) W);rw [HF.out];obtain ⟨K,hK⟩:=av (jI s)
  rw [hK] at eV nz;rw [hK];obtain ⟨T,lE⟩:=av (⟨K.toArray⟩:aK)
  rw [lE] at nz;rw [lE];clear hT HF hK lE;go_enter func56,ntmps56;go_wp2_with fail
  refine eV.out.mono ?_;rintro e w1 ⟨rfl,hb1⟩;go_wp2_with fail
  refine (nz.out _).mono ?_;rintro e w2 ⟨rfl,hb2⟩;go_wp2;go_ret;exact ⟨rfl,bst hb1 hb2⟩
end Rf
end
section
open Go.RowKit
namespace No
open Rl Ni
def dS (k:aK):It:=if dB k then .mk false k [] else match iy k.data.toList with
 | .ok x=>x
 | .error _=>it0
abbrev uL (n:Nd):It:=.mk false ⟨(iA n.p (decide (n.kd=1))).toArray⟩ []
def bQ (n:Nd):List It:=if n.kd=3 then n.ks.map dS++[it0] else if n.kd=1 then [uL n,.mk false n.v []] else [uL n,dS (n.ks.getD 0 eB)]
def gq (n:Nd):It:=.mk true ⟨#[]⟩ (bQ n)
def jP (n:Nd):aL:=(gq n).bytes
theorem Ig (x:It):∀ {d e:Nat},Fits d x->e+x.bytes.length<=65->Fits e x:=by
 induction x using It.ind with
 | h l s xs ih =>
  intro d e h he;have hb:=tZ h (by omega);have hb1:=List.length_pos_iff.2 hb;have hless:∀ y∈xs,y.bytes.length<(It.mk l s xs).bytes.length:=λy hy=>zG h (by omega) hy;cases h with
  | mk ha hs hx hy=>exact .mk (by omega) hs hx (λy hm=>ih y hm (hy y hm) (by have:=hless y hm; omega))
theorem TV (xs:List It) (h:∀ y∈xs,y.size<=y.bytes.length):(xs.map It.size).sum<=((xs.map It.bytes).flatten).length:=by
 induction xs with
 | nil=>exact aF
 | cons y ys ih =>
  rw [List.map_cons,List.sum_cons,List.map_cons,List.flatten_cons,List.length_append];have h1:=h y (List.mem_cons_self ..);have h2:=ih (λz hz=>h z (List.mem_cons_of_mem _ hz));omega
theorem uQ (x:It):∀ {d:Nat},Fits d x->x.bytes.length<=4294967296->x.size<=x.bytes.length:=by
 induction x using It.ind with
 | h l s xs ih =>
  intro d h hb;have hp:=List.length_pos_iff.2 (tZ h hb);have hless:∀ y∈xs,y.bytes.length<(It.mk l s xs).bytes.length:=λy hy=>zG h hb hy;have hle:=TV xs (λy hy=>ih y hy (Ng h hy) (by have:=hless y hy; omega));rw [It.size_mk];cases l with
  | true =>
   have h1:=xU h hb rfl;have h2:=iQ (((It.mk true s xs).xs.map It.bytes).flatten).length true;simp only [It.xs] at h1 h2;omega
  | false =>
   cases h with
   | mk ha hs hx hy =>
    rw [hx rfl] at hp ⊢;rw [List.map_nil,List.sum_nil];exact hp
theorem FT {x:It} (h:Fits 0 x) (hb:x.bytes.length<=4294967296) (hk:x.size<=4096):iy x.bytes = .ok x:=by
 have:=forth x 0 0 [] h hb (by omega);rw [List.append_nil] at this;unfold iy;rw [this];dsimp only;rw [if_neg (by omega)]
theorem qj (d:Nat) (hd:d<=64) (s:aK):Fits d (.mk false s []):=.mk hd (λe=>by cases e) (λ_=>rfl) (λy hy=>by cases hy)
theorem tH (s:aK) (h:s.size<=4294967296):(It.mk false s []).bytes.length<=9+s.size:=by
 rw [lN s h,List.length_append,jg];have:=mW s.size false (by omega);split
 .simp
 .omega
theorem sQ {k:aK} (hp:dB k=false) (h:bP k=true):∃ x n,iy k.data.toList = .ok x/\dS k=x/\x.l=true/\eT x.xs=some n/\k.size<32/\x.bytes=k.data.toList/\Fits 0 x/\fG bP n=true:=by
 unfold bP at h;rw [hp,Bool.false_or,Bool.and_eq_true] at h;have h32:k.size<32:=of_decide_eq_true h.1;obtain ⟨n,hn⟩:=Option.isSome_iff_exists.1 h.2;have hsl:=jg k;obtain ⟨x,hw,hr,hm⟩:=Dj (by omega) hn;obtain ⟨g1,g2,g3⟩:=oH (by omega) hw;refine ⟨x,n,hw,?_,?_,hr,h32,g1,g2,hm⟩
 .unfold dS;rw [hp,hw];rfl
 .refine BJ g2 (λe=>?_);rw [e] at hr;cases hr
theorem nP {k:aK} (hp:dB k=true):dS k = .mk false k []:=by
 unfold dS;rw [hp];rfl
theorem lJ {k:aK} (hp:dB k=true):k.size=0\/k.size=32:=of_decide_eq_true hp
theorem lM {k:aK} (h:bP k=true):Fits 1 (dS k)/\(dS k).bytes.length<=41:=by
 cases hp:dB k with
 | true =>
  rw [nP hp];have:=lJ hp;have h2:=tH k (by omega);exact ⟨qj 1 (by omega) k,by omega⟩
 | false =>
  obtain ⟨x,n,hw,e,hl,hr,h32,hb,hf,_⟩:=sQ hp h;have hsl:=jg k;rw [e];exact ⟨Ig x hf (by rw [hb]; omega),by rw [hb]; omega⟩
theorem Dx {k:aK} (h:bP k=true):mV (dS k)=some k:=by
 cases hp:dB k with
 | true =>
  rw [nP hp];show (if dB k then some k else none)=some k;rw [hp];rfl
 | false =>
  obtain ⟨x,n,hw,e,hl,hr,h32,hb,hf,_⟩:=sQ hp h;have hsl:=jg k;rw [e];unfold mV;rw [hl,if_pos rfl,if_pos (by rw [hb]; omega),hb]
theorem qJ (xs:List It) (m:Nat) (h:∀ y∈xs,y.bytes.length<=m):((xs.map It.bytes).flatten).length<=xs.length*m:=by
 induction xs with
 | nil=>simp
 | cons y ys ih =>
  rw [List.map_cons,List.flatten_cons,List.length_append,List.length_cons,Nat.succ_mul];have h1:=h y (List.mem_cons_self ..);have h2:=ih (λz hz=>h z (List.mem_cons_of_mem _ hz));omega
theorem jE {n:Nd} (h:fG bP n=true):n.p.length<=64/\dx n.p=true/\lI bP n=true:=by
 unfold fG at h;rw [Bool.and_eq_true,Bool.and_eq_true] at h;exact ⟨of_decide_eq_true h.1.1,h.1.2,h.2⟩
theorem Tz {ks:List aK} (h:(bJ ks).all bP=true):∀ k∈ks,bP k=true:=by
 intro k hk;by_cases hz:k.size=0
 .unfold bP dB;simp [hz]
 .exact List.all_eq_true.1 h k (List.mem_filter.2 ⟨hk,by simp; intro e; rw [e] at hz; exact hz rfl⟩)
theorem jJ {n:Nd} (_hl:n.ks.length=16) (h:fG bP n=true) :
  n.kd=1/\n.v.size≠0/\n.v.size<=65552/\(bJ n.ks).length=0\/n.kd=2/\0<n.p.length/\n.v.size=0/\(bJ n.ks).length=1/\(n.ks.getD 0 eB).size≠0/\bP (n.ks.getD 0 eB)=true\/n.kd=3/\n.p=[]/\n.v.size=0/\2<=(bJ n.ks).length/\∀ k∈n.ks,bP k=true:=by
 obtain ⟨_,_,h⟩:=jE h;unfold lI at h;by_cases h1:n.kd=1
 .rw [if_pos h1] at h;simp only [Bool.and_eq_true,decide_eq_true_eq] at h;exact .inl ⟨h1,h.1.1,h.1.2,h.2⟩
 .rw [if_neg h1] at h;by_cases h2:n.kd=2
  .rw [if_pos h2] at h;simp only [Bool.and_eq_true,decide_eq_true_eq] at h;exact .inr (.inl ⟨h2,h.1.1.1.1,h.1.1.1.2,h.1.1.2,h.1.2,h.2⟩)
  .rw [if_neg h2] at h;by_cases h3:n.kd=3
   .rw [if_pos h3] at h;simp only [Bool.and_eq_true,decide_eq_true_eq] at h;exact .inr (.inr ⟨h3,List.eq_nil_of_length_eq_zero h.1.1.1,h.1.1.2,h.1.2,Tz h.2⟩)
   .rw [if_neg h3] at h; cases h
theorem vI {n:Nd} (hl:n.ks.length=16) (h:fG bP n=true):∀ y∈bQ n,Fits 1 y/\y.bytes.length<=65561:=by
 obtain ⟨g1,g2,g3⟩:=jE h;have hpk:Fits 1 (uL n)/\(uL n).bytes.length<=65561:=by
  have:=nS n.p (decide (n.kd=1));have h2:=tH ⟨(iA n.p (decide (n.kd=1))).toArray⟩ (by omega);exact ⟨qj 1 (by omega) _,Nat.le_trans h2 (by omega)⟩
 rcases jJ hl h with ⟨k1,v1,v2,_⟩ | ⟨k1,_,_,_,_,hr⟩ | ⟨k1,_,_,_,hr⟩
 .unfold bQ;rw [if_neg (by omega),if_pos k1];intro y hy;rcases List.mem_cons.1 hy with rfl | hy
  .exact hpk
  .rcases List.mem_cons.1 hy with rfl | hy
   .have h2:=tH n.v (by omega);exact ⟨qj 1 (by omega) _,by omega⟩
   .cases hy
 .unfold bQ;rw [if_neg (by omega),if_neg (by omega)];intro y hy;rcases List.mem_cons.1 hy with rfl | hy
  .exact hpk
  .rcases List.mem_cons.1 hy with rfl | hy
   .have:=lM hr;exact ⟨this.1,by omega⟩
   .cases hy
 .unfold bQ;rw [if_pos k1];intro y hy;rcases List.mem_append.1 hy with hy | hy
  .obtain ⟨k,hk,rfl⟩:=List.mem_map.1 hy;have:=lM (hr k hk);exact ⟨this.1,by omega⟩
  .rcases List.mem_cons.1 hy with rfl | hy
   .have h2:=tH eB (by decide);refine ⟨qj 1 (by omega) _,?_⟩;have:eB.size=0:=rfl;show (It.mk false eB []).bytes.length<=_;omega
   .cases hy
theorem xD {n:Nd} (hl:n.ks.length=16):(bQ n).length<=17:=by
 unfold bQ;split
 .simp [hl]
 .split <;> simp
theorem Du {n:Nd} (hl:n.ks.length=16) (h:fG bP n=true):Fits 0 (gq n)/\(gq n).bytes.length<=1200000/\(gq n).size<=4096/\(jP n).length=(gq n).bytes.length:=by
 have hg:=vI hl h;have hf:Fits 0 (gq n):=.mk (by omega) (λ_=>rfl) (λe=>by cases e) (λy hy=>(hg y hy).1);have eK:=xD hl;have hlen:=qJ (bQ n) 65561 (λy hy=>(hg y hy).2);have hm:(bQ n).length*65561<=17*65561:=Nat.mul_le_mul_right _ eK;have hb:(gq n).bytes.length<=1200000:=by
  unfold gq;rw [jB _ (by omega),List.length_append];have:=mW ((bQ n).map It.bytes).flatten.length true (by omega);omega
 refine ⟨hf,hb,?_,rfl⟩;unfold gq;rw [It.size_mk];have:∀ y∈bQ n,y.size<=200:=by
  obtain ⟨g1,g2,g3⟩:=jE h;rcases jJ hl h with ⟨k1,v1,v2,_⟩ | ⟨k1,_,_,_,_,hr⟩ | ⟨k1,_,_,_,hr⟩
  .unfold bQ;rw [if_neg (by omega),if_pos k1];intro y hy;rcases List.mem_cons.1 hy with rfl | hy
   .rw [It.size_mk]; simp
   .rcases List.mem_cons.1 hy with rfl | hy
    .rw [It.size_mk]; simp
    .cases hy
  .unfold bQ;rw [if_neg (by omega),if_neg (by omega)];intro y hy;rcases List.mem_cons.1 hy with rfl | hy
   .rw [It.size_mk]; simp
   .rcases List.mem_cons.1 hy with rfl | hy
    .have:=lM hr;have:=uQ _ this.1 (by omega);omega
    .cases hy
  .unfold bQ;rw [if_pos k1];intro y hy;rcases List.mem_append.1 hy with hy | hy
   .obtain ⟨k,hk,rfl⟩:=List.mem_map.1 hy;have:=lM (hr k hk);have:=uQ _ this.1 (by omega);omega
   .rcases List.mem_cons.1 hy with rfl | hy
    .unfold it0; rw [It.size_mk]; simp
    .cases hy
 have hs:((bQ n).map It.size).sum<=(bQ n).length*200:=by
  generalize bQ n=l at this
  induction l with
  | nil=>simp
  | cons y ys ih =>
   rw [List.map_cons,List.sum_cons,List.length_cons,Nat.succ_mul];have h1:=this y (List.mem_cons_self ..);have h2:=ih (λz hz=>this z (List.mem_cons_of_mem _ hz));omega
 have:(bQ n).length*200<=17*200:=Nat.mul_le_mul_right _ eK;omega
theorem CZ {ks:List aK} (h:(bJ ks).length=0):ks=List.replicate ks.length eB:=by
 induction ks with
 | nil=>rfl
 | cons k ks ih =>
  unfold bJ at h;rw [List.filter_cons] at h;split at h
  .cases h
  .rename_i hz;simp at hz;rw [List.length_cons,List.replicate_succ,<-ih h];congr 1
theorem SF {ks:List aK} (hl:ks.length=16) (h:(bJ ks).length=1) (h0:(ks.getD 0 eB).size≠0):ks=dI (ks.getD 0 eB):=by
 cases ks with
 | nil=>cases hl
 | cons k ks =>
  have h0':k.size≠0:=h0;unfold bJ at h;rw [List.filter_cons,if_pos (by simp; intro e; rw [e] at h0'; exact h0' rfl),List.length_cons] at h;have:=CZ (ks:=ks) (by unfold bJ; omega);unfold dI;rw [List.length_cons] at hl;rw [show ks.length=15 by omega] at this;rw [this];rfl
theorem Uj {ks:List aK} (h:∀ k∈ks,bP k=true):ou (ks.map dS)=some ks:=by
 induction ks with
 | nil=>rfl
 | cons k ks ih =>
  rw [List.map_cons];unfold ou;rw [Dx (h k (List.mem_cons_self ..)),ih (λz hz=>h z (List.mem_cons_of_mem _ hz))]
theorem JE {n:Nd} (hl:n.ks.length=16) (h:fG bP n=true):eT (bQ n)=some n:=by
 obtain ⟨g1,g2,g3⟩:=jE h;have hsz:=nS n.p (decide (n.kd=1));have hgood:=PI n.p (decide (n.kd=1)) g2 g1;have o8:=NW n.p (decide (n.kd=1)) g2;have o9:=QW n.p (decide (n.kd=1)) g2;obtain ⟨S,hS⟩:=av (⟨(iA n.p (decide (n.kd=1))).toArray⟩:aK)
 have hpi:uL n = .mk false S []:=by unfold uL; rw [hS]
 rw [hS] at hsz hgood o8 o9;rcases jJ hl h with ⟨k1,v1,v2,hk⟩ | ⟨k1,hp0,hv,hk,hk0,hr⟩ | ⟨k1,hp,hv,hk,hr⟩
 .have hI:bQ n=[.mk false S [],.mk false n.v []]:=by unfold bQ; rw [if_neg (by omega),if_pos k1,hpi]
  rw [hI];unfold eT;rw [if_pos (by rfl)];show iW (.mk false S []) (.mk false n.v [])=some n;unfold iW;rw [if_neg (by
   rintro (e | e)
   .have e':S.size=0:=e;omega
   .exact hgood e)]
  show (if qc S=true then some (⟨1,nu S,n.v,zks⟩:Nd) else _)=some n;rw [o8,o9,k1,if_pos (by decide)];have:=CZ hk;rw [hl] at this;cases n;simp only at k1 this ⊢;rw [k1,this];rfl
 .have hI:bQ n=[.mk false S [],dS (n.ks.getD 0 eB)]:=by unfold bQ; rw [if_neg (by omega),if_neg (by omega),hpi]
  rw [hI];unfold eT;rw [if_pos (by rfl)];show iW (.mk false S []) (dS (n.ks.getD 0 eB))=some n;unfold iW;rw [if_neg (by
   rintro (e | e)
   .have e':S.size=0:=e;omega
   .exact hgood e)]
  show (if qc S=true then _ else (mV (dS (n.ks.getD 0 eB))).map λk=>(⟨2,nu S,eB,dI k⟩:Nd))=some n;rw [o8,o9,k1,if_neg (by decide),Dx hr,Option.map_some,<-SF hl hk hk0];have o7:=eF hv;cases n;simp only at k1 o7 ⊢;rw [k1,o7]
 .have hI:bQ n=n.ks.map dS++[it0]:=by unfold bQ; rw [if_pos k1]
  rw [hI];unfold eT;have hlen:(n.ks.map dS++[it0]).length=17:=by simp [hl]
  rw [if_neg (by omega),if_pos hlen];unfold dK;rw [List.take_append_of_le_length (by simp [hl]),List.take_of_length_le (by simp [hl]),Uj hr];have e16:(n.ks.map dS++[it0]).getD 16 it0=it0:=by
   rw [List.getD_eq_getElem?_getD,List.getElem?_append_right (by simp [hl])];simp [hl]
  rw [e16];dsimp only;rw [if_pos ⟨rfl,rfl⟩];have o7:=eF hv;cases n;simp only at k1 o7 hp ⊢;rw [k1,o7,hp]
theorem get_put {n:Nd} (hl:n.ks.length=16) (h:fG bP n=true):vW (jP n)=some n:=by
 obtain ⟨f1,f2,f3,_⟩:=Du hl h;unfold jP;rw [FJ _ (by omega),FT f1 (by omega) f3];dsimp only;rw [show (gq n).xs=bQ n from rfl,JE hl h];dsimp only;rw [h];rfl
end No
end
section
namespace Tr
open Rf Rl Ni No
def iR (n:Nd):aK:=⟨(jP n).toArray⟩
def bU (f:Fin 16->aK):List aK:=(List.finRange 16).map f
def ref:T->aK
 | .nil=>eB
 | .leaf p v=>ofP (iR ⟨1,p,v,zks⟩)
 | .ext q t=>ofP (iR ⟨2,q,eB,dI (ref t)⟩)
 | .br ks=>ofP (iR ⟨3,[],eB,bU λi=>ref (ks i)⟩)
 | .stub r=>r
def bH:T->Nd
 | .nil=>nd0
 | .leaf p v=>⟨1,p,v,zks⟩
 | .ext q t=>⟨2,q,eB,dI (ref t)⟩
 | .br ks=>⟨3,[],eB,bU λi=>ref (ks i)⟩
 | .stub _=>nd0
def eU:T->aK
 | .nil=>eB
 | .stub _=>eB
 | t=>iR (bH t)
def dH:T->Prop
 | .stub _=>True
 | _=>False
theorem zN {t:T} (h:¬ dH t):ref t=ofP (eU t):=by
 cases t with
 | stub r=>exact absurd trivial h
 | nil=>rfl
 | leaf p v=>rfl
 | ext q t=>rfl
 | br ks=>rfl
theorem eD {t:T} (h:Full t):¬ dH t:=by
 cases t with
 | stub r=>exact h.elim
 | _=>exact id
theorem mq (f:Fin 16->aK):(bU f).length=16:=by simp [bU]
theorem dh (t:T):(bH t).ks.length=16:=by
 cases t with
 | nil=>rfl
 | leaf p v=>rfl
 | ext q t=>exact fM _
 | br ks=>exact mq _
 | stub r=>rfl
theorem xA {p:Pa} (h:Nib p):dx p=true:=by
 unfold dx;rw [List.all_eq_true];intro c hc;have:=h c hc;exact aI (by omega)
def Fine:T->Prop
 | .nil=>True
 | .leaf _ v=>v.size≠0/\v.size<=65552
 | .ext _ t=>Fine t
 | .br ks=>∀ i,Fine (ks i)
 | .stub r=>bP r=true/\r.size≠0
theorem xJ (n:Nd):(iR n).size=(jP n).length:=by
 show (jP n).toArray.size=_;simp
theorem Dr (n:Nd):(iR n).data.toList=jP n:=by
 show (jP n).toArray.toList=_;simp
theorem put_pos {n:Nd} (hl:n.ks.length=16) (h:fG bP n=true):0<(jP n).length:=by
 have:=No.get_put hl h;rcases Nat.eq_zero_or_pos (jP n).length with h0 | h0
 .have:=WV (s:=jP n) (by omega) this;omega
 .exact h0
theorem EX {n:Nd} (hl:n.ks.length=16) (h:fG bP n=true):bP (ofP (iR n))=true/\(ofP (iR n)).size≠0:=by
 have hp:=put_pos hl h;have hs:=xJ n;unfold ofP;by_cases h32:(iR n).size<32
 .rw [if_pos h32];refine ⟨?_,by omega⟩;unfold bP;rw [Dr,No.get_put hl h,aI h32];simp
 .rw [if_neg h32];have hz:(⟨(jI (iR n)).toArray⟩:aK).size=32:=by
   have:(⟨(jI (iR n)).toArray⟩:aK).size=(jI (iR n)).length:=by show (jI (iR n)).toArray.size=_; simp
   rw [this,pE]
  refine ⟨?_,by omega⟩;unfold bP;rw [show dB _=true from aI (.inr hz)];rfl
theorem xP:(bJ zks).length=0:=by decide +kernel
theorem Ee {k:aK} (h:k.size≠0):bJ (dI k)=[k]:=by
 have hz:bJ (List.replicate 15 eB)=[]:=by decide +kernel
 have:bJ (k::List.replicate 15 eB)=k::bJ (List.replicate 15 eB):=by
  unfold bJ;rw [List.filter_cons_of_pos (by simpa using h)]
 show bJ (k::List.replicate 15 eB)=_;rw [this,hz]
theorem PO {f:Fin 16->aK} {i j:Fin 16} (hij:i≠j) (hi:(f i).size≠0) (hj:(f j).size≠0):2<=(bJ (bU f)).length:=by
 unfold bJ bU;rw [List.filter_map,List.length_map];have hnd:((List.finRange 16).filter ((λk:aK=>decide (k.size≠0)) ∘ f)).Nodup:=(List.nodup_finRange 16).filter _;have mi:i∈(List.finRange 16).filter ((λk:aK=>decide (k.size≠0)) ∘ f):=List.mem_filter.2 ⟨List.mem_finRange i,aI hi⟩;have mj:j∈(List.finRange 16).filter ((λk:aK=>decide (k.size≠0)) ∘ f):=List.mem_filter.2 ⟨List.mem_finRange j,aI hj⟩
 match hk:(List.finRange 16).filter ((λk:aK=>decide (k.size≠0)) ∘ f) with
 | []=>rw [hk] at mi; cases mi
 | [a] =>
  rw [hk] at mi mj;exact absurd ((List.mem_singleton.1 mi).trans (List.mem_singleton.1 mj).symm) hij
 | a::b::l=>simp
theorem QB {f:Fin 16->aK} {R:aK->Bool} (h:∀ i,(f i).size≠0->R (f i)=true):(bJ (bU f)).all R=true:=by
 rw [List.all_eq_true];intro k hk;obtain ⟨h1,h2⟩:=List.mem_filter.1 hk;obtain ⟨i,_,rfl⟩:=List.mem_map.1 h1;exact h i (of_decide_eq_true h2)
theorem eZ:∀ (t:T) (L:Nat),Good t L->L<=64->Fine t->t ≠ .nil->(¬ dH t->fG bP (bH t)=true)/\bP (ref t)=true/\(ref t).size≠0
 | .nil,_,_,_,_,h=>absurd rfl h
 | .leaf p v,L,g,hL,hf,_=>by
  have hm:fG bP ⟨1,p,v,zks⟩=true:=by
   unfold fG lI;rw [aI (show (⟨1,p,v,zks⟩:Nd).p.length<=64 from by show p.length<=64; rw [g.1]; exact hL),xA (show Nib (⟨1,p,v,zks⟩:Nd).p from g.2),if_pos rfl,
    aI (show (⟨1,p,v,zks⟩:Nd).v.size≠0 from hf.1),aI (show (⟨1,p,v,zks⟩:Nd).v.size<=65552 from hf.2),aI (show (bJ (⟨1,p,v,zks⟩:Nd).ks).length=0 from xP)]
   rfl
  exact ⟨λ_=>hm,EX rfl hm⟩
 | .ext q t,L,g,hL,hf,_=>by
  obtain ⟨g1,g2,g3,g4,g5⟩:=g;obtain ⟨_,h2,h3⟩:=eZ t _ g5 (by omega) hf (qM g4);have hm:fG bP ⟨2,q,eB,dI (ref t)⟩=true:=by
   unfold fG lI;rw [aI (show (⟨2,q,eB,dI (ref t)⟩:Nd).p.length<=64 from by show q.length<=64; omega),xA (show Nib (⟨2,q,eB,dI (ref t)⟩:Nd).p from g2),if_neg (show ¬ (⟨2,q,eB,dI (ref t)⟩:Nd).kd=1 by show ¬ ((2:Int)=1); decide),if_pos rfl,
    aI (show 0<(⟨2,q,eB,dI (ref t)⟩:Nd).p.length from List.length_pos_iff.2 g1),aI (show (⟨2,q,eB,dI (ref t)⟩:Nd).v.size=0 from rfl),
    aI (show (bJ (⟨2,q,eB,dI (ref t)⟩:Nd).ks).length=1 from by show (bJ (dI (ref t))).length=1; rw [Ee h3]; rfl),
    aI (show ((⟨2,q,eB,dI (ref t)⟩:Nd).ks.getD 0 eB).size≠0 from h3),show bP ((⟨2,q,eB,dI (ref t)⟩:Nd).ks.getD 0 eB)=true from h2]
   rfl
  exact ⟨λ_=>hm,EX (fM _) hm⟩
 | .br ks,L,g,hL,hf,_=>by
  obtain ⟨g1,⟨i,j,hij,hi,hj⟩,g3⟩:=g;have hk:∀ i,(ref (ks i)).size≠0->bP (ref (ks i))=true:=λi h=>by
   refine (eZ (ks i) _ (g3 i) (by omega) (hf i) (λe=>h ?_)).2.1;rw [e]; rfl
  have hm:fG bP ⟨3,[],eB,bU λi=>ref (ks i)⟩=true:=by
   unfold fG lI;rw [aI (show (⟨3,[],eB,bU λi=>ref (ks i)⟩:Nd).p.length<=64 from Nat.zero_le _),xA (show Nib (⟨3,[],eB,bU λi=>ref (ks i)⟩:Nd).p from .nil),if_neg (show ¬ (⟨3,[],eB,bU λi=>ref (ks i)⟩:Nd).kd=1 by show ¬ ((3:Int)=1); decide),if_neg (show ¬ (⟨3,[],eB,bU λi=>ref (ks i)⟩:Nd).kd=2 by show ¬ ((3:Int)=2); decide),if_pos rfl,
    aI (show (⟨3,[],eB,bU λi=>ref (ks i)⟩:Nd).p.length=0 from rfl),aI (show (⟨3,[],eB,bU λi=>ref (ks i)⟩:Nd).v.size=0 from rfl),
    aI (show 2<=(bJ (⟨3,[],eB,bU λi=>ref (ks i)⟩:Nd).ks).length from PO (f:=λi=>ref (ks i)) hij (eZ (ks i) _ (g3 i) (by omega) (hf i) hi).2.2 (eZ (ks j) _ (g3 j) (by omega) (hf j) hj).2.2),
    show (bJ (⟨3,[],eB,bU λi=>ref (ks i)⟩:Nd).ks).all bP=true from QB hk]
   rfl
  exact ⟨λ_=>hm,EX (mq _) hm⟩
 | .stub r,_,_,_,hf,_=>⟨λh=>absurd trivial h,hf⟩
theorem yw {s:Pa} {t:T} (h:Fine t):Fine (wrap s t):=by
 unfold wrap;split
 .exact h
 .exact h
theorem FZ {i j:Fin 16} {a b:T} (ha:Fine a) (hb:Fine b):Fine (two i j a b):=λk=>by
 dsimp only;split
 .exact ha
 .split
  .exact hb
  .trivial
theorem Ao:∀ (t:T),Fine t->∀ (p:Pa) (v:aK),v.size≠0->v.size<=65552->Fine (put t p v)
 | .nil,_,_,v,h1,h2=>⟨h1,h2⟩
 | .leaf q u,f,p,v,h1,h2=>by
  unfold put;split
  .exact ⟨h1,h2⟩
  .unfold fork; exact yw (FZ f ⟨h1,h2⟩)
 | .ext q t,f,p,v,h1,h2=>by
  unfold put;split
  .exact Ao t f _ v h1 h2
  .unfold fork; exact yw (FZ (yw f) ⟨h1,h2⟩)
 | .br ks,f,p,v,h1,h2=>by
  cases p with
  | nil=>exact f
  | cons c r =>
   intro k;dsimp only;split
   .exact Ao (ks k) (f k) r v h1 h2
   .exact f k
 | .stub _,f,_,_,_,_=>f
theorem rz:∀ (L:Nat) (l:List In),(∀ x∈l,x.2.size≠0/\x.2.size<=65552)->Fine (build L l):=by
 intro L
 induction L using Nat.strongRecOn with
 | ind L ih =>
  intro l h;have hr:∀ (m:List In) (n:Nat),(∀ x∈m,x.2.size≠0/\x.2.size<=65552)->∀ x∈bR m n,x.2.size≠0/\x.2.size<=65552:=λm n hm x hx=>by
   obtain ⟨y,hy,rfl⟩:=List.mem_map.1 hx;exact hm y hy
  match l with
  | []=>rw [build]; trivial
  | [x]=>rw [build]; exact h x (by simp)
  | x::y::r =>
   rw [build];split
   .exact ih _ (by omega) _ (hr _ _ h)
   .split
    .exact λc=>ih _ (by omega) _ (hr _ _ (λz hz=>h z (lY.1 hz).1))
    .trivial
end Tr
end
section
namespace Tr
open Rf Rl Ni No
abbrev Key:=aL
abbrev Pair:=Key × aK
def path (k:Key):Pa:=ig ⟨k.toArray⟩
theorem iJ (k:Key):(path k).length=2*k.length:=by
 unfold path;rw [gM];rfl
theorem EC {p:Pa} (h:dx p=true):Nib p:=λc hc=>by
 unfold dx at h;have:=of_decide_eq_true (List.all_eq_true.1 h c hc);omega
theorem mJ (k:Key):Nib (path k):=EC (yH _)
theorem BA {k k':Key} (hl:k.length=k'.length) (h:path k=path k'):k=k':=by
 have h1:=Cj ⟨k.toArray⟩;have h2:=Cj ⟨k'.toArray⟩;have e1:(⟨k.toArray⟩:aK).size=k.length:=by show k.toArray.size=_; simp
 have e2:(⟨k'.toArray⟩:aK).size=k'.length:=by show k'.toArray.size=_; simp
 rw [e1] at h1;rw [e2] at h2;unfold path at h;rw [h,hl,h2] at h1;simpa using h1.symm
theorem Ud {p:Pa} (hp:p.length=64) (hn:Nib p):∃ k:Key,k.length=32/\path k=p:=by
 refine ⟨gy p 32,mF _ _,?_⟩;exact BF p (xA hn) 32 (by omega)
structure Has (t:T) (m:Key->Option aK):Prop where
 good:Good t 64
 full:Full t
 fine:Fine t
 get:∀ k:Key,k.length=32->get t (path k)=some (m k)
theorem Has.nil:Has .nil (λ_=>none):=⟨trivial,trivial,trivial,λ_ _=>rfl⟩
theorem Has.put {t:T} {m:Key->Option aK} (h:Has t m) {k:Key} (hk:k.length=32) {v:aK} (h1:v.size≠0) (h2:v.size<=65552):Has (put t (path k) v) (λx=>if x=k then some v else m x):=by
 have hl:(path k).length=64:=by rw [iJ]; omega
 refine ⟨Bc t 64 h.good _ v hl (mJ k),Bj t h.full _ v,Ao t h.fine _ v h1 h2,λx hx=>?_⟩;rw [Tr.get_put t 64 h.good _ v hl (mJ k) (by rw [h.get k hk]; intro e; cases e) (path x) (by rw [iJ]; omega) (mJ x),h.get x hx];by_cases e:x=k
 .subst e; rw [if_pos rfl,if_pos rfl]
 .rw [if_neg e,if_neg (λh=>e (BA (by omega) h))]
theorem Has.congr {t:T} {m m':Key->Option aK} (h:Has t m) (e:∀ k:Key,k.length=32->m k=m' k):Has t m':=⟨h.good,h.full,h.fine,λk hk=>by rw [h.get k hk,e k hk]⟩
theorem Has.one {t t':T} {m:Key->Option aK} (h:Has t m) (g:Has t' m):t=t' :=
 uniq t t' 64 h.good h.full g.good g.full (λp h1 h2=>by
  obtain ⟨k,hk,rfl⟩:=Ud h1 h2;rw [h.get k hk,g.get k hk])
def ni:List Pair->List In
 | []=>[]
 | x::r=>if r.any (λy=>decide (y.1=x.1)) then ni r else (path x.1,x.2)::ni r
def iD:List Pair->Key->Option aK
 | [],_=>none
 | x::r,k=>match iD r k with
  | some v=>some v
  | none=>if x.1=k then some x.2 else none
theorem uE:∀ {l:List Pair} {k:Key},iD l k=none↔∀ x∈l,x.1≠k
 | [],_=>by simp [iD]
 | x::r,k=>by
  unfold iD;cases h:iD r k with
  | some v =>
   have h2:¬ ∀ x∈r,x.1≠k:=λg=>by rw [uE.2 g] at h; cases h
   constructor
   .intro e; cases e
   .intro g; exact absurd (λy hy=>g y (List.mem_cons_of_mem _ hy)) h2
  | none =>
   have h2:=uE.1 h;constructor
   .intro g y hy;rcases List.mem_cons.1 hy with rfl | hy
    .intro e; simp [e] at g
    .exact h2 y hy
   .intro g;have:=g x List.mem_cons_self;simp [this]
theorem zT:∀ {l:List Pair} {y:In},y∈ni l->∃ x∈l,y=(path x.1,x.2)
 | [],_,h=>by cases h
 | x::r,y,h=>by
  unfold ni at h;split at h
  .obtain ⟨z,hz,e⟩:=zT h;exact ⟨z,List.mem_cons_of_mem _ hz,e⟩
  .rcases List.mem_cons.1 h with rfl | h
   .exact ⟨x,List.mem_cons_self,rfl⟩
   .obtain ⟨z,hz,e⟩:=zT h;exact ⟨z,List.mem_cons_of_mem _ hz,e⟩
theorem AX:∀ {l:List Pair},(∀ x∈l,x.1.length=32)->Ok 64 (ni l)
 | [],_=>⟨λ_ h=>(by cases h),List.Pairwise.nil⟩
 | x::r,h=>by
  have ih:=AX (l:=r) (λy hy=>h y (List.mem_cons_of_mem _ hy));have hx:=h x List.mem_cons_self;unfold ni;split
  .exact ih
  .rename_i hn;refine ⟨λy hy=>?_,List.pairwise_cons.2 ⟨λy hy=>?_,ih.2⟩⟩
   .rcases List.mem_cons.1 hy with rfl | hy
    .exact ⟨by rw [iJ]; omega,mJ _⟩
    .exact ih.1 y hy
   .obtain ⟨z,hz,rfl⟩:=zT hy;intro e;have:=BA (by rw [hx,h z (List.mem_cons_of_mem _ hz)]) e;apply hn;rw [List.any_eq_true];exact ⟨z,hz,by simpa using this.symm⟩
theorem GH:∀ {l:List Pair},(∀ x∈l,x.1.length=32)->∀ k:Key,k.length=32->pR (ni l) (path k)=iD l k
 | [],_,k,_=>rfl
 | x::r,h,k,hk=>by
  have hr:∀ y∈r,y.1.length=32:=λy hy=>h y (List.mem_cons_of_mem _ hy);have ih:=GH hr k hk;have hx:=h x List.mem_cons_self;unfold ni iD;by_cases e:x.1=k
  .by_cases hn:r.any (λy=>decide (y.1=x.1))=true
   .rw [if_pos hn,ih];cases hl:iD r k with
    | some v=>rfl
    | none =>
     exfalso;obtain ⟨z,hz,ez⟩:=List.any_eq_true.1 hn;exact uE.1 hl z hz (by rw [<-e]; simpa using ez)
   .rw [if_neg hn];have hl:iD r k=none:=uE.2 (λy hy e2=>hn (List.any_eq_true.2 ⟨y,hy,by simp [e2,e]⟩));rw [hl];simp [pR,e]
  .have hp:¬ path x.1=path k:=λh=>e (BA (by omega) h);have hs:(match iD r k with | some v=>some v | none=>if x.1=k then some x.2 else none)=iD r k:=by
    cases iD r k with
    | some v=>rfl
    | none=>simp [e]
   rw [hs,<-ih];split
   .rfl
   .simp [pR,hp]
theorem Io {l:List Pair} (h:∀ x∈l,x.2.size≠0/\x.2.size<=65552):∀ x∈ni l,x.2.size≠0/\x.2.size<=65552:=λy hy=>by
 obtain ⟨x,hx,rfl⟩:=zT hy;exact h x hx
theorem OL {l:List Pair} (h:∀ x∈l,x.1.length=32) (hv:∀ x∈l,x.2.size≠0/\x.2.size<=65552):Has (build 64 (ni l)) (iD l) :=
 ⟨qF 64 _ (AX h),nZ 64 _,rz 64 _ (Io hv),λk hk=>by
  rw [Pw 64 _ (AX h) (path k) (by rw [iJ]; omega) (mJ k),GH h k hk]⟩
theorem Has.built {t:T} {l:List Pair} (g:Has t (iD l)) (h:∀ x∈l,x.1.length=32) (hv:∀ x∈l,x.2.size≠0/\x.2.size<=65552):t=build 64 (ni l):=g.one (OL h hv)
theorem Em:∀ (l:List Pair) (x:Pair) (k:Key),iD (l++[x]) k=if k=x.1 then some x.2 else iD l k
 | [],x,k=>by
  by_cases e:k=x.1
  .simp [iD,e]
  .have:¬ x.1=k:=λh=>e h.symm;simp [iD,e,this]
 | y::l,x,k=>by
  show iD (y::(l++[x])) k=_;have e1:iD (y::(l++[x])) k=match iD (l++[x]) k with
   | some v=>some v
   | none=>if y.1=k then some y.2 else none:=rfl
  rw [e1,Em l x k];by_cases e:k=x.1
  .rw [if_pos e,if_pos e]
  .rw [if_neg e,if_neg e];rfl
def bA (t:T) (l:List Pair):T:=l.foldl (λt x=>put t (path x.1) x.2) t
theorem yT (t:T) (l:List Pair) (x:Pair):bA t (l++[x])=put (bA t l) (path x.1) x.2:=by
 unfold bA;rw [List.foldl_append];rfl
theorem Nt:∀ (n:Nat) (l:List Pair),l.length=n->(∀ x∈l,x.1.length=32)->(∀ x∈l,x.2.size≠0/\x.2.size<=65552)->Has (bA .nil l) (iD l)
 | 0,l,hl,_,_=>by
  obtain rfl:=List.eq_nil_of_length_eq_zero hl;exact Has.nil
 | n+1,l,hl,h,hv=>by
  have hne:l≠[]:=λe=>by rw [e] at hl; cases hl
  obtain ⟨r,x,rfl⟩:∃ r x,l=r++[x]:=⟨l.dropLast,l.getLast hne,(List.dropLast_concat_getLast hne).symm⟩
  rw [List.length_append,List.length_singleton] at hl;have ih:=Nt n r (by omega) (λy hy=>h y (List.mem_append_left _ hy)) (λy hy=>hv y (List.mem_append_left _ hy));have hx:=h x (by simp);have Rc:=hv x (by simp);rw [yT];exact (ih.put hx Rc.1 Rc.2).congr (λk _=>(Em r x k).symm)
end Tr
end
section
namespace Tr
open Rf Rl Ni No
def aZ:T->List T
 | .ext _ t=>[t]
 | .br ks=>(dU ks).map ks
 | _=>[]
def DK (refs:List aK) (ts:List T) (i:Fin 16):T:=if (refs.getD i.val eB).size=0 then .nil else ts.getD (bJ (refs.take i.val)).length .nil
def makeT (n:Nd) (ts:List T):T:=if n.kd=1 then .leaf n.p n.v else if n.kd=2 then .ext n.p (ts.getD 0 .nil) else .br (DK n.ks ts)
theorem nW {t:T} (g:Good t L) (hL:L<=64) (f:Fine t):(ref t).size≠0↔t ≠ .nil:=by
 constructor
 .rintro h rfl; exact h rfl
 .intro h; exact (eZ t L g hL f h).2.2
theorem kP (f:Fin 16->aK) (i:Fin 16):(bU f).getD i.val eB=f i:=by
 have hi:=i.isLt;unfold bU;rw [List.getD_eq_getElem?_getD,List.getElem?_map,List.getElem?_eq_getElem (by simp)];simp
theorem Iq (f:Fin 16->aK) (n:Nat):(bU f).take n=((List.finRange 16).take n).map f:=by
 unfold bU;rw [List.map_take]
def rank (ks:Fin 16->T) (i:Fin 16):Nat:=(((List.finRange 16).take i.val).filter λj=>!isNil (ks j)).length
theorem Ce {ks:Fin 16->T} (h:∀ i,(ref (ks i)).size≠0↔ks i ≠ .nil) (l:List (Fin 16)):bJ (l.map λi=>ref (ks i))=(l.filter λj=>!isNil (ks j)).map λi=>ref (ks i):=by
 unfold bJ;rw [List.filter_map];congr 1;apply List.filter_congr;intro i _;show decide ((ref (ks i)).size≠0) = !isNil (ks i);cases hi:isNil (ks i) with
 | true =>
  have:=cu.1 hi;rw [decide_eq_false (λg=>(h i).1 g this)];rfl
 | false =>
  rw [aI ((h i).2 (λe=>by rw [cu.2 e] at hi; cases hi))];rfl
theorem Db {t:T} {L:Nat} (g:Good t L) (hL:L<=64) (f:Fine t):bJ (bH t).ks=(aZ t).map ref:=by
 cases t with
 | nil=>decide +kernel
 | leaf p v=>exact List.eq_nil_of_length_eq_zero xP
 | ext q t =>
  obtain ⟨_,_,_,g4,g5⟩:=g;exact Ee ((nW g5 (by omega) f).2 (qM g4))
 | br ks =>
  have h:∀ i,(ref (ks i)).size≠0↔ks i ≠ .nil:=λi=>nW (g.2.2 i) (by omega) (f i);show bJ (bU λi=>ref (ks i))=((dU ks).map ks).map ref;unfold bU;rw [Ce h,List.map_map];rfl
 | stub r=>exact List.eq_nil_of_length_eq_zero xP
theorem Oh {α:Type} (P : α->Bool) (l:List α) (i:Nat) (hi:i<l.length) (hp:P l[i]=true):(l.filter P)[((l.take i).filter P).length]? = some l[i]:=by
 have h:l=l.take i++l[i]::l.drop (i+1):=by
  rw [List.getElem_cons_drop,List.take_append_drop]
 have h2:l.filter P=(l.take i).filter P++l[i]::(l.drop (i+1)).filter P:=by
  conv=>lhs; rw [h]
  rw [List.filter_append,List.filter_cons_of_pos hp]
 rw [h2,List.getElem?_append_right aF,Nat.sub_self];rfl
theorem xX {ks:Fin 16->T} {i:Fin 16} (h:ks i ≠ .nil):(dU ks)[rank ks i]? = some i:=by
 have h1:(List.finRange 16)[i.val]'(by simp)=i:=by simp
 have h2:=Oh (λj=>!isNil (ks j)) (List.finRange 16) i.val (by simp) (by
  rw [h1];cases hi:isNil (ks i) with
  | false=>rfl
  | true=>exact absurd (cu.1 hi) h)
 rw [h1] at h2;exact h2
theorem VQ {ks:Fin 16->T} {i:Fin 16} (h:ks i ≠ .nil):rank ks i<(dU ks).length:=(List.getElem?_eq_some_iff.1 (xX h)).1
theorem Pb {ks:Fin 16->T} (h:∀ i,(ref (ks i)).size≠0↔ks i ≠ .nil) (ts:List T) (i:Fin 16):DK (bU λi=>ref (ks i)) ts i=if isNil (ks i) then .nil else ts.getD (rank ks i) .nil:=by
 unfold DK;rw [kP,Iq,Ce h,List.length_map];by_cases hn:ks i = .nil
 .have h1:(ref (ks i)).size=0:=Classical.byContradiction λg=>(h i).1 g hn;rw [if_pos h1,if_pos (cu.2 hn)]
 .rw [if_neg ((h i).2 hn),if_neg (λg=>hn (cu.1 g))];rfl
end Tr
end
section
namespace Tr
open Rf Rl Ni No
def bM:T->List aK
 | .nil=>[]
 | .leaf p v=>[eU (.leaf p v)]
 | .ext q t=>eU (.ext q t)::bM t
 | .br ks=>eU (.br ks)::((List.finRange 16).map λi=>bM (ks i)).flatten
 | .stub _=>[]
end Tr
end
section
namespace Tr
open Rf Rl Ni No
def bX:T->Nat
 | .nil=>0
 | .leaf _ _=>0
 | .ext _ t=>bX t
 | .br ks=>((List.finRange 16).map λi=>bX (ks i)).sum
 | .stub _=>1
theorem oD:∀ t:T,Full t->bX t=0
 | .nil,_=>rfl
 | .leaf _ _,_=>rfl
 | .ext _ t,f=>oD t f
 | .br ks,f=>by
  have e:((List.finRange 16).map λi=>bX (ks i))=(List.finRange 16).map λ_=>0:=List.map_congr_left λi _=>oD (ks i) (f i);show ((List.finRange 16).map λi=>bX (ks i)).sum=0;rw [e];decide
 | .stub _,f=>f.elim
end Tr
end
section
namespace Tr
open Rf Rl Ni No
def Cut:T->T->Prop
 | .ext q s,t'=>∃ s',t' = .ext q s'/\(s' = .stub (ref s)/\s ≠ .nil\/Cut s s')
 | .br ks,t'=>∃ ks',t' = .br ks'/\∀ i,ks' i = .stub (ref (ks i))/\ks i ≠ .nil\/Cut (ks i) (ks' i)
 | t,t'=>t'=t
theorem Cut.refl:∀ t:T,Cut t t
 | .nil=>rfl
 | .leaf _ _=>rfl
 | .stub _=>rfl
 | .ext _ s=>⟨s,rfl,.inr (Cut.refl s)⟩
 | .br ks=>⟨ks,rfl,λi=>.inr (Cut.refl (ks i))⟩
theorem Cut.ref:∀ {t t':T},Cut t t'->Tr.ref t'=Tr.ref t
 | .nil,_,h=>by rw [show _=T.nil from h]
 | .leaf _ _,_,h=>by rw [show _=T.leaf _ _ from h]
 | .stub _,_,h=>by rw [show _=T.stub _ from h]
 | .ext q s,_,h=>by
  obtain ⟨s',rfl,h⟩:=h;have e:Tr.ref s'=Tr.ref s:=by
   rcases h with ⟨rfl,_⟩ | h
   .rfl
   .exact h.ref
  show ofP (iR ⟨2,q,eB,dI (Tr.ref s')⟩)=ofP (iR ⟨2,q,eB,dI (Tr.ref s)⟩);rw [e]
 | .br ks,_,h=>by
  obtain ⟨ks',rfl,h⟩:=h;have e:∀ i,Tr.ref (ks' i)=Tr.ref (ks i):=λi=>by
   rcases h i with ⟨e,_⟩ | h
   .rw [e]; rfl
   .exact h.ref
  show ofP (iR ⟨3,[],eB,bU λi=>Tr.ref (ks' i)⟩)=ofP (iR ⟨3,[],eB,bU λi=>Tr.ref (ks i)⟩);rw [show (λi=>Tr.ref (ks' i))=λi=>Tr.ref (ks i) from funext e]
def Sub (s s':T):Prop:=s' = .stub (ref s)/\s ≠ .nil\/Cut s s'
theorem Sub.ref {s s':T} (h:Sub s s'):Tr.ref s'=Tr.ref s:=by
 rcases h with ⟨rfl,_⟩ | h
 .rfl
 .exact h.ref
theorem Cut.node {t t':T} (h:Cut t t'):bH t'=bH t:=by
 cases t with
 | nil=>rw [show t'=T.nil from h]
 | leaf p v=>rw [show t'=T.leaf _ _ from h]
 | stub r=>rw [show t'=T.stub _ from h]
 | ext q s =>
  obtain ⟨s',rfl,h⟩:=h;show (⟨2,q,eB,dI (Tr.ref s')⟩:Nd)=⟨2,q,eB,dI (Tr.ref s)⟩
  rw [Sub.ref h]
 | br ks =>
  obtain ⟨ks',rfl,h⟩:=h;show (⟨3,[],eB,bU λi=>Tr.ref (ks' i)⟩:Nd)=⟨3,[],eB,bU λi=>Tr.ref (ks i)⟩
  rw [show (λi=>Tr.ref (ks' i))=λi=>Tr.ref (ks i) from funext λi=>Sub.ref (h i)]
theorem Cut.enc {t t':T} (h:Cut t t'):eU t'=eU t:=by
 have hn:=h.node;cases t with
 | nil=>rw [show t'=T.nil from h]
 | leaf p v=>rw [show t'=T.leaf _ _ from h]
 | stub r=>rw [show t'=T.stub _ from h]
 | ext q s =>
  obtain ⟨s',rfl,_⟩:=h;show iR (bH _)=iR (bH _);rw [hn]
 | br ks =>
  obtain ⟨ks',rfl,_⟩:=h;show iR (bH _)=iR (bH _);rw [hn]
theorem Cut.Zh {t t':T} (h:Cut t t') (g:vD t):vD t':=by
 cases t with
 | nil=>exact g.elim
 | leaf p v=>exact g.elim
 | ext q s=>exact g.elim
 | stub r=>rw [show t'=T.stub _ from h]; trivial
 | br ks =>
  obtain ⟨ks',rfl,_⟩:=h
  trivial
theorem Cut.ne {t t':T} (h:Cut t t') (g:t ≠ .nil):t' ≠ .nil:=by
 cases t with
 | nil=>exact absurd rfl g
 | leaf p v=>rw [show t'=T.leaf _ _ from h]; intro e; cases e
 | stub r=>rw [show t'=T.stub _ from h]; intro e; cases e
 | ext q s =>
  obtain ⟨s',rfl,_⟩:=h;intro e; cases e
 | br ks =>
  obtain ⟨ks',rfl,_⟩:=h;intro e; cases e
theorem Cut.good:∀ {t t':T} {L:Nat},Cut t t'->Good t L->Good t' L
 | .nil,_,_,h,g=>by rw [show _=T.nil from h]; exact g
 | .leaf _ _,_,_,h,g=>by rw [show _=T.leaf _ _ from h]; exact g
 | .stub _,_,_,h,g=>by rw [show _=T.stub _ from h]; exact g
 | .ext q s,_,L,h,g=>by
  obtain ⟨s',rfl,h⟩:=h;refine ⟨g.1,g.2.1,g.2.2.1,?_,?_⟩
  .rcases h with ⟨rfl,_⟩ | h
   .trivial
   .exact h.Zh g.2.2.2.1
  .rcases h with ⟨rfl,_⟩ | h
   .trivial
   .exact h.good g.2.2.2.2
 | .br ks,_,L,h,g=>by
  obtain ⟨ks',rfl,h⟩:=h;obtain ⟨h1,⟨i,j,hij,hi,hj⟩,h3⟩:=g;have hne:∀ i,ks i ≠ .nil->ks' i ≠ .nil:=λi hi=>by
   rcases h i with ⟨e,_⟩ | h
   .rw [e]; intro e; cases e
   .exact h.ne hi
  refine ⟨h1,⟨i,j,hij,hne i hi,hne j hj⟩,λi=>?_⟩;rcases h i with ⟨e,_⟩ | h
  .rw [e]; trivial
  .exact h.good (h3 i)
theorem Cut.fine:∀ {t t':T} {L:Nat},Cut t t'->Good t L->L<=64->Fine t->Fine t'
 | .nil,_,_,h,_,_,f=>by rw [show _=T.nil from h]; exact f
 | .leaf _ _,_,_,h,_,_,f=>by rw [show _=T.leaf _ _ from h]; exact f
 | .stub _,_,_,h,_,_,f=>by rw [show _=T.stub _ from h]; exact f
 | .ext q s,_,L,h,g,hL,f=>by
  obtain ⟨s',rfl,h⟩:=h;rcases h with ⟨rfl,hn⟩ | h
  .exact (eZ s _ g.2.2.2.2 (by omega) f hn).2
  .exact h.fine g.2.2.2.2 (by omega) f
 | .br ks,_,L,h,g,hL,f=>by
  obtain ⟨ks',rfl,h⟩:=h;intro i;rcases h i with ⟨e,hn⟩ | h
  .rw [e]; exact (eZ (ks i) _ (g.2.2 i) (by omega) (f i) hn).2
  .exact h.fine (g.2.2 i) (by omega) (f i)
def bN:T->List aK
 | .nil=>[]
 | .leaf _ _=>[]
 | .ext _ t=>bN t
 | .br ks=>((List.finRange 16).map λi=>bN (ks i)).flatten
 | .stub r=>[r]
theorem jX:∀ t:T,(bN t).length=bX t
 | .nil=>rfl
 | .leaf _ _=>rfl
 | .stub _=>rfl
 | .ext _ t=>jX t
 | .br ks=>by
  show (((List.finRange 16).map λi=>bN (ks i)).flatten).length=((List.finRange 16).map λi=>bX (ks i)).sum;rw [List.length_flatten,List.map_map];congr 1;apply List.map_congr_left;intro i _;exact jX (ks i)
def bY:Nat->T->T
 | d,.ext q s=>.ext q (if d<=1/\(ref s).size=32 then .stub (ref s) else bY (d-1) s)
 | d,.br ks=>.br λi=>if d<=1/\(ref (ks i)).size=32 then .stub (ref (ks i)) else bY (d-1) (ks i)
 | _,t=>t
theorem om {s:T} (h:(ref s).size=32):s ≠ .nil:=by
 rintro rfl;have h2:(0:Nat)=32:=h;omega
theorem nK:∀ (t:T) (d:Nat),Cut t (bY d t)
 | .nil,_=>rfl
 | .leaf _ _,_=>rfl
 | .stub _,_=>rfl
 | .ext q s,d=>by
  refine ⟨_,rfl,?_⟩;by_cases h:d<=1/\(ref s).size=32
  .rw [if_pos h]; exact .inl ⟨rfl,om h.2⟩
  .rw [if_neg h]; exact .inr (nK s _)
 | .br ks,d=>by
  refine ⟨_,rfl,λi=>?_⟩;by_cases h:d<=1/\(ref (ks i)).size=32
  .rw [if_pos h]; exact .inl ⟨rfl,om h.2⟩
  .rw [if_neg h]; exact .inr (nK (ks i) _)
def yQ:Nat->T->List aK
 | d,.ext _ s=>if d<=1/\(ref s).size=32 then [ref s] else yQ (d-1) s
 | d,.br ks=>((List.finRange 16).map λi=>if d<=1/\(ref (ks i)).size=32 then [ref (ks i)] else yQ (d-1) (ks i)).flatten
 | _,_=>[]
theorem sW:∀ (t:T) (d:Nat),Full t->bN (bY d t)=yQ d t
 | .nil,_,_=>rfl
 | .leaf _ _,_,_=>rfl
 | .stub _,_,f=>f.elim
 | .ext q s,d,f=>by
  show bN (if d<=1/\(ref s).size=32 then .stub (ref s) else bY (d-1) s)=if d<=1/\(ref s).size=32 then [ref s] else yQ (d-1) s
  by_cases h:d<=1/\(ref s).size=32
  .rw [if_pos h,if_pos h]; rfl
  .rw [if_neg h,if_neg h]; exact sW s _ f
 | .br ks,d,f=>by
  show ((List.finRange 16).map λi=>bN (if d<=1/\(ref (ks i)).size=32 then .stub (ref (ks i)) else bY (d-1) (ks i))).flatten=((List.finRange 16).map λi=>if d<=1/\(ref (ks i)).size=32 then [ref (ks i)] else yQ (d-1) (ks i)).flatten;congr 1;apply List.map_congr_left;intro i _;by_cases h:d<=1/\(ref (ks i)).size=32
  .rw [if_pos h,if_pos h]; rfl
  .rw [if_neg h,if_neg h]; exact sW (ks i) _ (f i)
def onP (q:Pa) (ws:List Pa):List Pa:=(ws.filter λw=>decide (q<+:w)).map λw=>w.drop q.length
def onC (c:Nat) (ws:List Pa):List Pa:=(ws.filter λw=>decide (w≠[]/\(w.headD 0).toNat=c)).map List.tail
def jc:List Pa->T->T
 | ws,.ext q s=>.ext q (if onP q ws=[]/\(ref s).size=32 then .stub (ref s) else jc (onP q ws) s)
 | ws,.br ks=>.br λi=>if onC i.val ws=[]/\(ref (ks i)).size=32 then .stub (ref (ks i)) else jc (onC i.val ws) (ks i)
 | _,t=>t
theorem wN:∀ (t:T) (ws:List Pa),Cut t (jc ws t)
 | .nil,_=>rfl
 | .leaf _ _,_=>rfl
 | .stub _,_=>rfl
 | .ext q s,ws=>by
  refine ⟨_,rfl,?_⟩;by_cases h:onP q ws=[]/\(ref s).size=32
  .rw [if_pos h]; exact .inl ⟨rfl,om h.2⟩
  .rw [if_neg h]; exact .inr (wN s _)
 | .br ks,ws=>by
  refine ⟨_,rfl,λi=>?_⟩;by_cases h:onC i.val ws=[]/\(ref (ks i)).size=32
  .rw [if_pos h]; exact .inl ⟨rfl,om h.2⟩
  .rw [if_neg h]; exact .inr (wN (ks i) _)
end Tr
end
section
namespace Tr
open Rf Rl Ni No
theorem Ej (h:(ofP x).size<32):ofP x=x:=by
 by_cases hs:x.size<32
 .unfold ofP; rw [if_pos hs]
 .unfold ofP at h;rw [if_neg hs] at h;have:(⟨(jI x).toArray⟩:aK).size=(jI x).length:=by show (jI x).toArray.size=_; simp
  rw [this,pE] at h;omega
theorem Na (h:¬ (ofP x).size<32):32<=x.size/\ofP x=⟨(jI x).toArray⟩:=by
 by_cases hs:x.size<32
 .exfalso;apply h;unfold ofP;rw [if_pos hs];exact hs
 .refine ⟨by omega,?_⟩;unfold ofP;rw [if_neg hs]
theorem Kv {y:aK} (h:ofP x=ofP y) (hb:¬ (ofP y).size<32):jI x=jI y:=by
 have h1:=(Na hb).2;have h2:=(Na (x:=x) (by rw [h]; exact hb)).2;rw [h1,h2] at h;have:=congrArg (λz=>ByteArray.data z) h;exact congrArg Array.toList this
theorem Gy {t:T} {L:Nat} (g:Good t L) (hL:L<=64) (f:Fine t) (hn:t ≠ .nil) (hs:¬ dH t):vW (eU t).data.toList=some (bH t):=by
 have hm:=(eZ t L g hL f hn).1 hs;have e:eU t=iR (bH t):=by
  cases t with
  | nil=>exact absurd rfl hn
  | stub r=>exact absurd trivial hs
  | leaf p v=>rfl
  | ext q t=>rfl
  | br ks=>rfl
 rw [e,Dr];exact No.get_put (dh t) hm
theorem Dm {t:T} (hn:t ≠ .nil) (hs:¬ dH t):eU t∈bM t:=by
 cases t with
 | nil=>exact absurd rfl hn
 | stub r=>exact absurd trivial hs
 | leaf p v=>exact List.mem_singleton.2 rfl
 | ext q t=>exact List.mem_cons_self
 | br ks=>exact List.mem_cons_self
end Tr
end
section
namespace Tr
open Rf Rl Ni No
def bO (R:aK) (p:T):T->T
 | .ext q s=>.ext q (bO R p s)
 | .br ks=>.br λi=>bO R p (ks i)
 | .stub r=>if r=R then p else .stub r
 | t=>t
def bZ (R:aK):T->Nat
 | .ext _ s=>bZ R s
 | .br ks=>((List.finRange 16).map λi=>bZ R (ks i)).sum
 | .stub r=>if r=R then 1 else 0
 | _=>0
theorem qy {R:aK} {p:T} (h:ref p=R):∀ t:T,ref (bO R p t)=ref t
 | .nil=>rfl
 | .leaf _ _=>rfl
 | .stub r=>by
  show ref (if r=R then p else .stub r)=r;by_cases e:r=R
  .rw [if_pos e,h,e]
  .rw [if_neg e]; rfl
 | .ext q s=>by
  show ofP (iR ⟨2,q,eB,dI (ref (bO R p s))⟩)=ofP (iR ⟨2,q,eB,dI (ref s)⟩);rw [qy h s]
 | .br ks=>by
  show ofP (iR ⟨3,[],eB,bU λi=>ref (bO R p (ks i))⟩)=ofP (iR ⟨3,[],eB,bU λi=>ref (ks i)⟩);rw [show (λi=>ref (bO R p (ks i)))=λi=>ref (ks i) from funext λi=>qy h (ks i)]
theorem KN {R:aK} {p:T} (h:ref p=R) {t:T} (hs:¬ dH t):bH (bO R p t)=bH t:=by
 cases t with
 | nil=>rfl
 | leaf q v=>rfl
 | stub r=>exact absurd trivial hs
 | ext q s =>
  show (⟨2,q,eB,dI (ref (bO R p s))⟩:Nd)=⟨2,q,eB,dI (ref s)⟩
  rw [qy h s]
 | br ks =>
  show (⟨3,[],eB,bU λi=>ref (bO R p (ks i))⟩:Nd)=⟨3,[],eB,bU λi=>ref (ks i)⟩
  rw [show (λi=>ref (bO R p (ks i)))=λi=>ref (ks i) from funext λi=>qy h (ks i)]
theorem Qh {R:aK} {p:T} (h:ref p=R) {t:T} (hs:¬ dH t):eU (bO R p t)=eU t:=by
 have hn:=KN h hs;cases t with
 | nil=>rfl
 | leaf q v=>rfl
 | stub r=>exact absurd trivial hs
 | ext q s =>
  show iR (bH _)=iR (bH _);rw [hn]
 | br ks =>
  show iR (bH _)=iR (bH _);rw [hn]
theorem UF {α:Type} {f g h : α->Nat} (l:List α) (e:∀ i∈l,f i+g i=h i):(l.map f).sum+(l.map g).sum=(l.map h).sum:=by
 induction l with
 | nil=>rfl
 | cons x l ih =>
  have h1:=e x List.mem_cons_self;have h2:=ih λi hi=>e i (List.mem_cons_of_mem _ hi);simp only [List.map_cons,List.sum_cons];omega
theorem pQ {R:aK} {p:T} (hp:bX p=0):∀ t:T,bX (bO R p t)+bZ R t=bX t
 | .nil=>rfl
 | .leaf _ _=>rfl
 | .stub r=>by
  show bX (if r=R then p else .stub r)+(if r=R then 1 else 0)=1;by_cases e:r=R
  .rw [if_pos e,if_pos e,hp]
  .rw [if_neg e,if_neg e]; rfl
 | .ext _ s=>pQ hp s
 | .br ks=>UF (List.finRange 16) λi _=>pQ hp (ks i)
def Part (s:T):T->Prop
 | .ext q u=>s = .ext q u\/Part s u
 | .br ks=>s = .br ks\/∃ i,Part s (ks i)
 | t=>s=t
theorem Part.refl:∀ t:T,Part t t
 | .nil=>rfl
 | .leaf _ _=>rfl
 | .stub _=>rfl
 | .ext _ _=>.inl rfl
 | .br _=>.inl rfl
theorem SG {t s:T} (h:s∈aZ t):Part s t:=by
 cases t with
 | nil=>cases h
 | leaf p v=>cases h
 | stub r=>cases h
 | ext q u =>
  obtain rfl:s=u:=by simpa [aZ] using h
  exact .inr (Part.refl s)
 | br ks =>
  obtain ⟨i,_,rfl⟩:=List.mem_map.1 h;exact .inr ⟨i,Part.refl _⟩
theorem rC {s:T}:∀ {t:T},Part s t->∀ x∈bM s,x∈bM t
 | .nil,h,x,hx=>by rw [show s = .nil from h] at hx; exact hx
 | .leaf _ _,h,x,hx=>by rw [show s = .leaf _ _ from h] at hx; exact hx
 | .stub _,h,x,hx=>by rw [show s = .stub _ from h] at hx; exact hx
 | .ext q u,h,x,hx=>by
  rcases h with rfl | h
  .exact hx
  .exact List.mem_cons_of_mem _ (rC h x hx)
 | .br ks,h,x,hx=>by
  rcases h with rfl | ⟨i,h⟩
  .exact hx
  .exact List.mem_cons_of_mem _ (List.mem_flatten.2 ⟨_,List.mem_map.2 ⟨i,List.mem_finRange i,rfl⟩,rC h x hx⟩)
theorem tQ {s:T}:∀ {t:T} {L:Nat},Part s t->Good t L->Full t->Fine t->Full s/\Fine s/\∃ K,K<=L/\Good s K
 | .nil,L,h,g,f,e=>by rw [show s = .nil from h]; exact ⟨f,e,L,aF,g⟩
 | .leaf _ _,L,h,g,f,e=>by rw [show s = .leaf _ _ from h]; exact ⟨f,e,L,aF,g⟩
 | .stub _,_,_,_,f,_=>f.elim
 | .ext q u,L,h,g,f,e=>by
  rcases h with rfl | h
  .exact ⟨f,e,L,aF,g⟩
  .obtain ⟨h1,h2,K,hK,h3⟩:=tQ h g.2.2.2.2 f e;exact ⟨h1,h2,K,by omega,h3⟩
 | .br ks,L,h,g,f,e=>by
  rcases h with rfl | ⟨i,h⟩
  .exact ⟨f,e,L,aF,g⟩
  .obtain ⟨h1,h2,K,hK,h3⟩:=tQ h (g.2.2 i) (f i) (e i);exact ⟨h1,h2,K,by omega,h3⟩
theorem Oq {a b:aK} (h:dI a=dI b):a=b:=(List.cons.inj h).1
theorem JF {f g:Fin 16->aK} (h:bU f=bU g) (i:Fin 16):f i=g i:=by
 rw [<-kP f i,<-kP g i,h]
theorem VD:∀ (s:T) (L:Nat) (u:T) (K:Nat),Good s L->L<=64->Full s->Fine s->Good u K->K<=64->Full u->Fine u->(∀ x∈bM s,∀ y∈bM u,jI x=jI y->x=y)->ref s=ref u->s=u:=by
 have key:∀ (s:T) (L:Nat) (u:T) (K:Nat),s ≠ .nil->Good s L->L<=64->Full s->Fine s->Good u K->K<=64->Full u->Fine u->(∀ x∈bM s,∀ y∈bM u,jI x=jI y->x=y)->ref s=ref u->u ≠ .nil/\bH s=bH u:=by
  intro s L u K hs g hL f fi g' hK f' oa hc he;have hu:u ≠ .nil:=λe=>by
   subst e;exact (nW g hL fi).2 hs (by rw [he]; rfl)
  refine ⟨hu,?_⟩;have he2:eU s=eU u:=by
   have e1:=zN (eD f);have e2:=zN (eD f');rw [e1,e2] at he;by_cases hb:(ofP (eU u)).size<32
   .have h1:=Ej hb;have h2:=Ej (x:=eU s) (by rw [he]; exact hb);rw [<-h1,<-h2,he]
   .exact hc _ (Dm hs (eD f)) _ (Dm hu (eD f')) (Kv he hb)
  have h1:=Gy g hL fi hs (eD f);have h2:=Gy g' hK oa hu (eD f');rw [he2,h2] at h1;exact (Option.some.inj h1).symm
 intro s
 induction s with
 | nil =>
  intro L u K g hL f fi g' hK f' oa _ he;exact (Classical.byContradiction λh=>(nW g' hK oa).2 (λe=>h e.symm) (by rw [<-he]; rfl))
 | stub r=>intro L u K _ _ f; exact f.elim
 | leaf p v =>
  intro L u K g hL f fi g' hK f' oa hc he;obtain ⟨hu,hn⟩:=key _ L u K (by intro e; cases e) g hL f fi g' hK f' oa hc he;cases u with
  | nil=>exact absurd rfl hu
  | stub r=>exact f'.elim
  | leaf q x =>
   have h1:(⟨1,p,v,zks⟩:Nd)=⟨1,q,x,zks⟩:=hn;injection h1 with _ h2 h3;rw [h2,h3]
  | ext q t =>
   have h1:(⟨1,p,v,zks⟩:Nd)=⟨2,q,eB,dI (ref t)⟩:=hn;injection h1 with h1;exact absurd h1 (by decide)
  | br ks =>
   have h1:(⟨1,p,v,zks⟩:Nd)=⟨3,[],eB,bU λi=>ref (ks i)⟩:=hn;injection h1 with h1;exact absurd h1 (by decide)
 | ext p s ih =>
  intro L u K g hL f fi g' hK f' oa hc he;obtain ⟨hu,hn⟩:=key _ L u K (by intro e; cases e) g hL f fi g' hK f' oa hc he;cases u with
  | nil=>exact absurd rfl hu
  | stub r=>exact f'.elim
  | leaf q x =>
   have h1:(⟨2,p,eB,dI (ref s)⟩:Nd)=⟨1,q,x,zks⟩:=hn;injection h1 with h1;exact absurd h1 (by decide)
  | ext q t =>
   have h1:(⟨2,p,eB,dI (ref s)⟩:Nd)=⟨2,q,eB,dI (ref t)⟩:=hn;injection h1 with _ h2 _ h4;have h5:=ih _ t _ g.2.2.2.2 (by omega) f fi g'.2.2.2.2 (by omega) f' oa (λx hx y hy=>hc x (List.mem_cons_of_mem _ hx) y (List.mem_cons_of_mem _ hy)) (Oq h4);rw [h2,h5]
  | br ks =>
   have h1:(⟨2,p,eB,dI (ref s)⟩:Nd)=⟨3,[],eB,bU λi=>ref (ks i)⟩:=hn;injection h1 with h1;exact absurd h1 (by decide)
 | br ks ih =>
  intro L u K g hL f fi g' hK f' oa hc he;obtain ⟨hu,hn⟩:=key _ L u K (by intro e; cases e) g hL f fi g' hK f' oa hc he;cases u with
  | nil=>exact absurd rfl hu
  | stub r=>exact f'.elim
  | leaf q x =>
   have h1:(⟨3,[],eB,bU λi=>ref (ks i)⟩:Nd)=⟨1,q,x,zks⟩:=hn;injection h1 with h1;exact absurd h1 (by decide)
  | ext q t =>
   have h1:(⟨3,[],eB,bU λi=>ref (ks i)⟩:Nd)=⟨2,q,eB,dI (ref t)⟩:=hn;injection h1 with h1;exact absurd h1 (by decide)
  | br ks' =>
   have h1:(⟨3,[],eB,bU λi=>ref (ks i)⟩:Nd)=⟨3,[],eB,bU λi=>ref (ks' i)⟩:=hn;injection h1 with _ _ _ h4;congr 1;funext i;have m1:∀ x∈bM (ks i),x∈bM (.br ks):=λx hx=>List.mem_cons_of_mem _ (List.mem_flatten.2 ⟨_,List.mem_map.2 ⟨i,List.mem_finRange i,rfl⟩,hx⟩);have m2:∀ x∈bM (ks' i),x∈bM (.br ks'):=λx hx=>List.mem_cons_of_mem _ (List.mem_flatten.2 ⟨_,List.mem_map.2 ⟨i,List.mem_finRange i,rfl⟩,hx⟩)
   exact ih i _ (ks' i) _ (g.2.2 i) (by omega) (f i) (fi i) (g'.2.2 i) (by omega) (f' i) (oa i) (λx hx y hy=>hc x (m1 x hx) y (m2 y hy)) (JF h4 i)
theorem xQ {t0 k:T} (hinj:∀ s,Part s t0->ref s=ref k->s=k):∀ (t u:T),Part t t0->Full t->Cut t u->Cut t (bO (ref k) k u)
 | .nil,_,_,_,h=>by rw [show _=T.nil from h]; exact Cut.refl _
 | .leaf _ _,_,_,_,h=>by rw [show _=T.leaf _ _ from h]; exact Cut.refl _
 | .stub _,_,_,f,_=>f.elim
 | .ext q s,_,hp,f,h=>by
  obtain ⟨s',rfl,h⟩:=h;have hps:Part s t0:=by
   clear h f s'
   induction t0 with
   | nil=>cases hp
   | leaf _ _=>cases hp
   | stub _=>cases hp
   | ext q' u ih =>
    rcases hp with e | hp
    .injection e with _ e;subst e;exact .inr (Part.refl _)
    .exact .inr (ih (λs hs=>hinj s (.inr hs)) hp)
   | br ks ih =>
    rcases hp with e | ⟨i,hp⟩
    .cases e
    .exact .inr ⟨i,ih i (λs hs=>hinj s (.inr ⟨i,hs⟩)) hp⟩
  refine ⟨_,rfl,?_⟩;rcases h with ⟨rfl,hn⟩ | h
  .show (if ref s=ref k then k else .stub (ref s))=_/\_\/Cut s (if ref s=ref k then k else .stub (ref s));by_cases e:ref s=ref k
   .rw [if_pos e,<-hinj s hps e];exact .inr (Cut.refl _)
   .rw [if_neg e];exact .inl ⟨rfl,hn⟩
  .exact .inr (xQ hinj s s' hps f h)
 | .br ks,_,hp,f,h=>by
  obtain ⟨ks',rfl,h⟩:=h;have hps:∀ j,Part (ks j) t0:=λj=>by
   clear h f ks'
   induction t0 with
   | nil=>cases hp
   | leaf _ _=>cases hp
   | stub _=>cases hp
   | ext q' u ih =>
    rcases hp with e | hp
    .cases e
    .exact .inr (ih (λs hs=>hinj s (.inr hs)) hp)
   | br ks2 ih =>
    rcases hp with e | ⟨i,hp⟩
    .injection e with e;rw [e];exact .inr ⟨j,Part.refl _⟩
    .exact .inr ⟨i,ih i (λs hs=>hinj s (.inr ⟨i,hs⟩)) hp⟩
  refine ⟨_,rfl,λi=>?_⟩;rcases h i with ⟨e',hn⟩ | h
  .rw [e'];show (if ref (ks i)=ref k then k else .stub (ref (ks i)))=_/\_\/Cut (ks i) (if ref (ks i)=ref k then k else .stub (ref (ks i)));by_cases e:ref (ks i)=ref k
   .rw [if_pos e,<-hinj _ (hps i) e];exact .inr (Cut.refl _)
   .rw [if_neg e];exact .inl ⟨rfl,hn⟩
  .exact .inr (xQ hinj (ks i) (ks' i) (hps i) (f i) h)
theorem RV {α:Type} {f : α->Nat} {l:List α} (h:(l.map f).sum=0):∀ i∈l,f i=0:=by
 induction l with
 | nil=>intro i hi; cases hi
 | cons x l ih =>
  simp only [List.map_cons,List.sum_cons] at h;intro i hi;rcases List.mem_cons.1 hi with rfl | hi
  .omega
  .exact ih (by omega) i hi
theorem wQ:∀ {t u:T},Cut t u->bX u=0->u=t
 | .nil,_,h,_=>h
 | .leaf _ _,_,h,_=>h
 | .stub _,_,h,_=>h
 | .ext q s,_,h,hz=>by
  obtain ⟨s',rfl,h⟩:=h;rcases h with ⟨rfl,_⟩ | h
  .cases hz
  .rw [wQ h hz]
 | .br ks,_,h,hz=>by
  obtain ⟨ks',rfl,h⟩:=h;congr 1;funext i;have hi:bX (ks' i)=0:=RV hz i (List.mem_finRange i);rcases h i with ⟨e,_⟩ | h
  .rw [e] at hi; cases hi
  .exact wQ h hi
end Tr
end
section
open Go.RowKit
namespace Tm
open Tr
structure Mp where
 at_:Nat->Option T
 ft:Nat->Prop
def IsT (M:Mp) (p:aJ) (t:T):Prop:=match p with
 | none=>t = .nil
 | some ad=>∃ b,ad=⟨b,0,none⟩/\M.at_ b=some t/\t ≠ .nil
def dD:T->Int
 | .nil=>0
 | .leaf _ _=>1
 | .ext _ _=>2
 | .br _=>3
 | .stub _ => -1
def bT:T->Pa
 | .leaf p _=>p
 | .ext q _=>q
 | _=>[]
def EI:T->aK
 | .leaf _ v=>v
 | _=>eB
def fI:T->List T
 | .ext _ t=>[t]
 | .br ks=>(List.finRange 16).map ks
 | _=>[]
def Gl:T->aK
 | .stub r=>r
 | _=>eB
def Bs (M:Mp) (w:World) (a:aJ) (n c:Nat) (l:aL):Prop:=bq w a n c l/\∀ ad,a=some ad->0<n->M.ft ad.block
def Ks (M:Mp) (w:World) (a:aJ) (n c:Nat) (l:List T):Prop :=
 n<=c/\c<=maxLen/\l.length=n/\(a=none->c=0)/\∀ j,j<n->∃ b off p,a=some ⟨b,off,none⟩/\b<w.heap.size/\M.ft b/\w.cell? ⟨b,off+j,none⟩=some (.pointer p)/\IsT M p (l.getD j .nil)
def iq (t:T) (a:aJ) (n c:Nat) (ka:aJ) (kn kc:Nat) (d:Int) (r:aK):aM :=
 #[.int .i64 (dD t),.slice a n c,.string (EI t),.slice ka kn kc,.int .u32 d,.int .i32 0,.int .u32 0,.string r]
def rE (M:Mp) (w:World) (b:Nat) (t:T):Prop :=
 ∃ a n c ka kn kc d r,w.heap[b]? = some (.cells (iq t a n c ka kn kc d r) 108 (0,0))/\Bs M w a n c (bT t)/\Ks M w ka kn kc (fI t)/\(d=0/\r=Gl t\/d=1/\¬ dH t/\r=ref t)
structure Inv (M:Mp) (w:World):Prop where
 lt_:∀ k,M.ft k->k<w.heap.size
 part_:∀ b t,M.at_ b=some t->t ≠ .nil/\M.ft b/\rE M w b t
def fH (w:World) (k:Nat):Prop:=∃ j x,w.cell? ⟨k,j,none⟩=some (.int .u8 x)
structure Fr (M M':Mp) (w w':World):Prop where
 os:w'.os=w.os
 tape:w'.tape=w.tape
 output:w'.output=w.output
 size:w.heap.size<=w'.heap.size
 block:∀ k,k<w.heap.size->M.at_ k=none->w'.heap[k]? = w.heap[k]?
 mono:∀ k t,M.at_ k=some t->M'.at_ k=some t
 fresh:∀ k,k<w.heap.size->M.at_ k=none->M'.at_ k=none
 grow:∀ k,M.ft k->M'.ft k
 foot:∀ k,M'.ft k->M.ft k\/w.heap.size<=k\/fH w k
def M0:Mp:=⟨λ_=>none,λ_=>False⟩
theorem IsT.mono {M M':Mp} {p:aJ} {t:T} (h:IsT M p t) (hm:∀ k t,M.at_ k=some t->M'.at_ k=some t):IsT M' p t:=by
 cases p with
 | none=>exact h
 | some ad =>
  obtain ⟨b,e,h1,h2⟩:=h;exact ⟨b,e,hm _ _ h1,h2⟩
theorem IsT.tV {M:Mp} {p:aJ} {t:T} (h:IsT M p t):p=none↔t = .nil:=by
 cases p with
 | none=>exact ⟨λ_=>h,λ_=>rfl⟩
 | some ad =>
  obtain ⟨b,_,_,hn⟩:=h;exact ⟨λe=>(by cases e),λe=>absurd e hn⟩
theorem IsT.at_ {M:Mp} {p:aJ} {t:T} (h:IsT M p t) (hn:t ≠ .nil):∃ b,p=some ⟨b,0,none⟩/\M.at_ b=some t:=by
 cases p with
 | none=>exact absurd h hn
 | some ad =>
  obtain ⟨b,e,hm,_⟩:=h;exact ⟨b,by rw [e],hm⟩
theorem Bs.nil (M:Mp) (w:World):Bs M w none 0 0 []:=⟨bq.nil w,λ_ e=>by cases e⟩
theorem Ks.nil (M:Mp) (w:World):Ks M w none 0 0 []:=⟨aF,Nat.zero_le _,rfl,λ_=>rfl,λ_ h=>absurd h (Nat.not_lt_zero _)⟩
theorem Ks.len {M:Mp} {a:aJ} {n c:Nat} {l:List T} (h:Ks M w a n c l):l.length=n:=h.2.2.1
theorem Ks.at' {M:Mp} {a:aJ} {n c:Nat} {l:List T} (h:Ks M w a n c l) (j:Nat) (hj:j<n):∃ b off p,a=some ⟨b,off,none⟩/\b<w.heap.size/\M.ft b/\w.cell? ⟨b,off+j,none⟩=some (.pointer p)/\IsT M p (l.getD j .nil):=h.2.2.2.2 j hj
theorem Inv.part {M:Mp} (h:Inv M w) {b:Nat} {t:T} (hm:M.at_ b=some t):rE M w b t:=(h.part_ b t hm).2.2
theorem Inv.lt {M:Mp} (h:Inv M w) {b:Nat} {t:T} (hm:M.at_ b=some t):b<w.heap.size:=h.lt_ b (h.part_ b t hm).2.1
theorem Inv.zero (w:World):Inv M0 w:=⟨λ_ h=>h.elim,λ_ _ h=>by cases h⟩
theorem Fz {t:T} {a:aJ} {n c:Nat} {ka:aJ} {kn kc:Nat} {d:Int} {r:aK} {j:Nat} {v:Value} (h:(iq t a n c ka kn kc d r)[j]? = some v):(∀ x,v ≠ .int .u8 x)/\∀ p,v ≠ .pointer p:=by
 unfold iq at h
 match j,h with
 | 0,h | 1,h | 2,h | 3,h | 4,h | 5,h | 6,h | 7,h =>
  simp at h;subst h;exact ⟨λx e=>(by cases e),λp e=>(by cases e)⟩
 | j+8,h=>simp at h
theorem ql {b:Nat} {t:TypeId} {f:Nat × Nat} (h:w.heap[b]? = some (.cells cs t f)) (hc:w.cell? ⟨b,j,none⟩=some v):cs[j]? = some v:=by
 rw [World.cell?,h] at hc;simpa using hc
theorem Inv.eu {M:Mp} {w:World} (hi:Inv M w) {b j:Nat} {x:Int} (hc:w.cell? ⟨b,j,none⟩=some (.int .u8 x)):M.at_ b=none:=by
 cases hm:M.at_ b with
 | none=>rfl
 | some t =>
  obtain ⟨_,_,_,_,_,_,_,_,hb,_⟩:=hi.part hm;exact absurd rfl ((Fz (ql hb hc)).1 x)
theorem Inv.lT {M:Mp} {w:World} (hi:Inv M w) {b j:Nat} {p:aJ} (hc:w.cell? ⟨b,j,none⟩=some (.pointer p)):M.at_ b=none:=by
 cases hm:M.at_ b with
 | none=>rfl
 | some t =>
  obtain ⟨_,_,_,_,_,_,_,_,hb,_⟩:=hi.part hm;exact absurd rfl ((Fz (ql hb hc)).2 p)
theorem Fr.refl (M:Mp) (w:World):Fr M M w w:=⟨rfl,rfl,rfl,aF,λ_ _ _=>rfl,λ_ _ h=>h,λ_ _ h=>h,λ_ h=>h,λ_ h=>Or.inl h⟩
theorem fH.back {M M':Mp} {k:Nat} (h:fH w' k) (f:Fr M M' w w') (hk:k<w.heap.size) (hm:M.at_ k=none):fH w k:=by
 obtain ⟨j,x,hc⟩:=h;exact ⟨j,x,by rw [<-hc]; exact (World.cell?_of_block (w:=w) (f.block k hk hm)).symm⟩
theorem Fr.trans {M M1 M2:Mp} {w w1 w2:World} (hi:Inv M w) (h:Fr M M1 w w1) (g:Fr M1 M2 w1 w2):Fr M M2 w w2 :=
 ⟨g.os.trans h.os,g.tape.trans h.tape,g.output.trans h.output,Nat.le_trans h.size g.size,
  λk hk hm=>(g.block k (aH hk h.size) (h.fresh k hk hm)).trans (h.block k hk hm),λk t hm=>g.mono k t (h.mono k t hm),λk hk hm=>g.fresh k (aH hk h.size) (h.fresh k hk hm),
  λk hk=>g.grow k (h.grow k hk),λk hk=>by
  rcases g.foot k hk with h1 | h1 | h1
  .exact h.foot k h1
  .exact Or.inr (Or.inl (Nat.le_trans h.size h1))
  .by_cases hlt:k<w.heap.size
   .cases hm:M.at_ k with
    | none=>exact Or.inr (Or.inr (h1.back h hlt hm))
    | some t=>exact Or.inl (hi.part_ k t hm).2.1
   .exact Or.inr (Or.inl (by omega))⟩
theorem Fr.below (M:Mp) (hb:Below w.heap.size w w'):Fr M M w w':=⟨hb.os,hb.tape,hb.output,hb.size,λk hk _=>hb.block k hk,λ_ _ h=>h,λ_ _ h=>h,λ_ h=>h,λ_ h=>Or.inl h⟩
theorem Fr.all {M':Mp} (h:Fr M0 M' w w'):Below w.heap.size w w':=⟨h.os,h.tape,h.output,h.size,λk hk=>h.block k hk rfl⟩
theorem Fr.cell {M M':Mp} (h:Fr M M' w w') {b o:Nat} (hb:b<w.heap.size) (hm:M.at_ b=none):w'.cell? ⟨b,o,none⟩=w.cell? ⟨b,o,none⟩:=World.cell?_of_block (w:=w) (h.block b hb hm)
theorem Bs.fr {M M':Mp} {a:aJ} {n c:Nat} {l:aL} (hi:Inv M w) (h:Bs M w a n c l) (f:Fr M M' w w'):Bs M' w' a n c l:=by
 refine ⟨⟨h.1.1,h.1.2.1,h.1.2.2.1,h.1.2.2.2.1,λj hj=>?_⟩,λad e hn=>f.grow _ (h.2 ad e hn)⟩;obtain ⟨b,off,e,hlt,hc⟩:=h.1.2.2.2.2 j hj;exact ⟨b,off,e,aH hlt f.size,by rw [f.cell hlt (hi.eu hc)]; exact hc⟩
theorem oV {M M':Mp} {a:aJ} {n c:Nat} {l:aL} (hi:Inv M w) (h:bq w a n c l) (f:Fr M M' w w'):bq w' a n c l:=by
 refine ⟨h.1,h.2.1,h.2.2.1,h.2.2.2.1,λj hj=>?_⟩;obtain ⟨b,off,e,hlt,hc⟩:=h.2.2.2.2 j hj;exact ⟨b,off,e,aH hlt f.size,by rw [f.cell hlt (hi.eu hc)]; exact hc⟩
theorem Ks.fr {M M':Mp} {a:aJ} {n c:Nat} {l:List T} (hi:Inv M w) (h:Ks M w a n c l) (f:Fr M M' w w'):Ks M' w' a n c l:=by
 refine ⟨h.1,h.2.1,h.2.2.1,h.2.2.2.1,λj hj=>?_⟩;obtain ⟨b,off,p,e,hlt,hm,hc,ht⟩:=h.at' j hj;exact ⟨b,off,p,e,aH hlt f.size,f.grow b hm,by rw [f.cell hlt (hi.lT hc)]; exact hc,ht.mono f.mono⟩
theorem Inv.below {M:Mp} {w w':World} (h:Inv M w) (hb:Below w.heap.size w w'):Inv M w':=by
 refine ⟨λk hk=>aH (h.lt_ k hk) hb.size,λb t hm=>?_⟩;have hlt:=h.lt hm;refine ⟨(h.part_ b t hm).1,(h.part_ b t hm).2.1,?_⟩;obtain ⟨a,n,c,ka,kn,kc,d,r,h1,h2,h3,h4⟩:=h.part hm;exact ⟨a,n,c,ka,kn,kc,d,r,(hb.block b hlt).trans h1,h2.fr h (Fr.below M hb),h3.fr h (Fr.below M hb),h4⟩
theorem Inv.out {M:Mp} {w:World} (h:Inv M w) {b:Nat} (hb:w.heap.size<=b):M.at_ b=none:=by
 cases hm:M.at_ b with
 | none=>rfl
 | some t=>exact absurd (h.lt hm) (by omega)
theorem Inv.upd {M:Mp} (h:Inv M w) (hu:Rg.Upd w g w') (hg:¬ M.ft g):Inv M w':=by
 refine ⟨λk hk=>by rw [hu.size]; exact h.lt_ k hk,λb t hm=>?_⟩;obtain ⟨h1,h2,h3⟩:=h.part_ b t hm;refine ⟨h1,h2,?_⟩;obtain ⟨a,n,c,ka,kn,kc,d,r,hb,hB,hK,hd⟩:=h3;have hne:∀ k,M.ft k->k≠g:=λk hk e=>hg (by rw [<-e]; exact hk);refine ⟨a,n,c,ka,kn,kc,d,r,(hu.block b (hne b h2)).trans hb,⟨⟨hB.1.1,hB.1.2.1,hB.1.2.2.1,hB.1.2.2.2.1,λj hj=>?_⟩,hB.2⟩,⟨hK.1,hK.2.1,hK.2.2.1,hK.2.2.2.1,λj hj=>?_⟩,hd⟩
 .obtain ⟨b',off,e,hlt,hc⟩:=hB.1.2.2.2.2 j hj;exact ⟨b',off,e,by rw [hu.size]; exact hlt,by rw [World.cell?_of_block (hu.block b' (hne b' (hB.2 _ e (by omega))))]; exact hc⟩
 .obtain ⟨b',off,p,e,hlt,hf,hc,ht⟩:=hK.at' j hj;exact ⟨b',off,p,e,by rw [hu.size]; exact hlt,hf,by rw [World.cell?_of_block (hu.block b' (hne b' hf))]; exact hc,ht⟩
theorem Fr.box {M M':Mp} (f:Fr M M' w w') (hg:¬ M.ft g) (hlt:g<w.heap.size) (hb:¬ fH w g):¬ M'.ft g:=λh=>by
 rcases f.foot g h with h1 | h1 | h1
 .exact hg h1
 .omega
 .exact hb h1
theorem Inv.free {M:Mp} (h:Inv M w) (hg:w.heap.size<=g):¬ M.ft g:=λe=>by
 have:=h.lt_ g e;omega
theorem cZ (p:aJ):∀ (j:Nat) (x:Int),(#[Value.pointer p]:aM)[j]? ≠ some (Value.int .u8 x):=λj x h=>by
 match j,h with
 | 0,h=>simp at h
 | j+1,h=>simp at h
theorem eu {t:TypeId} (hO:Rg.Own w g cs t) (hne:∀ (j:Nat) (x:Int),cs[j]? ≠ some (Value.int .u8 x)):¬ fH w g:=λ⟨_,_,hc⟩=>hne _ _ (ql hO.2 hc)
theorem wW {a:aJ} {n c:Nat} {l:aL} (h:bq w a n c l) (hg:¬ fH w g) (hu:Rg.Upd w g w'):bq w' a n c l:=by
 refine ⟨h.1,h.2.1,h.2.2.1,h.2.2.2.1,λj hj=>?_⟩;obtain ⟨b,off,e,hlt,hc⟩:=h.2.2.2.2 j hj;have hbg:b≠g:=by
  rintro rfl;exact hg ⟨_,_,hc⟩
 exact ⟨b,off,e,by rw [hu.size]; exact hlt,by rw [World.cell?_of_block (hu.block b hbg)]; exact hc⟩
def plus (M:Mp) (S:Nat->Prop):Mp:=⟨M.at_,λk=>M.ft k\/S k⟩
theorem Inv.plus {M:Mp} (h:Inv M w) (hS:∀ k,S k->k<w.heap.size):Inv (Tm.plus M S) w:=by
 refine ⟨λk hk=>hk.elim (h.lt_ k) (hS k),λb t hm=>?_⟩;obtain ⟨h1,h2,a,n,c,ka,kn,kc,d,r,hb,hB,hK,hd⟩:=h.part_ b t hm;exact ⟨h1,Or.inl h2,a,n,c,ka,kn,kc,d,r,hb,⟨hB.1,λad e hn=>Or.inl (hB.2 ad e hn)⟩,⟨hK.1,hK.2.1,hK.2.2.1,hK.2.2.2.1,λj hj=>by
  obtain ⟨b',off,p,e,hlt,hf,hc,ht⟩:=hK.at' j hj;exact ⟨b',off,p,e,hlt,Or.inl hf,hc,ht.mono λ_ _ h=>h⟩⟩,hd⟩
theorem Ch {M:Mp} {p:aJ} {t:T} (h:IsT M p t):IsT (plus M S) p t:=h.mono λ_ _ h=>h
theorem Fr.plus {M M':Mp} (f:Fr M M' w w') (hS:∀ k,S k->w.heap.size<=k\/fH w k):Fr M (Tm.plus M' S) w w' :=
 ⟨f.os,f.tape,f.output,f.size,f.block,f.mono,f.fresh,λk hk=>Or.inl (f.grow k hk),λk hk=>hk.elim (f.foot k) (λh=>Or.inr (hS k h))⟩
def inS (a:aJ) (n:Nat) (k:Nat):Prop:=∃ ad,a=some ad/\0<n/\ad.block=k
theorem wU {a:aJ} {n c:Nat} {l:aL} (h:bq w a n c l) {k:Nat} (hk:inS a n k):fH w k/\k<w.heap.size:=by
 obtain ⟨ad,e,hn,hb⟩:=hk;obtain ⟨b,off,e',hlt,hc⟩:=h.at' 0 hn;rw [e] at e';obtain rfl:=Option.some.inj e';obtain rfl:b=k:=hb;exact ⟨⟨_,_,hc⟩,hlt⟩
theorem fH.below {k:Nat} (h:fH w' k) (hb:Below w.heap.size w w'):w.heap.size<=k\/fH w k:=by
 by_cases hlt:k<w.heap.size
 .obtain ⟨j,x,hc⟩:=h;exact Or.inr ⟨j,x,by rw [<-hc]; exact (World.cell?_of_block (w:=w) (hb.block k hlt)).symm⟩
 .exact Or.inl (by omega)
theorem Bs.in_ {M:Mp} {a:aJ} {n c:Nat} {l:aL} (h:bq w a n c l):Bs (plus M (inS a n)) w a n c l:=⟨h,λad e hn=>Or.inr ⟨ad,e,hn,rfl⟩⟩
def dA (M:Mp) (w:World) (t:T) (e:Ending) (w':World):Prop:=∃ p M',e = .returned (.agg #[.pointer p])/\IsT M' p t/\Fr M M' w w'/\Inv M' w'/\Below w.heap.size w w'
def more (M:Mp) (b:Nat) (t:T) (lo hi:Nat):Mp:=⟨λk=>if k=b then some t else M.at_ k,λk=>M.ft k\/lo<=k/\k<hi⟩
theorem tY (M:Mp) (b:Nat) (t:T) (lo hi:Nat):(more M b t lo hi).at_ b=some t:=if_pos rfl
theorem rT {M:Mp} {b:Nat} {t:T} {lo hi k:Nat} (h:k≠b):(more M b t lo hi).at_ k=M.at_ k:=if_neg h
theorem Fr.more {M:Mp} (hi:Inv M w) (hb:Below w.heap.size w w') (b:Nat) (t:T) (hB:w.heap.size<=b):Fr M (more M b t w.heap.size w'.heap.size) w w':=by
 refine ⟨hb.os,hb.tape,hb.output,hb.size,λk hk _=>hb.block k hk,λk u hm=>?_,λk hk hm=>?_,λk hk=>Or.inl hk,λk hk=>hk.elim Or.inl (λh=>Or.inr (Or.inl h.1))⟩
 .have:=hi.lt hm;rw [rT (by omega)]; exact hm
 .rw [rT (by omega)]; exact hm
def Ks0 (M:Mp) (lo:Nat) (w:World) (a:aJ) (n c:Nat) (l:List T):Prop :=
 n<=c/\c<=maxLen/\l.length=n/\(a=none->c=0)/\∀ j,j<n->∃ b off p,a=some ⟨b,off,none⟩/\b<w.heap.size/\(M.ft b\/lo<=b)/\w.cell? ⟨b,off+j,none⟩=some (.pointer p)/\IsT M p (l.getD j .nil)
theorem Ks.weak {M:Mp} {lo:Nat} {a:aJ} {n c:Nat} {l:List T} (h:Ks M w a n c l):Ks0 M lo w a n c l :=
 ⟨h.1,h.2.1,h.2.2.1,h.2.2.2.1,λj hj=>by
  obtain ⟨b,off,p,e,hlt,hf,hc,ht⟩:=h.at' j hj;exact ⟨b,off,p,e,hlt,Or.inl hf,hc,ht⟩⟩
theorem BN {M:Mp} {b:Nat} {t:T} {a:aJ} {n c:Nat} {ka:aJ} {kc:Nat} (hi:Inv M w) (hb:Below w.heap.size w w') (hB:w.heap.size<=b) (hn:t ≠ .nil)
  (hc:w'.heap[b]? = some (.cells (iq t a n c ka kn kc 0 (Gl t)) 108 (0,0))) (hp:bq w' a n c (bT t)) (hf:∀ ad,a=some ad->0<n->M.ft ad.block\/w.heap.size<=ad.block) (hk:Ks0 M w.heap.size w' ka kn kc (fI t)) :
  dA M w t (.returned (.agg #[.pointer (some ⟨b,0,none⟩)])) w':=by
 have f:=Fr.more hi hb b t hB;have hlt:b<w'.heap.size:=(Array.getElem?_eq_some_iff.1 hc).1;refine ⟨_,Tm.more M b t w.heap.size w'.heap.size,rfl,⟨b,rfl,tY _ _ _ _ _,hn⟩,f,⟨λk hk=>hk.elim (λh=>aH (hi.lt_ k h) hb.size) (λh=>h.2),λk u hm=>?_⟩,hb⟩;by_cases e:k=b
 .subst e;rw [tY] at hm;obtain rfl:=Option.some.inj hm;refine ⟨hn,Or.inr ⟨hB,hlt⟩,a,n,c,ka,kn,kc,0,_,hc,⟨hp,λad e hn=>?_⟩,⟨hk.1,hk.2.1,hk.2.2.1,hk.2.2.2.1,λj hj=>?_⟩,Or.inl ⟨rfl,rfl⟩⟩
  .obtain ⟨b',off,e',hlt',_⟩:=hp.at' 0 hn;rcases hf ad e hn with h | h
   .exact Or.inl h
   .rw [e] at e';obtain rfl:=Option.some.inj e';exact Or.inr ⟨h,hlt'⟩
  .obtain ⟨b',off,p,e,hlt',hm,hcb,ht⟩:=hk.2.2.2.2 j hj;exact ⟨b',off,p,e,hlt',hm.elim Or.inl (λh=>Or.inr ⟨h,hlt'⟩),hcb,ht.mono f.mono⟩
 .rw [rT e] at hm;have hlt:=hi.lt hm;obtain ⟨h1,h2,a,n,c,ka,kn,kc,d,r,g1,g2,g3,g4⟩:=hi.part_ k u hm;exact ⟨h1,Or.inl h2,a,n,c,ka,kn,kc,d,r,(hb.block k hlt).trans g1,g2.fr hi f,g3.fr hi f,g4⟩
theorem Xc {M:Mp} {p:aJ} {t:T} (hi:Inv M w) (ht:IsT M p t) (hb:Below w.heap.size w w'):dA M w t (.returned (.agg #[.pointer p])) w' :=
 ⟨p,M,rfl,ht,Fr.below M hb,hi.below hb,hb⟩
def oq (ps:List (aJ)):aM:=(ps.map Value.pointer).toArray
theorem Ks0.row {M:Mp} {lo:Nat} {b:Nat} {ps:List (aJ)} {t:TypeId} {l:List T} (hlo:lo<=b) (h:Rg.Own w b (oq ps) t) (hl:ps.length=l.length) (hm:ps.length<=maxLen) (ht:∀ j,j<ps.length->IsT M (ps.getD j none) (l.getD j .nil)):Ks0 M lo w (some ⟨b,0,none⟩) ps.length ps.length l:=by
 refine ⟨aF,hm,hl.symm,λe=>(by cases e),λj hj=>?_⟩;have hc:w.cell? ⟨b,j,none⟩=some (.pointer (ps.getD j none)):=by
  rw [cell_of_row w b _ _ _ _ h.2];simp [oq,List.getD,hj]
 exact ⟨b,0,_,rfl,h.1,Or.inr hlo,by rw [Nat.zero_add]; exact hc,ht j hj⟩
abbrev tv (p:aJ):Value:=.agg #[.pointer p]
theorem fU (w:World) (p:aJ):(w.alloc (.cells #[.pointer p] 31)).cell? ⟨w.heap.size,0,none⟩=some (.pointer p):=by
 rw [World.cell?_alloc_mark]; rfl
theorem aV {w1 w2:World} (hb:Below w1.heap.size w1 w2) {b o:Nat} (hc:w1.cell? ⟨b,o,none⟩=some v):w2.cell? ⟨b,o,none⟩=some v :=
 (hb.cell (p:=⟨b,o,none⟩) (World.block_lt_of_cell? w1 _ hc)).trans hc
theorem Nr {b o:Nat} (hc:w.cell? ⟨b,o,none⟩=some v):(w.alloc o').cell? ⟨b,o,none⟩=some v:=aV (al1 _ _) hc
theorem iC (p:aJ) (w:World):Calls prog 7 #[.agg #[.pointer p]] w λe w'=>e = .returned (.bool p.isNone)/\Below w.heap.size w w':=by
 have h0:=fU w p;cases p with
 | none =>
  go_enter func7,ntmps7;go_wp2;go_ret;exact ⟨rfl,al1 _ _⟩
 | some ad =>
  go_enter func7,ntmps7;go_wp2;go_ret;exact ⟨rfl,al1 _ _⟩
theorem kE {b:Nat} {t:T} {a:aJ} {n c:Nat} {ka:aJ} {kc:Nat} (h:w.heap[b]? = some (.cells (iq t a n c ka kn kc d r) 108 (0,0))) :
  (w.cell? ⟨b,0,none⟩=some (.int .i64 (dD t))/\w.cell? ⟨b,1,none⟩=some (.slice a n c)/\w.cell? ⟨b,2,none⟩=some (.string (EI t))/\w.cell? ⟨b,3,none⟩=some (.slice ka kn kc))/\
  w.cell? ⟨b,4,none⟩=some (.int .u32 d)/\w.cell? ⟨b,5,none⟩=some (.int .i32 0)/\w.cell? ⟨b,6,none⟩=some (.int .u32 0)/\w.cell? ⟨b,7,none⟩=some (.string r):=by
 refine ⟨⟨?_,?_,?_,?_⟩,?_,?_,?_,?_⟩;all_goals
  rw [cell_of_row w b _ _ _ _ h];rfl
theorem Inv.kind {M:Mp} (hi:Inv M w) {b:Nat} {t:T} (hm:M.at_ b=some t):w.cell? ⟨b,0,none⟩=some (.int .i64 (dD t)):=by
 obtain ⟨a,n,c,ka,kn,kc,d,r,hb,_⟩:=hi.part hm;exact (kE hb).1.1
theorem dF (M:Mp) (p:aJ) (t:T) (w:World) (hi:Inv M w) (ht:IsT M p t) :
  Calls prog 53 #[.agg #[.pointer p]] w λe w'=>e = .returned (.int .i64 (dD t))/\Below w.heap.size w w':=by
 have h0:=fU w p;have HE:=hid (iC p (w.alloc (.cells #[.pointer p] 31)));cases p with
 | none =>
  obtain rfl:t = .nil:=ht;go_enter func53,ntmps53;go_wp2_with fail
  refine HE.out.mono ?_;rintro e w2 ⟨rfl,hb⟩;go_wp2;go_ret;exact ⟨rfl,bst (al1 _ _) hb⟩
 | some ad =>
  obtain ⟨b,rfl,hm,_⟩:=ht;have hk:=Nr (o':=.cells #[.pointer (some ⟨b,0,none⟩)] 31) (hi.kind hm);go_enter func53,ntmps53;go_wp2_with fail
  refine HE.out.mono ?_;rintro e w2 ⟨rfl,hb⟩;have h1:=aV hb h0;have h2:=aV hb hk;clear h0 hk;go_wp2;go_ret;exact ⟨rfl,bst (al1 _ _) hb⟩
def dM (a:aJ) (c i:Nat):aJ:=if c=i then a else a.map (·.add i)
theorem jT (w:World):(sizeOf (prog.elem 42)).run prog w = .ok 1 w:=by kernel_rfl
theorem yC (w:World):(sizeOf (prog.elem 57)).run prog w = .ok 1 w:=by kernel_rfl
theorem iU:prog.underlying 42=some (.slice (prog.elem 42)):=by kernel_rfl
theorem mU:prog.underlying 57=some (.slice (prog.elem 57)):=by kernel_rfl
section
variable {P:Program} {t:TypeId} {a:aJ} {n c:Nat}
theorem RH (ht:P.underlying t=some (.slice (P.elem t))) (hs:∀ w,(sizeOf (P.elem t)).run P w = .ok 1 w) (i:Nat) (hi:i<=n) (w:World) :
  (Instr.sliceAt t (.slice a n c) (some (.int .i64 i)) none none).run P w = .ok (.slice (dM a c i) (n-i) (c-i)) w:=by
 rw [run_sliceAt_slice (h:=ht),run_slice_l w t a n c ht .i64 i (by omega) (by omega),hs];simp [Result.andThen,sliced,dM]
theorem TD (ht:P.underlying t=some (.slice (P.elem t))) (hs:∀ w,(sizeOf (P.elem t)).run P w = .ok 1 w) (j:Nat) (hj:j<=c) (w:World) :
  (Instr.sliceAt t (.slice a n c) none (some (.int .i64 j)) none).run P w = .ok (.slice a j c) w:=by
 rw [run_sliceAt_slice (h:=ht),run_slice_h w t a n c ht .i64 j (by omega) (by omega),hs];have:a.map (λx=>x.add 0)=a:=by cases a <;> simp [Addr.add]
 simp [Result.andThen,sliced,this]
end
theorem lD {P:Program} {t:TypeId} {a:aJ} {n c:Nat} (ht:P.underlying t=some (.slice (P.elem t))) (hs:∀ w,(sizeOf (P.elem t)).run P w = .ok 1 w) (hi:i<=n)
  (ho:∃ x lo,o.op = .slice t x (some lo) none none/\ev x = .slice a n c/\ev lo = .int .i64 i):(execOp ev o).run P w = .ok (.value (.slice (dM a c i) (n-i) (c-i))) w:=by
 obtain ⟨x,lo,ho,hx,hl⟩:=ho;unfold execOp;simp only [ho,hx,hl,Option.map_some,Option.map_none,Sem.run_bind,Sem.run_pure,Result.andThen_ok,RH ht hs i hi]
theorem zB {P:Program} {t:TypeId} {a:aJ} {n c:Nat} (ht:P.underlying t=some (.slice (P.elem t))) (hs:∀ w,(sizeOf (P.elem t)).run P w = .ok 1 w) (hj:j<=c)
  (ho:∃ x hi,o.op = .slice t x none (some hi) none/\ev x = .slice a n c/\ev hi = .int .i64 j):(execOp ev o).run P w = .ok (.value (.slice a j c)) w:=by
 obtain ⟨x,lo,ho,hx,hl⟩:=ho;unfold execOp;simp only [ho,hx,hl,Option.map_some,Option.map_none,Sem.run_bind,Sem.run_pure,Result.andThen_ok,TD ht hs j hj]
theorem vV {a:aJ} {n c:Nat} {l:aL} (h:bq w a n c l) (i:Nat) (hi:i<=n):bq w (dM a c i) (n-i) (c-i) (l.drop i):=by
 have h1:=h.1;have h2:=h.2.1;refine ⟨by omega,by omega,by rw [List.length_drop,h.len],λe=>?_,λj hj=>?_⟩
 .unfold dM at e;split at e
  .omega
  .have:a=none:=by simpa using e
   have:=h.2.2.2.1 this;omega
 .obtain ⟨b,off,e,hlt,hc⟩:=h.at' (i+j) (by omega);refine ⟨b,off+i,?_,hlt,?_⟩
  .unfold dM;rw [if_neg (by omega),e];simp [Addr.add_mid]
  .rw [Nat.add_assoc,hc];simp [List.getD]
theorem Ga {a:aJ} {c i:Nat} {ad:Addr} (h:dM a c i=some ad):∃ Dg,a=some Dg/\Dg.block=ad.block:=by
 unfold dM at h;split at h
 .exact ⟨ad,h,rfl⟩
 .cases a with
  | none=>cases h
  | some x =>
   refine ⟨x,rfl,?_⟩;have:x.add i=ad:=by simpa using h
   rw [<-this];unfold Addr.add;split <;> rfl
theorem Bs.from' {M:Mp} {a:aJ} {n c:Nat} {l:aL} (h:Bs M w a n c l) (i:Nat) (hi:i<=n):Bs M w (dM a c i) (n-i) (c-i) (l.drop i) :=
 ⟨vV h.1 i hi,λad e hn=>by
  obtain ⟨Dg,e',hb⟩:=Ga e;rw [<-hb];exact h.2 Dg e' (by omega)⟩
theorem Bs.upto {M:Mp} {a:aJ} {n c:Nat} {l:aL} (h:Bs M w a n c l) (j:Nat) (hj:j<=n):Bs M w a j c (l.take j):=by
 have h1:=h.1.1;refine ⟨⟨by omega,h.1.2.1,by rw [List.length_take,h.1.len]; omega,h.1.2.2.2.1,λi hi=>?_⟩,λad e hn=>h.2 ad e (by omega)⟩;obtain ⟨b,off,e,hlt,hc⟩:=h.1.at' i (by omega);refine ⟨b,off,e,hlt,?_⟩;rw [hc];simp [List.getD,hi]
theorem DV:(prog.info? 31).map (·.size)=some 1:=by kernel_rfl
theorem yB {w:World} {b o:Nat} {p:aJ} (hc:w.cell? ⟨b,o,none⟩=some (.pointer p)):(loadVar 31 ⟨b,o,none⟩).run prog w = .ok (tv p) w :=
 run_loadVar_mid w b o 31 [.pointer p] _ (λj v hv=>by
  cases j with
  | zero=>simp at hv; subst hv; exact hc
  | succ j=>simp at hv) underlying31 rfl (by rw [DV]; rfl)
theorem aT {b:Nat} {p:aJ} (hc:w.cell? ⟨b,off,none⟩=some (.pointer p)) (ho:∃ x,o.op = .load 31 x/\ev x = .pointer (some ⟨b,off,none⟩)) :
  (execOp ev o).run prog w = .ok (.value (tv p)) w:=by
 obtain ⟨x,ho,hx⟩:=ho;unfold execOp;simp only [ho,hx,Instr.loadAt,Instr.sureAddr,Sem.run_bind,Sem.run_pure,Result.andThen_ok,yB hc]
theorem bV (w:World) (b o:Nat) (v:Value):Rg.Upd w b (w.setCell ⟨b,o,none⟩ v):=⟨rfl,rfl,rfl,by simp,λk hk=>Below.heap_setCell w _ v k hk⟩
theorem dO {b o:Nat} {t:TypeId} (h:Rg.Own w b cs t) (v:Value):Rg.Own (w.setCell ⟨b,o,none⟩ v) b (cs.setIfInBounds o v) t:=by
 refine ⟨by simp; exact h.1,?_⟩;have hb:=h.2;simp only [World.setCell,Array.getElem?_modify,hb];simp
theorem aU {b:Nat} {t:TypeId} (h:Rg.Own w b cs t) (hv:cs[j]? = some v):w.cell? ⟨b,j,none⟩=some v:=by
 rw [cell_of_row w b _ _ _ _ h.2]; exact hv
theorem BZ {b o:Nat} {t:TypeId} (h:Rg.Own w b cs t) (ho:o<cs.size) (p:aJ) :
  (Instr.storeAt 31 (.pointer (some ⟨b,o,none⟩)) (tv p)).run prog w = .ok () (w.setCell ⟨b,o,none⟩ (.pointer p)):=by
 have hc:w.cell? ⟨b,o,none⟩=some cs[o]:=aU h (Array.getElem?_eq_getElem ho);exact run_storeAt_mid w b o 31 #[.pointer p] (λj hj=>by
  obtain rfl:j=0:=by simp at hj; exact hj
  exact ⟨by rw [Nat.add_zero,hc]; rfl,jk h⟩) (by rw [DV]; rfl) (by simp [Value.oneCell'])
theorem aX {rest:List Oper} {b:Nat} {t:TypeId} (h:Rg.Own w b cs t) (hof:off<cs.size) (p:aJ)
  (hgd:o.guard=none) (x y:Operand) (ho:o.op = .store 31 x y) (hx:act.eval x = .pointer (some ⟨b,off,none⟩)) (hy:act.eval y=tv p)
  (hQ:∀ w',Rg.Own w' b (cs.setIfInBounds off (.pointer p)) t->Rg.Upd w b w'->wpList prog ops Q rest (act.put o.dst undef) w'):wpList prog ops Q (o::rest) act w :=
 wpList_plain hgd λK hK=>by
  unfold Oper.wp execOp;simp only [ho,hx,hy,Sem.run_bind,Sem.run_pure,Result.andThen_ok,BZ h hof p];exact hK _ _ (hQ _ (dO h _) (bV _ _ _ _))
theorem cK {a:Act} (hw:Region.wanted o (yielded ops a.tmps)=true) {b:Nat} {t:TypeId} (hg:Rg.Own w b cs t) (hof:off<cs.size) (p:aJ)
  (ho:∃ x y,o.op = .store 31 x y/\a.eval x = .pointer (some ⟨b,off,none⟩)/\a.eval y=tv p)
  (h:∀ w',Rg.Own w' b (cs.setIfInBounds off (.pointer p)) t->Rg.Upd w b w'->K (a.put o.dst undef) w'):if Region.wanted o (yielded ops a.tmps)=true then Oper.wp prog o a w K Q else K (a.put o.dst undef) w:=by
 obtain ⟨x,y,ho,hx,hy⟩:=ho;refine Rg.want hw ?_;unfold Oper.wp execOp;simp only [ho,hx,hy,Sem.run_bind,Sem.run_pure,Result.andThen_ok,BZ hg hof p];exact h _ (dO hg _) (bV _ _ _ _)
theorem dW {fn:Func} {q:Tmp} (hf:fn.results = #[.cell q 31]) (tmps:aM) {b:Nat} {p:aJ} (hp:tmps.getD q undef = .pointer (some ⟨b,0,none⟩)) (h:Rg.Own w b #[.pointer p] 31) :
  (results fn tmps).run prog w = .ok (tv p) w:=by
 have hp':tmps[q]?.getD undef = .pointer (some ⟨b,0,none⟩):=by simpa using hp
 simp [results,hf,hp',asAddr,yB (aU (j:=0) h rfl)]
theorem qm {fn:Func} {q u:Tmp} (hf:fn.results = #[.cell q 31,.tmp u]) (tmps:aM) {b:Nat} {p:aJ} (hp:tmps.getD q undef = .pointer (some ⟨b,0,none⟩)) (h:Rg.Own w b #[.pointer p] 31) :
  (results fn tmps).run prog w = .ok (.tuple #[tv p,tmps.getD u undef]) w:=by
 have hp':tmps[q]?.getD undef = .pointer (some ⟨b,0,none⟩):=by simpa using hp
 simp [results,hf,hp',asAddr,yB (aU (j:=0) h rfl)]
theorem aW (ev:Operand->Value) (o:Oper) (w:World) (b:Nat) (hb:b=w.heap.size) (ho:o.op = .alloc 31) :
  (execOp ev o).run prog w = .ok (.value (.pointer (some ⟨b,0,none⟩))) (w.alloc (.cells #[.pointer none] 31)):=by
 subst hb;unfold execOp;rw [ho];kernel_rfl
theorem qW (a:aJ) (n c:Nat) (p:Pa) (v:aK):prog.built 108 [(0,.int .i64 1),(1,.slice a n c),(2,.string v)]=some (iq (.leaf p v) a n c none 0 0 0 eB):=by kernel_rfl
theorem xO (a:aJ) (n c:Nat) (ka:aJ) (kn kc:Nat) (q:Pa) (t:T):prog.built 108 [(0,.int .i64 2),(1,.slice a n c),(3,.slice ka kn kc)]=some (iq (.ext q t) a n c ka kn kc 0 eB):=by kernel_rfl
theorem Rp (ka:aJ) (kn kc:Nat) (ks:Fin 16->T):prog.built 108 [(0,.int .i64 3),(3,.slice ka kn kc)]=some (iq (.br ks) none 0 0 ka kn kc 0 eB):=by kernel_rfl
theorem AP (r:aK):prog.built 108 [(0,.int .i64 (-1)),(5,.string r)]=some (iq (.stub r) none 0 0 none 0 0 0 r):=by kernel_rfl
theorem kK {t:T} {a:aJ} {n c:Nat} {ka:aJ} {kc:Nat} (ho:∃ x,o.op = .box 108 x/\ev x = .agg (iq t a n c ka kn kc d r)) :
  (execOp ev o).run prog w = .ok (.value (.pointer (some ⟨w.heap.size,0,none⟩))) (w.alloc (.cells (iq t a n c ka kn kc d r) 108)):=by
 obtain ⟨x,ho,hx⟩:=ho;unfold execOp;simp only [ho,hx];rfl
theorem zJ {b:Nat} {t:TypeId} (h:Rg.Own w b cs t) (hu:Rg.Upd w g w') (hne:b≠g):w'.heap[b]? = some (.cells cs t (0,0)):=(h.upd hu hne).2
theorem nV (M:Mp) (a:aJ) (n c:Nat) (q:Pa) (v:aK) (w:World) (hi:Inv M w) (hB:Bs M w a n c q) :
  Calls prog 96 #[.slice a n c,.string v] w (dA M w (.leaf q v)):=by
 obtain ⟨w1,hw1⟩:=au (w.alloc (.cells #[.pointer none] 31))
 have hR:Rg.Own w1 w.heap.size #[.pointer none] 31:=by rw [hw1]; exact Rg.Own.new _ _ _
 have hb1:Below w.heap.size w w1:=by rw [hw1]; exact al1 _ _
 have hs1:w1.heap.size=w.heap.size+1:=by rw [hw1]; simp
 obtain ⟨w2,hw2⟩:=au (w1.alloc (.cells (iq (.leaf q v) a n c none 0 0 0 eB) 108))
 have hP:Rg.Own w2 w1.heap.size (iq (.leaf q v) a n c none 0 0 0 eB) 108:=by rw [hw2]; exact Rg.Own.new _ _ _
 have hb2:Below w1.heap.size w1 w2:=by rw [hw2]; exact al1 _ _
 have HR:=hid (hR.below hb2);have HE:Hid (∀ w3,Rg.Upd w2 w.heap.size w3->dA M w (.leaf q v) (.returned (tv (some ⟨w1.heap.size,0,none⟩))) w3):=hid (λw3 hu =>
  have hb:=hu.below (hb1.trans (hb2.mono hb1.size)) aF
  BN hi hb hb1.size (λe=>by cases e) (zJ hP hu (by omega)) (hB.1.below hb) (λad e hn=>Or.inl (hB.2 ad e hn)) (Ks.nil _ _).weak)
 clear hR hb1 hb2 hP hi hB;subst hw2;subst hw1;go_enter func96,ntmps96;go_wp2_with (first
  | (refine ay (aW _ _ _ _ rfl rfl) ?_)
  | (refine ay (bK (qW a n c q v) ⟨_,rfl,rfl⟩) ?_)
  | (refine ay (kK ⟨_,rfl,rfl⟩) ?_)
  | (refine aX HR.out (by decide) (some ⟨w.heap.size+1,0,none⟩) rfl _ _ rfl rfl rfl ?_; intro w3 hO3 hu3; have am:=hid hO3; have ld:=hid hu3; clear hO3 hu3))
 have:=HE.out w3 ld.out;rw [hs1] at this;exact bodyPost_ret (dW rfl _ rfl am.out) rfl this
theorem Ml {p:aJ} (b:Nat) (hb:b=w.heap.size) (ho:∃ x,o.op = .buildSlice 57 1 #[(0,x)]/\ev x=tv p) :
  (execOp ev o).run prog w = .ok (.value (.slice (some ⟨b,0,none⟩) 1 1)) (w.alloc (.cells (oq [p]) 31)):=by
 obtain ⟨x,ho,hx⟩:=ho;subst hb;unfold execOp;simp only [ho,List.map_toArray,List.map_cons,List.map_nil,hx];kernel_rfl
theorem mZ (w:World) (p:aJ):∃ w2,w2=(w.alloc (.cells #[.pointer p] 31)).alloc (.cells #[.pointer none] 31)/\Rg.Own w2 w.heap.size #[.pointer p] 31/\Rg.Own w2 (w.heap.size+1) #[.pointer none] 31/\Below w.heap.size w w2/\w2.heap.size=w.heap.size+2:=by
 refine ⟨_,rfl,(Rg.Own.new _ _ _).below (al1 _ _),?_,al2 _ _ _,by simp⟩;have:=Rg.Own.new (w.alloc (.cells #[.pointer p] 31)) #[.pointer none] 31;simpa using this
theorem jV (M:Mp) (ka:aJ) (kn kc:Nat) (ks:Fin 16->T) (w:World) (hi:Inv M w) (hK:Ks M w ka kn kc (fI (.br ks))) :
  Calls prog 128 #[.slice ka kn kc] w (dA M w (.br ks)):=by
 obtain ⟨w1,hw1⟩:=au (w.alloc (.cells #[.pointer none] 31))
 have hR:Rg.Own w1 w.heap.size #[.pointer none] 31:=by rw [hw1]; exact Rg.Own.new _ _ _
 have hb1:Below w.heap.size w w1:=by rw [hw1]; exact al1 _ _
 have hs1:w1.heap.size=w.heap.size+1:=by rw [hw1]; simp
 obtain ⟨w2,hw2⟩:=au (w1.alloc (.cells (iq (.br ks) none 0 0 ka kn kc 0 eB) 108))
 have hP:Rg.Own w2 w1.heap.size (iq (.br ks) none 0 0 ka kn kc 0 eB) 108:=by rw [hw2]; exact Rg.Own.new _ _ _
 have hb2:Below w1.heap.size w1 w2:=by rw [hw2]; exact al1 _ _
 have HR:=hid (hR.below hb2);have HE:Hid (∀ w3,Rg.Upd w2 w.heap.size w3->dA M w (.br ks) (.returned (tv (some ⟨w1.heap.size,0,none⟩))) w3):=hid (λw3 hu =>
  have hb:=hu.below (hb1.trans (hb2.mono hb1.size)) aF
  BN hi hb hb1.size (λe=>by cases e) (zJ hP hu (by omega)) (bq.nil _) (λ_ e=>by cases e) (hK.fr hi (Fr.below M hb)).weak)
 clear hR hb1 hb2 hP hi hK;subst hw2;subst hw1;go_enter func128,ntmps128;go_wp2_with (first
  | (refine ay (aW _ _ _ _ rfl rfl) ?_)
  | (refine ay (bK (Rp ka kn kc ks) ⟨_,rfl,rfl⟩) ?_)
  | (refine ay (kK ⟨_,rfl,rfl⟩) ?_)
  | (refine aX HR.out (by decide) (some ⟨w.heap.size+1,0,none⟩) rfl _ _ rfl rfl rfl ?_; intro w3 hO3 hu3; have am:=hid hO3; have ld:=hid hu3; clear hO3 hu3))
 have:=HE.out w3 ld.out;rw [hs1] at this;exact bodyPost_ret (dW rfl _ rfl am.out) rfl this
theorem vE (M:Mp) (a:aJ) (n c:Nat) (q:Pa) (p:aJ) (t:T) (w:World) (hi:Inv M w) (hB:Bs M w a n c q) (ht:IsT M p t) :
  Calls prog 130 #[.slice a n c,.agg #[.pointer p]] w (dA M w (wrap q t)):=by
 obtain ⟨w2,hw2,b8,af,hb2,hs2⟩:=mZ w p;have hl:=hB.1.len;have hlc:=hB.1.1;have hmx:=hB.1.2.1;unfold maxLen at hmx;have H0:=hid b8;by_cases hn:n=0
 .subst hn;obtain rfl:q=[]:=List.eq_nil_of_length_eq_zero hl;have H1:=hid af;have HE:Hid (∀ w3,Rg.Upd w2 (w.heap.size+1) w3->dA M w (wrap [] t) (.returned (tv p)) w3):=hid (λw3 hu=>Xc hi ht (hu.below hb2 (by omega)));clear b8 af hb2 hs2 hB hi ht hl;subst hw2;go_enter func130,ntmps130;go_wp2_with (first
   | (refine ay (aW _ _ _ (w.heap.size+1) (by simp) rfl) ?_)
   | (refine ay (aT (aU (j:=0) H0.out rfl) ⟨_,rfl,rfl⟩) ?_)
   | (refine aX H1.out (by decide) p rfl _ _ rfl rfl rfl ?_; intro w3 hO3 hu3; have am:=hid hO3; have ld:=hid hu3; clear hO3 hu3))
  exact bodyPost_ret (dW rfl _ rfl am.out) rfl (HE.out w3 ld.out)
 .have hq:q≠[]:=λe=>hn (by rw [<-hl,e]; rfl);have hwr:wrap q t = .ext q t:=if_neg hq;rw [hwr];have hnz:((n:Int)==0)=false:=by simp; omega
  obtain ⟨w3,hw3⟩:=au (w2.alloc (.cells (oq [p]) 31))
  have hK:Rg.Own w3 w2.heap.size (oq [p]) 31:=by rw [hw3]; exact Rg.Own.new _ _ _
  have hb3:Below w2.heap.size w2 w3:=by rw [hw3]; exact al1 _ _
  have hs3:w3.heap.size=w.heap.size+3:=by rw [hw3]; simp [hs2]
  obtain ⟨w4,hw4⟩:=au (w3.alloc (.cells (iq (.ext q t) a n c (some ⟨w2.heap.size,0,none⟩) 1 1 0 eB) 108))
  have hP:Rg.Own w4 w3.heap.size (iq (.ext q t) a n c (some ⟨w2.heap.size,0,none⟩) 1 1 0 eB) 108:=by rw [hw4]; exact Rg.Own.new _ _ _
  have hb4:Below w3.heap.size w3 w4:=by rw [hw4]; exact al1 _ _
  have l9:Below w2.heap.size w2 w4:=hb3.trans (hb4.mono hb3.size);have H1:=hid (af.below l9);have H2:=hid (af);have HE:Hid (∀ w5,Rg.Upd w4 (w.heap.size+1) w5->dA M w (.ext q t) (.returned (tv (some ⟨w3.heap.size,0,none⟩))) w5):=hid (λw5 hu=>by
   have hb:=hu.below (hb2.trans (l9.mono hb2.size)) (show w.heap.size<=w.heap.size+1 by omega);refine BN hi hb (by omega) (λe=>by cases e) (zJ hP hu (by omega)) (hB.1.below hb) (λad e hn=>Or.inl (hB.2 ad e hn)) ?_;exact Ks0.row (ps:=[p]) (b:=w2.heap.size) (by omega) ((hK.below hb4).upd hu (by omega)) rfl (by unfold maxLen; simp) (λj hj=>by
    obtain rfl:j=0:=by simp at hj; exact hj
    exact ht))
  rw [hs3] at HE;rw [hs2] at hw4;clear b8 af hb2 hb3 hb4 l9 hP hK hB hi ht hwr hs3;subst hw4;subst hw3;subst hw2;clear hs2;go_enter func130,ntmps130;go_wp2_with (first
   | (refine ay (aW _ _ _ (w.heap.size+1) (by simp) rfl) ?_)
   | (refine ay (aT (aU (j:=0) H0.out rfl) ⟨_,rfl,rfl⟩) ?_)
   | (refine ay (Ml (p:=p) (w.heap.size+2) (by simp) ⟨_,rfl,rfl⟩) ?_)
   | (refine ay (bK (xO a n c (some ⟨w.heap.size+2,0,none⟩) 1 1 q t) ⟨_,rfl,rfl⟩) ?_)
   | (refine ay (kK ⟨_,rfl,rfl⟩) ?_)
   | (refine aX H1.out (by decide) (some ⟨w.heap.size+3,0,none⟩) rfl _ _ rfl rfl rfl ?_; intro w5 aE ax; have cd:=hid aE; have gO:=hid ax; clear aE ax))
  exact bodyPost_ret (dW rfl _ rfl cd.out) rfl (HE.out w5 gO.out)
def iV (w:World) (a:aJ) (n c:Nat) (ps:List (aJ)):Prop :=
 n<=c/\c<=maxLen/\ps.length=n/\(a=none->c=0)/\∀ j,j<n->∃ b off,a=some ⟨b,off,none⟩/\b<w.heap.size/\w.cell? ⟨b,off+j,none⟩=some (.pointer (ps.getD j none))
def Are (M:Mp) (ps:List (aJ)) (l:List T):Prop:=ps.length=l.length/\∀ j,j<ps.length->IsT M (ps.getD j none) (l.getD j .nil)
theorem Ks.ptrs {M:Mp} {a:aJ} {n c:Nat} {l:List T} (h:Ks M w a n c l):∃ ps,iV w a n c ps/\Are M ps l:=by
 have hp:∀ j,∃ p,j<n->∃ b off,a=some ⟨b,off,none⟩/\b<w.heap.size/\w.cell? ⟨b,off+j,none⟩=some (.pointer p)/\IsT M p (l.getD j .nil):=λj=>by
  by_cases hj:j<n
  .obtain ⟨b,off,p,e,hlt,_,hc,ht⟩:=h.at' j hj;exact ⟨p,λ_=>⟨b,off,e,hlt,hc,ht⟩⟩
  .exact ⟨none,λh=>absurd h hj⟩
 obtain ⟨F,hF⟩:∃ F:Nat->aJ,∀ j,j<n->∃ b off,a=some ⟨b,off,none⟩/\b<w.heap.size/\w.cell? ⟨b,off+j,none⟩=some (.pointer (F j))/\IsT M (F j) (l.getD j .nil):=⟨λj=>Classical.choose (hp j),λj=>Classical.choose_spec (hp j)⟩
 have e:∀ j,j<n->((List.range n).map F).getD j none=F j:=λj hj=>by simp [List.getD,hj]
 refine ⟨(List.range n).map F,⟨h.1,h.2.1,by simp,h.2.2.2.1,λj hj=>?_⟩,by simp [h.len],λj hj=>?_⟩
 .obtain ⟨b,off,e1,hlt,hc,_⟩:=hF j hj;exact ⟨b,off,e1,hlt,by rw [e j hj]; exact hc⟩
 .have hj':j<n:=by simpa using hj
  obtain ⟨_,_,_,_,_,ht⟩:=hF j hj';rw [e j hj']; exact ht
theorem iV.ks {M:Mp} {a:aJ} {n c:Nat} {ps:List (aJ)} {l:List T} (h:iV w a n c ps) (ha:Are M ps l) (hf:∀ ad,a=some ad->0<n->M.ft ad.block):Ks M w a n c l:=by
 have hl:=h.2.2.1;refine ⟨h.1,h.2.1,by rw [<-ha.1]; exact hl,h.2.2.2.1,λj hj=>?_⟩;obtain ⟨b,off,e,hlt,hc⟩:=h.2.2.2.2 j hj;exact ⟨b,off,_,e,hlt,hf _ e (by omega),hc,ha.2 j (by omega)⟩
theorem iV.below {a:aJ} {n c:Nat} {ps:List (aJ)} (h:iV w a n c ps) (hb:Below w.heap.size w w'):iV w' a n c ps:=by
 refine ⟨h.1,h.2.1,h.2.2.1,h.2.2.2.1,λj hj=>?_⟩;obtain ⟨b,off,e,hlt,hc⟩:=h.2.2.2.2 j hj;exact ⟨b,off,e,aH hlt hb.size,by rw [hb.cell (p:=⟨b,off+j,none⟩) hlt]; exact hc⟩
theorem Are.mono {M M':Mp} {ps:List (aJ)} {l:List T} (h:Are M ps l) (hm:∀ k t,M.at_ k=some t->M'.at_ k=some t):Are M' ps l:=⟨h.1,λj hj=>(h.2 j hj).mono hm⟩
theorem Are.set {M:Mp} {ps:List (aJ)} {l:List T} (h:Are M ps l) (i:Nat) {p:aJ} {t:T} (ht:IsT M p t):Are M (ps.set i p) (l.set i t):=by
 refine ⟨by simp [h.1],λj hj=>?_⟩;have hj':j<ps.length:=by simpa using hj
 have hjl:j<l.length:=by rw [<-h.1]; exact hj'
 by_cases e:i=j
 .subst e;rw [List.getD_eq_getElem?_getD,List.getD_eq_getElem?_getD,List.getElem?_set_self hj',List.getElem?_set_self hjl];exact ht
 .rw [List.getD_eq_getElem?_getD,List.getD_eq_getElem?_getD,List.getElem?_set_ne e,List.getElem?_set_ne e,<-List.getD_eq_getElem?_getD,<-List.getD_eq_getElem?_getD];exact h.2 j hj'
def RowK (w:World) (g cap:Nat) (ps:List (aJ)):Prop :=
 ∃ cur,Rg.Own w g cur 31/\cur.size=cap/\ps.length<=cap/\cap<=maxLen/\∀ j,j<ps.length->cur[j]? = some (.pointer (ps.getD j none))
theorem RowK.lt {ps:List (aJ)} (h:RowK w g cap ps):g<w.heap.size:=by
 obtain ⟨cur,hO,_⟩:=h;exact hO.1
theorem RowK.below {w w':World} {g cap:Nat} {ps:List (aJ)} (h:RowK w g cap ps) (hb:Below w.heap.size w w'):RowK w' g cap ps:=by
 obtain ⟨cur,hO,h1⟩:=h;exact ⟨cur,hO.below hb,h1⟩
theorem RowK.upd {w w':World} {g b cap:Nat} {ps:List (aJ)} (h:RowK w g cap ps) (hu:Rg.Upd w b w') (hne:g≠b):RowK w' g cap ps:=by
 obtain ⟨cur,hO,h1⟩:=h;exact ⟨cur,hO.upd hu hne,h1⟩
theorem RowK.ptrs {ps:List (aJ)} (h:RowK w g cap ps):iV w (some ⟨g,0,none⟩) ps.length cap ps:=by
 obtain ⟨cur,hO,hs,hl,hm,hc⟩:=h;exact ⟨hl,hm,rfl,λe=>(by cases e),λj hj=>⟨g,0,rfl,hO.1,by rw [Nat.zero_add,cell_of_row w g _ _ _ _ hO.2]; exact hc j hj⟩⟩
theorem Ra {ps:List (aJ)} (hc:∀ j,j<ps.length->cur[j]? = some (.pointer (ps.getD j none))) (i:Nat) (p:aJ) (hi:i<cur.size):∀ j,j<(ps.set i p).length->(cur.setIfInBounds i (.pointer p))[j]? = some (.pointer ((ps.set i p).getD j none)):=λj hj=>by
 have hj':j<ps.length:=by simpa using hj
 by_cases e:i=j
 .subst e;rw [List.getD_eq_getElem?_getD,List.getElem?_set_self hj'];simp [hi]
 .rw [List.getD_eq_getElem?_getD,List.getElem?_set_ne e,<-List.getD_eq_getElem?_getD,Array.getElem?_setIfInBounds_ne e];exact hc j hj'
theorem uN {rest:List Oper} {ps:List (aJ)} (h:RowK w g cap ps) (hof:i<ps.length) (p:aJ)
  (hgd:o.guard=none) (x y:Operand) (ho:o.op = .store 31 x y) (hx:act.eval x = .pointer (some ⟨g,i,none⟩)) (hy:act.eval y=tv p)
  (hQ:∀ w',RowK w' g cap (ps.set i p)->Rg.Upd w g w'->wpList prog ops Q rest (act.put o.dst undef) w'):wpList prog ops Q (o::rest) act w:=by
 obtain ⟨cur,hO,hs,hl,hm,hc⟩:=h;refine aX hO (off:=i) (by omega) p hgd x y ho hx hy (λw' vm hu=>hQ w' ⟨_,vm,by simp [hs],by simpa using hl,hm,Ra hc i p (by omega)⟩ hu)
theorem JY:(prog.info? 31).map (λi=>(i.size,i.bytes))=some (1,8):=by kernel_rfl
theorem BP:((prog.info? 31).bind (·.zero)).map (·.cells)=some #[.pointer none]:=by kernel_rfl
theorem rJ:∃ i z,prog.info? 31=some i/\i.zero=some z/\i.size=1/\i.bytes=8/\z.cells.size=1:=by
 have h1:=JY;have h2:=BP;cases hi:prog.info? 31 with
 | none=>rw [hi] at h1; simp at h1
 | some i =>
  rw [hi] at h1 h2;simp at h1 h2;cases hz:i.zero with
  | none=>rw [hz] at h2; simp at h2
  | some z =>
   rw [hz] at h2;simp at h2;exact ⟨i,z,rfl,hz,h1.1,h1.2,by rw [h2]; rfl⟩
theorem ET (w:World):(binOp .eql 57 (.slice none 0 0) (.slice none 0 0)).run prog w = .ok (.bool true) w:=by kernel_rfl
theorem Bg (a:Addr) (n cap:Nat) (w:World):(binOp .eql 57 (.slice (some a) n cap) (.slice none 0 0)).run prog w = .ok (.bool false) w:=by kernel_rfl
theorem JI (w:World):Calls prog 46 #[.slice none 0 0] w λe w'=>e = .returned (.slice none 0 0)/\w=w':=by
 have hnil:=ET;go_enter func46,ntmps46;go_wp2;go_ret;exact ⟨rfl,rfl⟩
def sO (w:World) (ps:List (aJ)) (e:Ending) (w':World):Prop:=∃ g cap,e = .returned (.slice (some ⟨g,0,none⟩) ps.length cap)/\w.heap.size<=g/\RowK w' g cap ps/\Below w.heap.size w w'
theorem sS {ps:List (aJ)} {n:Nat} (ho:w'.ownsRow w.heap.size 31 1 v n (ps.map Value.pointer)) (hl:ps.length=n) (hne:v ≠ .slice none 0 0) (hb:Below w.heap.size w w'):sO w ps (.returned v) w':=by
 rcases ho.2 with ⟨rfl,hz⟩ | ⟨g,cap,cur,rfl,hbg,hg,hnc,hcm,hcs,htake⟩
 .exact absurd rfl hne
 .subst hl;refine ⟨g,cap,rfl,hbg,⟨cur,⟨(Array.getElem?_eq_some_iff.1 hg).1,hg⟩,by omega,hnc,hcm,λj hj=>?_⟩,hb⟩;have h1:(ps.map Value.pointer)[j]? = some (.pointer (ps.getD j none)):=by simp [List.getD,hj]
  rw [<-htake,List.getElem?_take,if_pos (by omega)] at h1;simpa using h1
theorem Ah (ad:Addr) (n cap:Nat) (ps:List (aJ)) (w:World) (h:iV w (some ad) n cap ps) (hn:n<=1000000) :
  Calls prog 46 #[.slice (some ad) n cap] w (sO w ps):=by
 obtain ⟨i0,z0,hi,hz,hs,hby,hzc⟩:=rJ;have HI:Hid (_/\_/\_/\_/\_):=hid ⟨hi,hz,hs,hby,hzc⟩;have hl:=h.2.2.1;have hcell:∀ j u,(ps.map Value.pointer)[j]? = some u->(ad.add j).block<w.heap.size/\w.cell? (ad.add j)=some u:=λj u hu=>by
  have hj:j<n:=by rw [<-hl]; have:=(List.getElem?_eq_some_iff.1 hu).1; simpa using this
  obtain ⟨b,off,e,hlt,hc⟩:=h.2.2.2.2 j hj;obtain rfl:=Option.some.inj e;have hx:u = .pointer (ps.getD j none):=by
   have hj':j<ps.length:=by omega
   simp [hj'] at hu;simp [List.getD,hj',hu]
  rw [Addr.add_mid,hx];exact ⟨hlt,hc⟩
 have HC:=hid hcell;have HL:=hid hl;have hnil:=Bg ad n cap;clear hi hz hs hby hzc h hcell hl;go_enter func46,ntmps46;have HO:Hid ((w.alloc (.cells #[] 31)).ownsRow w.heap.size 31 1 (.slice (some ⟨w.heap.size,0,none⟩) 0 0) 0 []):=hid (World.ownsRow_made w #[] 0 aF (Nat.zero_le _) (by simp))
 go_wp2_with (at_builtin; refine wpList_append_own _ rfl _ _ 57 rfl w.heap.size 31 i0 z0 1 8 underlying57 HI.out.1 HI.out.2.1 HI.out.2.2.1 HI.out.2.2.2.1 HI.out.2.2.2.2 (by decide) _ _ _ rfl HO.out ad n cap (ps.map Value.pointer) rfl (by simp [HL.out]) ?c2 ?c6 ?c3 ?c4 ?c5 ?_)
 case c2 =>
  intro j u hu;rw [(al1 w _).cell (HC.out j u hu).1];exact (HC.out j u hu).2
 case c6 =>
  intro u hu;simp at hu;obtain ⟨x,_,rfl⟩:=hu;rfl
 case c3=>unfold maxLen; omega
 case c4=>omega
 case c5=>simp
 intro v' w2 hown2 hgrow hnil';have HG:Hid (sO w ps (.returned v') w2):=hid (sS (by simpa using hown2) HL.out hnil' ((al1 w _).grown hgrow (by simp) (λk hk=>by simp [Value.ownBlock] at hk; omega)));clear hown2 hgrow hnil';go_wp2;go_ret;exact HG.out
open Ni
open Pk
theorem yA:∀ x y:aL,jF x y=cp x y
 | [],_=>rfl
 | _::_,[]=>rfl
 | a::xs,b::ys=>by
  unfold jF cp;rw [yA xs ys]
theorem Ad:∀ {q p:Pa},q<+:p->cp q p=q.length
 | [],_,_=>rfl
 | a::q,[],h=>by simp at h
 | a::q,b::p,h=>by
  obtain ⟨rfl,h2⟩:=List.cons_prefix_cons.1 h;unfold cp;rw [if_pos rfl,Ad h2]; rfl
theorem Co:∀ {q p:Pa},¬ q<+:p->cp q p<q.length
 | [],_,h=>absurd List.nil_prefix h
 | a::q,[],_=>by simp [cp]
 | a::q,b::p,h=>by
  unfold cp;by_cases e:a=b
  .subst e;rw [if_pos rfl];have:=Co (q:=q) (p:=p) (λg=>h (List.cons_prefix_cons.2 ⟨rfl,g⟩));simp; omega
  .rw [if_neg e]; simp
theorem yJ (w:World) (q:Nat):Below w.heap.size w (w.drewN q):=below_drewN aG q
theorem qd (a b:aJ) (n m c d:Nat) (x y:Pa) (hn:n<=1000000) (hm:m<=1000000) (hle:n<=m) (w:World) (ha:bq w a n c x) (hb:bq w b m d y) :
  Calls prog 113 #[.slice a n c,.slice b m d] w λe w'=>e = .returned (.int .i64 (cp x y:Nat))/\Below w.heap.size w w':=by
 have HC:=hid (qV a b n m c d x y hn hm w ha hb);have hx:=ha.len;have hl:cp x y<=n:=by rw [<-hx]; exact SL x y
 rw [yA] at HC;obtain ⟨k,hk⟩:=av (cp x y)
 rw [hk] at HC hl ⊢;clear hk ha hb hx;by_cases h:k=m
 .subst h;have h2:decide ((k:Int)<(n:Int))=false:=by simp; omega
  have h1:((k:Int)==(k:Int))=true:=by simp
  go_enter func113,ntmps113;go_wp2_with fail
  refine HC.out.mono ?_;rintro e w1 ⟨rfl,q,rfl⟩;go_wp2;go_ret;exact ⟨rfl,yJ _ _⟩
 .have h1:((k:Int)==(m:Int))=false:=by simp; omega
  go_enter func113,ntmps113;go_wp2_with fail
  refine HC.out.mono ?_;rintro e w1 ⟨rfl,q,rfl⟩;go_wp2;go_ret;exact ⟨rfl,yJ _ _⟩
theorem Inv.path {M:Mp} (hi:Inv M w) {b:Nat} {t:T} (hm:M.at_ b=some t):∃ a n c,w.cell? ⟨b,1,none⟩=some (.slice a n c)/\Bs M w a n c (bT t):=by
 obtain ⟨a,n,c,ka,kn,kc,d,r,hb,hB,_⟩:=hi.part hm;exact ⟨a,n,c,(kE hb).1.2.1,hB⟩
theorem Inv.val {M:Mp} (hi:Inv M w) {b:Nat} {t:T} (hm:M.at_ b=some t):w.cell? ⟨b,2,none⟩=some (.string (EI t)):=by
 obtain ⟨a,n,c,ka,kn,kc,d,r,hb,_⟩:=hi.part hm;exact (kE hb).1.2.2.1
theorem Inv.kids {M:Mp} (hi:Inv M w) {b:Nat} {t:T} (hm:M.at_ b=some t):∃ a n c,w.cell? ⟨b,3,none⟩=some (.slice a n c)/\Ks M w a n c (fI t):=by
 obtain ⟨a,n,c,ka,kn,kc,d,r,hb,_,hk,_⟩:=hi.part hm;exact ⟨ka,kn,kc,(kE hb).1.2.2.2,hk⟩
theorem Bd (M:Mp) (b:Nat) (t:T) (hm:M.at_ b=some t) (a:aJ) (n c:Nat) (way:Pa) (w:World) (hi:Inv M w) (hB:bq w a n c way) (hle:(bT t).length<=n) (hn:n<=1000) :
  Calls prog 78 #[.agg #[.pointer (some ⟨b,0,none⟩)],.slice a n c] w λe w' =>
   e=(if bT t<+:way then .returned (.slice (dM a c (bT t).length) (n-(bT t).length) (c-(bT t).length)) else .panicked [fF 7])/\Below w.heap.size w w':=by
 have hi1:=hi.below (al1 w (.cells #[.pointer (some ⟨b,0,none⟩)] 31));obtain ⟨pa,pn,pc,c1,hP,_⟩:=hi1.path hm;have h0:=fU w (some ⟨b,0,none⟩);have hl:=hP.len;have hcap:=hB.1;have hmx:=hB.2.1;unfold maxLen at hmx;have HA:=hid (qd pa a pn n pc c (bT t) way (by omega) (by omega) (by omega) _ hP (hB.alloc (.cells #[.pointer (some ⟨b,0,none⟩)] 31)));rw [hl] at hle ⊢;have vh:Hid (∀ X Y:Ending,(if bT t<+:way then X else Y)=if cp (bT t) way=pn then X else Y):=hid (λX Y=>by
  by_cases h:bT t<+:way
  .rw [if_pos h,if_pos ((Ad h).trans hl)]
  .rw [if_neg h,if_neg (by have:=Co h; omega)])
 rw [vh.out];have hkl:cp (bT t) way<=pn:=by rw [<-hl]; exact SL _ _
 obtain ⟨k,hk⟩:=av (cp (bT t) way)
 rw [hk] at HA hkl ⊢;clear vh hk hP hB hi hi1 hl hm;by_cases h:k=pn
 .subst h;rw [if_pos rfl];have h2:decide ((k:Int)<(k:Int))=false:=by simp
  go_enter func78,ntmps78;go_wp2_with fail
  refine HA.out.mono ?_;rintro e w1 ⟨rfl,hb1⟩;have h0':=aV hb1 h0;have c1':=aV hb1 c1;have HB:=hid (bst (al1 _ _) hb1);clear h0 c1 hb1;go_wp2_with (refine ay (lD iU jT hle ⟨_,_,rfl,rfl,rfl⟩) ?_)
  go_ret;exact ⟨rfl,HB.out⟩
 .rw [if_neg h];have h2:decide ((k:Int)<(pn:Int))=true:=by simp; omega
  go_enter func78,ntmps78;go_wp2_with fail
  refine HA.out.mono ?_;rintro e w1 ⟨rfl,hb1⟩;have h0':=aV hb1 h0;have c1':=aV hb1 c1;have HB:=hid (bst (al1 _ _) hb1);clear h0 c1 hb1;go_wp2;simp [bodyPost,fF];exact HB.out
theorem Fq (M:Mp) (b:Nat) (t:T) (hm:M.at_ b=some t) (a:aJ) (n c:Nat) (way:Pa) (w:World) (hi:Inv M w) (hB:bq w a n c way) (hle:(bT t).length=n) (hn:n<=1000) :
  Calls prog 79 #[.agg #[.pointer (some ⟨b,0,none⟩)],.slice a n c] w λe w' =>
   e=(if bT t=way then .returned (.tuple #[]) else .panicked [fF 7])/\Below w.heap.size w w':=by
 have h0:=fU w (some ⟨b,0,none⟩);have HP:=hid (Bd M b t hm a n c way (w.alloc (.cells #[.pointer (some ⟨b,0,none⟩)] 31)) (hi.below (al1 _ _)) (hB.alloc _) (by omega) hn);have vh:Hid (bT t<+:way↔bT t=way):=hid ⟨λh=>h.eq_of_length (by rw [hle,hB.len]),λh=>by rw [h]; exact List.prefix_rfl⟩;have HX:Hid (∀ X Y:Ending,(if bT t<+:way then X else Y)=if bT t=way then X else Y):=hid (λX Y=>by
  by_cases h:bT t=way
  .rw [if_pos h,if_pos (vh.out.2 h)]
  .rw [if_neg h,if_neg (λg=>h (vh.out.1 g))])
 rw [HX.out,hle] at HP;clear hi hB HX vh hm;by_cases h:bT t=way
 .rw [if_pos h] at HP ⊢;have h2:decide (0<((n-n:Nat):Int))=false:=by simp
  clear h;go_enter func79,ntmps79;go_wp2_with (refine ay (aT h0 ⟨_,rfl,rfl⟩) ?_)
  refine HP.out.mono ?_;rintro e w1 ⟨rfl,hb1⟩;have HB:=hid (bst (al1 _ _) hb1);clear h0 hb1;go_wp2;go_end0;exact ⟨rfl,HB.out⟩
 .rw [if_neg h] at HP ⊢;clear h;go_enter func79,ntmps79;go_wp2_with (refine ay (aT h0 ⟨_,rfl,rfl⟩) ?_)
  refine HP.out.mono ?_;rintro e w1 ⟨rfl,hb1⟩;have HB:=hid (bst (al1 _ _) hb1);clear h0 hb1;go_wp2;simp [bodyPost];exact HB.out
theorem kT (a:aJ) (n c:Nat) (way:Pa) (hn:1<=n) (w:World) (hB:bq w a n c way) :
  Calls prog 77 #[.slice a n c] w λe w'=>e = .returned (.tuple #[.int .u8 (way.getD 0 0).toNat,.slice (dM a c 1) (n-1) (c-1)])/\Below w.heap.size w w':=by
 obtain ⟨b,off,rfl,hlt,hc⟩:=hB.at' 0 (by omega);rw [Nat.add_zero] at hc;have hcap:=hB.1;have hmx:=hB.2.1;unfold maxLen at hmx;obtain ⟨x,hx⟩:=av ((way.getD 0 0).toNat)
 rw [hx] at hc ⊢;have hnz:((n:Int)==0)=false:=by simp; omega
 have hn0:0<n:=hn;clear hB hx;go_enter func77,ntmps77;go_wp2_with fail
 refine aB (S:=λw'=>Below w.heap.size w w') (aG.drew) λhld=>?_;refine ah 0 ?_;try simp only [ak]
 refine ah 1 ?_;try simp only [ak]
 refine aC 2 (λwz hSw=>(hSw.cell (p:=⟨b,off,none⟩) hlt).trans hc) ?_;try simp only [ak]
 refine ah 3 ?_;try simp only [ak]
 refine ah 4 ?_ (hy:=by intro wz hSw; (refine lD (a:=some ⟨b,off,none⟩) (n:=n) (c:=c) (i:=1) iU jT hn ?_; exact ⟨_,_,rfl,rfl,rfl⟩));try simp only [ak]
 refine ah 5 ?_;try simp only [ak]
 refine ah 6 ?_;try simp only [ak]
 refine aA ?_;go_wp2;exact bodyPost_ret (results_tmp2 rfl _ _ _) rfl ⟨rfl,hld⟩
end Tm
end
end Go.Proofs.YtlcplcgigjagpaaGreatDoor
