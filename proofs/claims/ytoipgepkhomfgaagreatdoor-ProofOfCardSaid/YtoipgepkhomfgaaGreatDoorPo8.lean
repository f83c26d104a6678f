/-
 Contracts of node.Reference, node.fits, node.Check, node.Get: of any bytes.
-/
import Derived.Test.YtoipgepkhomfgaaGreatDoorPo7
import Derived.Lib.ConvBytes
open Go.Lib (hid)
open Go.Proofs.Tryz
set_option linter.unusedSimpArgs false
set_option linter.unusedVariables false
set_option maxHeartbeats 40000000
set_option maxRecDepth 100000
namespace Go.Proofs.YtoipgepkhomfgaaGreatDoor
variable {L cap g i j kn:Nat} {k r:aL} {v:Value} {w w' w1 w2:World} {o:Oper} {S:Nat->Prop} {p:aK} {o':Obj} {d:Int} {ev:Operand->Value} {ops:Array Oper} {act:Act} {Q:Exit->Act->World->Prop} {K:Act->World->Prop} {cur:aN} {ty:TypeId}
section
open Go.RowKit
namespace No
open Rl Ni
def nD (k:aL):Prop:=∀ w:World,Calls prog 134 #[.string k] w λe w'=>e = .returned (.bool (bP k))/\Below w.heap.size w w'
def EX (w:World) (r:Option Nd) (e:Ending) (w':World):Prop:=∃ (N:Nd) (a:aK) (n c:Nat) (er:Int),e = .returned (.tuple #[.agg (ndC N a n c),.int .i64 er])/\(er=0/\r=some N\/er≠0/\N=nd0/\r=none)/\
 BsF w.heap.size w' a n c N.p/\N.ks.length=16/\Below w.heap.size w w'
def Qx (s:aL):Prop:=∀ w:World,Calls prog 152 #[.string s] w (EX w (uq s.data.toList))
theorem Rz (s:aL) (h:Qx s) (w:World):Calls prog 165 #[.string s] w λe w'=>e = .returned (.bool (uq s.data.toList).isSome)/\Below w.heap.size w w':=by
 have HG:=hid (h w);obtain ⟨r,hr⟩:=ay (uq s.data.toList)
 rw [hr] at HG ⊢;clear h hr;go_enter func165,ntmps165;go_wp2_with fail
 refine HG.out.mono ?_;rintro e w3 ⟨N,a3,n3,c3,er,rfl,hr3,hx3,hl3,hb3⟩;have HO:Hid (dI (w3.alloc (.cells (ndC nd0 none 0 0) 69)) w3.heap.size nd0 none 0 0):=hid (Rg.Own.new _ _ _);have HB:=hid (bst hb3 (al1 w3 (.cells (ndC nd0 none 0 0) 69)));have HL:=hid hl3;have hge:=hb3.size;clear hx3 hl3 hb3 HG;rcases hr3 with ⟨rfl,rfl⟩ | ⟨he,rfl,rfl⟩
 .go_wp2_with (first
   | (refine aA (aY _ _ _ w3.heap.size rfl rfl) ?_)
   | (refine bK HO.out rfl N a3 n3 c3 HL.out rfl _ _ rfl rfl rfl rfl ?_))
  go_ret;exact ⟨rfl,cO HB.out hge _⟩
 .have hd:(er==0)=false:=by simp; exact he
  go_wp2_with (first
   | (refine aA (aY _ _ _ w3.heap.size rfl rfl) ?_)
   | (refine bK HO.out rfl nd0 a3 n3 c3 HL.out rfl _ _ rfl rfl rfl rfl ?_))
  go_ret;exact ⟨rfl,cO HB.out hge _⟩
theorem LM (k:aL) (hk:k.size<=9223372036854775807) (h:k.size<32->Qx k):nD k:=by
 intro w;have HP:=hid (yw k w);cases hp:dK k with
 | true =>
  have HF:Hid (bP k=true):=hid (by unfold bP; rw [hp]; rfl);rw [hp] at HP;rw [HF.out];clear h hp;go_enter func134,ntmps134;go_wp2_with fail
  refine HP.out.mono ?_;rintro e w3 ⟨rfl,rfl⟩;go_wp2;go_ret;exact ⟨rfl,aH⟩
 | false =>
  rw [hp] at HP;by_cases h32:k.size<32
  .have HF:Hid (bP k=(uq k.data.toList).isSome):=hid (by unfold bP; rw [hp]; simp [h32]);have HG:=hid (Rz k (h h32) w);rw [<-HF.out] at HG;clear h hp HF;go_enter func134,ntmps134;go_wp2_with fail
   refine HP.out.mono ?_;rintro e w3 ⟨rfl,rfl⟩;go_wp2_with fail
   refine HG.out.mono ?_;rintro e w4 ⟨rfl,hb4⟩;have HB:=hid hb4;clear hb4;go_wp2;go_ret;exact ⟨rfl,HB.out⟩
  .have HF:Hid (bP k=false):=hid (by unfold bP; rw [hp]; simp [h32]);rw [HF.out];clear h hp;go_enter func134,ntmps134;go_wp2_with fail
   refine HP.out.mono ?_;rintro e w3 ⟨rfl,rfl⟩;go_wp2;go_ret;exact ⟨rfl,aH⟩
theorem SX (k:aL) (h:nD k) (w:World):Calls prog 136 #[.string k] w λe w'=>e = .returned (.bool (!bP k))/\Below w.heap.size w w':=by
 have HG:=hid (h w);obtain ⟨r,hr⟩:=ay (bP k)
 rw [hr] at HG ⊢;clear h hr;go_enter func136,ntmps136;go_wp2_with fail
 refine HG.out.mono ?_;rintro e w3 ⟨rfl,hb3⟩;have HB:=hid hb3;clear hb3;go_wp2;go_ret;exact ⟨rfl,HB.out⟩
def Nf (w:World) (xs:List aL) (e:Ending) (w':World):Prop:=∃ r:Int,e = .returned (.int .i64 r)/\-1<=r/\r<=9223372036854775807/\decide (0<=r) = !xs.all bP/\Below w.heap.size w w'
theorem RO {xs:List aL} (hj:j<xs.length) (h:(xs.take j).all bP=true) (hk:bP (xs.getD j eB)=true):(xs.take (j+1)).all bP=true:=by
 have e:xs.getD j eB=xs[j]:=by simp [List.getD,hj]
 rw [List.take_succ_eq_append_getElem hj,List.all_append,h,List.all_cons,List.all_nil,<-e,hk];rfl
theorem QZ (xs:List aL) (hR:∀ k∈xs,nD k) (a:aK) (n cap:Nat) (w:World) (h:fH w a n cap xs) :
  Calls prog 60 #[.slice a n cap,.func (Fn.func 136) #[] #[]] w (Nf w xs):=by
 have hm:=h.2.1;have hnc:=h.1;have hl:=h.len;unfold maxLen at hm;have H:=hid h;have HL:=hid hl;have HR:=hid hR;clear h hl hR;go_enter func60,ntmps60;go_wp2;go_loopw [8] (λi wr=>∃ j:Nat,j<=n/\i = .int .i64 j/\Hid ((xs.take j).all bP=true)/\Hid (Below w.heap.size w wr)) (λi _=>n-(intOf i).toNat)
 case atStart=>exact ⟨0,Nat.zero_le _,rfl,hid rfl,hid aH⟩
 case round =>
  obtain ⟨j,hj,rfl,HJ,HB⟩:=hrel;by_cases hlt:j<n
  .obtain ⟨b,off,rfl,hblt,hc⟩:=H.out.at' j hlt;have hc':=(Below.cell (p:=⟨b,off+j,none⟩) HB.out hblt).trans hc;have HM:Hid (xs.getD j eB∈xs):=hid (by
    have hj':j<xs.length:=by rw [HL.out]; exact hlt
    have e:xs.getD j eB=xs[j]:=by simp [List.getD,hj']
    rw [e]; exact List.getElem_mem hj')
   have HC:=hid (SX _ (HR.out _ HM.out) wr);have HT:Hid (bP (xs.getD j eB)=true->(xs.take (j+1)).all bP=true):=hid (RO (by rw [HL.out]; exact hlt) HJ.out);obtain ⟨K,hK⟩:=ay (xs.getD j eB)
   rw [hK] at HC HM HT hc';clear hK hc HJ;go_wp2_with fail
   refine HC.out.mono ?_;rintro e w5 ⟨rfl,hb5⟩;have ae:=hid (bst HB.out hb5);clear hb5 HC HB hc';cases hf:bP K with
   | true =>
    have sc:=hid (HT.out hf);clear HT hf;go_wp2;go_roundw
    case rel=>exact ⟨j+1,by omega,by go_num,sc,ae⟩
    case measure=>simp [intOf]; omega
   | false =>
    have HF:Hid (xs.all bP=false):=hid (by rw [List.all_eq_false]; exact ⟨K,HM.out,by rw [hf]; simp⟩);clear HT hf;go_wp2;go_ret;exact ⟨(j:Int),rfl,by omega,by omega,by rw [HF.out]; simp,ae.out⟩
  .obtain rfl:j=n:=by omega
   have HF:Hid (xs.all bP=true):=hid (by have:=HJ.out; rw [List.take_of_length_le (by rw [HL.out]; exact aG)] at this; exact this);go_wp2;go_ret;exact ⟨-1,rfl,by decide,by decide,by rw [HF.out]; rfl,HB.out⟩
theorem Gf (xs:List aL) (hR:∀ k∈xs,nD k) (a:aK) (n cap:Nat) (w:World) (h:fH w a n cap xs) :
  Calls prog 135 #[.slice a n cap,.func (Fn.func 136) #[] #[]] w λe w'=>e = .returned (.bool (!xs.all bP))/\Below w.heap.size w w':=by
 have HI:=hid (QZ xs hR a n cap w h);unfold Nf at HI;obtain ⟨F,hF⟩:=ay (!xs.all bP)
 rw [hF] at HI ⊢;clear h hR hF;go_enter func135,ntmps135;go_wp2_with fail
 refine HI.out.mono ?_;rintro e w3 ⟨r,rfl,h1,h2,h3,hb3⟩;have HB:=hid hb3;have H3:=hid h3;clear hb3 HI h3;go_wp2;go_ret;exact ⟨by rw [<-H3.out]; rfl,HB.out⟩
theorem VJ (N:Nd) (a:aK) (n c:Nat) (hl:N.ks.length=16) (hp:N.p.length=n) (hm:n<=maxLen) (hv:N.v.size<=maxLen) (hR:∀ k∈N.ks,nD k) (w:World) :
  Calls prog 91 #[.agg (ndC N a n c)] w λe w'=>e = .returned (.bool (lK bP N))/\Below w.heap.size w w':=by
 have HO:Hid (dI (w.alloc (.cells (ndC N a n c) 69)) w.heap.size N a n c):=hid (Rg.Own.new _ _ _);have HK:=hid (SE N a n c hl (w.alloc (.cells (ndC N a n c) 69)));have ie:Hid (nD (N.ks.getD 0 eB)):=hid (hR _ (by rw [List.getD_eq_getElem?_getD,List.getElem?_eq_getElem (by omega)]; exact List.getElem_mem _));have HRK:Hid (∀ k∈bI N.ks,nD k):=hid (λk hk=>hR k (List.mem_filter.1 hk).1);have HL:=hid hl;have HU:=hid (rfl:lK bP N=lK bP N);unfold lK at HU;unfold maxLen at hm hv;rw [hp] at HU;obtain ⟨F,hF⟩:=ay (lK bP N)
 have HF:Hid (F=if N.kd=1 then decide (N.v.size≠0)&&decide (N.v.size<=65552)&&decide ((bI N.ks).length=0) else
  if N.kd=2 then decide (0<n)&&decide (N.v.size=0)&&decide ((bI N.ks).length=1)&&decide ((N.ks.getD 0 eB).size≠0)&&bP (N.ks.getD 0 eB) else
  if N.kd=3 then decide (n=0)&&decide (N.v.size=0)&&decide (2<=(bI N.ks).length)&&(bI N.ks).all bP else false):=hid (by
   rw [<-hF];unfold lK;rw [hp])
 rw [hF];clear HU hF hR hl hp;by_cases hkd:N.kd=1
 .rw [if_pos hkd] at HF;go_enter func91,ntmps91;go_wp2_with (refine aA (bU HO.out HL.out ?_) ?_; · exact ⟨_,rfl,rfl⟩)
  refine HK.out.mono ?_;rintro e w3 ⟨a3,n3,pP,rfl,hs3,hb3⟩;have hO3:=HO.out.below hb3;obtain ⟨c0,c1,c2⟩:=dz hO3;have ck:w3.cell? ⟨w.heap.size,3,none⟩=some (.string (N.ks.getD 0 eB)):=rQ hO3 HL.out 0 (by decide);have fX:=hs3.len;have o8:=hs3.2.1;have u2:=hs3.1;unfold maxLen at o8;have sX:=hid hs3;have HB3:=hid (oG (yI hb3));rw [fX] at HF;rw [hkd] at c0;clear hs3 hb3 hO3 HK fX;by_cases hv0:N.v.size=0
  .have mL:=dQ hv0;rw [mL] at c2;go_wp2;go_ret;exact ⟨by rw [HF.out]; simp [hv0],HB3.out⟩
  .have UB:=Ni.dJ (s:=N.v) (by omega);by_cases hv2:N.v.size<=65552
   .by_cases hk3:n3=0
    .subst hk3;go_wp2;go_ret;exact ⟨by rw [HF.out]; simp [hv0,hv2],HB3.out⟩
    .go_wp2;go_ret;exact ⟨by rw [HF.out]; simp [hv0,hv2,hk3],HB3.out⟩
   .go_wp2;go_ret;exact ⟨by rw [HF.out]; simp [hv0,hv2],HB3.out⟩
 .rw [if_neg hkd] at HF;have hk1:(N.kd==1)=false:=by simp; exact hkd
  clear hkd;by_cases hkd:N.kd=2
  .rw [if_pos hkd] at HF;go_enter func91,ntmps91;go_wp2_with (refine aA (bU HO.out HL.out ?_) ?_; · exact ⟨_,rfl,rfl⟩)
   refine HK.out.mono ?_;rintro e w3 ⟨a3,n3,pP,rfl,hs3,hb3⟩;have hO3:=HO.out.below hb3;obtain ⟨c0,c1,c2⟩:=dz hO3;have ck:w3.cell? ⟨w.heap.size,3,none⟩=some (.string (N.ks.getD 0 eB)):=rQ hO3 HL.out 0 (by decide);have fX:=hs3.len;have o8:=hs3.2.1;have u2:=hs3.1;unfold maxLen at o8;have sX:=hid hs3;have HB3:=hid (oG (yI hb3));rw [fX] at HF;rw [hkd] at c0;clear hs3 hb3 hO3 HK fX;by_cases hn0:0<n
   .by_cases hv0:N.v.size=0
    .have mL:=dQ hv0;rw [mL] at c2;by_cases hk3:n3=1
     .subst hk3;obtain ⟨K,hK⟩:=ay (N.ks.getD 0 eB)
      rw [hK] at HF ck ie;clear hK;by_cases hz:K.size=0
      .obtain rfl:=dQ hz;go_wp2;go_ret;exact ⟨by rw [HF.out]; rw [show decide (eB.size≠0)=false from rfl,Bool.and_false,Bool.false_and]; rfl,HB3.out⟩
      .have hkn:=Ni.dJ (s:=K) (by omega);go_wp2_with fail
       refine (ie.out _).mono ?_;rintro e w4 ⟨rfl,hb4⟩;have aw:=hid (bst HB3.out hb4);obtain ⟨rb,hrb⟩:=ay (bP K)
       rw [hrb] at HF ⊢;clear hb4 hrb;go_wp2;go_ret;exact ⟨by rw [HF.out]; simp [hn0,hz,hv0],aw.out⟩
     .go_wp2;go_ret;exact ⟨by rw [HF.out]; simp [hk3],HB3.out⟩
    .have UB:=Ni.dJ (s:=N.v) (by omega);go_wp2;go_ret;exact ⟨by rw [HF.out]; simp [hv0],HB3.out⟩
   .obtain rfl:n=0:=by omega
    go_wp2;go_ret;exact ⟨by rw [HF.out]; simp,HB3.out⟩
  .rw [if_neg hkd] at HF;have hk2:(N.kd==2)=false:=by simp; exact hkd
   clear hkd;by_cases hkd:N.kd=3
   .rw [if_pos hkd] at HF;go_enter func91,ntmps91;go_wp2_with (refine aA (bU HO.out HL.out ?_) ?_; · exact ⟨_,rfl,rfl⟩)
    refine HK.out.mono ?_;rintro e w3 ⟨a3,n3,pP,rfl,hs3,hb3⟩;have hO3:=HO.out.below hb3;obtain ⟨c0,c1,c2⟩:=dz hO3;have ck:w3.cell? ⟨w.heap.size,3,none⟩=some (.string (N.ks.getD 0 eB)):=rQ hO3 HL.out 0 (by decide);have fX:=hs3.len;have o8:=hs3.2.1;have u2:=hs3.1;unfold maxLen at o8;have sX:=hid hs3;have HB3:=hid (oG (yI hb3));rw [fX] at HF;rw [hkd] at c0;clear hs3 hb3 hO3 HK fX;by_cases hn0:n=0
    .subst hn0;by_cases hv0:N.v.size=0
     .have mL:=dQ hv0;rw [mL] at c2;by_cases hk3:2<=n3
      .have p7:=hid (λw4 hb4=>Gf (bI N.ks) HRK.out a3 n3 pP w4 (sX.out.below hb4));obtain ⟨KL,fS⟩:=ay ((bI N.ks).all bP)
       rw [fS] at HF p7;clear fS;go_wp2_with fail
       refine (p7.out _ aH).mono ?_;rintro e w4 ⟨rfl,hb4⟩;have aw:=hid (bst HB3.out hb4);clear hb4;go_wp2;go_ret;exact ⟨by rw [HF.out]; simp [hk3,hv0],aw.out⟩
      .go_wp2;go_ret;exact ⟨by rw [HF.out]; simp [hk3],HB3.out⟩
     .have UB:=Ni.dJ (s:=N.v) (by omega);go_wp2;go_ret;exact ⟨by rw [HF.out]; simp [hv0],HB3.out⟩
    .go_wp2;go_ret;exact ⟨by rw [HF.out]; simp [hn0],HB3.out⟩
   .rw [if_neg hkd] at HF;have hk3':(N.kd==3)=false:=by simp; exact hkd
    go_enter func91,ntmps91;go_wp2_with (refine aA (bU HO.out HL.out ?_) ?_; · exact ⟨_,rfl,rfl⟩)
    refine HK.out.mono ?_;rintro e w3 ⟨a3,n3,pP,rfl,hs3,hb3⟩;have hO3:=HO.out.below hb3;obtain ⟨c0,c1,c2⟩:=dz hO3;have ck:w3.cell? ⟨w.heap.size,3,none⟩=some (.string (N.ks.getD 0 eB)):=rQ hO3 HL.out 0 (by decide);have fX:=hs3.len;have o8:=hs3.2.1;have u2:=hs3.1;unfold maxLen at o8;have sX:=hid hs3;have HB3:=hid (oG (yI hb3));clear hs3 hb3 hO3 HK fX;go_wp2;go_ret;exact ⟨by rw [HF.out]; rfl,HB3.out⟩
theorem qb (N:Nd) (a:aK) (n c:Nat) (hl:N.ks.length=16) (w:World) (hB:aZ w a n c N.p) (hv:N.v.size<=maxLen) (hR:∀ k∈N.ks,nD k) :
  Calls prog 50 #[.agg (ndC N a n c)] w λe w'=>e = .returned (.int .i64 (if fq bP N then 0 else 2))/\Below w.heap.size w w':=by
 have hp:=hB.len;have hm:=hB.2.1;have hnc:=hB.1;have HO:Hid (dI (w.alloc (.cells (ndC N a n c) 69)) w.heap.size N a n c):=hid (Rg.Own.new _ _ _);have ef:=hid (al1 w (.cells (ndC N a n c) 69));have vu:=hid (VJ N a n c hl hp (by omega) hv hR (w.alloc (.cells (ndC N a n c) 69)));have pS:=hid (fB a n c N.p (w.alloc (.cells (ndC N a n c) 69)) (hB.below (al1 _ _)));obtain ⟨c0,c1,c2⟩:=dz HO.out;have HL:=hid hl;unfold maxLen at hm;obtain ⟨F,hF⟩:=ay (if fq bP N then (0:Int) else 2)
 have HM:Hid (F=if (decide (n<=64)&&dh N.p&&lK bP N)=true then 0 else 2):=hid (by rw [<-hF]; unfold fq; rw [hp]);rw [hF];clear hF hR hB hp hl hv;obtain ⟨R,hR⟩:=ay (dh N.p)
 obtain ⟨T,hT⟩:=ay (lK bP N)
 rw [hR] at HM pS;rw [hT] at HM vu;clear hR hT;by_cases h64:n<=64
 .have d64:decide (64<(n:Int))=false:=by simp; omega
  cases R with
  | true =>
   go_enter func50,ntmps50;go_wp2_with fail
   refine pS.out.mono ?_;rintro e w3 ⟨rfl,rfl⟩;go_wp2_with (refine Rg.runW (by rfl) _ _ (bU HO.out HL.out ?_) ?_; · exact ⟨_,rfl,rfl⟩)
   refine vu.out.mono ?_;rintro e w3 ⟨rfl,hb3⟩;have HB3:=hid (bst ef.out hb3);clear hb3 vu pS;cases T;all_goals
    go_wp2;go_ret;exact ⟨by rw [HM.out]; simp [h64],HB3.out⟩
  | false =>
   go_enter func50,ntmps50;go_wp2_with fail
   refine pS.out.mono ?_;rintro e w3 ⟨rfl,rfl⟩;go_wp2;go_ret;exact ⟨by rw [HM.out]; simp,ef.out⟩
 .have d64:decide (64<(n:Int))=true:=by simp; omega
  go_enter func50,ntmps50;go_wp2;go_ret;exact ⟨by rw [HM.out]; simp [h64],ef.out⟩
theorem XP {s:aM} {x:It} (hs:s.length<=1000000) (h:iE s = .ok x):∀ y∈x.xs,Good y:=by
 obtain ⟨g1,g2,g3⟩:=lN (by omega) h;intro y hy;have h1:=vF g2 (by rw [g1]; omega) hy;rw [g1] at h1;have h2:=PX y (Na g2 hy) (Nat.zero_le _);obtain ⟨i,hi⟩:=List.getElem?_of_mem hy;have h3:=Cr x.xs i y hi;have h4:x.size=1+(x.xs.map It.size).sum:=by cases x; exact It.size_mk _ _ _
 have h5:=mY y;have h6:y.s.size<=y.inner.length:=by
  unfold It.inner;rw [List.length_append,jl];omega
 exact ⟨h2,by omega,by omega,by omega⟩
theorem Cm {s:aM} {c:Int} (h:iE s = .error c):c≠0:=by
 unfold iE at h;split at h
 .rename_i c' hr;cases h;have:=(codes s.length).1 _ _ _ _ aG hr;omega
 .split at h
  .cases h; decide
  .cases h
theorem Wx {xs:List It} {N:Nd} (hG:∀ x∈xs,Good x) (h:dZ xs=some N):N.v.size<=1000000:=by
 unfold dZ at h;by_cases h2:xs.length=2
 .rw [if_pos h2] at h;have h1:=hG _ (iy (xs:=xs) (i:=1) (by omega));unfold iI at h;split at h
  .cases h
  .split at h
   .obtain rfl:=Option.some.inj h;exact h1.2.2.2
   .obtain ⟨k,hk,rfl⟩:=Option.map_eq_some_iff.1 h;exact Nat.zero_le _
 .rw [if_neg h2] at h;split at h
  .unfold dM at h;split at h
   .cases h
   .split at h
    .obtain rfl:=Option.some.inj h;exact Nat.zero_le _
    .cases h
  .cases h
theorem TU (s:aL) (hs:s.size<=1000000) (ih:∀ k:aL,k.size<32->k.size<s.size->Qx k):Qx s:=by
 intro w;have hsl:=jl s;obtain ⟨w2,hw2⟩:=au (w.alloc (.cells (ndC nd0 none 0 0) 69))
 have hO:dI w2 w.heap.size nd0 none 0 0:=by rw [hw2]; exact Rg.Own.new _ _ _
 have hB2:Below w.heap.size w w2:=by rw [hw2]; exact al1 _ _
 have HO:=hid hO;have HB2:=hid hB2;have hW:=DX s (by omega) w2;have hgt:=ES s.data.toList (by omega);cases hr:iE s.data.toList with
 | error c =>
  rw [hr] at hW hgt;have HW:Hid (Calls prog 144 #[.string s] w2 λe w'=>e = .returned (.tuple #[itV it0 none 0 0,.int .i64 c])/\Below w2.heap.size w2 w'):=hid hW;unfold itV at HW;dsimp only [it0,It.l,It.s] at HW;have hne:(c != 0)=true:=by simp; exact Cm hr
  have HC:=hid (Cm hr);have HG:Hid (uq s.data.toList=none):=hid hgt;rw [HG.out];clear hO hB2 hr hgt ih hW;subst hw2;go_enter func152,ntmps152;go_wp2_with (refine aA (aY _ _ _ w.heap.size rfl rfl) ?_)
  with_reducible refine HW.out.mono ?_
  rintro e w3 ⟨rfl,hb3⟩;have aq:=hid ((HO.out.below hb3).below (al1 w3 (.cells #[.bool false,.string ⟨#[]⟩,.slice none 0 0] 102)));have HB3:=hid (bst (bst HB2.out hb3) (al1 w3 (.cells #[.bool false,.string ⟨#[]⟩,.slice none 0 0] 102)));clear hb3 HW;go_wp2_with (first
   | (refine aA (bV qW ?_) ?_; · exact ⟨_,rfl,rfl⟩)
   | (refine bK aq.out rfl nd0 none 0 0 rfl rfl _ _ rfl rfl rfl rfl ?_))
  exact bodyPost_ret (fu rfl _ rfl (dV aq.out) rfl) rfl ⟨nd0,none,0,0,c,rfl,.inr ⟨HC.out,rfl,rfl⟩,BsF.nil _ _,rfl,cO HB3.out aG _⟩
 | ok x =>
  have hG:=XP (by omega) hr;rw [hr] at hW hgt;dsimp only at hgt;have HW:Hid (Calls prog 144 #[.string s] w2 λe w'=>∃ a nn cap,e = .returned (.tuple #[itV x a nn cap,.int .i64 0])/\bM w2.heap.size w' x.xs a nn cap/\Below w2.heap.size w2 w'):=hid hW;unfold itV at HW;have dC:=hid (λw a n cap h=>Uz x.xs a n cap w h hG);have ir:=hid hgt;have re:Hid (∀ N,dZ x.xs=some N->N.v.size<=maxLen/\∀ k∈N.ks,nD k):=hid (λN hN=>by
   have h1:=Wx hG hN;obtain ⟨_,h2⟩:=JF (by omega) hr hN;refine ⟨Nat.le_trans h1 (by unfold maxLen; omega),λk hk=>?_⟩;have hs0:0<s.size:=by
    have hb:=lN (by omega) hr;have:=tF hb.2.1 (by rw [hb.1]; omega);rw [hb.1] at this;have:=List.length_pos_iff.2 this;omega
   rcases h2 k hk with hp | ⟨h3,h4⟩
   .have hp:=of_decide_eq_true hp;exact LM k (by omega) (λh=>ih k h (by omega))
   .exact LM k (by omega) (λh=>ih k h (by omega)))
  obtain ⟨r,hrr⟩:=ay (dZ x.xs)
  obtain ⟨G,ME⟩:=ay (uq s.data.toList)
  rw [hrr] at ir dC re;rw [ME] at ir;rw [ME];clear hO hB2 hr hgt ih hW hG hrr ME;subst hw2;go_enter func152,ntmps152;go_wp2_with (refine aA (aY _ _ _ w.heap.size rfl rfl) ?_)
  with_reducible refine HW.out.mono ?_
  rintro e w3 ⟨a3,n3,c3,rfl,C5,hb3⟩;obtain ⟨w4,hw4⟩:=au (w3.alloc (.cells #[.bool x.l,.string x.s,.slice a3 n3 c3] 102))
  have hb4:Below w3.heap.size w3 w4:=by rw [hw4]; exact al1 _ _
  have hO4:=(HO.out.below hb3).below hb4;have hB4:=bst (bst HB2.out hb3) hb4;have HR4:=hid (dC.out w4 a3 n3 c3 (bM.weak (C5.stays hb4) (Nat.zero_le _)));have b8:=hid hO4;have aw:=hid hB4;clear hb3 hb4 C5 hO4 hB4 HW dC;subst hw4;go_wp2_with fail
  with_reducible refine HR4.out.mono ?_
  rintro e w5 ⟨N,a5,n5,c5,b5,rfl,hr5,hx5,hl5,hb5⟩;have hge5:=hb5.size;have aE:=b8.out.below hb5;have ed:=bst aw.out hb5;obtain ⟨w6,m5⟩:=au (w5.alloc (.cells (ndC N a5 n5 c5) 69))
  have gO:Hid (dI (w5.alloc (.cells (ndC nd0 none 0 0) 69)) w5.heap.size nd0 none 0 0):=hid (Rg.Own.new _ _ _);have oB:Hid (dI ((w5.alloc (.cells (ndC nd0 none 0 0) 69)).setRow w5.heap.size (ndC N a5 n5 c5)) w5.heap.size N a5 n5 c5):=hid (dV gO.out);have cA:Below w5.heap.size w5 ((w5.alloc (.cells (ndC nd0 none 0 0) 69)).setRow w5.heap.size (ndC N a5 n5 c5)):=cO (al1 _ _) aG _;have cf:=hid (aE.below cA);have ap:=hid (bst ed cA);have CE:=hid (hx5.below cA);have rS:=hid hl5;have hw0:=b8.out.1
  clear aE ed hx5 hl5 hb5 cA HR4 b8 aw m5 w6;rcases hr5 with ⟨rfl,rfl⟩ | ⟨rfl,rfl⟩
  .have hck:=qb N a5 n5 c5 rS.out ((w5.alloc (.cells (ndC nd0 none 0 0) 69)).setRow w5.heap.size (ndC N a5 n5 c5)) CE.out.1 (re.out N rfl).1 (re.out N rfl).2;obtain ⟨M,hM⟩:=ay (fq bP N)
   have HG:Hid (G=if M=true then some N else none):=hid (by rw [ir.out,<-hM]);rw [hM] at hck;have HC:=hid hck;clear hM ir re hck;go_wp2_with (first
    | (refine aA (aY _ _ _ w5.heap.size rfl rfl) ?_)
    | (refine bK gO.out rfl N a5 n5 c5 rS.out rfl _ _ rfl rfl rfl rfl ?_)
    | (refine Rg.runW (by rfl) _ _ (bU oB.out rS.out ?_) ?_; · exact ⟨_,rfl,rfl⟩))
   refine HC.out.mono ?_;rintro e w7 ⟨rfl,cL⟩;have hs7:=cL.size;have HN7:=hid (oB.out.below cL);have dl:=hid (cf.out.below cL);have bc:=hid (bst ap.out cL);have we:=hid (CE.out.below cL);clear cL HC cf ap CE;cases M with
   | true =>
    go_wp2_with (first
     | (refine aA (bU HN7.out rS.out ?_) ?_; · exact ⟨_,rfl,rfl⟩)
     | (refine bK dl.out rfl N a5 n5 c5 rS.out rfl _ _ rfl rfl rfl rfl ?_))
    exact bodyPost_ret (fu rfl _ rfl (dV dl.out) rS.out) rfl ⟨N,a5,n5,c5,0,rfl,.inl ⟨rfl,HG.out⟩,(we.out.row (by omega) _).weak (by omega),rS.out,cO bc.out aG _⟩
   | false =>
    go_wp2_with (first
     | (refine aA (bV qW ?_) ?_; · exact ⟨_,rfl,rfl⟩)
     | (refine bK dl.out rfl nd0 none 0 0 rfl rfl _ _ rfl rfl rfl rfl ?_))
    exact bodyPost_ret (fu rfl _ rfl (dV dl.out) rfl) rfl ⟨nd0,none,0,0,6,rfl,.inr ⟨by decide,rfl,HG.out⟩,BsF.nil _ _,rfl,cO bc.out aG _⟩
  .have HG:Hid (G=none):=ir;go_wp2_with (first
    | (refine aA (aY _ _ _ w5.heap.size rfl rfl) ?_)
    | (refine bK gO.out rfl N a5 n5 c5 rS.out rfl _ _ rfl rfl rfl rfl ?_)
    | (refine aA (bV qW ?_) ?_; · exact ⟨_,rfl,rfl⟩)
    | (refine bK cf.out rfl nd0 none 0 0 rfl rfl _ _ rfl rfl rfl rfl ?_))
   exact bodyPost_ret (fu rfl _ rfl (dV cf.out) rfl) rfl ⟨nd0,none,0,0,6,rfl,.inr ⟨by decide,rfl,HG.out⟩,BsF.nil _ _,rfl,cO ap.out aG _⟩
theorem RX (N:Nat) (hN:N<=1000000):∀ s:aL,s.size<=N->Qx s:=by
 induction N using Nat.strongRecOn with
 | ind N ih=>exact λs hs=>TU s (by omega) (λk _ hk=>ih k.size (by omega) (by omega) k aG)
theorem Gs (s:aL) (hs:s.size<=1000000):Qx s:=RX s.size hs s aG
theorem lD (k:aL) (hk:k.size<=9223372036854775807):nD k:=LM k hk (λh=>Gs k (by omega))
end No
end
section
open Go.RowKit
namespace Rf
open Rl Ni No
def uG (k:aL):Nat:=if k.size=0 then 0 else if k.size=32 then 1 else if bP k then 2 else 3
theorem dN (k:aL) (hk:k.size<=maxLen) (w:World) :
  Calls prog 126 #[.string k] w λe w'=>e = .returned (.int .i64 (uG k))/\Below w.heap.size w w':=by
 unfold maxLen at hk;have HR:=hid (lD k (by omega) w);by_cases h0:k.size=0
 .obtain rfl:=dQ h0;have HF:Hid (uG eB=0):=hid rfl;rw [HF.out];clear HR hk h0 HF;go_enter func126,ntmps126;go_wp2;go_ret;exact ⟨rfl,aH⟩
 have hne:=Ni.dJ (s:=k) (by omega);by_cases h32:k.size=32
 .have HF:Hid (uG k=1):=hid (by unfold uG; rw [if_neg h0,if_pos h32]);have hd:(((k.size:Int)==32):Bool)=true:=by simp; omega
  rw [HF.out];clear HR HF h0 h32;go_enter func126,ntmps126;go_wp2;go_ret;exact ⟨rfl,aH⟩
 have HF:Hid (uG k=if bP k then 2 else 3):=hid (by unfold uG; rw [if_neg h0,if_neg h32]);have hd:(((k.size:Int)==32):Bool)=false:=by simp; omega
 rw [HF.out];obtain ⟨r,hr⟩:=ay (bP k)
 rw [hr] at HR;rw [hr];clear HF h0 h32 hr;cases r;all_goals
  go_enter func126,ntmps126;go_wp2_with fail
  refine HR.out.mono ?_;rintro e w1 ⟨rfl,hb1⟩;go_wp2;go_ret;exact ⟨rfl,hb1⟩
open Sh
open Sm
theorem Ve (w:World) (v:Value) (t:TypeId):(w.alloc (.cells #[v] t)).cell? ⟨w.heap.size,0,none⟩=some v:=by
 have:=Bu.cell_one_new' w v t (0,0) 0 v rfl;rwa [Addr.add_mid] at this
def ofP (s:aL):aL:=if s.size<32 then s else ⟨(qm s).toArray⟩
theorem LX (s:aL) (hs:s.size<=900000) (w:World) (hT:Tab w):Calls prog 65 #[.string s] w λe w'=>e = .returned (.agg (kc (qm s)))/\Below w.heap.size w w':=Sm.EN s hs w hT
theorem FB (s:aL) (hs:s.size<=900000) (w:World) (hT:Tab w) :
  Calls prog 64 #[.string s] w λe w'=>e = .returned (.string (ofP s))/\Below w.heap.size w w':=by
 by_cases h:s.size<32
 .have HF:Hid (ofP s=s):=hid (by unfold ofP; rw [if_pos h]);have hd:decide ((s.size:Int)<32)=true:=by simp; omega
  rw [HF.out];clear hT HF;go_enter func64,ntmps64;go_wp2;go_ret;exact ⟨rfl,aH⟩
 .have HF:Hid (ofP s=⟨(qm s).toArray⟩):=hid (by unfold ofP; rw [if_neg h]);have hd:decide ((s.size:Int)<32)=false:=by simp; omega
  have cl:=hid (LX s hs w hT);have MM:=hid (λW=>Sm.lu (qm s) (ny s) W);rw [HF.out];obtain ⟨K,hK⟩:=ay (qm s)
  rw [hK] at cl MM;rw [hK];obtain ⟨T,qu⟩:=ay (⟨K.toArray⟩:aL)
  rw [qu] at MM;rw [qu];clear hT HF hK qu;go_enter func64,ntmps64;go_wp2_with fail
  refine cl.out.mono ?_;rintro e w1 ⟨rfl,hb1⟩;go_wp2_with fail
  refine (MM.out _).mono ?_;rintro e w2 ⟨rfl,hb2⟩;go_wp2;go_ret;exact ⟨rfl,bst hb1 hb2⟩
def fO (s:aL):aM:=if s.size=0 then qm ⟨#[128]⟩ else qm s
theorem iZ (s:aL):(fO s).length=32:=by unfold fO; split <;> exact ny _
theorem Cz (s:aL) (hs:s.size<=900000) (w:World) (hT:Tab w) :
  Calls prog 34 #[.string s] w λe w'=>e = .returned (.agg (kc (fO s)))/\Below w.heap.size w w':=by
 have h0:=hT.pos;have HT:=hid hT;have cm:=hid (iZ s);by_cases h:s.size=0
 .obtain rfl:=dQ h;have cl:=hid (λW (h:Tab W)=>LX ⟨#[128]⟩ (by decide) W h);have hR:fO eB=qm ⟨#[128]⟩:=rfl;rw [<-hR] at cl;obtain ⟨K,hK⟩:=ay (fO eB)
  rw [hK] at cl cm;rw [hK];clear hT hK hR h;go_enter func34,ntmps34;go_wp2_with (refine fC rfl _ _ (jY _ _ rfl _ _ rfl) ?_)
  refine (cl.out _ (HT.out.below (al1 _ _) h0)).mono ?_;rintro e w1 ⟨rfl,hb1⟩;have da:=hid ((Rg.Own.new w (kc zk) 48).below hb1);have HB2:Hid (Below w.heap.size w w1):=hid (bst (al1 _ _) hb1);clear hb1;go_wp2_with (refine wpList_store_rowTo rfl 48 _ _ rfl rfl _ (kc K) rfl rfl 48 (kc zk) da.out.2 (kD K cm.out) (by rw [jN,jN,cm.out]; rfl) (FI _) ?_)
  exact bodyPost_ret (results_cell_row rfl _ _ w.heap.size 48 (kc K) (0,0) _ rfl (setRow_heap _ _ _ _ _ _ da.out.2) underlying48 rfl (kD K cm.out)) rfl ⟨rfl,Sm.eO HB2.out aG _⟩
 .have hne:=Ni.dJ (s:=s) (by omega);have cl:=hid (λW (h:Tab W)=>LX s hs W h);have hR:fO s=qm s:=by unfold fO; rw [if_neg h]
  rw [<-hR] at cl;obtain ⟨K,hK⟩:=ay (fO s)
  rw [hK] at cl cm;rw [hK];clear hT hK hR h;go_enter func34,ntmps34;go_wp2_with (refine fC rfl _ _ (jY _ _ rfl _ _ rfl) ?_)
  refine (cl.out _ (HT.out.below (al1 _ _) h0)).mono ?_;rintro e w1 ⟨rfl,hb1⟩;have da:=hid ((Rg.Own.new w (kc zk) 48).below hb1);have HB2:Hid (Below w.heap.size w w1):=hid (bst (al1 _ _) hb1);clear hb1;go_wp2_with (refine wpList_store_rowTo rfl 48 _ _ rfl rfl _ (kc K) rfl rfl 48 (kc zk) da.out.2 (kD K cm.out) (by rw [jN,jN,cm.out]; rfl) (FI _) ?_)
  exact bodyPost_ret (results_cell_row rfl _ _ w.heap.size 48 (kc K) (0,0) _ rfl (setRow_heap _ _ _ _ _ _ da.out.2) underlying48 rfl (kD K cm.out)) rfl ⟨rfl,Sm.eO HB2.out aG _⟩
end Rf
end
section
open Go.RowKit
namespace No
open Rl Ni
def dP (k:aL):It:=if dK k then .mk false k [] else match iE k.data.toList with
 | .ok x=>x
 | .error _=>it0
abbrev pY (n:Nd):It:=.mk false ⟨(iG n.p (decide (n.kd=1))).toArray⟩ []
def bX (n:Nd):List It:=if n.kd=3 then n.ks.map dP++[it0] else if n.kd=1 then [pY n,.mk false n.v []] else [pY n,dP (n.ks.getD 0 eB)]
def gM (n:Nd):It:=.mk true ⟨#[]⟩ (bX n)
def jC (n:Nd):aM:=(gM n).bytes
theorem GV (x:It):∀ {d e:Nat},Fits d x->e+x.bytes.length<=65->Fits e x:=by
 induction x using It.ind with
 | h l s xs ih =>
  intro d e h he;have hb:=tF h (by omega);have hb1:=List.length_pos_iff.2 hb;have hless:∀ y∈xs,y.bytes.length<(It.mk l s xs).bytes.length:=λy hy=>vF h (by omega) hy;cases h with
  | mk ha hs hx hy=>exact .mk (by omega) hs hx (λy hm=>ih y hm (hy y hm) (by have:=hless y hm; omega))
theorem Uq (xs:List It) (h:∀ y∈xs,y.size<=y.bytes.length):(xs.map It.size).sum<=((xs.map It.bytes).flatten).length:=by
 induction xs with
 | nil=>exact aG
 | cons y ys ih =>
  rw [List.map_cons,List.sum_cons,List.map_cons,List.flatten_cons,List.length_append];have h1:=h y (List.mem_cons_self ..);have h2:=ih (λz hz=>h z (List.mem_cons_of_mem _ hz));omega
theorem uO (x:It):∀ {d:Nat},Fits d x->x.bytes.length<=4294967296->x.size<=x.bytes.length:=by
 induction x using It.ind with
 | h l s xs ih =>
  intro d h hb;have hp:=List.length_pos_iff.2 (tF h hb);have hless:∀ y∈xs,y.bytes.length<(It.mk l s xs).bytes.length:=λy hy=>vF h hb hy;have hle:=Uq xs (λy hy=>ih y hy (Na h hy) (by have:=hless y hy; omega));rw [It.size_mk];cases l with
  | true =>
   have h1:=xA h hb rfl;have h2:=iU (((It.mk true s xs).xs.map It.bytes).flatten).length true;simp only [It.xs] at h1 h2;omega
  | false =>
   cases h with
   | mk ha hs hx hy =>
    rw [hx rfl] at hp ⊢;rw [List.map_nil,List.sum_nil];exact hp
theorem GD {x:It} (h:Fits 0 x) (hb:x.bytes.length<=4294967296) (hk:x.size<=4096):iE x.bytes = .ok x:=by
 have:=forth x 0 0 [] h hb (by omega);rw [List.append_nil] at this;unfold iE;rw [this];dsimp only;rw [if_neg (by omega)]
theorem ql (d:Nat) (hd:d<=64) (s:aL):Fits d (.mk false s []):=.mk hd (λe=>by cases e) (λ_=>rfl) (λy hy=>by cases hy)
theorem sG (s:aL) (h:s.size<=4294967296):(It.mk false s []).bytes.length<=9+s.size:=by
 rw [gX s h,List.length_append,jl];have:=mV s.size false (by omega);split
 .simp
 .omega
theorem rZ (hp:dK k=false) (h:bP k=true):∃ x n,iE k.data.toList = .ok x/\dP k=x/\x.l=true/\dZ x.xs=some n/\k.size<32/\x.bytes=k.data.toList/\Fits 0 x/\fq bP n=true:=by
 unfold bP at h;rw [hp,Bool.false_or,Bool.and_eq_true] at h;have h32:k.size<32:=of_decide_eq_true h.1;obtain ⟨n,hn⟩:=Option.isSome_iff_exists.1 h.2;have hsl:=jl k;obtain ⟨x,hw,hr,hm⟩:=wU (by omega) hn;obtain ⟨g1,g2,g3⟩:=lN (by omega) hw;refine ⟨x,n,hw,?_,?_,hr,h32,g1,g2,hm⟩
 .unfold dP;rw [hp,hw];rfl
 .refine Aa g2 (λe=>?_);rw [e] at hr;cases hr
theorem om (hp:dK k=true):dP k = .mk false k []:=by
 unfold dP;rw [hp];rfl
theorem lM (hp:dK k=true):k.size=0\/k.size=32:=of_decide_eq_true hp
theorem mG {k:aL} (h:bP k=true):Fits 1 (dP k)/\(dP k).bytes.length<=41:=by
 cases hp:dK k with
 | true =>
  rw [om hp];have:=lM hp;have h2:=sG k (by omega);exact ⟨ql 1 (by omega) k,by omega⟩
 | false =>
  obtain ⟨x,n,hw,e,hl,hr,h32,hb,hf,_⟩:=rZ hp h;have hsl:=jl k;rw [e];exact ⟨GV x hf (by rw [hb]; omega),by rw [hb]; omega⟩
theorem Ep {k:aL} (h:bP k=true):lH (dP k)=some k:=by
 cases hp:dK k with
 | true =>
  rw [om hp];show (if dK k then some k else none)=some k;rw [hp];rfl
 | false =>
  obtain ⟨x,n,hw,e,hl,hr,h32,hb,hf,_⟩:=rZ hp h;have hsl:=jl k;rw [e];unfold lH;rw [hl,if_pos rfl,if_pos (by rw [hb]; omega),hb]
theorem zP (xs:List It) (m:Nat) (h:∀ y∈xs,y.bytes.length<=m):((xs.map It.bytes).flatten).length<=xs.length*m:=by
 induction xs with
 | nil=>simp
 | cons y ys ih =>
  rw [List.map_cons,List.flatten_cons,List.length_append,List.length_cons,Nat.succ_mul];have h1:=h y (List.mem_cons_self ..);have h2:=ih (λz hz=>h z (List.mem_cons_of_mem _ hz));omega
theorem jM {n:Nd} (h:fq bP n=true):n.p.length<=64/\dh n.p=true/\lK bP n=true:=by
 unfold fq at h;rw [Bool.and_eq_true,Bool.and_eq_true] at h;exact ⟨of_decide_eq_true h.1.1,h.1.2,h.2⟩
theorem SS {ks:List aL} (h:(bI ks).all bP=true):∀ k∈ks,bP k=true:=by
 intro k hk;by_cases hz:k.size=0
 .unfold bP dK;simp [hz]
 .exact List.all_eq_true.1 h k (List.mem_filter.2 ⟨hk,by simp; intro e; rw [e] at hz; exact hz rfl⟩)
theorem jK {n:Nd} (_hl:n.ks.length=16) (h:fq bP n=true) :
  n.kd=1/\n.v.size≠0/\n.v.size<=65552/\(bI n.ks).length=0\/n.kd=2/\0<n.p.length/\n.v.size=0/\(bI n.ks).length=1/\(n.ks.getD 0 eB).size≠0/\bP (n.ks.getD 0 eB)=true\/n.kd=3/\n.p=[]/\n.v.size=0/\2<=(bI n.ks).length/\∀ k∈n.ks,bP k=true:=by
 obtain ⟨_,_,h⟩:=jM h;unfold lK at h;by_cases h1:n.kd=1
 .rw [if_pos h1] at h;simp only [Bool.and_eq_true,decide_eq_true_eq] at h;exact .inl ⟨h1,h.1.1,h.1.2,h.2⟩
 .rw [if_neg h1] at h;by_cases h2:n.kd=2
  .rw [if_pos h2] at h;simp only [Bool.and_eq_true,decide_eq_true_eq] at h;exact .inr (.inl ⟨h2,h.1.1.1.1,h.1.1.1.2,h.1.1.2,h.1.2,h.2⟩)
  .rw [if_neg h2] at h;by_cases h3:n.kd=3
   .rw [if_pos h3] at h;simp only [Bool.and_eq_true,decide_eq_true_eq] at h;exact .inr (.inr ⟨h3,List.eq_nil_of_length_eq_zero h.1.1.1,h.1.1.2,h.1.2,SS h.2⟩)
   .rw [if_neg h3] at h; cases h
theorem uU {n:Nd} (hl:n.ks.length=16) (h:fq bP n=true):∀ y∈bX n,Fits 1 y/\y.bytes.length<=65561:=by
 obtain ⟨g1,g2,g3⟩:=jM h;have hpk:Fits 1 (pY n)/\(pY n).bytes.length<=65561:=by
  have:=oJ n.p (decide (n.kd=1));have h2:=sG ⟨(iG n.p (decide (n.kd=1))).toArray⟩ (by omega);exact ⟨ql 1 (by omega) _,Nat.le_trans h2 (by omega)⟩
 rcases jK hl h with ⟨k1,v1,v2,_⟩ | ⟨k1,_,_,_,_,hr⟩ | ⟨k1,_,_,_,hr⟩
 .unfold bX;rw [if_neg (by omega),if_pos k1];intro y hy;rcases List.mem_cons.1 hy with rfl | hy
  .exact hpk
  .rcases List.mem_cons.1 hy with rfl | hy
   .have h2:=sG n.v (by omega);exact ⟨ql 1 (by omega) _,by omega⟩
   .cases hy
 .unfold bX;rw [if_neg (by omega),if_neg (by omega)];intro y hy;rcases List.mem_cons.1 hy with rfl | hy
  .exact hpk
  .rcases List.mem_cons.1 hy with rfl | hy
   .have:=mG hr;exact ⟨this.1,by omega⟩
   .cases hy
 .unfold bX;rw [if_pos k1];intro y hy;rcases List.mem_append.1 hy with hy | hy
  .obtain ⟨k,hk,rfl⟩:=List.mem_map.1 hy;have:=mG (hr k hk);exact ⟨this.1,by omega⟩
  .rcases List.mem_cons.1 hy with rfl | hy
   .have h2:=sG eB (by decide);refine ⟨ql 1 (by omega) _,?_⟩;have:eB.size=0:=rfl;show (It.mk false eB []).bytes.length<=_;omega
   .cases hy
theorem wW {n:Nd} (hl:n.ks.length=16):(bX n).length<=17:=by
 unfold bX;split
 .simp [hl]
 .split <;> simp
theorem DU {n:Nd} (hl:n.ks.length=16) (h:fq bP n=true):Fits 0 (gM n)/\(gM n).bytes.length<=1200000/\(gM n).size<=4096/\(jC n).length=(gM n).bytes.length:=by
 have hg:=uU hl h;have hf:Fits 0 (gM n):=.mk (by omega) (λ_=>rfl) (λe=>by cases e) (λy hy=>(hg y hy).1);have cV:=wW hl;have hlen:=zP (bX n) 65561 (λy hy=>(hg y hy).2);have hm:(bX n).length*65561<=17*65561:=Nat.mul_le_mul_right _ cV;have hb:(gM n).bytes.length<=1200000:=by
  unfold gM;rw [jH _ (by omega),List.length_append];have:=mV ((bX n).map It.bytes).flatten.length true (by omega);omega
 refine ⟨hf,hb,?_,rfl⟩;unfold gM;rw [It.size_mk];have:∀ y∈bX n,y.size<=200:=by
  obtain ⟨g1,g2,g3⟩:=jM h;rcases jK hl h with ⟨k1,v1,v2,_⟩ | ⟨k1,_,_,_,_,hr⟩ | ⟨k1,_,_,_,hr⟩
  .unfold bX;rw [if_neg (by omega),if_pos k1];intro y hy;rcases List.mem_cons.1 hy with rfl | hy
   .rw [It.size_mk]; simp
   .rcases List.mem_cons.1 hy with rfl | hy
    .rw [It.size_mk]; simp
    .cases hy
  .unfold bX;rw [if_neg (by omega),if_neg (by omega)];intro y hy;rcases List.mem_cons.1 hy with rfl | hy
   .rw [It.size_mk]; simp
   .rcases List.mem_cons.1 hy with rfl | hy
    .have:=mG hr;have:=uO _ this.1 (by omega);omega
    .cases hy
  .unfold bX;rw [if_pos k1];intro y hy;rcases List.mem_append.1 hy with hy | hy
   .obtain ⟨k,hk,rfl⟩:=List.mem_map.1 hy;have:=mG (hr k hk);have:=uO _ this.1 (by omega);omega
   .rcases List.mem_cons.1 hy with rfl | hy
    .unfold it0; rw [It.size_mk]; simp
    .cases hy
 have hs:((bX n).map It.size).sum<=(bX n).length*200:=by
  generalize bX n=l at this
  induction l with
  | nil=>simp
  | cons y ys ih =>
   rw [List.map_cons,List.sum_cons,List.length_cons,Nat.succ_mul];have h1:=this y (List.mem_cons_self ..);have h2:=ih (λz hz=>this z (List.mem_cons_of_mem _ hz));omega
 have:(bX n).length*200<=17*200:=Nat.mul_le_mul_right _ cV;omega
theorem DW {ks:List aL} (h:(bI ks).length=0):ks=List.replicate ks.length eB:=by
 induction ks with
 | nil=>rfl
 | cons k ks ih =>
  unfold bI at h;rw [List.filter_cons] at h;split at h
  .cases h
  .rename_i hz;simp at hz;rw [List.length_cons,List.replicate_succ,<-ih h];congr 1
theorem Vz {ks:List aL} (hl:ks.length=16) (h:(bI ks).length=1) (h0:(ks.getD 0 eB).size≠0):ks=iO (ks.getD 0 eB):=by
 cases ks with
 | nil=>cases hl
 | cons k ks =>
  have h0':k.size≠0:=h0;unfold bI at h;rw [List.filter_cons,if_pos (by simp; intro e; rw [e] at h0'; exact h0' rfl),List.length_cons] at h;have:=DW (ks:=ks) (by unfold bI; omega);unfold iO;rw [List.length_cons] at hl;rw [show ks.length=15 by omega] at this;rw [this];rfl
theorem Uo {ks:List aL} (h:∀ k∈ks,bP k=true):oC (ks.map dP)=some ks:=by
 induction ks with
 | nil=>rfl
 | cons k ks ih =>
  rw [List.map_cons];unfold oC;rw [Ep (h k (List.mem_cons_self ..)),ih (λz hz=>h z (List.mem_cons_of_mem _ hz))]
theorem LV {n:Nd} (hl:n.ks.length=16) (h:fq bP n=true):dZ (bX n)=some n:=by
 obtain ⟨g1,g2,g3⟩:=jM h;have hsz:=oJ n.p (decide (n.kd=1));have hgood:=Om n.p (decide (n.kd=1)) g2 g1;have mN:=Ob n.p (decide (n.kd=1)) g2;have mS:=OG n.p (decide (n.kd=1)) g2;obtain ⟨S,hS⟩:=ay (⟨(iG n.p (decide (n.kd=1))).toArray⟩:aL)
 have hpi:pY n = .mk false S []:=by unfold pY; rw [hS]
 rw [hS] at hsz hgood mN mS;rcases jK hl h with ⟨k1,v1,v2,hk⟩ | ⟨k1,hp0,hv,hk,hk0,hr⟩ | ⟨k1,hp,hv,hk,hr⟩
 .have hI:bX n=[.mk false S [],.mk false n.v []]:=by unfold bX; rw [if_neg (by omega),if_pos k1,hpi]
  rw [hI];unfold dZ;rw [if_pos (by rfl)];show iI (.mk false S []) (.mk false n.v [])=some n;unfold iI;rw [if_neg (by
   rintro (e | e)
   .have e':S.size=0:=e;omega
   .exact hgood e)]
  show (if qz S=true then some (⟨1,nK S,n.v,zks⟩:Nd) else _)=some n;rw [mN,mS,k1,if_pos (by decide)];have:=DW hk;rw [hl] at this;cases n;simp only at k1 this ⊢;rw [k1,this];rfl
 .have hI:bX n=[.mk false S [],dP (n.ks.getD 0 eB)]:=by unfold bX; rw [if_neg (by omega),if_neg (by omega),hpi]
  rw [hI];unfold dZ;rw [if_pos (by rfl)];show iI (.mk false S []) (dP (n.ks.getD 0 eB))=some n;unfold iI;rw [if_neg (by
   rintro (e | e)
   .have e':S.size=0:=e;omega
   .exact hgood e)]
  show (if qz S=true then _ else (lH (dP (n.ks.getD 0 eB))).map λk=>(⟨2,nK S,eB,iO k⟩:Nd))=some n;rw [mN,mS,k1,if_neg (by decide),Ep hr,Option.map_some,<-Vz hl hk hk0];have mL:=dQ hv;cases n;simp only at k1 mL ⊢;rw [k1,mL]
 .have hI:bX n=n.ks.map dP++[it0]:=by unfold bX; rw [if_pos k1]
  rw [hI];unfold dZ;have hlen:(n.ks.map dP++[it0]).length=17:=by simp [hl]
  rw [if_neg (by omega),if_pos hlen];unfold dM;rw [List.take_append_of_le_length (by simp [hl]),List.take_of_length_le (by simp [hl]),Uo hr];have e16:(n.ks.map dP++[it0]).getD 16 it0=it0:=by
   rw [List.getD_eq_getElem?_getD,List.getElem?_append_right (by simp [hl])];simp [hl]
  rw [e16];dsimp only;rw [if_pos ⟨rfl,rfl⟩];have mL:=dQ hv;cases n;simp only at k1 mL hp ⊢;rw [k1,mL,hp]
theorem get_put {n:Nd} (hl:n.ks.length=16) (h:fq bP n=true):uq (jC n)=some n:=by
 obtain ⟨f1,f2,f3,_⟩:=DU hl h;unfold jC;rw [ES _ (by omega),GD f1 (by omega) f3];dsimp only;rw [show (gM n).xs=bX n from rfl,LV hl h];dsimp only;rw [h];rfl
end No
end
section
namespace Tr
open Rf Rl Ni No
def gP (n:Nd):aL:=⟨(jC n).toArray⟩
def eD (f:Fin 16->aL):List aL:=(List.finRange 16).map f
def ref:T->aL
 | .nil=>eB
 | .leaf p v=>ofP (gP ⟨1,p,v,zks⟩)
 | .ext q t=>ofP (gP ⟨2,q,eB,iO (ref t)⟩)
 | .br ks=>ofP (gP ⟨3,[],eB,eD λi=>ref (ks i)⟩)
 | .stub r=>r
def bC:T->Nd
 | .nil=>nd0
 | .leaf p v=>⟨1,p,v,zks⟩
 | .ext q t=>⟨2,q,eB,iO (ref t)⟩
 | .br ks=>⟨3,[],eB,eD λi=>ref (ks i)⟩
 | .stub _=>nd0
def bF:T->aL
 | .nil=>eB
 | .stub _=>eB
 | t=>gP (bC t)
def eP:T->Prop
 | .stub _=>True
 | _=>False
theorem iX {t:T} (h:¬ eP t):ref t=ofP (bF t):=by
 cases t with
 | stub r=>exact absurd trivial h
 | nil=>rfl
 | leaf p v=>rfl
 | ext q t=>rfl
 | br ks=>rfl
theorem tH {t:T} (h:Full t):¬ eP t:=by
 cases t with
 | stub r=>exact h.elim
 | _=>exact id
theorem mM (f:Fin 16->aL):(eD f).length=16:=by simp [eD]
theorem cu (t:T):(bC t).ks.length=16:=by
 cases t with
 | nil=>rfl
 | leaf p v=>rfl
 | ext q t=>exact fM _
 | br ks=>exact mM _
 | stub r=>rfl
theorem vX {p:Pa} (h:Nib p):dh p=true:=by
 unfold dh;rw [List.all_eq_true];intro c hc;have:=h c hc;exact aJ (by omega)
def Fine:T->Prop
 | .nil=>True
 | .leaf _ v=>v.size≠0/\v.size<=65552
 | .ext _ t=>Fine t
 | .br ks=>∀ i,Fine (ks i)
 | .stub r=>bP r=true/\r.size≠0
theorem xO (n:Nd):(gP n).size=(jC n).length:=by
 show (jC n).toArray.size=_;simp
theorem OO (n:Nd):(gP n).data.toList=jC n:=by
 show (jC n).toArray.toList=_;simp
theorem put_pos {n:Nd} (hl:n.ks.length=16) (h:fq bP n=true):0<(jC n).length:=by
 have:=No.get_put hl h;rcases Nat.eq_zero_or_pos (jC n).length with h0 | h0
 .have:=WB (s:=jC n) (by omega) this;omega
 .exact h0
theorem EU {n:Nd} (hl:n.ks.length=16) (h:fq bP n=true):bP (ofP (gP n))=true/\(ofP (gP n)).size≠0:=by
 have hp:=put_pos hl h;have hs:=xO n;unfold ofP;by_cases h32:(gP n).size<32
 .rw [if_pos h32];refine ⟨?_,by omega⟩;unfold bP;rw [OO,No.get_put hl h,aJ h32];simp
 .rw [if_neg h32];have hz:(⟨(qm (gP n)).toArray⟩:aL).size=32:=by
   have:(⟨(qm (gP n)).toArray⟩:aL).size=(qm (gP n)).length:=by show (qm (gP n)).toArray.size=_; simp
   rw [this,ny]
  refine ⟨?_,by omega⟩;unfold bP;rw [show dK _=true from aJ (.inr hz)];rfl
theorem xZ:(bI zks).length=0:=by decide +kernel
theorem DN (h:k.size≠0):bI (iO k)=[k]:=by
 have hz:bI (List.replicate 15 eB)=[]:=by decide +kernel
 have:bI (k::List.replicate 15 eB)=k::bI (List.replicate 15 eB):=by
  unfold bI;rw [List.filter_cons_of_pos (by simpa using h)]
 show bI (k::List.replicate 15 eB)=_;rw [this,hz]
theorem Qe {f:Fin 16->aL} {i j:Fin 16} (hij:i≠j) (hi:(f i).size≠0) (hj:(f j).size≠0):2<=(bI (eD f)).length:=by
 unfold bI eD;rw [List.filter_map,List.length_map];have hnd:((List.finRange 16).filter ((λk:aL=>decide (k.size≠0)) ∘ f)).Nodup:=(List.nodup_finRange 16).filter _;have mi:i∈(List.finRange 16).filter ((λk:aL=>decide (k.size≠0)) ∘ f):=List.mem_filter.2 ⟨List.mem_finRange i,aJ hi⟩;have mj:j∈(List.finRange 16).filter ((λk:aL=>decide (k.size≠0)) ∘ f):=List.mem_filter.2 ⟨List.mem_finRange j,aJ hj⟩
 match hk:(List.finRange 16).filter ((λk:aL=>decide (k.size≠0)) ∘ f) with
 | []=>rw [hk] at mi; cases mi
 | [a] =>
  rw [hk] at mi mj;exact absurd ((List.mem_singleton.1 mi).trans (List.mem_singleton.1 mj).symm) hij
 | a::b::l=>simp
theorem PV {f:Fin 16->aL} {R:aL->Bool} (h:∀ i,(f i).size≠0->R (f i)=true):(bI (eD f)).all R=true:=by
 rw [List.all_eq_true];intro k hk;obtain ⟨h1,h2⟩:=List.mem_filter.1 hk;obtain ⟨i,_,rfl⟩:=List.mem_map.1 h1;exact h i (of_decide_eq_true h2)
theorem gH:∀ (t:T) (L:Nat),Good t L->L<=64->Fine t->t ≠ .nil->(¬ eP t->fq bP (bC t)=true)/\bP (ref t)=true/\(ref t).size≠0
 | .nil,_,_,_,_,h=>absurd rfl h
 | .leaf p v,L,g,hL,hf,_=>by
  have hm:fq bP ⟨1,p,v,zks⟩=true:=by
   unfold fq lK;rw [aJ (show (⟨1,p,v,zks⟩:Nd).p.length<=64 from by show p.length<=64; rw [g.1]; exact hL),vX (show Nib (⟨1,p,v,zks⟩:Nd).p from g.2),if_pos rfl,
    aJ (show (⟨1,p,v,zks⟩:Nd).v.size≠0 from hf.1),aJ (show (⟨1,p,v,zks⟩:Nd).v.size<=65552 from hf.2),aJ (show (bI (⟨1,p,v,zks⟩:Nd).ks).length=0 from xZ)]
   rfl
  exact ⟨λ_=>hm,EU rfl hm⟩
 | .ext q t,L,g,hL,hf,_=>by
  obtain ⟨g1,g2,g3,g4,g5⟩:=g;obtain ⟨_,h2,h3⟩:=gH t _ g5 (by omega) hf (jZ g4);have hm:fq bP ⟨2,q,eB,iO (ref t)⟩=true:=by
   unfold fq lK;rw [aJ (show (⟨2,q,eB,iO (ref t)⟩:Nd).p.length<=64 from by show q.length<=64; omega),vX (show Nib (⟨2,q,eB,iO (ref t)⟩:Nd).p from g2),if_neg (show ¬ (⟨2,q,eB,iO (ref t)⟩:Nd).kd=1 by show ¬ ((2:Int)=1); decide),if_pos rfl,
    aJ (show 0<(⟨2,q,eB,iO (ref t)⟩:Nd).p.length from List.length_pos_iff.2 g1),aJ (show (⟨2,q,eB,iO (ref t)⟩:Nd).v.size=0 from rfl),
    aJ (show (bI (⟨2,q,eB,iO (ref t)⟩:Nd).ks).length=1 from by show (bI (iO (ref t))).length=1; rw [DN h3]; rfl),
    aJ (show ((⟨2,q,eB,iO (ref t)⟩:Nd).ks.getD 0 eB).size≠0 from h3),show bP ((⟨2,q,eB,iO (ref t)⟩:Nd).ks.getD 0 eB)=true from h2]
   rfl
  exact ⟨λ_=>hm,EU (fM _) hm⟩
 | .br ks,L,g,hL,hf,_=>by
  obtain ⟨g1,⟨i,j,hij,hi,hj⟩,g3⟩:=g;have hk:∀ i,(ref (ks i)).size≠0->bP (ref (ks i))=true:=λi h=>by
   refine (gH (ks i) _ (g3 i) (by omega) (hf i) (λe=>h ?_)).2.1;rw [e]; rfl
  have hm:fq bP ⟨3,[],eB,eD λi=>ref (ks i)⟩=true:=by
   unfold fq lK;rw [aJ (show (⟨3,[],eB,eD λi=>ref (ks i)⟩:Nd).p.length<=64 from Nat.zero_le _),vX (show Nib (⟨3,[],eB,eD λi=>ref (ks i)⟩:Nd).p from .nil),if_neg (show ¬ (⟨3,[],eB,eD λi=>ref (ks i)⟩:Nd).kd=1 by show ¬ ((3:Int)=1); decide),if_neg (show ¬ (⟨3,[],eB,eD λi=>ref (ks i)⟩:Nd).kd=2 by show ¬ ((3:Int)=2); decide),if_pos rfl,
    aJ (show (⟨3,[],eB,eD λi=>ref (ks i)⟩:Nd).p.length=0 from rfl),aJ (show (⟨3,[],eB,eD λi=>ref (ks i)⟩:Nd).v.size=0 from rfl),
    aJ (show 2<=(bI (⟨3,[],eB,eD λi=>ref (ks i)⟩:Nd).ks).length from Qe (f:=λi=>ref (ks i)) hij (gH (ks i) _ (g3 i) (by omega) (hf i) hi).2.2 (gH (ks j) _ (g3 j) (by omega) (hf j) hj).2.2),
    show (bI (⟨3,[],eB,eD λi=>ref (ks i)⟩:Nd).ks).all bP=true from PV hk]
   rfl
  exact ⟨λ_=>hm,EU (mM _) hm⟩
 | .stub r,_,_,_,hf,_=>⟨λh=>absurd trivial h,hf⟩
theorem xM {s:Pa} {t:T} (h:Fine t):Fine (wrap s t):=by
 unfold wrap;split
 .exact h
 .exact h
theorem Gw {i j:Fin 16} {a b:T} (ha:Fine a) (hb:Fine b):Fine (two i j a b):=λk=>by
 dsimp only;split
 .exact ha
 .split
  .exact hb
  .trivial
theorem Bc:∀ (t:T),Fine t->∀ (p:Pa) (v:aL),v.size≠0->v.size<=65552->Fine (put t p v)
 | .nil,_,_,v,h1,h2=>⟨h1,h2⟩
 | .leaf q u,f,p,v,h1,h2=>by
  unfold put;split
  .exact ⟨h1,h2⟩
  .unfold fork; exact xM (Gw f ⟨h1,h2⟩)
 | .ext q t,f,p,v,h1,h2=>by
  unfold put;split
  .exact Bc t f _ v h1 h2
  .unfold fork; exact xM (Gw (xM f) ⟨h1,h2⟩)
 | .br ks,f,p,v,h1,h2=>by
  cases p with
  | nil=>exact f
  | cons c r =>
   intro k;dsimp only;split
   .exact Bc (ks k) (f k) r v h1 h2
   .exact f k
 | .stub _,f,_,_,_,_=>f
theorem rA:∀ (L:Nat) (l:List In),(∀ x∈l,x.2.size≠0/\x.2.size<=65552)->Fine (build L l):=by
 intro L
 induction L using Nat.strongRecOn with
 | ind L ih =>
  intro l h;have hr:∀ (m:List In) (n:Nat),(∀ x∈m,x.2.size≠0/\x.2.size<=65552)->∀ x∈bN m n,x.2.size≠0/\x.2.size<=65552:=λm n hm x hx=>by
   obtain ⟨y,hy,rfl⟩:=List.mem_map.1 hx;exact hm y hy
  match l with
  | []=>rw [build]; trivial
  | [x]=>rw [build]; exact h x (by simp)
  | x::y::r =>
   rw [build];split
   .exact ih _ (by omega) _ (hr _ _ h)
   .split
    .exact λc=>ih _ (by omega) _ (hr _ _ (λz hz=>h z (mD.1 hz).1))
    .trivial
end Tr
end
section
namespace Tr
open Rf Rl Ni No
abbrev Key:=aM
abbrev Pair:=Key × aL
def path (k:Key):Pa:=ig ⟨k.toArray⟩
theorem iQ (k:Key):(path k).length=2*k.length:=by
 unfold path;rw [gL];rfl
theorem FP {p:Pa} (h:dh p=true):Nib p:=λc hc=>by
 unfold dh at h;have:=of_decide_eq_true (List.all_eq_true.1 h c hc);omega
theorem mP (k:Key):Nib (path k):=FP (sF _)
theorem BJ {k k':Key} (hl:k.length=k'.length) (h:path k=path k'):k=k':=by
 have h1:=BR ⟨k.toArray⟩;have h2:=BR ⟨k'.toArray⟩;have e1:(⟨k.toArray⟩:aL).size=k.length:=by show k.toArray.size=_; simp
 have e2:(⟨k'.toArray⟩:aL).size=k'.length:=by show k'.toArray.size=_; simp
 rw [e1] at h1;rw [e2] at h2;unfold path at h;rw [h,hl,h2] at h1;simpa using h1.symm
theorem RG {p:Pa} (hp:p.length=64) (hn:Nib p):∃ k:Key,k.length=32/\path k=p:=by
 refine ⟨gB p 32,mK _ _,?_⟩;exact Av p (vX hn) 32 (by omega)
structure Has (t:T) (m:Key->Option aL):Prop where
 good:Good t 64
 full:Full t
 fine:Fine t
 get:∀ k:Key,k.length=32->get t (path k)=some (m k)
theorem Has.nil:Has .nil (λ_=>none):=⟨trivial,trivial,trivial,λ_ _=>rfl⟩
theorem Has.put {t:T} {m:Key->Option aL} (h:Has t m) {k:Key} (hk:k.length=32) {v:aL} (h1:v.size≠0) (h2:v.size<=65552):Has (put t (path k) v) (λx=>if x=k then some v else m x):=by
 have hl:(path k).length=64:=by rw [iQ]; omega
 refine ⟨Ce t 64 h.good _ v hl (mP k),AY t h.full _ v,Bc t h.fine _ v h1 h2,λx hx=>?_⟩;rw [Tr.get_put t 64 h.good _ v hl (mP k) (by rw [h.get k hk]; intro e; cases e) (path x) (by rw [iQ]; omega) (mP x),h.get x hx];by_cases e:x=k
 .subst e; rw [if_pos rfl,if_pos rfl]
 .rw [if_neg e,if_neg (λh=>e (BJ (by omega) h))]
theorem Has.congr {t:T} {m m':Key->Option aL} (h:Has t m) (e:∀ k:Key,k.length=32->m k=m' k):Has t m':=⟨h.good,h.full,h.fine,λk hk=>by rw [h.get k hk,e k hk]⟩
theorem Has.one {t t':T} {m:Key->Option aL} (h:Has t m) (g:Has t' m):t=t' :=
 uniq t t' 64 h.good h.full g.good g.full (λp h1 h2=>by
  obtain ⟨k,hk,rfl⟩:=RG h1 h2;rw [h.get k hk,g.get k hk])
def lG:List Pair->List In
 | []=>[]
 | x::r=>if r.any (λy=>decide (y.1=x.1)) then lG r else (path x.1,x.2)::lG r
def iw:List Pair->Key->Option aL
 | [],_=>none
 | x::r,k=>match iw r k with
  | some v=>some v
  | none=>if x.1=k then some x.2 else none
theorem tu:∀ {l:List Pair} {k:Key},iw l k=none↔∀ x∈l,x.1≠k
 | [],_=>by simp [iw]
 | x::r,k=>by
  unfold iw;cases h:iw r k with
  | some v =>
   have h2:¬ ∀ x∈r,x.1≠k:=λg=>by rw [tu.2 g] at h; cases h
   constructor
   .intro e; cases e
   .intro g; exact absurd (λy hy=>g y (List.mem_cons_of_mem _ hy)) h2
  | none =>
   have h2:=tu.1 h;constructor
   .intro g y hy;rcases List.mem_cons.1 hy with rfl | hy
    .intro e; simp [e] at g
    .exact h2 y hy
   .intro g;have:=g x List.mem_cons_self;simp [this]
theorem zU:∀ {l:List Pair} {y:In},y∈lG l->∃ x∈l,y=(path x.1,x.2)
 | [],_,h=>by cases h
 | x::r,y,h=>by
  unfold lG at h;split at h
  .obtain ⟨z,hz,e⟩:=zU h;exact ⟨z,List.mem_cons_of_mem _ hz,e⟩
  .rcases List.mem_cons.1 h with rfl | h
   .exact ⟨x,List.mem_cons_self,rfl⟩
   .obtain ⟨z,hz,e⟩:=zU h;exact ⟨z,List.mem_cons_of_mem _ hz,e⟩
theorem yu:∀ {l:List Pair},(∀ x∈l,x.1.length=32)->Ok 64 (lG l)
 | [],_=>⟨λ_ h=>(by cases h),List.Pairwise.nil⟩
 | x::r,h=>by
  have ih:=yu (l:=r) (λy hy=>h y (List.mem_cons_of_mem _ hy));have hx:=h x List.mem_cons_self;unfold lG;split
  .exact ih
  .rename_i hn;refine ⟨λy hy=>?_,List.pairwise_cons.2 ⟨λy hy=>?_,ih.2⟩⟩
   .rcases List.mem_cons.1 hy with rfl | hy
    .exact ⟨by rw [iQ]; omega,mP _⟩
    .exact ih.1 y hy
   .obtain ⟨z,hz,rfl⟩:=zU hy;intro e;have:=BJ (by rw [hx,h z (List.mem_cons_of_mem _ hz)]) e;apply hn;rw [List.any_eq_true];exact ⟨z,hz,by simpa using this.symm⟩
theorem GU:∀ {l:List Pair},(∀ x∈l,x.1.length=32)->∀ k:Key,k.length=32->mU (lG l) (path k)=iw l k
 | [],_,k,_=>rfl
 | x::r,h,k,hk=>by
  have hr:∀ y∈r,y.1.length=32:=λy hy=>h y (List.mem_cons_of_mem _ hy);have ih:=GU hr k hk;have hx:=h x List.mem_cons_self;unfold lG iw;by_cases e:x.1=k
  .by_cases hn:r.any (λy=>decide (y.1=x.1))=true
   .rw [if_pos hn,ih];cases hl:iw r k with
    | some v=>rfl
    | none =>
     exfalso;obtain ⟨z,hz,ez⟩:=List.any_eq_true.1 hn;exact tu.1 hl z hz (by rw [<-e]; simpa using ez)
   .rw [if_neg hn];have hl:iw r k=none:=tu.2 (λy hy e2=>hn (List.any_eq_true.2 ⟨y,hy,by simp [e2,e]⟩));rw [hl];simp [mU,e]
  .have hp:¬ path x.1=path k:=λh=>e (BJ (by omega) h);have hs:(match iw r k with | some v=>some v | none=>if x.1=k then some x.2 else none)=iw r k:=by
    cases iw r k with
    | some v=>rfl
    | none=>simp [e]
   rw [hs,<-ih];split
   .rfl
   .simp [mU,hp]
theorem Ju {l:List Pair} (h:∀ x∈l,x.2.size≠0/\x.2.size<=65552):∀ x∈lG l,x.2.size≠0/\x.2.size<=65552:=λy hy=>by
 obtain ⟨x,hx,rfl⟩:=zU hy;exact h x hx
theorem OV {l:List Pair} (h:∀ x∈l,x.1.length=32) (hv:∀ x∈l,x.2.size≠0/\x.2.size<=65552):Has (build 64 (lG l)) (iw l) :=
 ⟨jc 64 _ (yu h),lT 64 _,rA 64 _ (Ju hv),λk hk=>by
  rw [wS 64 _ (yu h) (path k) (by rw [iQ]; omega) (mP k),GU h k hk]⟩
theorem Has.built {t:T} {l:List Pair} (g:Has t (iw l)) (h:∀ x∈l,x.1.length=32) (hv:∀ x∈l,x.2.size≠0/\x.2.size<=65552):t=build 64 (lG l):=g.one (OV h hv)
theorem ED:∀ (l:List Pair) (x:Pair) (k:Key),iw (l++[x]) k=if k=x.1 then some x.2 else iw l k
 | [],x,k=>by
  by_cases e:k=x.1
  .simp [iw,e]
  .have:¬ x.1=k:=λh=>e h.symm;simp [iw,e,this]
 | y::l,x,k=>by
  show iw (y::(l++[x])) k=_;have e1:iw (y::(l++[x])) k=match iw (l++[x]) k with
   | some v=>some v
   | none=>if y.1=k then some y.2 else none:=rfl
  rw [e1,ED l x k];by_cases e:k=x.1
  .rw [if_pos e,if_pos e]
  .rw [if_neg e,if_neg e];rfl
def bL (t:T) (l:List Pair):T:=l.foldl (λt x=>put t (path x.1) x.2) t
theorem yJ (t:T) (l:List Pair) (x:Pair):bL t (l++[x])=put (bL t l) (path x.1) x.2:=by
 unfold bL;rw [List.foldl_append];rfl
theorem NI:∀ (n:Nat) (l:List Pair),l.length=n->(∀ x∈l,x.1.length=32)->(∀ x∈l,x.2.size≠0/\x.2.size<=65552)->Has (bL .nil l) (iw l)
 | 0,l,hl,_,_=>by
  obtain rfl:=List.eq_nil_of_length_eq_zero hl;exact Has.nil
 | n+1,l,hl,h,hv=>by
  have hne:l≠[]:=λe=>by rw [e] at hl; cases hl
  obtain ⟨r,x,rfl⟩:∃ r x,l=r++[x]:=⟨l.dropLast,l.getLast hne,(List.dropLast_concat_getLast hne).symm⟩
  rw [List.length_append,List.length_singleton] at hl;have ih:=NI n r (by omega) (λy hy=>h y (List.mem_append_left _ hy)) (λy hy=>hv y (List.mem_append_left _ hy));have hx:=h x (by simp);have UI:=hv x (by simp);rw [yJ];exact (ih.put hx UI.1 UI.2).congr (λk _=>(ED r x k).symm)
end Tr
end
section
namespace Tr
open Rf Rl Ni No
def bZ:T->List T
 | .ext _ t=>[t]
 | .br ks=>(dG ks).map ks
 | _=>[]
def DY (refs:List aL) (ts:List T) (i:Fin 16):T:=if (refs.getD i.val eB).size=0 then .nil else ts.getD (bI (refs.take i.val)).length .nil
def makeT (n:Nd) (ts:List T):T:=if n.kd=1 then .leaf n.p n.v else if n.kd=2 then .ext n.p (ts.getD 0 .nil) else .br (DY n.ks ts)
theorem rU {t:T} (g:Good t L) (hL:L<=64) (f:Fine t):(ref t).size≠0↔t ≠ .nil:=by
 constructor
 .rintro h rfl; exact h rfl
 .intro h; exact (gH t L g hL f h).2.2
theorem pQ (f:Fin 16->aL) (i:Fin 16):(eD f).getD i.val eB=f i:=by
 have hi:=i.isLt;unfold eD;rw [List.getD_eq_getElem?_getD,List.getElem?_map,List.getElem?_eq_getElem (by simp)];simp
theorem JC (f:Fin 16->aL) (n:Nat):(eD f).take n=((List.finRange 16).take n).map f:=by
 unfold eD;rw [List.map_take]
def rank (ks:Fin 16->T) (i:Fin 16):Nat:=(((List.finRange 16).take i.val).filter λj=>!isNil (ks j)).length
theorem Ck {ks:Fin 16->T} (h:∀ i,(ref (ks i)).size≠0↔ks i ≠ .nil) (l:List (Fin 16)):bI (l.map λi=>ref (ks i))=(l.filter λj=>!isNil (ks j)).map λi=>ref (ks i):=by
 unfold bI;rw [List.filter_map];congr 1;apply List.filter_congr;intro i _;show decide ((ref (ks i)).size≠0) = !isNil (ks i);cases hi:isNil (ks i) with
 | true =>
  have:=dD.1 hi;rw [decide_eq_false (λg=>(h i).1 g this)];rfl
 | false =>
  rw [aJ ((h i).2 (λe=>by rw [dD.2 e] at hi; cases hi))];rfl
theorem yg {t:T} {L:Nat} (g:Good t L) (hL:L<=64) (f:Fine t):bI (bC t).ks=(bZ t).map ref:=by
 cases t with
 | nil=>decide +kernel
 | leaf p v=>exact List.eq_nil_of_length_eq_zero xZ
 | ext q t =>
  obtain ⟨_,_,_,g4,g5⟩:=g;exact DN ((rU g5 (by omega) f).2 (jZ g4))
 | br ks =>
  have h:∀ i,(ref (ks i)).size≠0↔ks i ≠ .nil:=λi=>rU (g.2.2 i) (by omega) (f i);show bI (eD λi=>ref (ks i))=((dG ks).map ks).map ref;unfold eD;rw [Ck h,List.map_map];rfl
 | stub r=>exact List.eq_nil_of_length_eq_zero xZ
theorem NZ {α:Type} (P : α->Bool) (l:List α) (i:Nat) (hi:i<l.length) (hp:P l[i]=true):(l.filter P)[((l.take i).filter P).length]? = some l[i]:=by
 have h:l=l.take i++l[i]::l.drop (i+1):=by
  rw [List.getElem_cons_drop,List.take_append_drop]
 have h2:l.filter P=(l.take i).filter P++l[i]::(l.drop (i+1)).filter P:=by
  conv=>lhs; rw [h]
  rw [List.filter_append,List.filter_cons_of_pos hp]
 rw [h2,List.getElem?_append_right aG,Nat.sub_self];rfl
theorem QU {ks:Fin 16->T} {i:Fin 16} (h:ks i ≠ .nil):(dG ks)[rank ks i]? = some i:=by
 have h1:(List.finRange 16)[i.val]'(by simp)=i:=by simp
 have h2:=NZ (λj=>!isNil (ks j)) (List.finRange 16) i.val (by simp) (by
  rw [h1];cases hi:isNil (ks i) with
  | false=>rfl
  | true=>exact absurd (dD.1 hi) h)
 rw [h1] at h2;exact h2
theorem PL {ks:Fin 16->T} (h:∀ i,(ref (ks i)).size≠0↔ks i ≠ .nil) (ts:List T) (i:Fin 16):DY (eD λi=>ref (ks i)) ts i=if isNil (ks i) then .nil else ts.getD (rank ks i) .nil:=by
 unfold DY;rw [pQ,JC,Ck h,List.length_map];by_cases hn:ks i = .nil
 .have h1:(ref (ks i)).size=0:=Classical.byContradiction λg=>(h i).1 g hn;rw [if_pos h1,if_pos (dD.2 hn)]
 .rw [if_neg ((h i).2 hn),if_neg (λg=>hn (dD.1 g))];rfl
theorem DF {t:T} {L:Nat} (g:Good t L) (hL:L<=64) (f:Fine t) (hn:t ≠ .nil) (hs:¬ eP t):makeT (bC t) (bZ t)=t:=by
 cases t with
 | nil=>exact absurd rfl hn
 | leaf p v=>rfl
 | ext q t=>rfl
 | br ks =>
  have h:∀ i,(ref (ks i)).size≠0↔ks i ≠ .nil:=λi=>rU (g.2.2 i) (by omega) (f i);show T.br (DY (eD λi=>ref (ks i)) ((dG ks).map ks)) = .br ks;congr 1;funext i;rw [PL h];cases hi:isNil (ks i) with
  | true=>rw [if_pos rfl]; exact (dD.1 hi).symm
  | false =>
   have hne:ks i ≠ .nil:=λe=>by rw [dD.2 e] at hi; cases hi
   rw [if_neg (by decide),List.getD_eq_getElem?_getD,List.getElem?_map,QU hne];rfl
 | stub r=>exact absurd trivial hs
def Dv (t:T) (k:Nat):T :=
 match t with
 | .ext q s=>.ext q (.stub (ref s))
 | .br ks=>.br λi=>if isNil (ks i) then .nil else if rank ks i=k then .stub (ref (ks i)) else ks i
 | t=>t
theorem Gj (ks:Fin 16->T) (k:Nat) (i:Fin 16):ref (if isNil (ks i) then .nil else if rank ks i=k then .stub (ref (ks i)) else ks i)=ref (ks i):=by
 cases hi:isNil (ks i) with
 | true=>rw [if_pos rfl,dD.1 hi]
 | false =>
  rw [if_neg (by decide)];split
  .rfl
  .rfl
theorem DJ (t:T) (k:Nat):bC (Dv t k)=bC t:=by
 cases t with
 | nil=>rfl
 | leaf p v=>rfl
 | ext q t=>rfl
 | br ks =>
  show (⟨3,[],eB,eD λi=>ref (if isNil (ks i) then .nil else if rank ks i=k then .stub (ref (ks i)) else ks i)⟩:Nd)=⟨3,[],eB,eD λi=>ref (ks i)⟩
  congr 2;funext i;exact Gj ks k i
 | stub r=>rfl
theorem VN (t:T) (k:Nat):bF (Dv t k)=bF t:=by
 cases t with
 | nil=>rfl
 | leaf p v=>rfl
 | ext q t=>rfl
 | br ks =>
  show gP (bC (Dv (.br ks) k))=gP (bC (.br ks));rw [DJ]
 | stub r=>rfl
theorem Dl {t:T} {L:Nat} (g:Good t L) (k:Nat):Good (Dv t k) L:=by
 cases t with
 | nil=>exact g
 | leaf p v=>exact g
 | ext q t=>exact ⟨g.1,g.2.1,g.2.2.1,trivial,trivial⟩
 | br ks =>
  obtain ⟨h1,⟨i,j,hij,hi,hj⟩,h3⟩:=g;have hne:∀ i,ks i ≠ .nil->(if isNil (ks i) then T.nil else if rank ks i=k then .stub (ref (ks i)) else ks i) ≠ .nil:=λi h=>by
   rw [if_neg (λg=>h (dD.1 g))];split
   .intro e; cases e
   .exact h
  refine ⟨h1,⟨i,j,hij,hne i hi,hne j hj⟩,λi=>?_⟩;dsimp only;split
  .trivial
  .split
   .trivial
   .exact h3 i
 | stub r=>exact g
theorem Ou {t:T} {L:Nat} (g:Good t L) (hL:L<=64) (f:Fine t) (k:Nat):Fine (Dv t k):=by
 cases t with
 | nil=>exact f
 | leaf p v=>exact f
 | ext q t =>
  have:=gH t _ g.2.2.2.2 (by have:=g.2.2.1; omega) f (jZ g.2.2.2.1);exact this.2
 | br ks =>
  intro i;dsimp only;cases hi:isNil (ks i) with
  | true=>rw [if_pos rfl]; trivial
  | false =>
   have hne:ks i ≠ .nil:=λe=>by rw [dD.2 e] at hi; cases hi
   rw [if_neg (by decide)];split
   .exact (gH (ks i) _ (g.2.2 i) (by omega) (f i) hne).2
   .exact f i
 | stub r=>exact f
end Tr
end
section
open Go.RowKit
namespace Tm
open Tr
structure Mp where
 at_:Nat->Option T
 ft:Nat->Prop
def IsT (M:Mp) (p:aK) (t:T):Prop:=match p with
 | none=>t = .nil
 | some ad=>∃ b,ad=⟨b,0,none⟩/\M.at_ b=some t/\t ≠ .nil
def dO:T->Int
 | .nil=>0
 | .leaf _ _=>1
 | .ext _ _=>2
 | .br _=>3
 | .stub _ => -1
def bW:T->Pa
 | .leaf p _=>p
 | .ext q _=>q
 | _=>[]
def ER:T->aL
 | .leaf _ v=>v
 | _=>eB
def fU:T->List T
 | .ext _ t=>[t]
 | .br ks=>(List.finRange 16).map ks
 | _=>[]
def MF:T->aL
 | .stub r=>r
 | _=>eB
def Bs (M:Mp) (w:World) (a:aK) (n c:Nat) (l:aM):Prop:=aZ w a n c l/\∀ ad,a=some ad->0<n->M.ft ad.block
def Ks (M:Mp) (w:World) (a:aK) (n c:Nat) (l:List T):Prop :=
 n<=c/\c<=maxLen/\l.length=n/\(a=none->c=0)/\∀ j,j<n->∃ b off p,a=some ⟨b,off,none⟩/\b<w.heap.size/\M.ft b/\w.cell? ⟨b,off+j,none⟩=some (.pointer p)/\IsT M p (l.getD j .nil)
def iL (t:T) (a:aK) (n c:Nat) (ka:aK) (kn kc:Nat) (d:Int) (r:aL):aN :=
 #[.int .i64 (dO t),.slice a n c,.string (ER t),.slice ka kn kc,.int .u32 d,.int .i32 0,.int .u32 0,.string r]
def ru (M:Mp) (w:World) (b:Nat) (t:T):Prop :=
 ∃ a n c ka kn kc d r,w.heap[b]? = some (.cells (iL t a n c ka kn kc d r) 135 (0,0))/\Bs M w a n c (bW t)/\Ks M w ka kn kc (fU t)/\(d=0/\r=MF t\/d=1/\¬ eP t/\r=ref t)
structure Inv (M:Mp) (w:World):Prop where
 lt_:∀ k,M.ft k->k<w.heap.size
 part_:∀ b t,M.at_ b=some t->t ≠ .nil/\M.ft b/\ru M w b t
def gG (w:World) (k:Nat):Prop:=∃ j x,w.cell? ⟨k,j,none⟩=some (.int .u8 x)
structure Fr (M M':Mp) (w w':World):Prop where
 os:w'.os=w.os
 tape:w'.tape=w.tape
 output:w'.output=w.output
 size:w.heap.size<=w'.heap.size
 block:∀ k,k<w.heap.size->M.at_ k=none->w'.heap[k]? = w.heap[k]?
 mono:∀ k t,M.at_ k=some t->M'.at_ k=some t
 fresh:∀ k,k<w.heap.size->M.at_ k=none->M'.at_ k=none
 grow:∀ k,M.ft k->M'.ft k
 foot:∀ k,M'.ft k->M.ft k\/w.heap.size<=k\/gG w k
def M0:Mp:=⟨λ_=>none,λ_=>False⟩
theorem IsT.mono {M M':Mp} {p:aK} {t:T} (h:IsT M p t) (hm:∀ k t,M.at_ k=some t->M'.at_ k=some t):IsT M' p t:=by
 cases p with
 | none=>exact h
 | some ad =>
  obtain ⟨b,e,h1,h2⟩:=h;exact ⟨b,e,hm _ _ h1,h2⟩
theorem IsT.pO {M:Mp} {p:aK} {t:T} (h:IsT M p t):p=none↔t = .nil:=by
 cases p with
 | none=>exact ⟨λ_=>h,λ_=>rfl⟩
 | some ad =>
  obtain ⟨b,_,_,hn⟩:=h;exact ⟨λe=>(by cases e),λe=>absurd e hn⟩
theorem IsT.at_ {M:Mp} {p:aK} {t:T} (h:IsT M p t) (hn:t ≠ .nil):∃ b,p=some ⟨b,0,none⟩/\M.at_ b=some t:=by
 cases p with
 | none=>exact absurd h hn
 | some ad =>
  obtain ⟨b,e,hm,_⟩:=h;exact ⟨b,by rw [e],hm⟩
theorem IsT.zero (M:Mp):IsT M none .nil:=rfl
theorem Bs.nil (M:Mp) (w:World):Bs M w none 0 0 []:=⟨aZ.nil w,λ_ e=>by cases e⟩
theorem Ks.nil (M:Mp) (w:World):Ks M w none 0 0 []:=⟨aG,Nat.zero_le _,rfl,λ_=>rfl,λ_ h=>absurd h (Nat.not_lt_zero _)⟩
theorem Ks.len {M:Mp} {a:aK} {n c:Nat} {l:List T} (h:Ks M w a n c l):l.length=n:=h.2.2.1
theorem Ks.at' {M:Mp} {a:aK} {n c:Nat} {l:List T} (h:Ks M w a n c l) (j:Nat) (hj:j<n):∃ b off p,a=some ⟨b,off,none⟩/\b<w.heap.size/\M.ft b/\w.cell? ⟨b,off+j,none⟩=some (.pointer p)/\IsT M p (l.getD j .nil):=h.2.2.2.2 j hj
theorem Inv.part {M:Mp} (h:Inv M w) {b:Nat} {t:T} (hm:M.at_ b=some t):ru M w b t:=(h.part_ b t hm).2.2
theorem Inv.lt {M:Mp} (h:Inv M w) {b:Nat} {t:T} (hm:M.at_ b=some t):b<w.heap.size:=h.lt_ b (h.part_ b t hm).2.1
theorem Inv.zero (w:World):Inv M0 w:=⟨λ_ h=>h.elim,λ_ _ h=>by cases h⟩
theorem Fa {t:T} {a:aK} {n c:Nat} {ka:aK} {kn kc:Nat} {d:Int} {r:aL} {j:Nat} {v:Value} (h:(iL t a n c ka kn kc d r)[j]? = some v):(∀ x,v ≠ .int .u8 x)/\∀ p,v ≠ .pointer p:=by
 unfold iL at h
 match j,h with
 | 0,h | 1,h | 2,h | 3,h | 4,h | 5,h | 6,h | 7,h =>
  simp at h;subst h;exact ⟨λx e=>(by cases e),λp e=>(by cases e)⟩
 | j+8,h=>simp at h
theorem qw {b:Nat} {cs:aN} {t:TypeId} {f:Nat × Nat} (h:w.heap[b]? = some (.cells cs t f)) (hc:w.cell? ⟨b,j,none⟩=some v):cs[j]? = some v:=by
 rw [World.cell?,h] at hc;simpa using hc
theorem Inv.dH {M:Mp} {w:World} (hi:Inv M w) {b j:Nat} {x:Int} (hc:w.cell? ⟨b,j,none⟩=some (.int .u8 x)):M.at_ b=none:=by
 cases hm:M.at_ b with
 | none=>rfl
 | some t =>
  obtain ⟨_,_,_,_,_,_,_,_,hb,_⟩:=hi.part hm;exact absurd rfl ((Fa (qw hb hc)).1 x)
theorem Inv.pW {M:Mp} {w:World} (hi:Inv M w) {b j:Nat} {p:aK} (hc:w.cell? ⟨b,j,none⟩=some (.pointer p)):M.at_ b=none:=by
 cases hm:M.at_ b with
 | none=>rfl
 | some t =>
  obtain ⟨_,_,_,_,_,_,_,_,hb,_⟩:=hi.part hm;exact absurd rfl ((Fa (qw hb hc)).2 p)
theorem Fr.refl (M:Mp) (w:World):Fr M M w w:=⟨rfl,rfl,rfl,aG,λ_ _ _=>rfl,λ_ _ h=>h,λ_ _ h=>h,λ_ h=>h,λ_ h=>Or.inl h⟩
theorem gG.back {M M':Mp} {k:Nat} (h:gG w' k) (f:Fr M M' w w') (hk:k<w.heap.size) (hm:M.at_ k=none):gG w k:=by
 obtain ⟨j,x,hc⟩:=h;exact ⟨j,x,by rw [<-hc]; exact (World.cell?_of_block (w:=w) (f.block k hk hm)).symm⟩
theorem Fr.trans {M M1 M2:Mp} {w w1 w2:World} (hi:Inv M w) (h:Fr M M1 w w1) (g:Fr M1 M2 w1 w2):Fr M M2 w w2 :=
 ⟨g.os.trans h.os,g.tape.trans h.tape,g.output.trans h.output,Nat.le_trans h.size g.size,
  λk hk hm=>(g.block k (aI hk h.size) (h.fresh k hk hm)).trans (h.block k hk hm),λk t hm=>g.mono k t (h.mono k t hm),λk hk hm=>g.fresh k (aI hk h.size) (h.fresh k hk hm),
  λk hk=>g.grow k (h.grow k hk),λk hk=>by
  rcases g.foot k hk with h1 | h1 | h1
  .exact h.foot k h1
  .exact Or.inr (Or.inl (Nat.le_trans h.size h1))
  .by_cases hlt:k<w.heap.size
   .cases hm:M.at_ k with
    | none=>exact Or.inr (Or.inr (h1.back h hlt hm))
    | some t=>exact Or.inl (hi.part_ k t hm).2.1
   .exact Or.inr (Or.inl (by omega))⟩
theorem Fr.below (M:Mp) (hb:Below w.heap.size w w'):Fr M M w w':=⟨hb.os,hb.tape,hb.output,hb.size,λk hk _=>hb.block k hk,λ_ _ h=>h,λ_ _ h=>h,λ_ h=>h,λ_ h=>Or.inl h⟩
theorem Fr.all {M':Mp} (h:Fr M0 M' w w'):Below w.heap.size w w':=⟨h.os,h.tape,h.output,h.size,λk hk=>h.block k hk rfl⟩
theorem Fr.cell {M M':Mp} (h:Fr M M' w w') {b o:Nat} (hb:b<w.heap.size) (hm:M.at_ b=none):w'.cell? ⟨b,o,none⟩=w.cell? ⟨b,o,none⟩:=World.cell?_of_block (w:=w) (h.block b hb hm)
theorem Bs.fr {M M':Mp} {a:aK} {n c:Nat} {l:aM} (hi:Inv M w) (h:Bs M w a n c l) (f:Fr M M' w w'):Bs M' w' a n c l:=by
 refine ⟨⟨h.1.1,h.1.2.1,h.1.2.2.1,h.1.2.2.2.1,λj hj=>?_⟩,λad e hn=>f.grow _ (h.2 ad e hn)⟩;obtain ⟨b,off,e,hlt,hc⟩:=h.1.2.2.2.2 j hj;exact ⟨b,off,e,aI hlt f.size,by rw [f.cell hlt (hi.dH hc)]; exact hc⟩
theorem oQ {M M':Mp} {a:aK} {n c:Nat} {l:aM} (hi:Inv M w) (h:aZ w a n c l) (f:Fr M M' w w'):aZ w' a n c l:=by
 refine ⟨h.1,h.2.1,h.2.2.1,h.2.2.2.1,λj hj=>?_⟩;obtain ⟨b,off,e,hlt,hc⟩:=h.2.2.2.2 j hj;exact ⟨b,off,e,aI hlt f.size,by rw [f.cell hlt (hi.dH hc)]; exact hc⟩
theorem Ks.fr {M M':Mp} {a:aK} {n c:Nat} {l:List T} (hi:Inv M w) (h:Ks M w a n c l) (f:Fr M M' w w'):Ks M' w' a n c l:=by
 refine ⟨h.1,h.2.1,h.2.2.1,h.2.2.2.1,λj hj=>?_⟩;obtain ⟨b,off,p,e,hlt,hm,hc,ht⟩:=h.at' j hj;exact ⟨b,off,p,e,aI hlt f.size,f.grow b hm,by rw [f.cell hlt (hi.pW hc)]; exact hc,ht.mono f.mono⟩
theorem Inv.below {M:Mp} {w w':World} (h:Inv M w) (hb:Below w.heap.size w w'):Inv M w':=by
 refine ⟨λk hk=>aI (h.lt_ k hk) hb.size,λb t hm=>?_⟩;have hlt:=h.lt hm;refine ⟨(h.part_ b t hm).1,(h.part_ b t hm).2.1,?_⟩;obtain ⟨a,n,c,ka,kn,kc,d,r,h1,h2,h3,h4⟩:=h.part hm;exact ⟨a,n,c,ka,kn,kc,d,r,(hb.block b hlt).trans h1,h2.fr h (Fr.below M hb),h3.fr h (Fr.below M hb),h4⟩
theorem Inv.out {M:Mp} {w:World} (h:Inv M w) {b:Nat} (hb:w.heap.size<=b):M.at_ b=none:=by
 cases hm:M.at_ b with
 | none=>rfl
 | some t=>exact absurd (h.lt hm) (by omega)
theorem Inv.upd {M:Mp} (h:Inv M w) (hu:Rg.Upd w g w') (hg:¬ M.ft g):Inv M w':=by
 refine ⟨λk hk=>by rw [hu.size]; exact h.lt_ k hk,λb t hm=>?_⟩;obtain ⟨h1,h2,h3⟩:=h.part_ b t hm;refine ⟨h1,h2,?_⟩;obtain ⟨a,n,c,ka,kn,kc,d,r,hb,hB,hK,hd⟩:=h3;have hne:∀ k,M.ft k->k≠g:=λk hk e=>hg (by rw [<-e]; exact hk);refine ⟨a,n,c,ka,kn,kc,d,r,(hu.block b (hne b h2)).trans hb,⟨⟨hB.1.1,hB.1.2.1,hB.1.2.2.1,hB.1.2.2.2.1,λj hj=>?_⟩,hB.2⟩,⟨hK.1,hK.2.1,hK.2.2.1,hK.2.2.2.1,λj hj=>?_⟩,hd⟩
 .obtain ⟨b',off,e,hlt,hc⟩:=hB.1.2.2.2.2 j hj;exact ⟨b',off,e,by rw [hu.size]; exact hlt,by rw [World.cell?_of_block (hu.block b' (hne b' (hB.2 _ e (by omega))))]; exact hc⟩
 .obtain ⟨b',off,p,e,hlt,hf,hc,ht⟩:=hK.at' j hj;exact ⟨b',off,p,e,by rw [hu.size]; exact hlt,hf,by rw [World.cell?_of_block (hu.block b' (hne b' hf))]; exact hc,ht⟩
theorem Fr.box {M M':Mp} (f:Fr M M' w w') (hg:¬ M.ft g) (hlt:g<w.heap.size) (hb:¬ gG w g):¬ M'.ft g:=λh=>by
 rcases f.foot g h with h1 | h1 | h1
 .exact hg h1
 .omega
 .exact hb h1
theorem Inv.free {M:Mp} (h:Inv M w) (hg:w.heap.size<=g):¬ M.ft g:=λe=>by
 have:=h.lt_ g e;omega
theorem iY (p:aK):∀ (j:Nat) (x:Int),(#[Value.pointer p]:aN)[j]? ≠ some (Value.int .u8 x):=λj x h=>by
 match j,h with
 | 0,h=>simp at h
 | j+1,h=>simp at h
theorem dH {cs:aN} {t:TypeId} (hO:Rg.Own w g cs t) (hne:∀ (j:Nat) (x:Int),cs[j]? ≠ some (Value.int .u8 x)):¬ gG w g:=λ⟨_,_,hc⟩=>hne _ _ (qw hO.2 hc)
theorem vI {a:aK} {n c:Nat} {l:aM} (h:aZ w a n c l) (hg:¬ gG w g) (hu:Rg.Upd w g w'):aZ w' a n c l:=by
 refine ⟨h.1,h.2.1,h.2.2.1,h.2.2.2.1,λj hj=>?_⟩;obtain ⟨b,off,e,hlt,hc⟩:=h.2.2.2.2 j hj;have hbg:b≠g:=by
  rintro rfl;exact hg ⟨_,_,hc⟩
 exact ⟨b,off,e,by rw [hu.size]; exact hlt,by rw [World.cell?_of_block (hu.block b hbg)]; exact hc⟩
def plus (M:Mp) (S:Nat->Prop):Mp:=⟨M.at_,λk=>M.ft k\/S k⟩
theorem Inv.plus {M:Mp} (h:Inv M w) (hS:∀ k,S k->k<w.heap.size):Inv (Tm.plus M S) w:=by
 refine ⟨λk hk=>hk.elim (h.lt_ k) (hS k),λb t hm=>?_⟩;obtain ⟨h1,h2,a,n,c,ka,kn,kc,d,r,hb,hB,hK,hd⟩:=h.part_ b t hm;exact ⟨h1,Or.inl h2,a,n,c,ka,kn,kc,d,r,hb,⟨hB.1,λad e hn=>Or.inl (hB.2 ad e hn)⟩,⟨hK.1,hK.2.1,hK.2.2.1,hK.2.2.2.1,λj hj=>by
  obtain ⟨b',off,p,e,hlt,hf,hc,ht⟩:=hK.at' j hj;exact ⟨b',off,p,e,hlt,Or.inl hf,hc,ht.mono λ_ _ h=>h⟩⟩,hd⟩
theorem Af {M:Mp} {t:T} (h:IsT M p t):IsT (plus M S) p t:=h.mono λ_ _ h=>h
theorem Fr.plus {M M':Mp} (f:Fr M M' w w') (hS:∀ k,S k->w.heap.size<=k\/gG w k):Fr M (Tm.plus M' S) w w' :=
 ⟨f.os,f.tape,f.output,f.size,f.block,f.mono,f.fresh,λk hk=>Or.inl (f.grow k hk),λk hk=>hk.elim (f.foot k) (λh=>Or.inr (hS k h))⟩
def inS (a:aK) (n:Nat) (k:Nat):Prop:=∃ ad,a=some ad/\0<n/\ad.block=k
theorem wD {a:aK} {n c:Nat} {l:aM} (h:aZ w a n c l) {k:Nat} (hk:inS a n k):gG w k/\k<w.heap.size:=by
 obtain ⟨ad,e,hn,hb⟩:=hk;obtain ⟨b,off,e',hlt,hc⟩:=h.at' 0 hn;rw [e] at e';obtain rfl:=Option.some.inj e';obtain rfl:b=k:=hb;exact ⟨⟨_,_,hc⟩,hlt⟩
theorem gG.below {k:Nat} (h:gG w' k) (hb:Below w.heap.size w w'):w.heap.size<=k\/gG w k:=by
 by_cases hlt:k<w.heap.size
 .obtain ⟨j,x,hc⟩:=h;exact Or.inr ⟨j,x,by rw [<-hc]; exact (World.cell?_of_block (w:=w) (hb.block k hlt)).symm⟩
 .exact Or.inl (by omega)
theorem Bs.in_ {M:Mp} {a:aK} {n c:Nat} {l:aM} (h:aZ w a n c l):Bs (plus M (inS a n)) w a n c l:=⟨h,λad e hn=>Or.inr ⟨ad,e,hn,rfl⟩⟩
def dF (M:Mp) (w:World) (t:T) (e:Ending) (w':World):Prop:=∃ p M',e = .returned (.agg #[.pointer p])/\IsT M' p t/\Fr M M' w w'/\Inv M' w'/\Below w.heap.size w w'
def more (M:Mp) (b:Nat) (t:T) (lo hi:Nat):Mp:=⟨λk=>if k=b then some t else M.at_ k,λk=>M.ft k\/lo<=k/\k<hi⟩
theorem zH (M:Mp) (b:Nat) (t:T) (lo hi:Nat):(more M b t lo hi).at_ b=some t:=if_pos rfl
theorem vO {M:Mp} {b:Nat} {t:T} {lo hi k:Nat} (h:k≠b):(more M b t lo hi).at_ k=M.at_ k:=if_neg h
theorem Fr.more {M:Mp} (hi:Inv M w) (hb:Below w.heap.size w w') (b:Nat) (t:T) (hB:w.heap.size<=b):Fr M (more M b t w.heap.size w'.heap.size) w w':=by
 refine ⟨hb.os,hb.tape,hb.output,hb.size,λk hk _=>hb.block k hk,λk u hm=>?_,λk hk hm=>?_,λk hk=>Or.inl hk,λk hk=>hk.elim Or.inl (λh=>Or.inr (Or.inl h.1))⟩
 .have:=hi.lt hm;rw [vO (by omega)]; exact hm
 .rw [vO (by omega)]; exact hm
def Ks0 (M:Mp) (lo:Nat) (w:World) (a:aK) (n c:Nat) (l:List T):Prop :=
 n<=c/\c<=maxLen/\l.length=n/\(a=none->c=0)/\∀ j,j<n->∃ b off p,a=some ⟨b,off,none⟩/\b<w.heap.size/\(M.ft b\/lo<=b)/\w.cell? ⟨b,off+j,none⟩=some (.pointer p)/\IsT M p (l.getD j .nil)
theorem Ks.weak {M:Mp} {lo:Nat} {a:aK} {n c:Nat} {l:List T} (h:Ks M w a n c l):Ks0 M lo w a n c l :=
 ⟨h.1,h.2.1,h.2.2.1,h.2.2.2.1,λj hj=>by
  obtain ⟨b,off,p,e,hlt,hf,hc,ht⟩:=h.at' j hj;exact ⟨b,off,p,e,hlt,Or.inl hf,hc,ht⟩⟩
theorem wG {M:Mp} {b:Nat} {t:T} {a:aK} {n c:Nat} {ka:aK} {kc:Nat} (hi:Inv M w) (hb:Below w.heap.size w w') (hB:w.heap.size<=b) (hn:t ≠ .nil)
  (hc:w'.heap[b]? = some (.cells (iL t a n c ka kn kc 0 (MF t)) 135 (0,0))) (hp:aZ w' a n c (bW t)) (hf:∀ ad,a=some ad->0<n->M.ft ad.block\/w.heap.size<=ad.block) (hk:Ks0 M w.heap.size w' ka kn kc (fU t)) :
  dF M w t (.returned (.agg #[.pointer (some ⟨b,0,none⟩)])) w':=by
 have f:=Fr.more hi hb b t hB;have hlt:b<w'.heap.size:=(Array.getElem?_eq_some_iff.1 hc).1;refine ⟨_,Tm.more M b t w.heap.size w'.heap.size,rfl,⟨b,rfl,zH _ _ _ _ _,hn⟩,f,⟨λk hk=>hk.elim (λh=>aI (hi.lt_ k h) hb.size) (λh=>h.2),λk u hm=>?_⟩,hb⟩;by_cases e:k=b
 .subst e;rw [zH] at hm;obtain rfl:=Option.some.inj hm;refine ⟨hn,Or.inr ⟨hB,hlt⟩,a,n,c,ka,kn,kc,0,_,hc,⟨hp,λad e hn=>?_⟩,⟨hk.1,hk.2.1,hk.2.2.1,hk.2.2.2.1,λj hj=>?_⟩,Or.inl ⟨rfl,rfl⟩⟩
  .obtain ⟨b',off,e',hlt',_⟩:=hp.at' 0 hn;rcases hf ad e hn with h | h
   .exact Or.inl h
   .rw [e] at e';obtain rfl:=Option.some.inj e';exact Or.inr ⟨h,hlt'⟩
  .obtain ⟨b',off,p,e,hlt',hm,hcb,ht⟩:=hk.2.2.2.2 j hj;exact ⟨b',off,p,e,hlt',hm.elim Or.inl (λh=>Or.inr ⟨h,hlt'⟩),hcb,ht.mono f.mono⟩
 .rw [vO e] at hm;have hlt:=hi.lt hm;obtain ⟨h1,h2,a,n,c,ka,kn,kc,d,r,g1,g2,g3,g4⟩:=hi.part_ k u hm;exact ⟨h1,Or.inl h2,a,n,c,ka,kn,kc,d,r,(hb.block k hlt).trans g1,g2.fr hi f,g3.fr hi f,g4⟩
theorem Wj {M:Mp} {t:T} (hi:Inv M w) (ht:IsT M p t) (hb:Below w.heap.size w w'):dF M w t (.returned (.agg #[.pointer p])) w' :=
 ⟨p,M,rfl,ht,Fr.below M hb,hi.below hb,hb⟩
def ou (ps:List (aK)):aN:=(ps.map Value.pointer).toArray
theorem Ks0.row {M:Mp} {lo:Nat} {b:Nat} {ps:List (aK)} {t:TypeId} {l:List T} (hlo:lo<=b) (h:Rg.Own w b (ou ps) t) (hl:ps.length=l.length) (hm:ps.length<=maxLen) (ht:∀ j,j<ps.length->IsT M (ps.getD j none) (l.getD j .nil)):Ks0 M lo w (some ⟨b,0,none⟩) ps.length ps.length l:=by
 refine ⟨aG,hm,hl.symm,λe=>(by cases e),λj hj=>?_⟩;have hc:w.cell? ⟨b,j,none⟩=some (.pointer (ps.getD j none)):=by
  rw [cell_of_row w b _ _ _ _ h.2];simp [ou,List.getD,hj]
 exact ⟨b,0,_,rfl,h.1,Or.inr hlo,by rw [Nat.zero_add]; exact hc,ht j hj⟩
abbrev tv (p:aK):Value:=.agg #[.pointer p]
theorem fG (w:World) (p:aK):(w.alloc (.cells #[.pointer p] 35)).cell? ⟨w.heap.size,0,none⟩=some (.pointer p):=by
 rw [World.cell?_alloc_mark]; rfl
theorem aW (hb:Below w1.heap.size w1 w2) {b o:Nat} (hc:w1.cell? ⟨b,o,none⟩=some v):w2.cell? ⟨b,o,none⟩=some v :=
 (hb.cell (p:=⟨b,o,none⟩) (World.block_lt_of_cell? w1 _ hc)).trans hc
theorem MH {b o:Nat} (hc:w.cell? ⟨b,o,none⟩=some v):(w.alloc o').cell? ⟨b,o,none⟩=some v:=aW (al1 _ _) hc
theorem lQ (p:aK) (w:World):Calls prog 112 #[.agg #[.pointer p]] w λe w'=>e = .returned (.bool p.isNone)/\Below w.heap.size w w':=by
 have h0:=fG w p;cases p with
 | none =>
  go_enter func112,ntmps112;go_wp2;go_ret;exact ⟨rfl,al1 _ _⟩
 | some ad =>
  go_enter func112,ntmps112;go_wp2;go_ret;exact ⟨rfl,al1 _ _⟩
theorem kH {b:Nat} {t:T} {a:aK} {n c:Nat} {ka:aK} {kc:Nat} (h:w.heap[b]? = some (.cells (iL t a n c ka kn kc d r) 135 (0,0))) :
  (w.cell? ⟨b,0,none⟩=some (.int .i64 (dO t))/\w.cell? ⟨b,1,none⟩=some (.slice a n c)/\w.cell? ⟨b,2,none⟩=some (.string (ER t))/\w.cell? ⟨b,3,none⟩=some (.slice ka kn kc))/\
  w.cell? ⟨b,4,none⟩=some (.int .u32 d)/\w.cell? ⟨b,5,none⟩=some (.int .i32 0)/\w.cell? ⟨b,6,none⟩=some (.int .u32 0)/\w.cell? ⟨b,7,none⟩=some (.string r):=by
 refine ⟨⟨?_,?_,?_,?_⟩,?_,?_,?_,?_⟩;all_goals
  rw [cell_of_row w b _ _ _ _ h];rfl
theorem Inv.kind {M:Mp} (hi:Inv M w) {b:Nat} {t:T} (hm:M.at_ b=some t):w.cell? ⟨b,0,none⟩=some (.int .i64 (dO t)):=by
 obtain ⟨a,n,c,ka,kn,kc,d,r,hb,_⟩:=hi.part hm;exact (kH hb).1.1
theorem dN (M:Mp) (p:aK) (t:T) (w:World) (hi:Inv M w) (ht:IsT M p t) :
  Calls prog 67 #[.agg #[.pointer p]] w λe w'=>e = .returned (.int .i64 (dO t))/\Below w.heap.size w w':=by
 have h0:=fG w p;have HE:=hid (lQ p (w.alloc (.cells #[.pointer p] 35)));cases p with
 | none =>
  obtain rfl:t = .nil:=ht;go_enter func67,ntmps67;go_wp2_with fail
  refine HE.out.mono ?_;rintro e w2 ⟨rfl,hb⟩;go_wp2;go_ret;exact ⟨rfl,bst (al1 _ _) hb⟩
 | some ad =>
  obtain ⟨b,rfl,hm,_⟩:=ht;have hk:=MH (o':=.cells #[.pointer (some ⟨b,0,none⟩)] 35) (hi.kind hm);go_enter func67,ntmps67;go_wp2_with fail
  refine HE.out.mono ?_;rintro e w2 ⟨rfl,hb⟩;have h1:=aW hb h0;have h2:=aW hb hk;clear h0 hk;go_wp2;go_ret;exact ⟨rfl,bst (al1 _ _) hb⟩
def dY (a:aK) (c i:Nat):aK:=if c=i then a else a.map (·.add i)
theorem jv (w:World):(sizeOf (prog.elem 40)).run prog w = .ok 1 w:=by kernel_rfl
theorem xu (w:World):(sizeOf (prog.elem 122)).run prog w = .ok 1 w:=by kernel_rfl
theorem gI:prog.underlying 40=some (.slice (prog.elem 40)):=by kernel_rfl
theorem nA:prog.underlying 122=some (.slice (prog.elem 122)):=by kernel_rfl
section
variable {P:Program} {t:TypeId} {a:aK} {n c:Nat}
theorem Sl (ht:P.underlying t=some (.slice (P.elem t))) (hs:∀ w,(sizeOf (P.elem t)).run P w = .ok 1 w) (i:Nat) (hi:i<=n) (w:World) :
  (Instr.sliceAt t (.slice a n c) (some (.int .i64 i)) none none).run P w = .ok (.slice (dY a c i) (n-i) (c-i)) w:=by
 rw [run_sliceAt_slice (h:=ht),run_slice_l w t a n c ht .i64 i (by omega) (by omega),hs];simp [Result.andThen,sliced,dY]
theorem TR (ht:P.underlying t=some (.slice (P.elem t))) (hs:∀ w,(sizeOf (P.elem t)).run P w = .ok 1 w) (j:Nat) (hj:j<=c) (w:World) :
  (Instr.sliceAt t (.slice a n c) none (some (.int .i64 j)) none).run P w = .ok (.slice a j c) w:=by
 rw [run_sliceAt_slice (h:=ht),run_slice_h w t a n c ht .i64 j (by omega) (by omega),hs];have:a.map (λx=>x.add 0)=a:=by cases a <;> simp [Addr.add]
 simp [Result.andThen,sliced,this]
end
theorem jL {P:Program} {t:TypeId} {a:aK} {n c:Nat} {w:World} (ht:P.underlying t=some (.slice (P.elem t))) (hs:∀ w,(sizeOf (P.elem t)).run P w = .ok 1 w) (hi:i<=n)
  (ho:∃ x lo,o.op = .slice t x (some lo) none none/\ev x = .slice a n c/\ev lo = .int .i64 i):(execOp ev o).run P w = .ok (.value (.slice (dY a c i) (n-i) (c-i))) w:=by
 obtain ⟨x,lo,ho,hx,hl⟩:=ho;unfold execOp;simp only [ho,hx,hl,Option.map_some,Option.map_none,Sem.run_bind,Sem.run_pure,Result.andThen_ok,Sl ht hs i hi]
theorem qR {P:Program} {t:TypeId} {a:aK} {n c:Nat} {w:World} (ht:P.underlying t=some (.slice (P.elem t))) (hs:∀ w,(sizeOf (P.elem t)).run P w = .ok 1 w) (hj:j<=c)
  (ho:∃ x hi,o.op = .slice t x none (some hi) none/\ev x = .slice a n c/\ev hi = .int .i64 j):(execOp ev o).run P w = .ok (.value (.slice a j c)) w:=by
 obtain ⟨x,lo,ho,hx,hl⟩:=ho;unfold execOp;simp only [ho,hx,hl,Option.map_some,Option.map_none,Sem.run_bind,Sem.run_pure,Result.andThen_ok,TR ht hs j hj]
theorem tN {a:aK} {n c:Nat} {l:aM} (h:aZ w a n c l) (i:Nat) (hi:i<=n):aZ w (dY a c i) (n-i) (c-i) (l.drop i):=by
 have h1:=h.1;have h2:=h.2.1;refine ⟨by omega,by omega,by rw [List.length_drop,h.len],λe=>?_,λj hj=>?_⟩
 .unfold dY at e;split at e
  .omega
  .have:a=none:=by simpa using e
   have:=h.2.2.2.1 this;omega
 .obtain ⟨b,off,e,hlt,hc⟩:=h.at' (i+j) (by omega);refine ⟨b,off+i,?_,hlt,?_⟩
  .unfold dY;rw [if_neg (by omega),e];simp [Addr.add_mid]
  .rw [Nat.add_assoc,hc];simp [List.getD]
theorem GY {a:aK} {c i:Nat} {ad:Addr} (h:dY a c i=some ad):∃ Ff,a=some Ff/\Ff.block=ad.block:=by
 unfold dY at h;split at h
 .exact ⟨ad,h,rfl⟩
 .cases a with
  | none=>cases h
  | some x =>
   refine ⟨x,rfl,?_⟩;have:x.add i=ad:=by simpa using h
   rw [<-this];unfold Addr.add;split <;> rfl
theorem Bs.from' {M:Mp} {a:aK} {n c:Nat} {l:aM} (h:Bs M w a n c l) (i:Nat) (hi:i<=n):Bs M w (dY a c i) (n-i) (c-i) (l.drop i) :=
 ⟨tN h.1 i hi,λad e hn=>by
  obtain ⟨Ff,e',hb⟩:=GY e;rw [<-hb];exact h.2 Ff e' (by omega)⟩
theorem Bs.upto {M:Mp} {a:aK} {n c:Nat} {l:aM} (h:Bs M w a n c l) (j:Nat) (hj:j<=n):Bs M w a j c (l.take j):=by
 have h1:=h.1.1;refine ⟨⟨by omega,h.1.2.1,by rw [List.length_take,h.1.len]; omega,h.1.2.2.2.1,λi hi=>?_⟩,λad e hn=>h.2 ad e (by omega)⟩;obtain ⟨b,off,e,hlt,hc⟩:=h.1.at' i (by omega);refine ⟨b,off,e,hlt,?_⟩;rw [hc];simp [List.getD,hi]
theorem wT:(prog.info? 35).map (·.size)=some 1:=by kernel_rfl
theorem xB {w:World} {b o:Nat} {p:aK} (hc:w.cell? ⟨b,o,none⟩=some (.pointer p)):(loadVar 35 ⟨b,o,none⟩).run prog w = .ok (tv p) w :=
 run_loadVar_mid w b o 35 [.pointer p] _ (λj v hv=>by
  cases j with
  | zero=>simp at hv; subst hv; exact hc
  | succ j=>simp at hv) underlying35 rfl (by rw [wT]; rfl)
theorem aU {b off:Nat} (hc:w.cell? ⟨b,off,none⟩=some (.pointer p)) (ho:∃ x,o.op = .load 35 x/\ev x = .pointer (some ⟨b,off,none⟩)) :
  (execOp ev o).run prog w = .ok (.value (tv p)) w:=by
 obtain ⟨x,ho,hx⟩:=ho;unfold execOp;simp only [ho,hx,Instr.loadAt,Instr.sureAddr,Sem.run_bind,Sem.run_pure,Result.andThen_ok,xB hc]
theorem bO (w:World) (b o:Nat) (v:Value):Rg.Upd w b (w.setCell ⟨b,o,none⟩ v):=⟨rfl,rfl,rfl,by simp,λk hk=>Below.heap_setCell w _ v k hk⟩
theorem dx {b o:Nat} {cs:aN} {t:TypeId} (h:Rg.Own w b cs t) (v:Value):Rg.Own (w.setCell ⟨b,o,none⟩ v) b (cs.setIfInBounds o v) t:=by
 refine ⟨by simp; exact h.1,?_⟩;have hb:=h.2;simp only [World.setCell,Array.getElem?_modify,hb];simp
theorem aV {b:Nat} {cs:aN} {t:TypeId} (h:Rg.Own w b cs t) (hv:cs[j]? = some v):w.cell? ⟨b,j,none⟩=some v:=by
 rw [cell_of_row w b _ _ _ _ h.2]; exact hv
theorem Ba {b o:Nat} {cs:aN} {t:TypeId} (h:Rg.Own w b cs t) (ho:o<cs.size) (p:aK) :
  (Instr.storeAt 35 (.pointer (some ⟨b,o,none⟩)) (tv p)).run prog w = .ok () (w.setCell ⟨b,o,none⟩ (.pointer p)):=by
 have hc:w.cell? ⟨b,o,none⟩=some cs[o]:=aV h (Array.getElem?_eq_getElem ho);exact run_storeAt_mid w b o 35 #[.pointer p] (λj hj=>by
  obtain rfl:j=0:=by simp at hj; exact hj
  exact ⟨by rw [Nat.add_zero,hc]; rfl,gV h⟩) (by rw [wT]; rfl) (by simp [Value.oneCell'])
theorem bg {rest:List Oper} {b off:Nat} {cs:aN} {t:TypeId} (h:Rg.Own w b cs t) (hof:off<cs.size) (p:aK)
  (hgd:o.guard=none) (x y:Operand) (ho:o.op = .store 35 x y) (hx:act.eval x = .pointer (some ⟨b,off,none⟩)) (hy:act.eval y=tv p)
  (hQ:∀ w',Rg.Own w' b (cs.setIfInBounds off (.pointer p)) t->Rg.Upd w b w'->wpList prog ops Q rest (act.put o.dst undef) w'):wpList prog ops Q (o::rest) act w :=
 wpList_plain hgd λK hK=>by
  unfold Oper.wp execOp;simp only [ho,hx,hy,Sem.run_bind,Sem.run_pure,Result.andThen_ok,Ba h hof p];exact hK _ _ (hQ _ (dx h _) (bO _ _ _ _))
theorem fD {a:Act} (hw:Region.wanted o (yielded ops a.tmps)=true) {b off:Nat} {cs:aN} {t:TypeId} (hg:Rg.Own w b cs t) (hof:off<cs.size) (p:aK)
  (ho:∃ x y,o.op = .store 35 x y/\a.eval x = .pointer (some ⟨b,off,none⟩)/\a.eval y=tv p)
  (h:∀ w',Rg.Own w' b (cs.setIfInBounds off (.pointer p)) t->Rg.Upd w b w'->K (a.put o.dst undef) w'):if Region.wanted o (yielded ops a.tmps)=true then Oper.wp prog o a w K Q else K (a.put o.dst undef) w:=by
 obtain ⟨x,y,ho,hx,hy⟩:=ho;refine Rg.want hw ?_;unfold Oper.wp execOp;simp only [ho,hx,hy,Sem.run_bind,Sem.run_pure,Result.andThen_ok,Ba hg hof p];exact h _ (dx hg _) (bO _ _ _ _)
theorem eY {fn:Func} {q:Tmp} (hf:fn.results = #[.cell q 35]) (tmps:aN) {b:Nat} (hp:tmps.getD q undef = .pointer (some ⟨b,0,none⟩)) (h:Rg.Own w b #[.pointer p] 35) :
  (results fn tmps).run prog w = .ok (tv p) w:=by
 have hp':tmps[q]?.getD undef = .pointer (some ⟨b,0,none⟩):=by simpa using hp
 simp [results,hf,hp',asAddr,xB (aV (j:=0) h rfl)]
theorem lX {fn:Func} {q u:Tmp} (hf:fn.results = #[.cell q 35,.tmp u]) (tmps:aN) {b:Nat} (hp:tmps.getD q undef = .pointer (some ⟨b,0,none⟩)) (h:Rg.Own w b #[.pointer p] 35) :
  (results fn tmps).run prog w = .ok (.tuple #[tv p,tmps.getD u undef]) w:=by
 have hp':tmps[q]?.getD undef = .pointer (some ⟨b,0,none⟩):=by simpa using hp
 simp [results,hf,hp',asAddr,xB (aV (j:=0) h rfl)]
theorem aX (ev:Operand->Value) (o:Oper) (w:World) (b:Nat) (hb:b=w.heap.size) (ho:o.op = .alloc 35) :
  (execOp ev o).run prog w = .ok (.value (.pointer (some ⟨b,0,none⟩))) (w.alloc (.cells #[.pointer none] 35)):=by
 subst hb;unfold execOp;rw [ho];kernel_rfl
theorem qX (a:aK) (n c:Nat) (p:Pa) (v:aL):prog.built 135 [(0,.int .i64 1),(1,.slice a n c),(2,.string v)]=some (iL (.leaf p v) a n c none 0 0 0 eB):=by kernel_rfl
theorem qD (a:aK) (n c:Nat) (ka:aK) (kn kc:Nat) (q:Pa) (t:T):prog.built 135 [(0,.int .i64 2),(1,.slice a n c),(3,.slice ka kn kc)]=some (iL (.ext q t) a n c ka kn kc 0 eB):=by kernel_rfl
theorem AB (ka:aK) (kn kc:Nat) (ks:Fin 16->T):prog.built 135 [(0,.int .i64 3),(3,.slice ka kn kc)]=some (iL (.br ks) none 0 0 ka kn kc 0 eB):=by kernel_rfl
theorem BO (r:aL):prog.built 135 [(0,.int .i64 (-1)),(5,.string r)]=some (iL (.stub r) none 0 0 none 0 0 0 r):=by kernel_rfl
theorem kP {t:T} {a:aK} {n c:Nat} {ka:aK} {kc:Nat} (ho:∃ x,o.op = .box 135 x/\ev x = .agg (iL t a n c ka kn kc d r)) :
  (execOp ev o).run prog w = .ok (.value (.pointer (some ⟨w.heap.size,0,none⟩))) (w.alloc (.cells (iL t a n c ka kn kc d r) 135)):=by
 obtain ⟨x,ho,hx⟩:=ho;unfold execOp;simp only [ho,hx];rfl
theorem zW {b:Nat} {cs:aN} {t:TypeId} (h:Rg.Own w b cs t) (hu:Rg.Upd w g w') (hne:b≠g):w'.heap[b]? = some (.cells cs t (0,0)):=(h.upd hu hne).2
theorem oI (M:Mp) (a:aK) (n c:Nat) (q:Pa) (v:aL) (w:World) (hi:Inv M w) (hB:Bs M w a n c q) :
  Calls prog 103 #[.slice a n c,.string v] w (dF M w (.leaf q v)):=by
 obtain ⟨w1,hw1⟩:=au (w.alloc (.cells #[.pointer none] 35))
 have hR:Rg.Own w1 w.heap.size #[.pointer none] 35:=by rw [hw1]; exact Rg.Own.new _ _ _
 have hb1:Below w.heap.size w w1:=by rw [hw1]; exact al1 _ _
 have hs1:w1.heap.size=w.heap.size+1:=by rw [hw1]; simp
 obtain ⟨w2,hw2⟩:=au (w1.alloc (.cells (iL (.leaf q v) a n c none 0 0 0 eB) 135))
 have hP:Rg.Own w2 w1.heap.size (iL (.leaf q v) a n c none 0 0 0 eB) 135:=by rw [hw2]; exact Rg.Own.new _ _ _
 have hb2:Below w1.heap.size w1 w2:=by rw [hw2]; exact al1 _ _
 have HR:=hid (hR.below hb2);have HE:Hid (∀ w3,Rg.Upd w2 w.heap.size w3->dF M w (.leaf q v) (.returned (tv (some ⟨w1.heap.size,0,none⟩))) w3):=hid (λw3 hu =>
  have hb:=hu.below (hb1.trans (hb2.mono hb1.size)) aG
  wG hi hb hb1.size (λe=>by cases e) (zW hP hu (by omega)) (hB.1.below hb) (λad e hn=>Or.inl (hB.2 ad e hn)) (Ks.nil _ _).weak)
 clear hR hb1 hb2 hP hi hB;subst hw2;subst hw1;go_enter func103,ntmps103;go_wp2_with (first
  | (refine aA (aX _ _ _ _ rfl rfl) ?_)
  | (refine aA (bV (qX a n c q v) ⟨_,rfl,rfl⟩) ?_)
  | (refine aA (kP ⟨_,rfl,rfl⟩) ?_)
  | (refine bg HR.out (by decide) (some ⟨w.heap.size+1,0,none⟩) rfl _ _ rfl rfl rfl ?_; intro w3 hO3 hu3; have aq:=hid hO3; have lA:=hid hu3; clear hO3 hu3))
 have:=HE.out w3 lA.out;rw [hs1] at this;exact bodyPost_ret (eY rfl _ rfl aq.out) rfl this
theorem Ng (b:Nat) (hb:b=w.heap.size) (ho:∃ x,o.op = .buildSlice 122 1 #[(0,x)]/\ev x=tv p) :
  (execOp ev o).run prog w = .ok (.value (.slice (some ⟨b,0,none⟩) 1 1)) (w.alloc (.cells (ou [p]) 35)):=by
 obtain ⟨x,ho,hx⟩:=ho;subst hb;unfold execOp;simp only [ho,List.map_toArray,List.map_cons,List.map_nil,hx];kernel_rfl
theorem nG (w:World) (p:aK):∃ w2,w2=(w.alloc (.cells #[.pointer p] 35)).alloc (.cells #[.pointer none] 35)/\Rg.Own w2 w.heap.size #[.pointer p] 35/\Rg.Own w2 (w.heap.size+1) #[.pointer none] 35/\Below w.heap.size w w2/\w2.heap.size=w.heap.size+2:=by
 refine ⟨_,rfl,(Rg.Own.new _ _ _).below (al1 _ _),?_,al2 _ _ _,by simp⟩;have:=Rg.Own.new (w.alloc (.cells #[.pointer p] 35)) #[.pointer none] 35;simpa using this
theorem kF (M:Mp) (ka:aK) (kn kc:Nat) (ks:Fin 16->T) (w:World) (hi:Inv M w) (hK:Ks M w ka kn kc (fU (.br ks))) :
  Calls prog 149 #[.slice ka kn kc] w (dF M w (.br ks)):=by
 obtain ⟨w1,hw1⟩:=au (w.alloc (.cells #[.pointer none] 35))
 have hR:Rg.Own w1 w.heap.size #[.pointer none] 35:=by rw [hw1]; exact Rg.Own.new _ _ _
 have hb1:Below w.heap.size w w1:=by rw [hw1]; exact al1 _ _
 have hs1:w1.heap.size=w.heap.size+1:=by rw [hw1]; simp
 obtain ⟨w2,hw2⟩:=au (w1.alloc (.cells (iL (.br ks) none 0 0 ka kn kc 0 eB) 135))
 have hP:Rg.Own w2 w1.heap.size (iL (.br ks) none 0 0 ka kn kc 0 eB) 135:=by rw [hw2]; exact Rg.Own.new _ _ _
 have hb2:Below w1.heap.size w1 w2:=by rw [hw2]; exact al1 _ _
 have HR:=hid (hR.below hb2);have HE:Hid (∀ w3,Rg.Upd w2 w.heap.size w3->dF M w (.br ks) (.returned (tv (some ⟨w1.heap.size,0,none⟩))) w3):=hid (λw3 hu =>
  have hb:=hu.below (hb1.trans (hb2.mono hb1.size)) aG
  wG hi hb hb1.size (λe=>by cases e) (zW hP hu (by omega)) (aZ.nil _) (λ_ e=>by cases e) (hK.fr hi (Fr.below M hb)).weak)
 clear hR hb1 hb2 hP hi hK;subst hw2;subst hw1;go_enter func149,ntmps149;go_wp2_with (first
  | (refine aA (aX _ _ _ _ rfl rfl) ?_)
  | (refine aA (bV (AB ka kn kc ks) ⟨_,rfl,rfl⟩) ?_)
  | (refine aA (kP ⟨_,rfl,rfl⟩) ?_)
  | (refine bg HR.out (by decide) (some ⟨w.heap.size+1,0,none⟩) rfl _ _ rfl rfl rfl ?_; intro w3 hO3 hu3; have aq:=hid hO3; have lA:=hid hu3; clear hO3 hu3))
 have:=HE.out w3 lA.out;rw [hs1] at this;exact bodyPost_ret (eY rfl _ rfl aq.out) rfl this
theorem vg (M:Mp) (a:aK) (n c:Nat) (q:Pa) (p:aK) (t:T) (w:World) (hi:Inv M w) (hB:Bs M w a n c q) (ht:IsT M p t) :
  Calls prog 151 #[.slice a n c,.agg #[.pointer p]] w (dF M w (wrap q t)):=by
 obtain ⟨w2,hw2,am,af,hb2,hs2⟩:=nG w p;have hl:=hB.1.len;have hlc:=hB.1.1;have hmx:=hB.1.2.1;unfold maxLen at hmx;have H0:=hid am;by_cases hn:n=0
 .subst hn;obtain rfl:q=[]:=List.eq_nil_of_length_eq_zero hl;have H1:=hid af;have HE:Hid (∀ w3,Rg.Upd w2 (w.heap.size+1) w3->dF M w (wrap [] t) (.returned (tv p)) w3):=hid (λw3 hu=>Wj hi ht (hu.below hb2 (by omega)));clear am af hb2 hs2 hB hi ht hl;subst hw2;go_enter func151,ntmps151;go_wp2_with (first
   | (refine aA (aX _ _ _ (w.heap.size+1) (by simp) rfl) ?_)
   | (refine aA (aU (aV (j:=0) H0.out rfl) ⟨_,rfl,rfl⟩) ?_)
   | (refine bg H1.out (by decide) p rfl _ _ rfl rfl rfl ?_; intro w3 hO3 hu3; have aq:=hid hO3; have lA:=hid hu3; clear hO3 hu3))
  exact bodyPost_ret (eY rfl _ rfl aq.out) rfl (HE.out w3 lA.out)
 .have hq:q≠[]:=λe=>hn (by rw [<-hl,e]; rfl);have hwr:wrap q t = .ext q t:=if_neg hq;rw [hwr];have hnz:((n:Int)==0)=false:=by simp; omega
  obtain ⟨w3,hw3⟩:=au (w2.alloc (.cells (ou [p]) 35))
  have hK:Rg.Own w3 w2.heap.size (ou [p]) 35:=by rw [hw3]; exact Rg.Own.new _ _ _
  have hb3:Below w2.heap.size w2 w3:=by rw [hw3]; exact al1 _ _
  have hs3:w3.heap.size=w.heap.size+3:=by rw [hw3]; simp [hs2]
  obtain ⟨w4,hw4⟩:=au (w3.alloc (.cells (iL (.ext q t) a n c (some ⟨w2.heap.size,0,none⟩) 1 1 0 eB) 135))
  have hP:Rg.Own w4 w3.heap.size (iL (.ext q t) a n c (some ⟨w2.heap.size,0,none⟩) 1 1 0 eB) 135:=by rw [hw4]; exact Rg.Own.new _ _ _
  have hb4:Below w3.heap.size w3 w4:=by rw [hw4]; exact al1 _ _
  have fm:Below w2.heap.size w2 w4:=hb3.trans (hb4.mono hb3.size);have H1:=hid (af.below fm);have H2:=hid (af);have HE:Hid (∀ w5,Rg.Upd w4 (w.heap.size+1) w5->dF M w (.ext q t) (.returned (tv (some ⟨w3.heap.size,0,none⟩))) w5):=hid (λw5 hu=>by
   have hb:=hu.below (hb2.trans (fm.mono hb2.size)) (show w.heap.size<=w.heap.size+1 by omega);refine wG hi hb (by omega) (λe=>by cases e) (zW hP hu (by omega)) (hB.1.below hb) (λad e hn=>Or.inl (hB.2 ad e hn)) ?_;exact Ks0.row (ps:=[p]) (b:=w2.heap.size) (by omega) ((hK.below hb4).upd hu (by omega)) rfl (by unfold maxLen; simp) (λj hj=>by
    obtain rfl:j=0:=by simp at hj; exact hj
    exact ht))
  rw [hs3] at HE;rw [hs2] at hw4;clear am af hb2 hb3 hb4 fm hP hK hB hi ht hwr hs3;subst hw4;subst hw3;subst hw2;clear hs2;go_enter func151,ntmps151;go_wp2_with (first
   | (refine aA (aX _ _ _ (w.heap.size+1) (by simp) rfl) ?_)
   | (refine aA (aU (aV (j:=0) H0.out rfl) ⟨_,rfl,rfl⟩) ?_)
   | (refine aA (Ng (p:=p) (w.heap.size+2) (by simp) ⟨_,rfl,rfl⟩) ?_)
   | (refine aA (bV (qD a n c (some ⟨w.heap.size+2,0,none⟩) 1 1 q t) ⟨_,rfl,rfl⟩) ?_)
   | (refine aA (kP ⟨_,rfl,rfl⟩) ?_)
   | (refine bg H1.out (by decide) (some ⟨w.heap.size+3,0,none⟩) rfl _ _ rfl rfl rfl ?_; intro w5 aE bd; have bh:=hid aE; have pC:=hid bd; clear aE bd))
  exact bodyPost_ret (eY rfl _ rfl bh.out) rfl (HE.out w5 pC.out)
def jX (w:World) (a:aK) (n c:Nat) (ps:List (aK)):Prop :=
 n<=c/\c<=maxLen/\ps.length=n/\(a=none->c=0)/\∀ j,j<n->∃ b off,a=some ⟨b,off,none⟩/\b<w.heap.size/\w.cell? ⟨b,off+j,none⟩=some (.pointer (ps.getD j none))
def Are (M:Mp) (ps:List (aK)) (l:List T):Prop:=ps.length=l.length/\∀ j,j<ps.length->IsT M (ps.getD j none) (l.getD j .nil)
theorem Ks.ptrs {M:Mp} {a:aK} {n c:Nat} {l:List T} (h:Ks M w a n c l):∃ ps,jX w a n c ps/\Are M ps l:=by
 have hp:∀ j,∃ p,j<n->∃ b off,a=some ⟨b,off,none⟩/\b<w.heap.size/\w.cell? ⟨b,off+j,none⟩=some (.pointer p)/\IsT M p (l.getD j .nil):=λj=>by
  by_cases hj:j<n
  .obtain ⟨b,off,p,e,hlt,_,hc,ht⟩:=h.at' j hj;exact ⟨p,λ_=>⟨b,off,e,hlt,hc,ht⟩⟩
  .exact ⟨none,λh=>absurd h hj⟩
 obtain ⟨F,hF⟩:∃ F:Nat->aK,∀ j,j<n->∃ b off,a=some ⟨b,off,none⟩/\b<w.heap.size/\w.cell? ⟨b,off+j,none⟩=some (.pointer (F j))/\IsT M (F j) (l.getD j .nil):=⟨λj=>Classical.choose (hp j),λj=>Classical.choose_spec (hp j)⟩
 have e:∀ j,j<n->((List.range n).map F).getD j none=F j:=λj hj=>by simp [List.getD,hj]
 refine ⟨(List.range n).map F,⟨h.1,h.2.1,by simp,h.2.2.2.1,λj hj=>?_⟩,by simp [h.len],λj hj=>?_⟩
 .obtain ⟨b,off,e1,hlt,hc,_⟩:=hF j hj;exact ⟨b,off,e1,hlt,by rw [e j hj]; exact hc⟩
 .have hj':j<n:=by simpa using hj
  obtain ⟨_,_,_,_,_,ht⟩:=hF j hj';rw [e j hj']; exact ht
theorem jX.ks {M:Mp} {a:aK} {n c:Nat} {ps:List (aK)} {l:List T} (h:jX w a n c ps) (ha:Are M ps l) (hf:∀ ad,a=some ad->0<n->M.ft ad.block):Ks M w a n c l:=by
 have hl:=h.2.2.1;refine ⟨h.1,h.2.1,by rw [<-ha.1]; exact hl,h.2.2.2.1,λj hj=>?_⟩;obtain ⟨b,off,e,hlt,hc⟩:=h.2.2.2.2 j hj;exact ⟨b,off,_,e,hlt,hf _ e (by omega),hc,ha.2 j (by omega)⟩
theorem jX.below {a:aK} {n c:Nat} {ps:List (aK)} (h:jX w a n c ps) (hb:Below w.heap.size w w'):jX w' a n c ps:=by
 refine ⟨h.1,h.2.1,h.2.2.1,h.2.2.2.1,λj hj=>?_⟩;obtain ⟨b,off,e,hlt,hc⟩:=h.2.2.2.2 j hj;exact ⟨b,off,e,aI hlt hb.size,by rw [hb.cell (p:=⟨b,off+j,none⟩) hlt]; exact hc⟩
theorem Are.mono {M M':Mp} {ps:List (aK)} {l:List T} (h:Are M ps l) (hm:∀ k t,M.at_ k=some t->M'.at_ k=some t):Are M' ps l:=⟨h.1,λj hj=>(h.2 j hj).mono hm⟩
theorem Are.set {M:Mp} {ps:List (aK)} {l:List T} (h:Are M ps l) (i:Nat) {t:T} (ht:IsT M p t):Are M (ps.set i p) (l.set i t):=by
 refine ⟨by simp [h.1],λj hj=>?_⟩;have hj':j<ps.length:=by simpa using hj
 have hjl:j<l.length:=by rw [<-h.1]; exact hj'
 by_cases e:i=j
 .subst e;rw [List.getD_eq_getElem?_getD,List.getD_eq_getElem?_getD,List.getElem?_set_self hj',List.getElem?_set_self hjl];exact ht
 .rw [List.getD_eq_getElem?_getD,List.getD_eq_getElem?_getD,List.getElem?_set_ne e,List.getElem?_set_ne e,<-List.getD_eq_getElem?_getD,<-List.getD_eq_getElem?_getD];exact h.2 j hj'
def RowK (w:World) (g cap:Nat) (ps:List (aK)):Prop :=
 ∃ cur,Rg.Own w g cur 35/\cur.size=cap/\ps.length<=cap/\cap<=maxLen/\∀ j,j<ps.length->cur[j]? = some (.pointer (ps.getD j none))
theorem RowK.lt {ps:List (aK)} (h:RowK w g cap ps):g<w.heap.size:=by
 obtain ⟨cur,hO,_⟩:=h;exact hO.1
theorem RowK.below {w w':World} {g cap:Nat} {ps:List (aK)} (h:RowK w g cap ps) (hb:Below w.heap.size w w'):RowK w' g cap ps:=by
 obtain ⟨cur,hO,h1⟩:=h;exact ⟨cur,hO.below hb,h1⟩
theorem RowK.upd {w w':World} {g b cap:Nat} {ps:List (aK)} (h:RowK w g cap ps) (hu:Rg.Upd w b w') (hne:g≠b):RowK w' g cap ps:=by
 obtain ⟨cur,hO,h1⟩:=h;exact ⟨cur,hO.upd hu hne,h1⟩
theorem RowK.ptrs {ps:List (aK)} (h:RowK w g cap ps):jX w (some ⟨g,0,none⟩) ps.length cap ps:=by
 obtain ⟨cur,hO,hs,hl,hm,hc⟩:=h;exact ⟨hl,hm,rfl,λe=>(by cases e),λj hj=>⟨g,0,rfl,hO.1,by rw [Nat.zero_add,cell_of_row w g _ _ _ _ hO.2]; exact hc j hj⟩⟩
theorem PN {ps:List (aK)} (hc:∀ j,j<ps.length->cur[j]? = some (.pointer (ps.getD j none))) (i:Nat) (p:aK) (hi:i<cur.size):∀ j,j<(ps.set i p).length->(cur.setIfInBounds i (.pointer p))[j]? = some (.pointer ((ps.set i p).getD j none)):=λj hj=>by
 have hj':j<ps.length:=by simpa using hj
 by_cases e:i=j
 .subst e;rw [List.getD_eq_getElem?_getD,List.getElem?_set_self hj'];simp [hi]
 .rw [List.getD_eq_getElem?_getD,List.getElem?_set_ne e,<-List.getD_eq_getElem?_getD,Array.getElem?_setIfInBounds_ne e];exact hc j hj'
theorem uF {rest:List Oper} {ps:List (aK)} (h:RowK w g cap ps) (hof:i<ps.length) (p:aK)
  (hgd:o.guard=none) (x y:Operand) (ho:o.op = .store 35 x y) (hx:act.eval x = .pointer (some ⟨g,i,none⟩)) (hy:act.eval y=tv p)
  (hQ:∀ w',RowK w' g cap (ps.set i p)->Rg.Upd w g w'->wpList prog ops Q rest (act.put o.dst undef) w'):wpList prog ops Q (o::rest) act w:=by
 obtain ⟨cur,hO,hs,hl,hm,hc⟩:=h;refine bg hO (off:=i) (by omega) p hgd x y ho hx hy (λw' nm hu=>hQ w' ⟨_,nm,by simp [hs],by simpa using hl,hm,PN hc i p (by omega)⟩ hu)
theorem Ko:(prog.info? 35).map (λi=>(i.size,i.bytes))=some (1,8):=by kernel_rfl
theorem Cy:((prog.info? 35).bind (·.zero)).map (·.cells)=some #[.pointer none]:=by kernel_rfl
theorem nH:∃ i z,prog.info? 35=some i/\i.zero=some z/\i.size=1/\i.bytes=8/\z.cells.size=1:=by
 have h1:=Ko;have h2:=Cy;cases hi:prog.info? 35 with
 | none=>rw [hi] at h1; simp at h1
 | some i =>
  rw [hi] at h1 h2;simp at h1 h2;cases hz:i.zero with
  | none=>rw [hz] at h2; simp at h2
  | some z =>
   rw [hz] at h2;simp at h2;exact ⟨i,z,rfl,hz,h1.1,h1.2,by rw [h2]; rfl⟩
theorem Gm (w:World):(binOp .eql 122 (.slice none 0 0) (.slice none 0 0)).run prog w = .ok (.bool true) w:=by kernel_rfl
theorem AQ (a:Addr) (n cap:Nat) (w:World):(binOp .eql 122 (.slice (some a) n cap) (.slice none 0 0)).run prog w = .ok (.bool false) w:=by kernel_rfl
theorem JR (w:World):Calls prog 130 #[.slice none 0 0] w λe w'=>e = .returned (.slice none 0 0)/\w=w':=by
 have hnil:=Gm;go_enter func130,ntmps130;go_wp2;go_ret;exact ⟨rfl,rfl⟩
def sH (w:World) (ps:List (aK)) (e:Ending) (w':World):Prop:=∃ g cap,e = .returned (.slice (some ⟨g,0,none⟩) ps.length cap)/\w.heap.size<=g/\RowK w' g cap ps/\Below w.heap.size w w'
theorem sI {ps:List (aK)} {n:Nat} (ho:w'.ownsRow w.heap.size 35 1 v n (ps.map Value.pointer)) (hl:ps.length=n) (hne:v ≠ .slice none 0 0) (hb:Below w.heap.size w w'):sH w ps (.returned v) w':=by
 rcases ho.2 with ⟨rfl,hz⟩ | ⟨g,cap,cur,rfl,hbg,hg,hnc,hcm,hcs,htake⟩
 .exact absurd rfl hne
 .subst hl;refine ⟨g,cap,rfl,hbg,⟨cur,⟨(Array.getElem?_eq_some_iff.1 hg).1,hg⟩,by omega,hnc,hcm,λj hj=>?_⟩,hb⟩;have h1:(ps.map Value.pointer)[j]? = some (.pointer (ps.getD j none)):=by simp [List.getD,hj]
  rw [<-htake,List.getElem?_take,if_pos (by omega)] at h1;simpa using h1
theorem Bj (ad:Addr) (n cap:Nat) (ps:List (aK)) (w:World) (h:jX w (some ad) n cap ps) (hn:n<=1000000) :
  Calls prog 130 #[.slice (some ad) n cap] w (sH w ps):=by
 obtain ⟨i0,z0,hi,hz,hs,hby,hzc⟩:=nH;have HI:Hid (_/\_/\_/\_/\_):=hid ⟨hi,hz,hs,hby,hzc⟩;have hl:=h.2.2.1;have hcell:∀ j u,(ps.map Value.pointer)[j]? = some u->(ad.add j).block<w.heap.size/\w.cell? (ad.add j)=some u:=λj u hu=>by
  have hj:j<n:=by rw [<-hl]; have:=(List.getElem?_eq_some_iff.1 hu).1; simpa using this
  obtain ⟨b,off,e,hlt,hc⟩:=h.2.2.2.2 j hj;obtain rfl:=Option.some.inj e;have hx:u = .pointer (ps.getD j none):=by
   have hj':j<ps.length:=by omega
   simp [hj'] at hu;simp [List.getD,hj',hu]
  rw [Addr.add_mid,hx];exact ⟨hlt,hc⟩
 have HC:=hid hcell;have HL:=hid hl;have hnil:=AQ ad n cap;clear hi hz hs hby hzc h hcell hl;go_enter func130,ntmps130;have HO:Hid ((w.alloc (.cells #[] 35)).ownsRow w.heap.size 35 1 (.slice (some ⟨w.heap.size,0,none⟩) 0 0) 0 []):=hid (World.ownsRow_made w #[] 0 aG (Nat.zero_le _) (by simp))
 go_wp2_with (at_builtin; refine wpList_append_own _ rfl _ _ 122 rfl w.heap.size 35 i0 z0 1 8 underlying122 HI.out.1 HI.out.2.1 HI.out.2.2.1 HI.out.2.2.2.1 HI.out.2.2.2.2 (by decide) _ _ _ rfl HO.out ad n cap (ps.map Value.pointer) rfl (by simp [HL.out]) ?c2 ?c6 ?c3 ?c4 ?c5 ?_)
 case c2 =>
  intro j u hu;rw [(al1 w _).cell (HC.out j u hu).1];exact (HC.out j u hu).2
 case c6 =>
  intro u hu;simp at hu;obtain ⟨x,_,rfl⟩:=hu;rfl
 case c3=>unfold maxLen; omega
 case c4=>omega
 case c5=>simp
 intro v' w2 hown2 hgrow hnil';have HG:Hid (sH w ps (.returned v') w2):=hid (sI (by simpa using hown2) HL.out hnil' ((al1 w _).grown hgrow (by simp) (λk hk=>by simp [Value.ownBlock] at hk; omega)));clear hown2 hgrow hnil';go_wp2;go_ret;exact HG.out
open Ni
open Pk
theorem um:∀ x y:aM,jQ x y=cp x y
 | [],_=>rfl
 | _::_,[]=>rfl
 | a::xs,b::ys=>by
  unfold jQ cp;rw [um xs ys]
theorem Bq:∀ {q p:Pa},q<+:p->cp q p=q.length
 | [],_,_=>rfl
 | a::q,[],h=>by simp at h
 | a::q,b::p,h=>by
  obtain ⟨rfl,h2⟩:=List.cons_prefix_cons.1 h;unfold cp;rw [if_pos rfl,Bq h2]; rfl
theorem Am:∀ {q p:Pa},¬ q<+:p->cp q p<q.length
 | [],_,h=>absurd List.nil_prefix h
 | a::q,[],_=>by simp [cp]
 | a::q,b::p,h=>by
  unfold cp;by_cases e:a=b
  .subst e;rw [if_pos rfl];have:=Am (q:=q) (p:=p) (λg=>h (List.cons_prefix_cons.2 ⟨rfl,g⟩));simp; omega
  .rw [if_neg e]; simp
theorem yM (w:World) (q:Nat):Below w.heap.size w (w.drewN q):=below_drewN aH q
theorem pX (a b:aK) (n m c d:Nat) (x y:Pa) (hn:n<=1000000) (hm:m<=1000000) (hle:n<=m) (w:World) (ha:aZ w a n c x) (hb:aZ w b m d y) :
  Calls prog 113 #[.slice a n c,.slice b m d] w λe w'=>e = .returned (.int .i64 (cp x y:Nat))/\Below w.heap.size w w':=by
 have HC:=hid (rE a b n m c d x y hn hm w ha hb);have hx:=ha.len;have hl:cp x y<=n:=by rw [<-hx]; exact Vo x y
 rw [um] at HC;obtain ⟨k,hk⟩:=ay (cp x y)
 rw [hk] at HC hl ⊢;clear hk ha hb hx;by_cases h:k=m
 .subst h;have h2:decide ((k:Int)<(n:Int))=false:=by simp; omega
  have h1:((k:Int)==(k:Int))=true:=by simp
  go_enter func113,ntmps113;go_wp2_with fail
  refine HC.out.mono ?_;rintro e w1 ⟨rfl,q,rfl⟩;go_wp2;go_ret;exact ⟨rfl,yM _ _⟩
 .have h1:((k:Int)==(m:Int))=false:=by simp; omega
  go_enter func113,ntmps113;go_wp2_with fail
  refine HC.out.mono ?_;rintro e w1 ⟨rfl,q,rfl⟩;go_wp2;go_ret;exact ⟨rfl,yM _ _⟩
theorem Inv.path {M:Mp} (hi:Inv M w) {b:Nat} {t:T} (hm:M.at_ b=some t):∃ a n c,w.cell? ⟨b,1,none⟩=some (.slice a n c)/\Bs M w a n c (bW t):=by
 obtain ⟨a,n,c,ka,kn,kc,d,r,hb,hB,_⟩:=hi.part hm;exact ⟨a,n,c,(kH hb).1.2.1,hB⟩
theorem Inv.val {M:Mp} (hi:Inv M w) {b:Nat} {t:T} (hm:M.at_ b=some t):w.cell? ⟨b,2,none⟩=some (.string (ER t)):=by
 obtain ⟨a,n,c,ka,kn,kc,d,r,hb,_⟩:=hi.part hm;exact (kH hb).1.2.2.1
theorem Inv.kids {M:Mp} (hi:Inv M w) {b:Nat} {t:T} (hm:M.at_ b=some t):∃ a n c,w.cell? ⟨b,3,none⟩=some (.slice a n c)/\Ks M w a n c (fU t):=by
 obtain ⟨a,n,c,ka,kn,kc,d,r,hb,_,hk,_⟩:=hi.part hm;exact ⟨ka,kn,kc,(kH hb).1.2.2.2,hk⟩
theorem Cq (M:Mp) (b:Nat) (t:T) (hm:M.at_ b=some t) (a:aK) (n c:Nat) (way:Pa) (w:World) (hi:Inv M w) (hB:aZ w a n c way) (hle:(bW t).length<=n) (hn:n<=1000) :
  Calls prog 69 #[.agg #[.pointer (some ⟨b,0,none⟩)],.slice a n c] w λe w' =>
   e=(if bW t<+:way then .returned (.slice (dY a c (bW t).length) (n-(bW t).length) (c-(bW t).length)) else .panicked [fI 7])/\Below w.heap.size w w':=by
 have hi1:=hi.below (al1 w (.cells #[.pointer (some ⟨b,0,none⟩)] 35));obtain ⟨pa,pn,pc,c1,hP,_⟩:=hi1.path hm;have h0:=fG w (some ⟨b,0,none⟩);have hl:=hP.len;have hcap:=hB.1;have hmx:=hB.2.1;unfold maxLen at hmx;have HA:=hid (pX pa a pn n pc c (bW t) way (by omega) (by omega) (by omega) _ hP (hB.alloc (.cells #[.pointer (some ⟨b,0,none⟩)] 35)));rw [hl] at hle ⊢;have ww:Hid (∀ X Y:Ending,(if bW t<+:way then X else Y)=if cp (bW t) way=pn then X else Y):=hid (λX Y=>by
  by_cases h:bW t<+:way
  .rw [if_pos h,if_pos ((Bq h).trans hl)]
  .rw [if_neg h,if_neg (by have:=Am h; omega)])
 rw [ww.out];have hkl:cp (bW t) way<=pn:=by rw [<-hl]; exact Vo _ _
 obtain ⟨k,hk⟩:=ay (cp (bW t) way)
 rw [hk] at HA hkl ⊢;clear ww hk hP hB hi hi1 hl hm;by_cases h:k=pn
 .subst h;rw [if_pos rfl];have h2:decide ((k:Int)<(k:Int))=false:=by simp
  go_enter func69,ntmps69;go_wp2_with fail
  refine HA.out.mono ?_;rintro e w1 ⟨rfl,hb1⟩;have h0':=aW hb1 h0;have c1':=aW hb1 c1;have HB:=hid (bst (al1 _ _) hb1);clear h0 c1 hb1;go_wp2_with (refine aA (jL gI jv hle ⟨_,_,rfl,rfl,rfl⟩) ?_)
  go_ret;exact ⟨rfl,HB.out⟩
 .rw [if_neg h];have h2:decide ((k:Int)<(pn:Int))=true:=by simp; omega
  go_enter func69,ntmps69;go_wp2_with fail
  refine HA.out.mono ?_;rintro e w1 ⟨rfl,hb1⟩;have h0':=aW hb1 h0;have c1':=aW hb1 c1;have HB:=hid (bst (al1 _ _) hb1);clear h0 c1 hb1;go_wp2;simp [bodyPost,fI];exact HB.out
theorem FJ (M:Mp) (b:Nat) (t:T) (hm:M.at_ b=some t) (a:aK) (n c:Nat) (way:Pa) (w:World) (hi:Inv M w) (hB:aZ w a n c way) (hle:(bW t).length=n) (hn:n<=1000) :
  Calls prog 70 #[.agg #[.pointer (some ⟨b,0,none⟩)],.slice a n c] w λe w' =>
   e=(if bW t=way then .returned (.tuple #[]) else .panicked [fI 7])/\Below w.heap.size w w':=by
 have h0:=fG w (some ⟨b,0,none⟩);have HP:=hid (Cq M b t hm a n c way (w.alloc (.cells #[.pointer (some ⟨b,0,none⟩)] 35)) (hi.below (al1 _ _)) (hB.alloc _) (by omega) hn);have ww:Hid (bW t<+:way↔bW t=way):=hid ⟨λh=>h.eq_of_length (by rw [hle,hB.len]),λh=>by rw [h]; exact List.prefix_rfl⟩;have HX:Hid (∀ X Y:Ending,(if bW t<+:way then X else Y)=if bW t=way then X else Y):=hid (λX Y=>by
  by_cases h:bW t=way
  .rw [if_pos h,if_pos (ww.out.2 h)]
  .rw [if_neg h,if_neg (λg=>h (ww.out.1 g))])
 rw [HX.out,hle] at HP;clear hi hB HX ww hm;by_cases h:bW t=way
 .rw [if_pos h] at HP ⊢;have h2:decide (0<((n-n:Nat):Int))=false:=by simp
  clear h;go_enter func70,ntmps70;go_wp2_with (refine aA (aU h0 ⟨_,rfl,rfl⟩) ?_)
  refine HP.out.mono ?_;rintro e w1 ⟨rfl,hb1⟩;have HB:=hid (bst (al1 _ _) hb1);clear h0 hb1;go_wp2;go_end0;exact ⟨rfl,HB.out⟩
 .rw [if_neg h] at HP ⊢;clear h;go_enter func70,ntmps70;go_wp2_with (refine aA (aU h0 ⟨_,rfl,rfl⟩) ?_)
  refine HP.out.mono ?_;rintro e w1 ⟨rfl,hb1⟩;have HB:=hid (bst (al1 _ _) hb1);clear h0 hb1;go_wp2;simp [bodyPost];exact HB.out
theorem kY (a:aK) (n c:Nat) (way:Pa) (hn:1<=n) (w:World) (hB:aZ w a n c way) :
  Calls prog 68 #[.slice a n c] w λe w'=>e = .returned (.tuple #[.int .u8 (way.getD 0 0).toNat,.slice (dY a c 1) (n-1) (c-1)])/\Below w.heap.size w w':=by
 obtain ⟨b,off,rfl,hlt,hc⟩:=hB.at' 0 (by omega);rw [Nat.add_zero] at hc;have hcap:=hB.1;have hmx:=hB.2.1;unfold maxLen at hmx;obtain ⟨x,hx⟩:=ay ((way.getD 0 0).toNat)
 rw [hx] at hc ⊢;have hnz:((n:Int)==0)=false:=by simp; omega
 have hn0:0<n:=hn;clear hB hx;go_enter func68,ntmps68;go_wp2_with fail
 refine aC (S:=λw'=>Below w.heap.size w w') (aH.drew) λhld=>?_;refine ah 0 ?_;try simp only [Act.put,ak]
 refine ah 1 ?_;try simp only [Act.put,ak]
 refine aD 2 (λwz hSw=>(hSw.cell (p:=⟨b,off,none⟩) hlt).trans hc) ?_;try simp only [Act.put,ak]
 refine ah 3 ?_;try simp only [Act.put,ak]
 refine ah 4 ?_ (hy:=by intro wz hSw; (refine jL (a:=some ⟨b,off,none⟩) (n:=n) (c:=c) (i:=1) gI jv hn ?_; exact ⟨_,_,rfl,rfl,rfl⟩));try simp only [Act.put,ak]
 refine ah 5 ?_;try simp only [Act.put,ak]
 refine ah 6 ?_;try simp only [Act.put,ak]
 refine aB ?_;go_wp2;exact bodyPost_ret (results_tmp2 rfl _ _ _) rfl ⟨rfl,hld⟩
theorem Fr.upd {M M':Mp} (f:Fr M M' w w1) (hu:Rg.Upd w1 g w') (hg:w.heap.size<=g):Fr M M' w w' :=
 ⟨hu.os.trans f.os,hu.tape.trans f.tape,hu.output.trans f.output,by rw [hu.size]; exact f.size,λk hk hm=>(hu.block k (by omega)).trans (f.block k hk hm),f.mono,f.fresh,f.grow,f.foot⟩
theorem finish {M M1:Mp} {w3 w4:World} {t:T} {e:Ending} {cs:aN} (hi:Inv M w) (f3:Fr M M1 w w3) (b3:Below w.heap.size w w3) (hG:dF M1 w3 t e w4)
  (hO3:Rg.Own w3 g cs ty) (hne:∀ (j:Nat) (x:Int),cs[j]? ≠ some (Value.int .u8 x)) (hg:w.heap.size<=g) (hg1:¬ M1.ft g) :
  ∃ p,e = .returned (tv p)/\Rg.Own w4 g cs ty/\∀ w5,Rg.Upd w4 g w5->dF M w t (.returned (tv p)) w5:=by
 obtain ⟨p,M',he,ht,f,i,b⟩:=hG;have hbw:=b3.trans (b.mono b3.size);exact ⟨p,he,hO3.below b,λw5 hu=>⟨p,M',rfl,ht,(f3.trans hi f).upd hu hg,i.upd hu (f.box hg1 hO3.1 (dH hO3 hne)),hu.below hbw hg⟩⟩
theorem kG {M:Mp} {b:Nat} {t:T} (hi:Inv M w) (hm:M.at_ b=some t):IsT M (some ⟨b,0,none⟩) t:=⟨b,rfl,hm,(hi.part_ b t hm).1⟩
theorem UJ (M:Mp) (b:Nat) (q:Pa) (u:aL) (hm:M.at_ b=some (.leaf q u)) (k:Nat) (hk:k<=q.length) (w:World) (hi:Inv M w) :
  Calls prog 172 #[.agg #[.pointer (some ⟨b,0,none⟩)],.int .i64 k] w (dF M w (.leaf (q.drop k) u)):=by
 obtain ⟨w2,hw2,am,af,hb2,hs2⟩:=nG w (some ⟨b,0,none⟩);have hi2:=hi.below hb2;obtain ⟨pa,pn,pc,c1,hP⟩:=hi2.path hm;have c2:=hi2.val hm;have hl:q.length=pn:=hP.1.len;have hcap:=hP.1.1;have hmx:=hP.1.2.1;unfold maxLen at hmx;rw [hl] at hk;have HK:=hid (dN M _ _ w2 hi2 (kG hi2 hm));have HL:Hid (∀ w3,Below w2.heap.size w2 w3->Calls prog 103 #[.slice (dY pa pc k) (pn-k) (pc-k),.string u] w3 (dF M w3 (.leaf (q.drop k) u))):=hid (λw3 hb3 =>
  oI M _ _ _ _ _ w3 (hi2.below hb3) ((hP.fr hi2 (Fr.below M hb3)).from' k hk))
 have H0:=hid am;have HF:Hid (∀ w3,Below w2.heap.size w2 w3->∀ e w4,dF M w3 (.leaf (q.drop k) u) e w4->∃ p,e = .returned (tv p)/\Rg.Own w4 (w.heap.size+1) #[.pointer none] 35/\∀ w5,Rg.Upd w4 (w.heap.size+1) w5->dF M w (.leaf (q.drop k) u) (.returned (tv p)) w5):=hid (λw3 hb3 e w4 hG =>
  finish hi (Fr.below M (bst hb2 hb3)) (bst hb2 hb3) hG (af.below hb3) (iY _) (by omega) (hi.free (by omega)))
 have c2':w2.cell? ⟨b,2,none⟩=some (.string u):=c2;have h0:=aV (j:=0) am rfl;have HC:Hid (∀ w3,Below w2.heap.size w2 w3->w3.cell? ⟨w.heap.size,0,none⟩=some (.pointer (some ⟨b,0,none⟩))/\w3.cell? ⟨b,2,none⟩=some (.string u)):=hid (λw3 hb3=>⟨aW hb3 h0,aW hb3 c2'⟩);clear am af hb2 hs2 hi hi2 hP c2 c2' hl;subst hw2;go_enter func172,ntmps172;go_wp2_with (first
  | (refine aA (aX _ _ _ (w.heap.size+1) (by simp) rfl) ?_)
  | (refine aA (jL gI jv hk ⟨_,_,rfl,rfl,rfl⟩) ?_)
  | (refine aA (aU (aV (j:=0) H0.out rfl) ⟨_,rfl,rfl⟩) ?_))
 refine HK.out.mono ?_;rintro e w3 ⟨rfl,hb3⟩;obtain ⟨d0,d2⟩:=HC.out w3 hb3;have fg:=hid (HL.out w3 hb3);have ge:=hid (HF.out w3 hb3);clear hb3 HC HL HF h0 c1;unfold dO;go_wp2_with fail
 refine fg.out.mono ?_;intro e w4 hG;obtain ⟨p,rfl,hO4,hE⟩:=ge.out e w4 hG;have b8:=hid hO4;have HE:=hid hE;clear hG hO4 hE ge fg;go_wp2_with (refine bg b8.out (by decide) p rfl _ _ rfl rfl rfl ?_; intro w5 aE bd; have bh:=hid aE; have pC:=hid bd; clear aE bd)
 exact bodyPost_ret (eY rfl _ rfl bh.out) rfl (HE.out w5 pC.out)
theorem XB (M:Mp) (b:Nat) (q:Pa) (s:T) (hm:M.at_ b=some (.ext q s)) (k:Nat) (hk:k<=q.length) (w:World) (hi:Inv M w) :
  Calls prog 172 #[.agg #[.pointer (some ⟨b,0,none⟩)],.int .i64 k] w (dF M w (wrap (q.drop k) s)):=by
 obtain ⟨w2,hw2,am,af,hb2,hs2⟩:=nG w (some ⟨b,0,none⟩);have hi2:=hi.below hb2;obtain ⟨pa,pn,pc,c1,hP⟩:=hi2.path hm;obtain ⟨ka,kn,kc,c3,hK⟩:=hi2.kids hm;obtain ⟨kb,ko,p0,rfl,cI,gm,hk0,hT0⟩:=hK.at' 0 (by rw [<-hK.len]; exact Nat.one_pos);have hkn:kn=1:=hK.len.symm;have hkc:=hK.1;have hkm:=hK.2.1;unfold maxLen at hkm;rw [Nat.add_zero] at hk0;have bi:IsT M p0 s:=hT0;have hl:q.length=pn:=hP.1.len;have hcap:=hP.1.1;have hmx:=hP.1.2.1;unfold maxLen at hmx;rw [hl] at hk;have HK:=hid (dN M _ _ w2 hi2 (kG hi2 hm));have h0:=aV (j:=0) am rfl
 have H3:Hid (∀ w3,Below w2.heap.size w2 w3->Calls prog 151 #[.slice (dY pa pc k) (pn-k) (pc-k),.agg #[.pointer p0]] w3 (dF M w3 (wrap (q.drop k) s))/\(∀ e w9,dF M w3 (wrap (q.drop k) s) e w9->∃ p,e = .returned (tv p)/\Rg.Own w9 (w.heap.size+1) #[.pointer none] 35/\∀ ag,Rg.Upd w9 (w.heap.size+1) ag->dF M w (wrap (q.drop k) s) (.returned (tv p)) ag)/\
   w3.cell? ⟨w.heap.size,0,none⟩=some (.pointer (some ⟨b,0,none⟩))/\w3.cell? ⟨b,3,none⟩=some (.slice (some ⟨kb,ko,none⟩) kn kc)/\w3.cell? ⟨kb,ko,none⟩=some (.pointer p0)):=hid (λw3 hb3 =>
  ⟨vg M _ _ _ _ _ _ w3 (hi2.below hb3) ((hP.fr hi2 (Fr.below M hb3)).from' k hk) bi,
   λe w9 hG=>finish hi (Fr.below M (bst hb2 hb3)) (bst hb2 hb3) hG (af.below hb3) (iY _) (by omega) (hi.free (by omega)),
   aW hb3 h0,aW hb3 c3,aW hb3 hk0⟩)
 have H0:=hid am;clear am af hb2 hs2 hi hi2 hP hl hK hT0 bi c3 hk0 h0;subst hw2;go_enter func172,ntmps172;go_wp2_with (first
  | (refine aA (aX _ _ _ (w.heap.size+1) (by simp) rfl) ?_)
  | (refine aA (jL gI jv hk ⟨_,_,rfl,rfl,rfl⟩) ?_)
  | (refine aA (aU (aV (j:=0) H0.out rfl) ⟨_,rfl,rfl⟩) ?_))
 refine HK.out.mono ?_;rintro e w3 ⟨rfl,hb3⟩;obtain ⟨HB,HF,d0,d3,e0⟩:=H3.out w3 hb3;replace HB:=hid HB;replace HF:=hid HF;clear hb3 H3 c1;unfold dO;go_wp2_with (refine aA (aU e0 ⟨_,rfl,rfl⟩) ?_)
 refine HB.out.mono ?_;intro e w9 hG;obtain ⟨p9,rfl,ce,hE⟩:=HF.out e w9 hG;have cW:=hid ce;have HE:=hid hE;clear hG ce hE;go_wp2_with (refine bg cW.out (by decide) p9 rfl _ _ rfl rfl rfl ?_; intro ag ai al; have bu:=hid ai; have em:=hid al; clear ai al)
 exact bodyPost_ret (eY rfl _ rfl bu.out) rfl (HE.out ag em.out)
theorem fK (ks:Fin 16->T):(fU (.br ks)).length=16:=by simp [fU]
theorem kL (ks:Fin 16->T) (i:Fin 16):(fU (.br ks)).getD i.val .nil=ks i:=by
 have hi:=i.isLt;show ((List.finRange 16).map ks).getD i.val .nil=ks i;rw [List.getD_eq_getElem?_getD,List.getElem?_map,List.getElem?_eq_getElem (by simp)];simp
theorem xW (ks:Fin 16->T) (i:Fin 16) (t:T):(fU (.br ks)).set i.val t=fU (.br λj=>if j=i then t else ks j):=by
 apply List.ext_getElem?;intro j;by_cases hj:j<16
 .have h1:=kL (λj=>if j=i then t else ks j) ⟨j,hj⟩;have h2:=kL ks ⟨j,hj⟩;have hl1:j<(fU (.br ks)).length:=by rw [fK]; exact hj
  have hl2:j<(fU (.br λj=>if j=i then t else ks j)).length:=by rw [fK]; exact hj
  rw [List.getD_eq_getElem?_getD,List.getElem?_eq_getElem hl2] at h1;rw [List.getD_eq_getElem?_getD,List.getElem?_eq_getElem hl1] at h2;rw [List.getElem?_eq_getElem hl2];by_cases e:i.val=j
  .subst e;rw [List.getElem?_set_self hl1];simp only [Option.getD_some] at h1;rw [h1]; simp
  .rw [List.getElem?_set_ne e,List.getElem?_eq_getElem hl1];have:(⟨j,hj⟩:Fin 16)≠i:=λh=>e (by rw [<-h]);simp only [Option.getD_some] at h1 h2;rw [h1,h2,if_neg this]
 .rw [List.getElem?_eq_none (by rw [List.length_set,fK]; omega),List.getElem?_eq_none (by rw [fK]; omega)]
theorem YJ (w:World) (p q:aK):∃ w2,w2=((w.alloc (.cells #[.pointer p] 35)).alloc (.cells #[.pointer q] 35)).alloc (.cells #[.pointer none] 35)/\Rg.Own w2 w.heap.size #[.pointer p] 35/\Rg.Own w2 (w.heap.size+1) #[.pointer q] 35/\Rg.Own w2 (w.heap.size+2) #[.pointer none] 35/\Below w.heap.size w w2/\w2.heap.size=w.heap.size+3:=by
 have h2:=Rg.Own.new (w.alloc (.cells #[.pointer p] 35)) #[.pointer q] 35;have h3:=Rg.Own.new ((w.alloc (.cells #[.pointer p] 35)).alloc (.cells #[.pointer q] 35)) #[.pointer none] 35;rw [show (w.alloc (.cells #[.pointer p] 35)).heap.size=w.heap.size+1 by simp] at h2;rw [show ((w.alloc (.cells #[.pointer p] 35)).alloc (.cells #[.pointer q] 35)).heap.size=w.heap.size+2 by simp] at h3
 exact ⟨_,rfl,((Rg.Own.new _ _ _).below (al1 _ _)).below (al1 _ _),h2.below (al1 _ _),h3,(al2 _ _ _).alloc (by simp; omega) _,by simp⟩
theorem Lg (M:Mp) (b:Nat) (ks:Fin 16->T) (hm:M.at_ b=some (.br ks)) (i:Fin 16) (p:aK) (t:T) (ht:IsT M p t) (w:World) (hi:Inv M w) :
  Calls prog 101 #[.agg #[.pointer (some ⟨b,0,none⟩)],.int .u8 i.val,.agg #[.pointer p]] w (dF M w (.br λj=>if j=i then t else ks j)):=by
 obtain ⟨w2,hw2,am,af,hO2,hb2,hs2⟩:=YJ w (some ⟨b,0,none⟩) p;have hi2:=hi.below hb2;obtain ⟨ka,kn,kc,c3,hK⟩:=hi2.kids hm;have hkn:kn=16:=by rw [<-hK.len]; exact fK ks
 subst hkn;obtain ⟨ps,MT,lm⟩:=hK.ptrs;obtain ⟨kb,ko,p0,rfl,_⟩:=hK.at' 0 (by omega);have hpl:ps.length=16:=MT.2.2.1;have HC:Hid (Calls prog 130 #[.slice (some ⟨kb,ko,none⟩) 16 kc] w2 λe w'=>∃ g cap,e = .returned (.slice (some ⟨g,0,none⟩) 16 cap)/\w2.heap.size<=g/\RowK w' g cap ps/\Below w2.heap.size w2 w'):=hid (by
  have:=Bj ⟨kb,ko,none⟩ 16 kc ps w2 MT (by omega);refine this.mono ?_;rintro e w' ⟨g,cap,rfl,h1,h2,h3⟩;exact ⟨g,cap,by rw [hpl],h1,h2,h3⟩)
 have hlt:=i.isLt;have hiv:((bY i).toNat:Nat)=i.val:=jA i;obtain ⟨k,hk⟩:=ay i.val
 have H3:Hid (∀ g cap w4,w2.heap.size<=g->RowK w4 g cap ps->Below w2.heap.size w2 w4->Rg.Own w4 (w.heap.size+1) #[.pointer p] 35/\16<=cap/\cap<=maxLen/\∀ w5,RowK w5 g cap (ps.set k p)->Rg.Upd w4 g w5->∃ M5,
   Calls prog 149 #[.slice (some ⟨g,0,none⟩) 16 cap] w5 (dF M5 w5 (.br λj=>if j=i then t else ks j))/\
   ∀ e w9,dF M5 w5 (.br λj=>if j=i then t else ks j) e w9->∃ p,e = .returned (tv p)/\Rg.Own w9 (w.heap.size+2) #[.pointer none] 35/\∀ ag,Rg.Upd w9 (w.heap.size+2) ag->dF M w (.br λj=>if j=i then t else ks j) (.returned (tv p)) ag):=hid (λg cap w4 hg hR hb4=>by
  refine ⟨af.below hb4,by have:=hR.ptrs.1; omega,hR.ptrs.2.1,λw5 nv hu=>?_⟩;have hbw:=hu.below (bst hb2 hb4) (show w.heap.size<=g by omega);have hi5:Inv (plus M (λk=>k=g)) w5:=(hi.below hbw).plus (λk hk=>by rw [hk]; exact nv.lt);have wt:Ks (plus M (λk=>k=g)) w5 (some ⟨g,0,none⟩) 16 cap (fU (.br λj=>if j=i then t else ks j)):=by
   have h1:=nv.ptrs;rw [List.length_set,hpl] at h1;rw [<-xW,hk];exact h1.ks ((lm.set k ht).mono λ_ _ h=>h) (λad e _=>by
    obtain rfl:=Option.some.inj e;exact Or.inr rfl)
  have aE:=(hO2.below hb4).upd hu (by omega);exact ⟨plus M (λk=>k=g),kF _ _ _ _ _ w5 hi5 wt,λe w9 hG=>finish hi ((Fr.below M hbw).plus (λk hk=>Or.inl (by omega))) hbw hG aE (iY _) (by omega) (λh=>h.elim (hi.free (by omega)) (λh=>by omega))⟩)
 rw [hk] at hlt ⊢;have h0:=aV (j:=0) am rfl;have j6:=hid hpl;clear am af hO2 hb2 hs2 hi hi2 hK MT lm ht hpl hiv hk hm;obtain ⟨R,hRr⟩:=ay (T.br λj=>if j=i then t else ks j)
 rw [hRr] at H3 ⊢;clear hRr;subst hw2;go_enter func101,ntmps101;go_wp2_with (refine aA (aX _ _ _ (w.heap.size+2) (by simp) rfl) ?_)
 refine HC.out.mono ?_;rintro e w4 ⟨g,cap,rfl,hg,hR,hb4⟩;obtain ⟨hO4,hcap,hcm,H5⟩:=H3.out g cap w4 hg hR hb4;unfold maxLen at hcm;replace H5:=hid H5;have b8:=hid hO4;have HR4:=hid hR;clear H3 HC hg hR hb4 hO4 c3 h0;go_wp2_with (first
  | (refine aA (aU (aV (j:=0) b8.out rfl) ⟨_,rfl,rfl⟩) ?_)
  | (refine uF HR4.out (i:=k) (by rw [j6.out]; exact hlt) p rfl _ _ rfl rfl rfl ?_; intro w5 nv bd; have dp:=hid nv; have pC:=hid bd; clear nv bd))
 obtain ⟨M5,HB,HF⟩:=H5.out w5 dp.out pC.out;replace HB:=hid HB;replace HF:=hid HF;clear H5 b8 HR4 dp pC;refine HB.out.mono ?_;intro e w9 hG;obtain ⟨p9,rfl,ce,hE⟩:=HF.out e w9 hG;have cW:=hid ce;have HE:=hid hE;clear hG ce hE;go_wp2_with (refine bg cW.out (by decide) p9 rfl _ _ rfl rfl rfl ?_; intro ag ai al; have bu:=hid ai; have em:=hid al; clear ai al)
 exact bodyPost_ret (eY rfl _ rfl bu.out) rfl (HE.out ag em.out)
structure St (M:Mp) (w:World) (M':Mp) (w':World):Prop where
 f:Fr M M' w w'
 i:Inv M' w'
 b:Below w.heap.size w w'
 i0:Inv M w
theorem St.refl {M:Mp} {w:World} (hi:Inv M w):St M w M w:=⟨Fr.refl _ _,hi,aH,hi⟩
theorem St.below {M M1:Mp} {w w1 w2:World} (s:St M w M1 w1) (h:Below w1.heap.size w1 w2):St M w M1 w2:=⟨s.f.trans s.i0 (Fr.below M1 h),s.i.below h,bst s.b h,s.i0⟩
theorem St.got {M M1:Mp} {t:T} {e:Ending} (s:St M w M1 w1) (h:dF M1 w1 t e w2):∃ p M2,e = .returned (tv p)/\IsT M2 p t/\St M w M2 w2/\Fr M1 M2 w1 w2/\Below w1.heap.size w1 w2:=by
 obtain ⟨p,M2,he,ht,f,i,b⟩:=h;exact ⟨p,M2,he,ht,⟨s.f.trans s.i0 f,i,bst s.b b,s.i0⟩,f,b⟩
theorem St.upd {M M1:Mp} {w w1 w2:World} {g:Nat} (s:St M w M1 w1) (hu:Rg.Upd w1 g w2) (hg:w.heap.size<=g) (hf:¬ M1.ft g):St M w M1 w2:=⟨s.f.upd hu hg,s.i.upd hu hf,hu.below s.b hg,s.i0⟩
theorem St.plus {M M1:Mp} {w w1:World} (s:St M w M1 w1) {S:Nat->Prop} (hS:∀ k,S k->(w.heap.size<=k\/gG w k)/\k<w1.heap.size):St M w (Tm.plus M1 S) w1:=⟨s.f.plus λk hk=>(hS k hk).1,s.i.plus λk hk=>(hS k hk).2,s.b,s.i0⟩
theorem St.bytes {M M1:Mp} (s:St M w M1 w1) {a:aK} {n c:Nat} {l:aM} (h:aZ w1 a n c l):St M w (Tm.plus M1 (inS a n)) w1:=s.plus λk hk=>⟨by
  obtain ⟨⟨j,x,hc⟩,_⟩:=wD h hk;exact gG.below ⟨j,x,hc⟩ s.b,(wD h hk).2⟩
structure Bx (M:Mp) (w:World) (g:Nat) (cs:aN) (t:TypeId):Prop where
 o:Rg.Own w g cs t
 n:¬ M.ft g
 h:∀ (j:Nat) (x:Int),cs[j]? ≠ some (Value.int .u8 x)
theorem Bx.got {M M':Mp} {cs:aN} {t:TypeId} (h:Bx M w g cs t) (f:Fr M M' w w') (b:Below w.heap.size w w'):Bx M' w' g cs t:=⟨h.o.below b,f.box h.n h.o.1 (dH h.o h.h),h.h⟩
theorem Bx.upd {M:Mp} {w w':World} {g b:Nat} {cs:aN} {t:TypeId} (h:Bx M w g cs t) (hu:Rg.Upd w b w') (hne:g≠b):Bx M w' g cs t:=⟨h.o.upd hu hne,h.n,h.h⟩
theorem Bx.below {M:Mp} {w w':World} {g:Nat} {cs:aN} {t:TypeId} (h:Bx M w g cs t) (b:Below w.heap.size w w'):Bx M w' g cs t:=⟨h.o.below b,h.n,h.h⟩
theorem Bx.plus {M:Mp} {cs:aN} {t:TypeId} (h:Bx M w g cs t) (hS:¬ S g):Bx (Tm.plus M S) w g cs t:=⟨h.o,λe=>e.elim h.n hS,h.h⟩
structure Rx (M:Mp) (w:World) (g:Nat) (ps:List (aK)):Prop where
 o:Rg.Own w g (ou ps) 35
 n:¬ M.ft g
 m:ps.length<=maxLen
theorem Yo (ps:List (aK)):∀ (j:Nat) (x:Int),(ou ps)[j]? ≠ some (Value.int .u8 x):=λj x h=>by
 simp [ou] at h
theorem Rx.got {M M':Mp} {ps:List (aK)} (h:Rx M w g ps) (f:Fr M M' w w') (b:Below w.heap.size w w'):Rx M' w' g ps:=⟨h.o.below b,f.box h.n h.o.1 (dH h.o (Yo ps)),h.m⟩
theorem Rx.below {M:Mp} {w w':World} {g:Nat} {ps:List (aK)} (h:Rx M w g ps) (b:Below w.heap.size w w'):Rx M w' g ps:=⟨h.o.below b,h.n,h.m⟩
theorem Ja (ps:List (aK)) (i:Nat) (p:aK):(ou ps).setIfInBounds i (.pointer p)=ou (ps.set i p):=by
 unfold ou;rw [List.map_set];simp
theorem Rx.ks {M:Mp} {ps:List (aK)} {l:List T} (h:Rx M w g ps) (ha:Are M ps l):Ks (Tm.plus M (λk=>k=g)) w (some ⟨g,0,none⟩) ps.length ps.length l:=by
 refine ⟨aG,h.m,ha.1.symm,λe=>(by cases e),λj hj=>⟨g,0,_,rfl,h.o.1,Or.inr rfl,?_,Af (ha.2 j hj)⟩⟩;rw [Nat.zero_add,cell_of_row w g _ _ _ _ h.o.2];simp [ou,List.getD,hj]
theorem uL {a:Act} {M:Mp} (hw:Region.wanted o (yielded ops a.tmps)=true) {ps:List (aK)} (h:Rx M w g ps) (hof:i<ps.length) (p:aK)
  (ho:∃ x y,o.op = .store 35 x y/\a.eval x = .pointer (some ⟨g,i,none⟩)/\a.eval y=tv p)
  (hQ:∀ w',Rx M w' g (ps.set i p)->Rg.Upd w g w'->K (a.put o.dst undef) w'):if Region.wanted o (yielded ops a.tmps)=true then Oper.wp prog o a w K Q else K (a.put o.dst undef) w :=
 fD hw h.o (off:=i) (by simpa [ou] using hof) p ho (λw' nm hu=>hQ w' ⟨by rw [<-Ja]; exact nm,h.n,by simpa using h.m⟩ hu)
def uw:List (aK):=List.replicate 16 none
theorem pJ:uw.length=16:=rfl
theorem EB (b:Nat) (hb:b=w.heap.size) (ho:∃ x y,o.op = .makeSlice 122 x y/\ev x = .int .i64 16/\ev y = .int .i64 16) :
  (execOp ev o).run prog w = .ok (.value (.slice (some ⟨b,0,none⟩) 16 16)) (w.alloc (.cells (ou uw) 35)):=by
 obtain ⟨x,y,ho,hx,hy⟩:=ho;subst hb;unfold execOp;rw [ho];dsimp only;rw [hx,hy];kernel_rfl
theorem QV (j:Nat):uw.getD j none=none:=by
 unfold uw;rw [List.getD_eq_getElem?_getD,List.getElem?_replicate];split <;> rfl
theorem Mh (j:Nat):(List.replicate 16 T.nil).getD j T.nil=T.nil:=by
 rw [List.getD_eq_getElem?_getD,List.getElem?_replicate];split <;> rfl
theorem Tw (M:Mp):Are M uw (List.replicate 16 .nil):=⟨rfl,λj hj=>by rw [QV,Mh]; exact rfl⟩
theorem Xq (i j:Fin 16) (a b:T) (hij:i≠j):((List.replicate 16 T.nil).set i.val a).set j.val b=fU (two i j a b):=by
 have e:List.replicate 16 T.nil=fU (.br λ_=>.nil):=by
  show List.replicate 16 T.nil=(List.finRange 16).map (λ_=>T.nil);rfl
 rw [e,xW,xW];unfold two;congr 2;funext k;by_cases h1:k=j
 .subst h1;rw [if_pos rfl,if_neg (λe=>hij e.symm),if_pos rfl]
 .rw [if_neg h1,if_neg h1]
structure Bo (g:Nat) (w w':World):Prop where
 size:w.heap.size<=w'.heap.size
 block:∀ k,k<w.heap.size->k≠g->w'.heap[k]? = w.heap[k]?
 os:w'.os=w.os
 tape:w'.tape=w.tape
 output:w'.output=w.output
theorem Bo.of (h:Below w.heap.size w w'):Bo g w w':=⟨h.size,λk hk _=>h.block k hk,h.os,h.tape,h.output⟩
theorem Bo.then (h:Bo g w w1) (hb:Below w1.heap.size w1 w2):Bo g w w2:=⟨Nat.le_trans h.size hb.size,λk hk hg=>(hb.block k (aI hk h.size)).trans (h.block k hk hg),hb.os.trans h.os,hb.tape.trans h.tape,hb.output.trans h.output⟩
theorem Bo.upd (h:Bo g w w1) (hu:Rg.Upd w1 g w2):Bo g w w2:=⟨by rw [hu.size]; exact h.size,λk hk hg=>(hu.block k hg).trans (h.block k hk hg),hu.os.trans h.os,hu.tape.trans h.tape,hu.output.trans h.output⟩
theorem Bo.below {B:Nat} {w0:World} (h:Bo g w w') (hb:Below B w0 w) (hB:B<=w.heap.size) (hg:B<=g):Below B w0 w':=⟨h.os.trans hb.os,h.tape.trans hb.tape,h.output.trans hb.output,Nat.le_trans hb.size h.size,λk hk=>(h.block k (by omega) (by omega)).trans (hb.block k hk)⟩
theorem gy (h:Bo g w w') {b o:Nat} (hne:b≠g) (hc:w.cell? ⟨b,o,none⟩=some v):w'.cell? ⟨b,o,none⟩=some v:=by
 rw [<-hc];exact World.cell?_of_block (w:=w) (h.block b (World.block_lt_of_cell? w _ hc) hne)
end Tm
end
section
open Go.RowKit
namespace Ky
open Ni
def kc (k:aM):aN:=(k.map λb=>Value.int .u8 b.toNat).toArray
theorem jN (k:aM):(kc k).size=k.length:=by simp [kc]
theorem IQ:(prog.info? 24).map (·.size)=some 32:=by kernel_rfl
theorem kD (k:aM) (h:k.length=32):(prog.info? 24).map (·.size)=some (kc k).size:=by rw [jN,h]; exact IQ
def cZ (k:aM):aM:=Ni.ig ⟨k.toArray⟩
theorem wC (k:aM) (hk:k.length=32) (w:World) :
  Calls prog 38 #[.agg (kc k)] w (UM w (cZ k)):=by
 have h0:aZ (w.alloc (.cells (kc k) 24)) (some ⟨w.heap.size,0,none⟩) k.length k.length k:=aZ.new w k (by unfold maxLen; omega) _ _ rfl;rw [hk] at h0;have hcv:=kW h0;obtain ⟨s,hs⟩:=ay (⟨k.toArray⟩:aL)
 have hsz:s.size=32:=by rw [<-hs]; show k.toArray.size=32; simp [hk]
 have HP:Hid (cZ k=Ni.ig s):=hid (by unfold cZ; rw [hs]);have IS:=hid (λwx=>Ni.Cg s (by omega) wx);rw [hs] at hcv;obtain ⟨C,hC⟩:=ay (kc k)
 rw [hC] at hcv ⊢;clear h0 hs hC hsz hk;go_enter func38,ntmps38;go_wp2_with fail
 refine (IS.out _).mono ?_;rintro e w1 ⟨a,n,cap,rfl,hx,hb⟩;go_wp2;go_ret;exact ⟨a,n,cap,rfl,by rw [HP.out]; exact hx,((Below.refl w.heap.size w).alloc aG _).trans (hb.mono (by simp))⟩
def zk:aM:=List.replicate 32 0
theorem fC {P:Program} {rest:List Oper} {a:Act} (hgd:o.guard=none) (v:Value) (w':World)
  (hr:(execOp a.eval o).run P w = .ok (.value v) w') (h:wpList P ops Q rest (a.put o.dst v) w'):wpList P ops Q (o::rest) a w :=
 wpList_plain hgd λK hK=>by
  unfold Oper.wp;rw [hr];exact hK _ _ h
theorem CZ (ev:Operand->Value) (o:Oper) (ho:o.op = .alloc 24) (w:World) :
  (execOp ev o).run prog w = .ok (.value (.pointer (some ⟨w.heap.size,0,none⟩))) (w.alloc (.cells (kc zk) 24)):=by
 unfold execOp;rw [ho];kernel_rfl
theorem XA:(kc zk).size=32:=by rw [jN]; rfl
theorem jd (k:aM) (hk:k.length=32):(cZ k).length=64:=by
 unfold cZ;rw [gL];show 2*k.toArray.size=64;simp [hk]
def pc (k:aM) (j:Nat):List Value:=((cZ k).take j).map λx=>Value.int .u8 x.toNat
theorem Xb (k:aM) (hk:k.length=32) (j:Nat) (hj:j<64) (V:Int) (hV:V=(dX ⟨k.toArray⟩ j:Nat)):pc k (j+1)=pc k j++[.int .u8 V]:=by
 unfold pc;rw [sD _ _ (by rw [jd k hk]; exact hj),List.map_append,List.map_cons,List.map_nil];have:((cZ k).getD j 0).toNat=dX ⟨k.toArray⟩ j:=mH _ _ (by show j<2*k.toArray.size; simp [hk]; omega);rw [this,hV]
theorem SA (k:aM) (j:Nat) (h:j%2=0):dX ⟨k.toArray⟩ j=(k.getD (j/2) 0).toNat/16:=by unfold dX; rw [if_pos h]
theorem WT (k:aM) (j:Nat) (h:¬ j%2=0):dX ⟨k.toArray⟩ j=(k.getD (j/2) 0).toNat%16:=by unfold dX; rw [if_neg h]
theorem Dq (k:aM) (i:Nat) (hi:i<k.length) (w:World):(part 5 (kc k) i).run prog w = .ok (.int .u8 (k.getD i 0).toNat) w:=by
 have hagg:(isAgg 5).run prog w = .ok false w:=by
  unfold isAgg;rw [Sem.run_bind,run_underlying underlying5 w];simp
 have hg:(kc k)[i]? = some (.int .u8 (k.getD i 0).toNat):=by simp [kc,List.getD,hi]
 unfold part;rw [Sem.run_bind,hagg];simp [hg]
theorem Jp:prog.cellsOf 5=1:=by kernel_rfl
theorem Pj:prog.eqGuardType prog.depth 24=false:=by kernel_rfl
theorem Ai (k:aM):dh (cZ k)=true:=sF _
theorem Gn (ev:Operand->Value) (o:Oper) (x:Operand) (w:World) (g:Nat) (l:aM) (ho:o.op = .load 24 x) (hx:ev x = .pointer (some ⟨g,0,none⟩)) (hr:(loadVar 24 ⟨g,0,none⟩).run prog w = .ok (.agg (kc l)) w) :
  (execOp ev o).run prog w = .ok (.value (.agg (kc l))) w:=by
 unfold execOp;simp only [ho,hx,Instr.loadAt,Instr.sureAddr,Sem.run_bind,Sem.run_pure,Result.andThen_ok,hr]
theorem LK (w:World) (g:Nat) (l:aM) (hl:l.length=32) (hg:w.heap[g]? = some (.cells (kc l) 24 (0,0))):(loadVar 24 ⟨g,0,none⟩).run prog w = .ok (.agg (kc l)) w :=
 run_loadVar_row (P:=prog) w g 24 24 (kc l) (0,0) _ hg underlying24 rfl (kD l hl)
end Ky
end
end Go.Proofs.YtoipgepkhomfgaaGreatDoor
