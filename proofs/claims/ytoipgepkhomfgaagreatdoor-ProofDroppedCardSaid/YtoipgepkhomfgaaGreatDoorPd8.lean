/-
 Contracts of node.Reference, node.fits, node.Check, node.Get: of any bytes.
-/
import Derived.Test.YtoipgepkhomfgaaGreatDoorPd7
import Derived.Lib.ConvBytes
open Go.Lib (hid)
open Go.Proofs.Tryz
set_option linter.unusedSimpArgs false
set_option linter.unusedVariables false
set_option maxHeartbeats 40000000
set_option maxRecDepth 100000
namespace Go.Proofs.YtoipgepkhomfgaaGreatDoor
variable {L cap g i j kn:Nat} {v:Value} {w w' w1 w2:World} {o:Oper} {S:Nat->Prop} {p:aK} {o':Obj} {d:Int} {r:aL} {ev:Operand->Value} {ops:Array Oper} {act:Act} {Q:Exit->Act->World->Prop} {K:Act->World->Prop} {cur:aN} {ty:TypeId}
section
open Go.RowKit
namespace No
open Rl Ni
def mK (k:aL):Prop:=∀ w:World,Calls prog 134 #[.string k] w λe w'=>e = .returned (.bool (bW k))/\Below w.heap.size w w'
def Fv (w:World) (r:Option Nd) (e:Ending) (w':World):Prop:=∃ (N:Nd) (a:aK) (n c:Nat) (er:Int),e = .returned (.tuple #[.agg (ndC N a n c),.int .i64 er])/\(er=0/\r=some N\/er≠0/\N=nd0/\r=none)/\
 BsF w.heap.size w' a n c N.p/\N.ks.length=16/\Below w.heap.size w w'
def Qg (s:aL):Prop:=∀ w:World,Calls prog 152 #[.string s] w (Fv w (sO s.data.toList))
theorem SC (s:aL) (h:Qg s) (w:World):Calls prog 165 #[.string s] w λe w'=>e = .returned (.bool (sO s.data.toList).isSome)/\Below w.heap.size w w':=by
 have HG:=hid (h w);obtain ⟨r,hr⟩:=ay (sO s.data.toList)
 rw [hr] at HG ⊢;clear h hr;go_enter func165,ntmps165;go_wp2_with fail
 refine HG.out.mono ?_;rintro e w3 ⟨N,a3,n3,c3,er,rfl,hr3,hx3,hl3,hb3⟩;have HO:Hid (dZ (w3.alloc (.cells (ndC nd0 none 0 0) 69)) w3.heap.size nd0 none 0 0):=hid (Rg.Own.new _ _ _);have HB:=hid (bst hb3 (al1 w3 (.cells (ndC nd0 none 0 0) 69)));have HL:=hid hl3;have hge:=hb3.size;clear hx3 hl3 hb3 HG;rcases hr3 with ⟨rfl,rfl⟩ | ⟨he,rfl,rfl⟩
 .go_wp2_with (first
   | (refine aA (bD _ _ _ w3.heap.size rfl rfl) ?_)
   | (refine bH HO.out rfl N a3 n3 c3 HL.out rfl _ _ rfl rfl rfl rfl ?_))
  go_ret;exact ⟨rfl,bZ HB.out hge _⟩
 .have hd:(er==0)=false:=by simp; exact he
  go_wp2_with (first
   | (refine aA (bD _ _ _ w3.heap.size rfl rfl) ?_)
   | (refine bH HO.out rfl nd0 a3 n3 c3 HL.out rfl _ _ rfl rfl rfl rfl ?_))
  go_ret;exact ⟨rfl,bZ HB.out hge _⟩
theorem Kr (k:aL) (hk:k.size<=9223372036854775807) (h:k.size<32->Qg k):mK k:=by
 intro w;have HP:=hid (wF k w);cases hp:dN k with
 | true =>
  have HF:Hid (bW k=true):=hid (by unfold bW; rw [hp]; rfl);rw [hp] at HP;rw [HF.out];clear h hp;go_enter func134,ntmps134;go_wp2_with fail
  refine HP.out.mono ?_;rintro e w3 ⟨rfl,rfl⟩;go_wp2;go_ret;exact ⟨rfl,aH⟩
 | false =>
  rw [hp] at HP;by_cases h32:k.size<32
  .have HF:Hid (bW k=(sO k.data.toList).isSome):=hid (by unfold bW; rw [hp]; simp [h32]);have HG:=hid (SC k (h h32) w);rw [<-HF.out] at HG;clear h hp HF;go_enter func134,ntmps134;go_wp2_with fail
   refine HP.out.mono ?_;rintro e w3 ⟨rfl,rfl⟩;go_wp2_with fail
   refine HG.out.mono ?_;rintro e w4 ⟨rfl,hb4⟩;have HB:=hid hb4;clear hb4;go_wp2;go_ret;exact ⟨rfl,HB.out⟩
  .have HF:Hid (bW k=false):=hid (by unfold bW; rw [hp]; simp [h32]);rw [HF.out];clear h hp;go_enter func134,ntmps134;go_wp2_with fail
   refine HP.out.mono ?_;rintro e w3 ⟨rfl,rfl⟩;go_wp2;go_ret;exact ⟨rfl,aH⟩
theorem Ve (k:aL) (h:mK k) (w:World):Calls prog 136 #[.string k] w λe w'=>e = .returned (.bool (!bW k))/\Below w.heap.size w w':=by
 have HG:=hid (h w);obtain ⟨r,hr⟩:=ay (bW k)
 rw [hr] at HG ⊢;clear h hr;go_enter func136,ntmps136;go_wp2_with fail
 refine HG.out.mono ?_;rintro e w3 ⟨rfl,hb3⟩;have HB:=hid hb3;clear hb3;go_wp2;go_ret;exact ⟨rfl,HB.out⟩
def MH (w:World) (xs:List aL) (e:Ending) (w':World):Prop:=∃ r:Int,e = .returned (.int .i64 r)/\-1<=r/\r<=9223372036854775807/\decide (0<=r) = !xs.all bW/\Below w.heap.size w w'
theorem TH {xs:List aL} (hj:j<xs.length) (h:(xs.take j).all bW=true) (hk:bW (xs.getD j eB)=true):(xs.take (j+1)).all bW=true:=by
 have e:xs.getD j eB=xs[j]:=by simp [List.getD,hj]
 rw [List.take_succ_eq_append_getElem hj,List.all_append,h,List.all_cons,List.all_nil,<-e,hk];rfl
theorem QO (xs:List aL) (hR:∀ k∈xs,mK k) (a:aK) (n cap:Nat) (w:World) (h:fO w a n cap xs) :
  Calls prog 60 #[.slice a n cap,.func (Fn.func 136) #[] #[]] w (MH w xs):=by
 have hm:=h.2.1;have hnc:=h.1;have hl:=h.len;unfold maxLen at hm;have H:=hid h;have HL:=hid hl;have HR:=hid hR;clear h hl hR;go_enter func60,ntmps60;go_wp2;go_loopw [8] (λi wr=>∃ j:Nat,j<=n/\i = .int .i64 j/\Hid ((xs.take j).all bW=true)/\Hid (Below w.heap.size w wr)) (λi _=>n-(intOf i).toNat)
 case atStart=>exact ⟨0,Nat.zero_le _,rfl,hid rfl,hid aH⟩
 case round =>
  obtain ⟨j,hj,rfl,HJ,HB⟩:=hrel;by_cases hlt:j<n
  .obtain ⟨b,off,rfl,hblt,hc⟩:=H.out.at' j hlt;have hc':=(Below.cell (p:=⟨b,off+j,none⟩) HB.out hblt).trans hc;have HM:Hid (xs.getD j eB∈xs):=hid (by
    have hj':j<xs.length:=by rw [HL.out]; exact hlt
    have e:xs.getD j eB=xs[j]:=by simp [List.getD,hj']
    rw [e]; exact List.getElem_mem hj')
   have HC:=hid (Ve _ (HR.out _ HM.out) wr);have HT:Hid (bW (xs.getD j eB)=true->(xs.take (j+1)).all bW=true):=hid (TH (by rw [HL.out]; exact hlt) HJ.out);obtain ⟨K,hK⟩:=ay (xs.getD j eB)
   rw [hK] at HC HM HT hc';clear hK hc HJ;go_wp2_with fail
   refine HC.out.mono ?_;rintro e w5 ⟨rfl,hb5⟩;have aa:=hid (bst HB.out hb5);clear hb5 HC HB hc';cases hf:bW K with
   | true =>
    have s9:=hid (HT.out hf);clear HT hf;go_wp2;go_roundw
    case rel=>exact ⟨j+1,by omega,by go_num,s9,aa⟩
    case measure=>simp [intOf]; omega
   | false =>
    have HF:Hid (xs.all bW=false):=hid (by rw [List.all_eq_false]; exact ⟨K,HM.out,by rw [hf]; simp⟩);clear HT hf;go_wp2;go_ret;exact ⟨(j:Int),rfl,by omega,by omega,by rw [HF.out]; simp,aa.out⟩
  .obtain rfl:j=n:=by omega
   have HF:Hid (xs.all bW=true):=hid (by have:=HJ.out; rw [List.take_of_length_le (by rw [HL.out]; exact aG)] at this; exact this);go_wp2;go_ret;exact ⟨-1,rfl,by decide,by decide,by rw [HF.out]; rfl,HB.out⟩
theorem FX (xs:List aL) (hR:∀ k∈xs,mK k) (a:aK) (n cap:Nat) (w:World) (h:fO w a n cap xs) :
  Calls prog 135 #[.slice a n cap,.func (Fn.func 136) #[] #[]] w λe w'=>e = .returned (.bool (!xs.all bW))/\Below w.heap.size w w':=by
 have HI:=hid (QO xs hR a n cap w h);unfold MH at HI;obtain ⟨F,hF⟩:=ay (!xs.all bW)
 rw [hF] at HI ⊢;clear h hR hF;go_enter func135,ntmps135;go_wp2_with fail
 refine HI.out.mono ?_;rintro e w3 ⟨r,rfl,h1,h2,h3,hb3⟩;have HB:=hid hb3;have H3:=hid h3;clear hb3 HI h3;go_wp2;go_ret;exact ⟨by rw [<-H3.out]; rfl,HB.out⟩
theorem UU (N:Nd) (a:aK) (n c:Nat) (hl:N.ks.length=16) (hp:N.p.length=n) (hm:n<=maxLen) (hv:N.v.size<=maxLen) (hR:∀ k∈N.ks,mK k) (w:World) :
  Calls prog 91 #[.agg (ndC N a n c)] w λe w'=>e = .returned (.bool (kV bW N))/\Below w.heap.size w w':=by
 have HO:Hid (dZ (w.alloc (.cells (ndC N a n c) 69)) w.heap.size N a n c):=hid (Rg.Own.new _ _ _);have HK:=hid (RY N a n c hl (w.alloc (.cells (ndC N a n c) 69)));have il:Hid (mK (N.ks.getD 0 eB)):=hid (hR _ (by rw [List.getD_eq_getElem?_getD,List.getElem?_eq_getElem (by omega)]; exact List.getElem_mem _));have HRK:Hid (∀ k∈bF N.ks,mK k):=hid (λk hk=>hR k (List.mem_filter.1 hk).1);have HL:=hid hl;have HU:=hid (rfl:kV bW N=kV bW N);unfold kV at HU;unfold maxLen at hm hv;rw [hp] at HU;obtain ⟨F,hF⟩:=ay (kV bW N)
 have HF:Hid (F=if N.kd=1 then decide (N.v.size≠0)&&decide (N.v.size<=65552)&&decide ((bF N.ks).length=0) else
  if N.kd=2 then decide (0<n)&&decide (N.v.size=0)&&decide ((bF N.ks).length=1)&&decide ((N.ks.getD 0 eB).size≠0)&&bW (N.ks.getD 0 eB) else
  if N.kd=3 then decide (n=0)&&decide (N.v.size=0)&&decide (2<=(bF N.ks).length)&&(bF N.ks).all bW else false):=hid (by
   rw [<-hF];unfold kV;rw [hp])
 rw [hF];clear HU hF hR hl hp;by_cases hkd:N.kd=1
 .rw [if_pos hkd] at HF;go_enter func91,ntmps91;go_wp2_with (refine aA (bR HO.out HL.out ?_) ?_; · exact ⟨_,rfl,rfl⟩)
  refine HK.out.mono ?_;rintro e w3 ⟨a3,n3,qS,rfl,hs3,hb3⟩;have hO3:=HO.out.below hb3;obtain ⟨c0,c1,c2⟩:=dD hO3;have ck:w3.cell? ⟨w.heap.size,3,none⟩=some (.string (N.ks.getD 0 eB)):=wB hO3 HL.out 0 (by decide);have ec:=hs3.len;have oE:=hs3.2.1;have ua:=hs3.1;unfold maxLen at oE;have cn:=hid hs3;have HB3:=hid (oP (yg hb3));rw [ec] at HF;rw [hkd] at c0;clear hs3 hb3 hO3 HK ec;by_cases hv0:N.v.size=0
  .have o0:=dP hv0;rw [o0] at c2;go_wp2;go_ret;exact ⟨by rw [HF.out]; simp [hv0],HB3.out⟩
  .have U0:=Ni.dJ (s:=N.v) (by omega);by_cases hv2:N.v.size<=65552
   .by_cases hk3:n3=0
    .subst hk3;go_wp2;go_ret;exact ⟨by rw [HF.out]; simp [hv0,hv2],HB3.out⟩
    .go_wp2;go_ret;exact ⟨by rw [HF.out]; simp [hv0,hv2,hk3],HB3.out⟩
   .go_wp2;go_ret;exact ⟨by rw [HF.out]; simp [hv0,hv2],HB3.out⟩
 .rw [if_neg hkd] at HF;have hk1:(N.kd==1)=false:=by simp; exact hkd
  clear hkd;by_cases hkd:N.kd=2
  .rw [if_pos hkd] at HF;go_enter func91,ntmps91;go_wp2_with (refine aA (bR HO.out HL.out ?_) ?_; · exact ⟨_,rfl,rfl⟩)
   refine HK.out.mono ?_;rintro e w3 ⟨a3,n3,qS,rfl,hs3,hb3⟩;have hO3:=HO.out.below hb3;obtain ⟨c0,c1,c2⟩:=dD hO3;have ck:w3.cell? ⟨w.heap.size,3,none⟩=some (.string (N.ks.getD 0 eB)):=wB hO3 HL.out 0 (by decide);have ec:=hs3.len;have oE:=hs3.2.1;have ua:=hs3.1;unfold maxLen at oE;have cn:=hid hs3;have HB3:=hid (oP (yg hb3));rw [ec] at HF;rw [hkd] at c0;clear hs3 hb3 hO3 HK ec;by_cases hn0:0<n
   .by_cases hv0:N.v.size=0
    .have o0:=dP hv0;rw [o0] at c2;by_cases hk3:n3=1
     .subst hk3;obtain ⟨K,hK⟩:=ay (N.ks.getD 0 eB)
      rw [hK] at HF ck il;clear hK;by_cases hz:K.size=0
      .obtain rfl:=dP hz;go_wp2;go_ret;exact ⟨by rw [HF.out]; rw [show decide (eB.size≠0)=false from rfl,Bool.and_false,Bool.false_and]; rfl,HB3.out⟩
      .have hkn:=Ni.dJ (s:=K) (by omega);go_wp2_with fail
       refine (il.out _).mono ?_;rintro e w4 ⟨rfl,hb4⟩;have bc:=hid (bst HB3.out hb4);obtain ⟨rb,hrb⟩:=ay (bW K)
       rw [hrb] at HF ⊢;clear hb4 hrb;go_wp2;go_ret;exact ⟨by rw [HF.out]; simp [hn0,hz,hv0],bc.out⟩
     .go_wp2;go_ret;exact ⟨by rw [HF.out]; simp [hk3],HB3.out⟩
    .have U0:=Ni.dJ (s:=N.v) (by omega);go_wp2;go_ret;exact ⟨by rw [HF.out]; simp [hv0],HB3.out⟩
   .obtain rfl:n=0:=by omega
    go_wp2;go_ret;exact ⟨by rw [HF.out]; simp,HB3.out⟩
  .rw [if_neg hkd] at HF;have hk2:(N.kd==2)=false:=by simp; exact hkd
   clear hkd;by_cases hkd:N.kd=3
   .rw [if_pos hkd] at HF;go_enter func91,ntmps91;go_wp2_with (refine aA (bR HO.out HL.out ?_) ?_; · exact ⟨_,rfl,rfl⟩)
    refine HK.out.mono ?_;rintro e w3 ⟨a3,n3,qS,rfl,hs3,hb3⟩;have hO3:=HO.out.below hb3;obtain ⟨c0,c1,c2⟩:=dD hO3;have ck:w3.cell? ⟨w.heap.size,3,none⟩=some (.string (N.ks.getD 0 eB)):=wB hO3 HL.out 0 (by decide);have ec:=hs3.len;have oE:=hs3.2.1;have ua:=hs3.1;unfold maxLen at oE;have cn:=hid hs3;have HB3:=hid (oP (yg hb3));rw [ec] at HF;rw [hkd] at c0;clear hs3 hb3 hO3 HK ec;by_cases hn0:n=0
    .subst hn0;by_cases hv0:N.v.size=0
     .have o0:=dP hv0;rw [o0] at c2;by_cases hk3:2<=n3
      .have pH:=hid (λw4 hb4=>FX (bF N.ks) HRK.out a3 n3 qS w4 (cn.out.below hb4));obtain ⟨KL,ke⟩:=ay ((bF N.ks).all bW)
       rw [ke] at HF pH;clear ke;go_wp2_with fail
       refine (pH.out _ aH).mono ?_;rintro e w4 ⟨rfl,hb4⟩;have bc:=hid (bst HB3.out hb4);clear hb4;go_wp2;go_ret;exact ⟨by rw [HF.out]; simp [hk3,hv0],bc.out⟩
      .go_wp2;go_ret;exact ⟨by rw [HF.out]; simp [hk3],HB3.out⟩
     .have U0:=Ni.dJ (s:=N.v) (by omega);go_wp2;go_ret;exact ⟨by rw [HF.out]; simp [hv0],HB3.out⟩
    .go_wp2;go_ret;exact ⟨by rw [HF.out]; simp [hn0],HB3.out⟩
   .rw [if_neg hkd] at HF;have hk3':(N.kd==3)=false:=by simp; exact hkd
    go_enter func91,ntmps91;go_wp2_with (refine aA (bR HO.out HL.out ?_) ?_; · exact ⟨_,rfl,rfl⟩)
    refine HK.out.mono ?_;rintro e w3 ⟨a3,n3,qS,rfl,hs3,hb3⟩;have hO3:=HO.out.below hb3;obtain ⟨c0,c1,c2⟩:=dD hO3;have ck:w3.cell? ⟨w.heap.size,3,none⟩=some (.string (N.ks.getD 0 eB)):=wB hO3 HL.out 0 (by decide);have ec:=hs3.len;have oE:=hs3.2.1;have ua:=hs3.1;unfold maxLen at oE;have cn:=hid hs3;have HB3:=hid (oP (yg hb3));clear hs3 hb3 hO3 HK ec;go_wp2;go_ret;exact ⟨by rw [HF.out]; rfl,HB3.out⟩
theorem oV (N:Nd) (a:aK) (n c:Nat) (hl:N.ks.length=16) (w:World) (hB:bf w a n c N.p) (hv:N.v.size<=maxLen) (hR:∀ k∈N.ks,mK k) :
  Calls prog 50 #[.agg (ndC N a n c)] w λe w'=>e = .returned (.int .i64 (if gB bW N then 0 else 2))/\Below w.heap.size w w':=by
 have hp:=hB.len;have hm:=hB.2.1;have hnc:=hB.1;have HO:Hid (dZ (w.alloc (.cells (ndC N a n c) 69)) w.heap.size N a n c):=hid (Rg.Own.new _ _ _);have cH:=hid (al1 w (.cells (ndC N a n c) 69));have ve:=hid (UU N a n c hl hp (by omega) hv hR (w.alloc (.cells (ndC N a n c) 69)));have Fi:=hid (eX a n c N.p (w.alloc (.cells (ndC N a n c) 69)) (hB.below (al1 _ _)));obtain ⟨c0,c1,c2⟩:=dD HO.out;have HL:=hid hl;unfold maxLen at hm;obtain ⟨F,hF⟩:=ay (if gB bW N then (0:Int) else 2)
 have HM:Hid (F=if (decide (n<=64)&&dh N.p&&kV bW N)=true then 0 else 2):=hid (by rw [<-hF]; unfold gB; rw [hp]);rw [hF];clear hF hR hB hp hl hv;obtain ⟨R,hR⟩:=ay (dh N.p)
 obtain ⟨T,hT⟩:=ay (kV bW N)
 rw [hR] at HM Fi;rw [hT] at HM ve;clear hR hT;by_cases h64:n<=64
 .have d64:decide (64<(n:Int))=false:=by simp; omega
  cases R with
  | true =>
   go_enter func50,ntmps50;go_wp2_with fail
   refine Fi.out.mono ?_;rintro e w3 ⟨rfl,rfl⟩;go_wp2_with (refine Rg.runW (by rfl) _ _ (bR HO.out HL.out ?_) ?_; · exact ⟨_,rfl,rfl⟩)
   refine ve.out.mono ?_;rintro e w3 ⟨rfl,hb3⟩;have HB3:=hid (bst cH.out hb3);clear hb3 ve Fi;cases T;all_goals
    go_wp2;go_ret;exact ⟨by rw [HM.out]; simp [h64],HB3.out⟩
  | false =>
   go_enter func50,ntmps50;go_wp2_with fail
   refine Fi.out.mono ?_;rintro e w3 ⟨rfl,rfl⟩;go_wp2;go_ret;exact ⟨by rw [HM.out]; simp,cH.out⟩
 .have d64:decide (64<(n:Int))=true:=by simp; omega
  go_enter func50,ntmps50;go_wp2;go_ret;exact ⟨by rw [HM.out]; simp [h64],cH.out⟩
theorem Xo {s:aM} {x:It} (hs:s.length<=1000000) (h:iy s = .ok x):∀ y∈x.xs,Good y:=by
 obtain ⟨g1,g2,g3⟩:=lM (by omega) h;intro y hy;have h1:=vQ g2 (by rw [g1]; omega) hy;rw [g1] at h1;have h2:=PX y (Nj g2 hy) (Nat.zero_le _);obtain ⟨i,hi⟩:=List.getElem?_of_mem hy;have h3:=AJ x.xs i y hi;have h4:x.size=1+(x.xs.map It.size).sum:=by cases x; exact It.size_mk _ _ _
 have h5:=kT y;have h6:y.s.size<=y.inner.length:=by
  unfold It.inner;rw [List.length_append,iX];omega
 exact ⟨h2,by omega,by omega,by omega⟩
theorem Ao {s:aM} {c:Int} (h:iy s = .error c):c≠0:=by
 unfold iy at h;split at h
 .rename_i c' hr;cases h;have:=(codes s.length).1 _ _ _ _ aG hr;omega
 .split at h
  .cases h; decide
  .cases h
theorem WK {xs:List It} {N:Nd} (hG:∀ x∈xs,Good x) (h:eu xs=some N):N.v.size<=1000000:=by
 unfold eu at h;by_cases h2:xs.length=2
 .rw [if_pos h2] at h;have h1:=hG _ (jU (xs:=xs) (i:=1) (by omega));unfold iw at h;split at h
  .cases h
  .split at h
   .obtain rfl:=Option.some.inj h;exact h1.2.2.2
   .obtain ⟨k,hk,rfl⟩:=Option.map_eq_some_iff.1 h;exact Nat.zero_le _
 .rw [if_neg h2] at h;split at h
  .unfold dG at h;split at h
   .cases h
   .split at h
    .obtain rfl:=Option.some.inj h;exact Nat.zero_le _
    .cases h
  .cases h
theorem Uu (s:aL) (hs:s.size<=1000000) (ih:∀ k:aL,k.size<32->k.size<s.size->Qg k):Qg s:=by
 intro w;have hsl:=iX s;obtain ⟨w2,hw2⟩:=au (w.alloc (.cells (ndC nd0 none 0 0) 69))
 have hO:dZ w2 w.heap.size nd0 none 0 0:=by rw [hw2]; exact Rg.Own.new _ _ _
 have hB2:Below w.heap.size w w2:=by rw [hw2]; exact al1 _ _
 have HO:=hid hO;have HB2:=hid hB2;have hW:=Ej s (by omega) w2;have hgt:=Eo s.data.toList (by omega);cases hr:iy s.data.toList with
 | error c =>
  rw [hr] at hW hgt;have HW:Hid (Calls prog 144 #[.string s] w2 λe w'=>e = .returned (.tuple #[itV it0 none 0 0,.int .i64 c])/\Below w2.heap.size w2 w'):=hid hW;unfold itV at HW;dsimp only [it0,It.l,It.s] at HW;have hne:(c != 0)=true:=by simp; exact Ao hr
  have HC:=hid (Ao hr);have HG:Hid (sO s.data.toList=none):=hid hgt;rw [HG.out];clear hO hB2 hr hgt ih hW;subst hw2;go_enter func152,ntmps152;go_wp2_with (refine aA (bD _ _ _ w.heap.size rfl rfl) ?_)
  with_reducible refine HW.out.mono ?_
  rintro e w3 ⟨rfl,hb3⟩;have ag:=hid ((HO.out.below hb3).below (al1 w3 (.cells #[.bool false,.string ⟨#[]⟩,.slice none 0 0] 102)));have HB3:=hid (bst (bst HB2.out hb3) (al1 w3 (.cells #[.bool false,.string ⟨#[]⟩,.slice none 0 0] 102)));clear hb3 HW;go_wp2_with (first
   | (refine aA (bL qH ?_) ?_; · exact ⟨_,rfl,rfl⟩)
   | (refine bH ag.out rfl nd0 none 0 0 rfl rfl _ _ rfl rfl rfl rfl ?_))
  exact bodyPost_ret (ig rfl _ rfl (dM ag.out) rfl) rfl ⟨nd0,none,0,0,c,rfl,.inr ⟨HC.out,rfl,rfl⟩,BsF.nil _ _,rfl,bZ HB3.out aG _⟩
 | ok x =>
  have hG:=Xo (by omega) hr;rw [hr] at hW hgt;dsimp only at hgt;have HW:Hid (Calls prog 144 #[.string s] w2 λe w'=>∃ a nn cap,e = .returned (.tuple #[itV x a nn cap,.int .i64 0])/\bK w2.heap.size w' x.xs a nn cap/\Below w2.heap.size w2 w'):=hid hW;unfold itV at HW;have dd:=hid (λw a n cap h=>VO x.xs a n cap w h hG);have iz:=hid hgt;have ju:Hid (∀ N,eu x.xs=some N->N.v.size<=maxLen/\∀ k∈N.ks,mK k):=hid (λN hN=>by
   have h1:=WK hG hN;obtain ⟨_,h2⟩:=Gz (by omega) hr hN;refine ⟨Nat.le_trans h1 (by unfold maxLen; omega),λk hk=>?_⟩;have hs0:0<s.size:=by
    have hb:=lM (by omega) hr;have:=rV hb.2.1 (by rw [hb.1]; omega);rw [hb.1] at this;have:=List.length_pos_iff.2 this;omega
   rcases h2 k hk with hp | ⟨h3,h4⟩
   .have hp:=of_decide_eq_true hp;exact Kr k (by omega) (λh=>ih k h (by omega))
   .exact Kr k (by omega) (λh=>ih k h (by omega)))
  obtain ⟨r,hrr⟩:=ay (eu x.xs)
  obtain ⟨G,MT⟩:=ay (sO s.data.toList)
  rw [hrr] at iz dd ju;rw [MT] at iz;rw [MT];clear hO hB2 hr hgt ih hW hG hrr MT;subst hw2;go_enter func152,ntmps152;go_wp2_with (refine aA (bD _ _ _ w.heap.size rfl rfl) ?_)
  with_reducible refine HW.out.mono ?_
  rintro e w3 ⟨a3,n3,c3,rfl,CA,hb3⟩;obtain ⟨w4,hw4⟩:=au (w3.alloc (.cells #[.bool x.l,.string x.s,.slice a3 n3 c3] 102))
  have hb4:Below w3.heap.size w3 w4:=by rw [hw4]; exact al1 _ _
  have hO4:=(HO.out.below hb3).below hb4;have hB4:=bst (bst HB2.out hb3) hb4;have HR4:=hid (dd.out w4 a3 n3 c3 (bK.weak (CA.stays hb4) (Nat.zero_le _)));have b8:=hid hO4;have bc:=hid hB4;clear hb3 hb4 CA hO4 hB4 HW dd;subst hw4;go_wp2_with fail
  with_reducible refine HR4.out.mono ?_
  rintro e w5 ⟨N,a5,n5,c5,b5,rfl,hr5,hx5,hl5,hb5⟩;have hge5:=hb5.size;have ap:=b8.out.below hb5;have ei:=bst bc.out hb5;obtain ⟨w6,mC⟩:=au (w5.alloc (.cells (ndC N a5 n5 c5) 69))
  have gR:Hid (dZ (w5.alloc (.cells (ndC nd0 none 0 0) 69)) w5.heap.size nd0 none 0 0):=hid (Rg.Own.new _ _ _);have jt:Hid (dZ ((w5.alloc (.cells (ndC nd0 none 0 0) 69)).setRow w5.heap.size (ndC N a5 n5 c5)) w5.heap.size N a5 n5 c5):=hid (dM gR.out);have cI:Below w5.heap.size w5 ((w5.alloc (.cells (ndC nd0 none 0 0) 69)).setRow w5.heap.size (ndC N a5 n5 c5)):=bZ (al1 _ _) aG _;have cA:=hid (ap.below cI);have bi:=hid (bst ei cI);have oS:=hid (hx5.below cI);have rL:=hid hl5;have hw0:=b8.out.1
  clear ap ei hx5 hl5 hb5 cI HR4 b8 bc mC w6;rcases hr5 with ⟨rfl,rfl⟩ | ⟨rfl,rfl⟩
  .have hck:=oV N a5 n5 c5 rL.out ((w5.alloc (.cells (ndC nd0 none 0 0) 69)).setRow w5.heap.size (ndC N a5 n5 c5)) oS.out.1 (ju.out N rfl).1 (ju.out N rfl).2;obtain ⟨M,hM⟩:=ay (gB bW N)
   have HG:Hid (G=if M=true then some N else none):=hid (by rw [iz.out,<-hM]);rw [hM] at hck;have HC:=hid hck;clear hM iz ju hck;go_wp2_with (first
    | (refine aA (bD _ _ _ w5.heap.size rfl rfl) ?_)
    | (refine bH gR.out rfl N a5 n5 c5 rL.out rfl _ _ rfl rfl rfl rfl ?_)
    | (refine Rg.runW (by rfl) _ _ (bR jt.out rL.out ?_) ?_; · exact ⟨_,rfl,rfl⟩))
   refine HC.out.mono ?_;rintro e w7 ⟨rfl,dv⟩;have hs7:=dv.size;have HN7:=hid (jt.out.below dv);have iu:=hid (cA.out.below dv);have cm:=hid (bst bi.out dv);have mL:=hid (oS.out.below dv);clear dv HC cA bi oS;cases M with
   | true =>
    go_wp2_with (first
     | (refine aA (bR HN7.out rL.out ?_) ?_; · exact ⟨_,rfl,rfl⟩)
     | (refine bH iu.out rfl N a5 n5 c5 rL.out rfl _ _ rfl rfl rfl rfl ?_))
    exact bodyPost_ret (ig rfl _ rfl (dM iu.out) rL.out) rfl ⟨N,a5,n5,c5,0,rfl,.inl ⟨rfl,HG.out⟩,(mL.out.row (by omega) _).weak (by omega),rL.out,bZ cm.out aG _⟩
   | false =>
    go_wp2_with (first
     | (refine aA (bL qH ?_) ?_; · exact ⟨_,rfl,rfl⟩)
     | (refine bH iu.out rfl nd0 none 0 0 rfl rfl _ _ rfl rfl rfl rfl ?_))
    exact bodyPost_ret (ig rfl _ rfl (dM iu.out) rfl) rfl ⟨nd0,none,0,0,6,rfl,.inr ⟨by decide,rfl,HG.out⟩,BsF.nil _ _,rfl,bZ cm.out aG _⟩
  .have HG:Hid (G=none):=iz;go_wp2_with (first
    | (refine aA (bD _ _ _ w5.heap.size rfl rfl) ?_)
    | (refine bH gR.out rfl N a5 n5 c5 rL.out rfl _ _ rfl rfl rfl rfl ?_)
    | (refine aA (bL qH ?_) ?_; · exact ⟨_,rfl,rfl⟩)
    | (refine bH cA.out rfl nd0 none 0 0 rfl rfl _ _ rfl rfl rfl rfl ?_))
   exact bodyPost_ret (ig rfl _ rfl (dM cA.out) rfl) rfl ⟨nd0,none,0,0,6,rfl,.inr ⟨by decide,rfl,HG.out⟩,BsF.nil _ _,rfl,bZ bi.out aG _⟩
theorem TJ (N:Nat) (hN:N<=1000000):∀ s:aL,s.size<=N->Qg s:=by
 induction N using Nat.strongRecOn with
 | ind N ih=>exact λs hs=>Uu s (by omega) (λk _ hk=>ih k.size (by omega) (by omega) k aG)
theorem Ii (s:aL) (hs:s.size<=1000000):Qg s:=TJ s.size hs s aG
theorem kG (k:aL) (hk:k.size<=9223372036854775807):mK k:=Kr k hk (λh=>Ii k (by omega))
end No
end
section
open Go.RowKit
namespace Rf
open Rl Ni No
def mq (k:aL):Nat:=if k.size=0 then 0 else if k.size=32 then 1 else if bW k then 2 else 3
theorem dA (k:aL) (hk:k.size<=maxLen) (w:World) :
  Calls prog 126 #[.string k] w λe w'=>e = .returned (.int .i64 (mq k))/\Below w.heap.size w w':=by
 unfold maxLen at hk;have HR:=hid (kG k (by omega) w);by_cases h0:k.size=0
 .obtain rfl:=dP h0;have HF:Hid (mq eB=0):=hid rfl;rw [HF.out];clear HR hk h0 HF;go_enter func126,ntmps126;go_wp2;go_ret;exact ⟨rfl,aH⟩
 have hne:=Ni.dJ (s:=k) (by omega);by_cases h32:k.size=32
 .have HF:Hid (mq k=1):=hid (by unfold mq; rw [if_neg h0,if_pos h32]);have hd:(((k.size:Int)==32):Bool)=true:=by simp; omega
  rw [HF.out];clear HR HF h0 h32;go_enter func126,ntmps126;go_wp2;go_ret;exact ⟨rfl,aH⟩
 have HF:Hid (mq k=if bW k then 2 else 3):=hid (by unfold mq; rw [if_neg h0,if_neg h32]);have hd:(((k.size:Int)==32):Bool)=false:=by simp; omega
 rw [HF.out];obtain ⟨r,hr⟩:=ay (bW k)
 rw [hr] at HR;rw [hr];clear HF h0 h32 hr;cases r;all_goals
  go_enter func126,ntmps126;go_wp2_with fail
  refine HR.out.mono ?_;rintro e w1 ⟨rfl,hb1⟩;go_wp2;go_ret;exact ⟨rfl,hb1⟩
open Sh
open Sm
theorem UY (w:World) (v:Value) (t:TypeId):(w.alloc (.cells #[v] t)).cell? ⟨w.heap.size,0,none⟩=some v:=by
 have:=Bu.cell_one_new' w v t (0,0) 0 v rfl;rwa [Addr.add_mid] at this
def ofP (s:aL):aL:=if s.size<32 then s else ⟨(oh s).toArray⟩
theorem KF (s:aL) (hs:s.size<=900000) (w:World) (hT:Tab w):Calls prog 65 #[.string s] w λe w'=>e = .returned (.agg (kc (oh s)))/\Below w.heap.size w w':=Sm.FU s hs w hT
theorem Em (s:aL) (hs:s.size<=900000) (w:World) (hT:Tab w) :
  Calls prog 64 #[.string s] w λe w'=>e = .returned (.string (ofP s))/\Below w.heap.size w w':=by
 by_cases h:s.size<32
 .have HF:Hid (ofP s=s):=hid (by unfold ofP; rw [if_pos h]);have hd:decide ((s.size:Int)<32)=true:=by simp; omega
  rw [HF.out];clear hT HF;go_enter func64,ntmps64;go_wp2;go_ret;exact ⟨rfl,aH⟩
 .have HF:Hid (ofP s=⟨(oh s).toArray⟩):=hid (by unfold ofP; rw [if_neg h]);have hd:decide ((s.size:Int)<32)=false:=by simp; omega
  have dC:=hid (KF s hs w hT);have MY:=hid (λW=>Sm.kR (oh s) (jX s) W);rw [HF.out];obtain ⟨K,hK⟩:=ay (oh s)
  rw [hK] at dC MY;rw [hK];obtain ⟨T,ir⟩:=ay (⟨K.toArray⟩:aL)
  rw [ir] at MY;rw [ir];clear hT HF hK ir;go_enter func64,ntmps64;go_wp2_with fail
  refine dC.out.mono ?_;rintro e w1 ⟨rfl,hb1⟩;go_wp2_with fail
  refine (MY.out _).mono ?_;rintro e w2 ⟨rfl,hb2⟩;go_wp2;go_ret;exact ⟨rfl,bst hb1 hb2⟩
def fI (s:aL):aM:=if s.size=0 then oh ⟨#[128]⟩ else oh s
theorem iJ (s:aL):(fI s).length=32:=by unfold fI; split <;> exact jX _
theorem BA (s:aL) (hs:s.size<=900000) (w:World) (hT:Tab w) :
  Calls prog 34 #[.string s] w λe w'=>e = .returned (.agg (kc (fI s)))/\Below w.heap.size w w':=by
 have h0:=hT.pos;have HT:=hid hT;have cl:=hid (iJ s);by_cases h:s.size=0
 .obtain rfl:=dP h;have dC:=hid (λW (h:Tab W)=>KF ⟨#[128]⟩ (by decide) W h);have hR:fI eB=oh ⟨#[128]⟩:=rfl;rw [<-hR] at dC;obtain ⟨K,hK⟩:=ay (fI eB)
  rw [hK] at dC cl;rw [hK];clear hT hK hR h;go_enter func34,ntmps34;go_wp2_with (refine eZ rfl _ _ (jA _ _ rfl _ _ rfl) ?_)
  refine (dC.out _ (HT.out.below (al1 _ _) h0)).mono ?_;rintro e w1 ⟨rfl,hb1⟩;have c8:=hid ((Rg.Own.new w (kc zk) 48).below hb1);have HB2:Hid (Below w.heap.size w w1):=hid (bst (al1 _ _) hb1);clear hb1;go_wp2_with (refine wpList_store_rowTo rfl 48 _ _ rfl rfl _ (kc K) rfl rfl 48 (kc zk) c8.out.2 (jk K cl.out) (by rw [iq,iq,cl.out]; rfl) (xg _) ?_)
  exact bodyPost_ret (results_cell_row rfl _ _ w.heap.size 48 (kc K) (0,0) _ rfl (setRow_heap _ _ _ _ _ _ c8.out.2) underlying48 rfl (jk K cl.out)) rfl ⟨rfl,Sm.eG HB2.out aG _⟩
 .have hne:=Ni.dJ (s:=s) (by omega);have dC:=hid (λW (h:Tab W)=>KF s hs W h);have hR:fI s=oh s:=by unfold fI; rw [if_neg h]
  rw [<-hR] at dC;obtain ⟨K,hK⟩:=ay (fI s)
  rw [hK] at dC cl;rw [hK];clear hT hK hR h;go_enter func34,ntmps34;go_wp2_with (refine eZ rfl _ _ (jA _ _ rfl _ _ rfl) ?_)
  refine (dC.out _ (HT.out.below (al1 _ _) h0)).mono ?_;rintro e w1 ⟨rfl,hb1⟩;have c8:=hid ((Rg.Own.new w (kc zk) 48).below hb1);have HB2:Hid (Below w.heap.size w w1):=hid (bst (al1 _ _) hb1);clear hb1;go_wp2_with (refine wpList_store_rowTo rfl 48 _ _ rfl rfl _ (kc K) rfl rfl 48 (kc zk) c8.out.2 (jk K cl.out) (by rw [iq,iq,cl.out]; rfl) (xg _) ?_)
  exact bodyPost_ret (results_cell_row rfl _ _ w.heap.size 48 (kc K) (0,0) _ rfl (setRow_heap _ _ _ _ _ _ c8.out.2) underlying48 rfl (jk K cl.out)) rfl ⟨rfl,Sm.eG HB2.out aG _⟩
end Rf
end
section
open Go.RowKit
namespace No
open Rl Ni
def fF (k:aL):It:=if dN k then .mk false k [] else match iy k.data.toList with
 | .ok x=>x
 | .error _=>it0
abbrev qO (n:Nd):It:=.mk false ⟨(jV n.p (decide (n.kd=1))).toArray⟩ []
def cO (n:Nd):List It:=if n.kd=3 then n.ks.map fF++[it0] else if n.kd=1 then [qO n,.mk false n.v []] else [qO n,fF (n.ks.getD 0 eB)]
def fP (n:Nd):It:=.mk true ⟨#[]⟩ (cO n)
def jB (n:Nd):aM:=(fP n).bytes
theorem Jk (x:It):∀ {d e:Nat},Fits d x->e+x.bytes.length<=65->Fits e x:=by
 induction x using It.ind with
 | h l s xs ih =>
  intro d e h he;have hb:=rV h (by omega);have hb1:=List.length_pos_iff.2 hb;have hless:∀ y∈xs,y.bytes.length<(It.mk l s xs).bytes.length:=λy hy=>vQ h (by omega) hy;cases h with
  | mk ha hs hx hy=>exact .mk (by omega) hs hx (λy hm=>ih y hm (hy y hm) (by have:=hless y hm; omega))
theorem Uq (xs:List It) (h:∀ y∈xs,y.size<=y.bytes.length):(xs.map It.size).sum<=((xs.map It.bytes).flatten).length:=by
 induction xs with
 | nil=>exact aG
 | cons y ys ih =>
  rw [List.map_cons,List.sum_cons,List.map_cons,List.flatten_cons,List.length_append];have h1:=h y (List.mem_cons_self ..);have h2:=ih (λz hz=>h z (List.mem_cons_of_mem _ hz));omega
theorem tq (x:It):∀ {d:Nat},Fits d x->x.bytes.length<=4294967296->x.size<=x.bytes.length:=by
 induction x using It.ind with
 | h l s xs ih =>
  intro d h hb;have hp:=List.length_pos_iff.2 (rV h hb);have hless:∀ y∈xs,y.bytes.length<(It.mk l s xs).bytes.length:=λy hy=>vQ h hb hy;have hle:=Uq xs (λy hy=>ih y hy (Nj h hy) (by have:=hless y hy; omega));rw [It.size_mk];cases l with
  | true =>
   have h1:=wT h hb rfl;have h2:=iI (((It.mk true s xs).xs.map It.bytes).flatten).length true;simp only [It.xs] at h1 h2;omega
  | false =>
   cases h with
   | mk ha hs hx hy =>
    rw [hx rfl] at hp ⊢;rw [List.map_nil,List.sum_nil];exact hp
theorem JG {x:It} (h:Fits 0 x) (hb:x.bytes.length<=4294967296) (hk:x.size<=4096):iy x.bytes = .ok x:=by
 have:=forth x 0 0 [] h hb (by omega);rw [List.append_nil] at this;unfold iy;rw [this];dsimp only;rw [if_neg (by omega)]
theorem rX (d:Nat) (hd:d<=64) (s:aL):Fits d (.mk false s []):=.mk hd (λe=>by cases e) (λ_=>rfl) (λy hy=>by cases hy)
theorem vP (s:aL) (h:s.size<=4294967296):(It.mk false s []).bytes.length<=9+s.size:=by
 rw [jg s h,List.length_append,iX];have:=zI s.size false (by omega);split
 .simp
 .omega
theorem JH {k:aL} (hp:dN k=false) (h:bW k=true):∃ x n,iy k.data.toList = .ok x/\fF k=x/\x.l=true/\eu x.xs=some n/\k.size<32/\x.bytes=k.data.toList/\Fits 0 x/\gB bW n=true:=by
 unfold bW at h;rw [hp,Bool.false_or,Bool.and_eq_true] at h;have h32:k.size<32:=of_decide_eq_true h.1;obtain ⟨n,hn⟩:=Option.isSome_iff_exists.1 h.2;have hsl:=iX k;obtain ⟨x,hw,hr,hm⟩:=wI (by omega) hn;obtain ⟨g1,g2,g3⟩:=lM (by omega) hw;refine ⟨x,n,hw,?_,?_,hr,h32,g1,g2,hm⟩
 .unfold fF;rw [hp,hw];rfl
 .refine Bp g2 (λe=>?_);rw [e] at hr;cases hr
theorem pW {k:aL} (hp:dN k=true):fF k = .mk false k []:=by
 unfold fF;rw [hp];rfl
theorem tO {k:aL} (hp:dN k=true):k.size=0\/k.size=32:=of_decide_eq_true hp
theorem nG {k:aL} (h:bW k=true):Fits 1 (fF k)/\(fF k).bytes.length<=41:=by
 cases hp:dN k with
 | true =>
  rw [pW hp];have:=tO hp;have h2:=vP k (by omega);exact ⟨rX 1 (by omega) k,by omega⟩
 | false =>
  obtain ⟨x,n,hw,e,hl,hr,h32,hb,hf,_⟩:=JH hp h;have hsl:=iX k;rw [e];exact ⟨Jk x hf (by rw [hb]; omega),by rw [hb]; omega⟩
theorem Co {k:aL} (h:bW k=true):kU (fF k)=some k:=by
 cases hp:dN k with
 | true =>
  rw [pW hp];show (if dN k then some k else none)=some k;rw [hp];rfl
 | false =>
  obtain ⟨x,n,hw,e,hl,hr,h32,hb,hf,_⟩:=JH hp h;have hsl:=iX k;rw [e];unfold kU;rw [hl,if_pos rfl,if_pos (by rw [hb]; omega),hb]
theorem MK (xs:List It) (m:Nat) (h:∀ y∈xs,y.bytes.length<=m):((xs.map It.bytes).flatten).length<=xs.length*m:=by
 induction xs with
 | nil=>simp
 | cons y ys ih =>
  rw [List.map_cons,List.flatten_cons,List.length_append,List.length_cons,Nat.succ_mul];have h1:=h y (List.mem_cons_self ..);have h2:=ih (λz hz=>h z (List.mem_cons_of_mem _ hz));omega
theorem nC {n:Nd} (h:gB bW n=true):n.p.length<=64/\dh n.p=true/\kV bW n=true:=by
 unfold gB at h;rw [Bool.and_eq_true,Bool.and_eq_true] at h;exact ⟨of_decide_eq_true h.1.1,h.1.2,h.2⟩
theorem VZ {ks:List aL} (h:(bF ks).all bW=true):∀ k∈ks,bW k=true:=by
 intro k hk;by_cases hz:k.size=0
 .unfold bW dN;simp [hz]
 .exact List.all_eq_true.1 h k (List.mem_filter.2 ⟨hk,by simp; intro e; rw [e] at hz; exact hz rfl⟩)
theorem oM {n:Nd} (_hl:n.ks.length=16) (h:gB bW n=true) :
  n.kd=1/\n.v.size≠0/\n.v.size<=65552/\(bF n.ks).length=0\/n.kd=2/\0<n.p.length/\n.v.size=0/\(bF n.ks).length=1/\(n.ks.getD 0 eB).size≠0/\bW (n.ks.getD 0 eB)=true\/n.kd=3/\n.p=[]/\n.v.size=0/\2<=(bF n.ks).length/\∀ k∈n.ks,bW k=true:=by
 obtain ⟨_,_,h⟩:=nC h;unfold kV at h;by_cases h1:n.kd=1
 .rw [if_pos h1] at h;simp only [Bool.and_eq_true,decide_eq_true_eq] at h;exact .inl ⟨h1,h.1.1,h.1.2,h.2⟩
 .rw [if_neg h1] at h;by_cases h2:n.kd=2
  .rw [if_pos h2] at h;simp only [Bool.and_eq_true,decide_eq_true_eq] at h;exact .inr (.inl ⟨h2,h.1.1.1.1,h.1.1.1.2,h.1.1.2,h.1.2,h.2⟩)
  .rw [if_neg h2] at h;by_cases h3:n.kd=3
   .rw [if_pos h3] at h;simp only [Bool.and_eq_true,decide_eq_true_eq] at h;exact .inr (.inr ⟨h3,List.eq_nil_of_length_eq_zero h.1.1.1,h.1.1.2,h.1.2,VZ h.2⟩)
   .rw [if_neg h3] at h; cases h
theorem BG {n:Nd} (hl:n.ks.length=16) (h:gB bW n=true):∀ y∈cO n,Fits 1 y/\y.bytes.length<=65561:=by
 obtain ⟨g1,g2,g3⟩:=nC h;have hpk:Fits 1 (qO n)/\(qO n).bytes.length<=65561:=by
  have:=tN n.p (decide (n.kd=1));have h2:=vP ⟨(jV n.p (decide (n.kd=1))).toArray⟩ (by omega);exact ⟨rX 1 (by omega) _,Nat.le_trans h2 (by omega)⟩
 rcases oM hl h with ⟨k1,v1,v2,_⟩ | ⟨k1,_,_,_,_,hr⟩ | ⟨k1,_,_,_,hr⟩
 .unfold cO;rw [if_neg (by omega),if_pos k1];intro y hy;rcases List.mem_cons.1 hy with rfl | hy
  .exact hpk
  .rcases List.mem_cons.1 hy with rfl | hy
   .have h2:=vP n.v (by omega);exact ⟨rX 1 (by omega) _,by omega⟩
   .cases hy
 .unfold cO;rw [if_neg (by omega),if_neg (by omega)];intro y hy;rcases List.mem_cons.1 hy with rfl | hy
  .exact hpk
  .rcases List.mem_cons.1 hy with rfl | hy
   .have:=nG hr;exact ⟨this.1,by omega⟩
   .cases hy
 .unfold cO;rw [if_pos k1];intro y hy;rcases List.mem_append.1 hy with hy | hy
  .obtain ⟨k,hk,rfl⟩:=List.mem_map.1 hy;have:=nG (hr k hk);exact ⟨this.1,by omega⟩
  .rcases List.mem_cons.1 hy with rfl | hy
   .have h2:=vP eB (by decide);refine ⟨rX 1 (by omega) _,?_⟩;have:eB.size=0:=rfl;show (It.mk false eB []).bytes.length<=_;omega
   .cases hy
theorem Dz {n:Nd} (hl:n.ks.length=16):(cO n).length<=17:=by
 unfold cO;split
 .simp [hl]
 .split <;> simp
theorem Cw {n:Nd} (hl:n.ks.length=16) (h:gB bW n=true):Fits 0 (fP n)/\(fP n).bytes.length<=1200000/\(fP n).size<=4096/\(jB n).length=(fP n).bytes.length:=by
 have hg:=BG hl h;have hf:Fits 0 (fP n):=.mk (by omega) (λ_=>rfl) (λe=>by cases e) (λy hy=>(hg y hy).1);have ly:=Dz hl;have hlen:=MK (cO n) 65561 (λy hy=>(hg y hy).2);have hm:(cO n).length*65561<=17*65561:=Nat.mul_le_mul_right _ ly;have hb:(fP n).bytes.length<=1200000:=by
  unfold fP;rw [lK _ (by omega),List.length_append];have:=zI ((cO n).map It.bytes).flatten.length true (by omega);omega
 refine ⟨hf,hb,?_,rfl⟩;unfold fP;rw [It.size_mk];have:∀ y∈cO n,y.size<=200:=by
  obtain ⟨g1,g2,g3⟩:=nC h;rcases oM hl h with ⟨k1,v1,v2,_⟩ | ⟨k1,_,_,_,_,hr⟩ | ⟨k1,_,_,_,hr⟩
  .unfold cO;rw [if_neg (by omega),if_pos k1];intro y hy;rcases List.mem_cons.1 hy with rfl | hy
   .rw [It.size_mk]; simp
   .rcases List.mem_cons.1 hy with rfl | hy
    .rw [It.size_mk]; simp
    .cases hy
  .unfold cO;rw [if_neg (by omega),if_neg (by omega)];intro y hy;rcases List.mem_cons.1 hy with rfl | hy
   .rw [It.size_mk]; simp
   .rcases List.mem_cons.1 hy with rfl | hy
    .have:=nG hr;have:=tq _ this.1 (by omega);omega
    .cases hy
  .unfold cO;rw [if_pos k1];intro y hy;rcases List.mem_append.1 hy with hy | hy
   .obtain ⟨k,hk,rfl⟩:=List.mem_map.1 hy;have:=nG (hr k hk);have:=tq _ this.1 (by omega);omega
   .rcases List.mem_cons.1 hy with rfl | hy
    .unfold it0; rw [It.size_mk]; simp
    .cases hy
 have hs:((cO n).map It.size).sum<=(cO n).length*200:=by
  generalize cO n=l at this
  induction l with
  | nil=>simp
  | cons y ys ih =>
   rw [List.map_cons,List.sum_cons,List.length_cons,Nat.succ_mul];have h1:=this y (List.mem_cons_self ..);have h2:=ih (λz hz=>this z (List.mem_cons_of_mem _ hz));omega
 have:(cO n).length*200<=17*200:=Nat.mul_le_mul_right _ ly;omega
theorem DI {ks:List aL} (h:(bF ks).length=0):ks=List.replicate ks.length eB:=by
 induction ks with
 | nil=>rfl
 | cons k ks ih =>
  unfold bF at h;rw [List.filter_cons] at h;split at h
  .cases h
  .rename_i hz;simp at hz;rw [List.length_cons,List.replicate_succ,<-ih h];congr 1
theorem Uk {ks:List aL} (hl:ks.length=16) (h:(bF ks).length=1) (h0:(ks.getD 0 eB).size≠0):ks=fM (ks.getD 0 eB):=by
 cases ks with
 | nil=>cases hl
 | cons k ks =>
  have h0':k.size≠0:=h0;unfold bF at h;rw [List.filter_cons,if_pos (by simp; intro e; rw [e] at h0'; exact h0' rfl),List.length_cons] at h;have:=DI (ks:=ks) (by unfold bF; omega);unfold fM;rw [List.length_cons] at hl;rw [show ks.length=15 by omega] at this;rw [this];rfl
theorem Vm {ks:List aL} (h:∀ k∈ks,bW k=true):nV (ks.map fF)=some ks:=by
 induction ks with
 | nil=>rfl
 | cons k ks ih =>
  rw [List.map_cons];unfold nV;rw [Co (h k (List.mem_cons_self ..)),ih (λz hz=>h z (List.mem_cons_of_mem _ hz))]
theorem Ko {n:Nd} (hl:n.ks.length=16) (h:gB bW n=true):eu (cO n)=some n:=by
 obtain ⟨g1,g2,g3⟩:=nC h;have hsz:=tN n.p (decide (n.kd=1));have hgood:=Rw n.p (decide (n.kd=1)) g2 g1;have o6:=Rz n.p (decide (n.kd=1)) g2;have o7:=QY n.p (decide (n.kd=1)) g2;obtain ⟨S,hS⟩:=ay (⟨(jV n.p (decide (n.kd=1))).toArray⟩:aL)
 have hpi:qO n = .mk false S []:=by unfold qO; rw [hS]
 rw [hS] at hsz hgood o6 o7;rcases oM hl h with ⟨k1,v1,v2,hk⟩ | ⟨k1,hp0,hv,hk,hk0,hr⟩ | ⟨k1,hp,hv,hk,hr⟩
 .have hI:cO n=[.mk false S [],.mk false n.v []]:=by unfold cO; rw [if_neg (by omega),if_pos k1,hpi]
  rw [hI];unfold eu;rw [if_pos (by rfl)];show iw (.mk false S []) (.mk false n.v [])=some n;unfold iw;rw [if_neg (by
   rintro (e | e)
   .have e':S.size=0:=e;omega
   .exact hgood e)]
  show (if oO S=true then some (⟨1,mO S,n.v,zks⟩:Nd) else _)=some n;rw [o6,o7,k1,if_pos (by decide)];have:=DI hk;rw [hl] at this;cases n;simp only at k1 this ⊢;rw [k1,this];rfl
 .have hI:cO n=[.mk false S [],fF (n.ks.getD 0 eB)]:=by unfold cO; rw [if_neg (by omega),if_neg (by omega),hpi]
  rw [hI];unfold eu;rw [if_pos (by rfl)];show iw (.mk false S []) (fF (n.ks.getD 0 eB))=some n;unfold iw;rw [if_neg (by
   rintro (e | e)
   .have e':S.size=0:=e;omega
   .exact hgood e)]
  show (if oO S=true then _ else (kU (fF (n.ks.getD 0 eB))).map λk=>(⟨2,mO S,eB,fM k⟩:Nd))=some n;rw [o6,o7,k1,if_neg (by decide),Co hr,Option.map_some,<-Uk hl hk hk0];have o0:=dP hv;cases n;simp only at k1 o0 ⊢;rw [k1,o0]
 .have hI:cO n=n.ks.map fF++[it0]:=by unfold cO; rw [if_pos k1]
  rw [hI];unfold eu;have hlen:(n.ks.map fF++[it0]).length=17:=by simp [hl]
  rw [if_neg (by omega),if_pos hlen];unfold dG;rw [List.take_append_of_le_length (by simp [hl]),List.take_of_length_le (by simp [hl]),Vm hr];have e16:(n.ks.map fF++[it0]).getD 16 it0=it0:=by
   rw [List.getD_eq_getElem?_getD,List.getElem?_append_right (by simp [hl])];simp [hl]
  rw [e16];dsimp only;rw [if_pos ⟨rfl,rfl⟩];have o0:=dP hv;cases n;simp only at k1 o0 hp ⊢;rw [k1,o0,hp]
theorem get_put {n:Nd} (hl:n.ks.length=16) (h:gB bW n=true):sO (jB n)=some n:=by
 obtain ⟨f1,f2,f3,_⟩:=Cw hl h;unfold jB;rw [Eo _ (by omega),JG f1 (by omega) f3];dsimp only;rw [show (fP n).xs=cO n from rfl,Ko hl h];dsimp only;rw [h];rfl
end No
end
section
namespace Tr
open Rf Rl Ni No
def fU (n:Nd):aL:=⟨(jB n).toArray⟩
def dx (f:Fin 16->aL):List aL:=(List.finRange 16).map f
def ref:T->aL
 | .nil=>eB
 | .leaf p v=>ofP (fU ⟨1,p,v,zks⟩)
 | .ext q t=>ofP (fU ⟨2,q,eB,fM (ref t)⟩)
 | .br ks=>ofP (fU ⟨3,[],eB,dx λi=>ref (ks i)⟩)
 | .stub r=>r
def bg:T->Nd
 | .nil=>nd0
 | .leaf p v=>⟨1,p,v,zks⟩
 | .ext q t=>⟨2,q,eB,fM (ref t)⟩
 | .br ks=>⟨3,[],eB,dx λi=>ref (ks i)⟩
 | .stub _=>nd0
def bE:T->aL
 | .nil=>eB
 | .stub _=>eB
 | t=>fU (bg t)
def dQ:T->Prop
 | .stub _=>True
 | _=>False
theorem iV {t:T} (h:¬ dQ t):ref t=ofP (bE t):=by
 cases t with
 | stub r=>exact absurd trivial h
 | nil=>rfl
 | leaf p v=>rfl
 | ext q t=>rfl
 | br ks=>rfl
theorem DK {t:T} (h:Full t):¬ dQ t:=by
 cases t with
 | stub r=>exact h.elim
 | _=>exact id
theorem oJ (f:Fin 16->aL):(dx f).length=16:=by simp [dx]
theorem cK (t:T):(bg t).ks.length=16:=by
 cases t with
 | nil=>rfl
 | leaf p v=>rfl
 | ext q t=>exact jo _
 | br ks=>exact oJ _
 | stub r=>rfl
theorem vF {p:Pa} (h:Nib p):dh p=true:=by
 unfold dh;rw [List.all_eq_true];intro c hc;have:=h c hc;exact aJ (by omega)
def Fine:T->Prop
 | .nil=>True
 | .leaf _ v=>v.size≠0/\v.size<=65552
 | .ext _ t=>Fine t
 | .br ks=>∀ i,Fine (ks i)
 | .stub r=>bW r=true/\r.size≠0
theorem wZ (n:Nd):(fU n).size=(jB n).length:=by
 show (jB n).toArray.size=_;simp
theorem RD (n:Nd):(fU n).data.toList=jB n:=by
 show (jB n).toArray.toList=_;simp
theorem put_pos {n:Nd} (hl:n.ks.length=16) (h:gB bW n=true):0<(jB n).length:=by
 have:=No.get_put hl h;rcases Nat.eq_zero_or_pos (jB n).length with h0 | h0
 .have:=Yd (s:=jB n) (by omega) this;omega
 .exact h0
theorem EY {n:Nd} (hl:n.ks.length=16) (h:gB bW n=true):bW (ofP (fU n))=true/\(ofP (fU n)).size≠0:=by
 have hp:=put_pos hl h;have hs:=wZ n;unfold ofP;by_cases h32:(fU n).size<32
 .rw [if_pos h32];refine ⟨?_,by omega⟩;unfold bW;rw [RD,No.get_put hl h,aJ h32];simp
 .rw [if_neg h32];have hz:(⟨(oh (fU n)).toArray⟩:aL).size=32:=by
   have:(⟨(oh (fU n)).toArray⟩:aL).size=(oh (fU n)).length:=by show (oh (fU n)).toArray.size=_; simp
   rw [this,jX]
  refine ⟨?_,by omega⟩;unfold bW;rw [show dN _=true from aJ (.inr hz)];rfl
theorem wM:(bF zks).length=0:=by decide +kernel
theorem DT {k:aL} (h:k.size≠0):bF (fM k)=[k]:=by
 have hz:bF (List.replicate 15 eB)=[]:=by decide +kernel
 have:bF (k::List.replicate 15 eB)=k::bF (List.replicate 15 eB):=by
  unfold bF;rw [List.filter_cons_of_pos (by simpa using h)]
 show bF (k::List.replicate 15 eB)=_;rw [this,hz]
theorem Ph {f:Fin 16->aL} {i j:Fin 16} (hij:i≠j) (hi:(f i).size≠0) (hj:(f j).size≠0):2<=(bF (dx f)).length:=by
 unfold bF dx;rw [List.filter_map,List.length_map];have hnd:((List.finRange 16).filter ((λk:aL=>decide (k.size≠0)) ∘ f)).Nodup:=(List.nodup_finRange 16).filter _;have mi:i∈(List.finRange 16).filter ((λk:aL=>decide (k.size≠0)) ∘ f):=List.mem_filter.2 ⟨List.mem_finRange i,aJ hi⟩;have mj:j∈(List.finRange 16).filter ((λk:aL=>decide (k.size≠0)) ∘ f):=List.mem_filter.2 ⟨List.mem_finRange j,aJ hj⟩
 match hk:(List.finRange 16).filter ((λk:aL=>decide (k.size≠0)) ∘ f) with
 | []=>rw [hk] at mi; cases mi
 | [a] =>
  rw [hk] at mi mj;exact absurd ((List.mem_singleton.1 mi).trans (List.mem_singleton.1 mj).symm) hij
 | a::b::l=>simp
theorem Pb {f:Fin 16->aL} {R:aL->Bool} (h:∀ i,(f i).size≠0->R (f i)=true):(bF (dx f)).all R=true:=by
 rw [List.all_eq_true];intro k hk;obtain ⟨h1,h2⟩:=List.mem_filter.1 hk;obtain ⟨i,_,rfl⟩:=List.mem_map.1 h1;exact h i (of_decide_eq_true h2)
theorem eT:∀ (t:T) (L:Nat),Good t L->L<=64->Fine t->t ≠ .nil->(¬ dQ t->gB bW (bg t)=true)/\bW (ref t)=true/\(ref t).size≠0
 | .nil,_,_,_,_,h=>absurd rfl h
 | .leaf p v,L,g,hL,hf,_=>by
  have hm:gB bW ⟨1,p,v,zks⟩=true:=by
   unfold gB kV;rw [aJ (show (⟨1,p,v,zks⟩:Nd).p.length<=64 from by show p.length<=64; rw [g.1]; exact hL),vF (show Nib (⟨1,p,v,zks⟩:Nd).p from g.2),if_pos rfl,
    aJ (show (⟨1,p,v,zks⟩:Nd).v.size≠0 from hf.1),aJ (show (⟨1,p,v,zks⟩:Nd).v.size<=65552 from hf.2),aJ (show (bF (⟨1,p,v,zks⟩:Nd).ks).length=0 from wM)]
   rfl
  exact ⟨λ_=>hm,EY rfl hm⟩
 | .ext q t,L,g,hL,hf,_=>by
  obtain ⟨g1,g2,g3,g4,g5⟩:=g;obtain ⟨_,h2,h3⟩:=eT t _ g5 (by omega) hf (kM g4);have hm:gB bW ⟨2,q,eB,fM (ref t)⟩=true:=by
   unfold gB kV;rw [aJ (show (⟨2,q,eB,fM (ref t)⟩:Nd).p.length<=64 from by show q.length<=64; omega),vF (show Nib (⟨2,q,eB,fM (ref t)⟩:Nd).p from g2),if_neg (show ¬ (⟨2,q,eB,fM (ref t)⟩:Nd).kd=1 by show ¬ ((2:Int)=1); decide),if_pos rfl,
    aJ (show 0<(⟨2,q,eB,fM (ref t)⟩:Nd).p.length from List.length_pos_iff.2 g1),aJ (show (⟨2,q,eB,fM (ref t)⟩:Nd).v.size=0 from rfl),
    aJ (show (bF (⟨2,q,eB,fM (ref t)⟩:Nd).ks).length=1 from by show (bF (fM (ref t))).length=1; rw [DT h3]; rfl),
    aJ (show ((⟨2,q,eB,fM (ref t)⟩:Nd).ks.getD 0 eB).size≠0 from h3),show bW ((⟨2,q,eB,fM (ref t)⟩:Nd).ks.getD 0 eB)=true from h2]
   rfl
  exact ⟨λ_=>hm,EY (jo _) hm⟩
 | .br ks,L,g,hL,hf,_=>by
  obtain ⟨g1,⟨i,j,hij,hi,hj⟩,g3⟩:=g;have hk:∀ i,(ref (ks i)).size≠0->bW (ref (ks i))=true:=λi h=>by
   refine (eT (ks i) _ (g3 i) (by omega) (hf i) (λe=>h ?_)).2.1;rw [e]; rfl
  have hm:gB bW ⟨3,[],eB,dx λi=>ref (ks i)⟩=true:=by
   unfold gB kV;rw [aJ (show (⟨3,[],eB,dx λi=>ref (ks i)⟩:Nd).p.length<=64 from Nat.zero_le _),vF (show Nib (⟨3,[],eB,dx λi=>ref (ks i)⟩:Nd).p from .nil),if_neg (show ¬ (⟨3,[],eB,dx λi=>ref (ks i)⟩:Nd).kd=1 by show ¬ ((3:Int)=1); decide),if_neg (show ¬ (⟨3,[],eB,dx λi=>ref (ks i)⟩:Nd).kd=2 by show ¬ ((3:Int)=2); decide),if_pos rfl,
    aJ (show (⟨3,[],eB,dx λi=>ref (ks i)⟩:Nd).p.length=0 from rfl),aJ (show (⟨3,[],eB,dx λi=>ref (ks i)⟩:Nd).v.size=0 from rfl),
    aJ (show 2<=(bF (⟨3,[],eB,dx λi=>ref (ks i)⟩:Nd).ks).length from Ph (f:=λi=>ref (ks i)) hij (eT (ks i) _ (g3 i) (by omega) (hf i) hi).2.2 (eT (ks j) _ (g3 j) (by omega) (hf j) hj).2.2),
    show (bF (⟨3,[],eB,dx λi=>ref (ks i)⟩:Nd).ks).all bW=true from Pb hk]
   rfl
  exact ⟨λ_=>hm,EY (oJ _) hm⟩
 | .stub r,_,_,_,hf,_=>⟨λh=>absurd trivial h,hf⟩
theorem wH {s:Pa} {t:T} (h:Fine t):Fine (wrap s t):=by
 unfold wrap;split
 .exact h
 .exact h
theorem Jj {i j:Fin 16} {a b:T} (ha:Fine a) (hb:Fine b):Fine (two i j a b):=λk=>by
 dsimp only;split
 .exact ha
 .split
  .exact hb
  .trivial
theorem Am:∀ (t:T),Fine t->∀ (p:Pa) (v:aL),v.size≠0->v.size<=65552->Fine (put t p v)
 | .nil,_,_,v,h1,h2=>⟨h1,h2⟩
 | .leaf q u,f,p,v,h1,h2=>by
  unfold put;split
  .exact ⟨h1,h2⟩
  .unfold fork; exact wH (Jj f ⟨h1,h2⟩)
 | .ext q t,f,p,v,h1,h2=>by
  unfold put;split
  .exact Am t f _ v h1 h2
  .unfold fork; exact wH (Jj (wH f) ⟨h1,h2⟩)
 | .br ks,f,p,v,h1,h2=>by
  cases p with
  | nil=>exact f
  | cons c r =>
   intro k;dsimp only;split
   .exact Am (ks k) (f k) r v h1 h2
   .exact f k
 | .stub _,f,_,_,_,_=>f
theorem KN:∀ (L:Nat) (l:List In),(∀ x∈l,x.2.size≠0/\x.2.size<=65552)->Fine (build L l):=by
 intro L
 induction L using Nat.strongRecOn with
 | ind L ih =>
  intro l h;have hr:∀ (m:List In) (n:Nat),(∀ x∈m,x.2.size≠0/\x.2.size<=65552)->∀ x∈gV m n,x.2.size≠0/\x.2.size<=65552:=λm n hm x hx=>by
   obtain ⟨y,hy,rfl⟩:=List.mem_map.1 hx;exact hm y hy
  match l with
  | []=>rw [build]; trivial
  | [x]=>rw [build]; exact h x (by simp)
  | x::y::r =>
   rw [build];split
   .exact ih _ (by omega) _ (hr _ _ h)
   .split
    .exact λc=>ih _ (by omega) _ (hr _ _ (λz hz=>h z (sj.1 hz).1))
    .trivial
end Tr
end
section
namespace Tr
open Rf Rl Ni No
abbrev Key:=aM
abbrev Pair:=Key × aL
def path (k:Key):Pa:=fJ ⟨k.toArray⟩
theorem iG (k:Key):(path k).length=2*k.length:=by
 unfold path;rw [fE];rfl
theorem EM {p:Pa} (h:dh p=true):Nib p:=λc hc=>by
 unfold dh at h;have:=of_decide_eq_true (List.all_eq_true.1 h c hc);omega
theorem kH (k:Key):Nib (path k):=EM (rA _)
theorem Bw {k k':Key} (hl:k.length=k'.length) (h:path k=path k'):k=k':=by
 have h1:=zO ⟨k.toArray⟩;have h2:=zO ⟨k'.toArray⟩;have e1:(⟨k.toArray⟩:aL).size=k.length:=by show k.toArray.size=_; simp
 have e2:(⟨k'.toArray⟩:aL).size=k'.length:=by show k'.toArray.size=_; simp
 rw [e1] at h1;rw [e2] at h2;unfold path at h;rw [h,hl,h2] at h1;simpa using h1.symm
theorem Vk {p:Pa} (hp:p.length=64) (hn:Nib p):∃ k:Key,k.length=32/\path k=p:=by
 refine ⟨gU p 32,lN _ _,?_⟩;exact Bq p (vF hn) 32 (by omega)
structure Has (t:T) (m:Key->Option aL):Prop where
 good:Good t 64
 full:Full t
 fine:Fine t
 get:∀ k:Key,k.length=32->get t (path k)=some (m k)
theorem Has.nil:Has .nil (λ_=>none):=⟨trivial,trivial,trivial,λ_ _=>rfl⟩
theorem Has.put {t:T} {m:Key->Option aL} (h:Has t m) {k:Key} (hk:k.length=32) {v:aL} (h1:v.size≠0) (h2:v.size<=65552):Has (put t (path k) v) (λx=>if x=k then some v else m x):=by
 have hl:(path k).length=64:=by rw [iG]; omega
 refine ⟨zA t 64 h.good _ v hl (kH k),Ad t h.full _ v,Am t h.fine _ v h1 h2,λx hx=>?_⟩;rw [Tr.get_put t 64 h.good _ v hl (kH k) (by rw [h.get k hk]; intro e; cases e) (path x) (by rw [iG]; omega) (kH x),h.get x hx];by_cases e:x=k
 .subst e; rw [if_pos rfl,if_pos rfl]
 .rw [if_neg e,if_neg (λh=>e (Bw (by omega) h))]
theorem Has.congr {t:T} {m m':Key->Option aL} (h:Has t m) (e:∀ k:Key,k.length=32->m k=m' k):Has t m':=⟨h.good,h.full,h.fine,λk hk=>by rw [h.get k hk,e k hk]⟩
theorem Has.one {t t':T} {m:Key->Option aL} (h:Has t m) (g:Has t' m):t=t' :=
 uniq t t' 64 h.good h.full g.good g.full (λp h1 h2=>by
  obtain ⟨k,hk,rfl⟩:=Vk h1 h2;rw [h.get k hk,g.get k hk])
def sP:List Pair->List In
 | []=>[]
 | x::r=>if r.any (λy=>decide (y.1=x.1)) then sP r else (path x.1,x.2)::sP r
def gW:List Pair->Key->Option aL
 | [],_=>none
 | x::r,k=>match gW r k with
  | some v=>some v
  | none=>if x.1=k then some x.2 else none
theorem rQ:∀ {l:List Pair} {k:Key},gW l k=none↔∀ x∈l,x.1≠k
 | [],_=>by simp [gW]
 | x::r,k=>by
  unfold gW;cases h:gW r k with
  | some v =>
   have h2:¬ ∀ x∈r,x.1≠k:=λg=>by rw [rQ.2 g] at h; cases h
   constructor
   .intro e; cases e
   .intro g; exact absurd (λy hy=>g y (List.mem_cons_of_mem _ hy)) h2
  | none =>
   have h2:=rQ.1 h;constructor
   .intro g y hy;rcases List.mem_cons.1 hy with rfl | hy
    .intro e; simp [e] at g
    .exact h2 y hy
   .intro g;have:=g x List.mem_cons_self;simp [this]
theorem yU:∀ {l:List Pair} {y:In},y∈sP l->∃ x∈l,y=(path x.1,x.2)
 | [],_,h=>by cases h
 | x::r,y,h=>by
  unfold sP at h;split at h
  .obtain ⟨z,hz,e⟩:=yU h;exact ⟨z,List.mem_cons_of_mem _ hz,e⟩
  .rcases List.mem_cons.1 h with rfl | h
   .exact ⟨x,List.mem_cons_self,rfl⟩
   .obtain ⟨z,hz,e⟩:=yU h;exact ⟨z,List.mem_cons_of_mem _ hz,e⟩
theorem Fa:∀ {l:List Pair},(∀ x∈l,x.1.length=32)->Ok 64 (sP l)
 | [],_=>⟨λ_ h=>(by cases h),List.Pairwise.nil⟩
 | x::r,h=>by
  have ih:=Fa (l:=r) (λy hy=>h y (List.mem_cons_of_mem _ hy));have hx:=h x List.mem_cons_self;unfold sP;split
  .exact ih
  .rename_i hn;refine ⟨λy hy=>?_,List.pairwise_cons.2 ⟨λy hy=>?_,ih.2⟩⟩
   .rcases List.mem_cons.1 hy with rfl | hy
    .exact ⟨by rw [iG]; omega,kH _⟩
    .exact ih.1 y hy
   .obtain ⟨z,hz,rfl⟩:=yU hy;intro e;have:=Bw (by rw [hx,h z (List.mem_cons_of_mem _ hz)]) e;apply hn;rw [List.any_eq_true];exact ⟨z,hz,by simpa using this.symm⟩
theorem Gt:∀ {l:List Pair},(∀ x∈l,x.1.length=32)->∀ k:Key,k.length=32->oH (sP l) (path k)=gW l k
 | [],_,k,_=>rfl
 | x::r,h,k,hk=>by
  have hr:∀ y∈r,y.1.length=32:=λy hy=>h y (List.mem_cons_of_mem _ hy);have ih:=Gt hr k hk;have hx:=h x List.mem_cons_self;unfold sP gW;by_cases e:x.1=k
  .by_cases hn:r.any (λy=>decide (y.1=x.1))=true
   .rw [if_pos hn,ih];cases hl:gW r k with
    | some v=>rfl
    | none =>
     exfalso;obtain ⟨z,hz,ez⟩:=List.any_eq_true.1 hn;exact rQ.1 hl z hz (by rw [<-e]; simpa using ez)
   .rw [if_neg hn];have hl:gW r k=none:=rQ.2 (λy hy e2=>hn (List.any_eq_true.2 ⟨y,hy,by simp [e2,e]⟩));rw [hl];simp [oH,e]
  .have hp:¬ path x.1=path k:=λh=>e (Bw (by omega) h);have hs:(match gW r k with | some v=>some v | none=>if x.1=k then some x.2 else none)=gW r k:=by
    cases gW r k with
    | some v=>rfl
    | none=>simp [e]
   rw [hs,<-ih];split
   .rfl
   .simp [oH,hp]
theorem Vi {l:List Pair} (h:∀ x∈l,x.2.size≠0/\x.2.size<=65552):∀ x∈sP l,x.2.size≠0/\x.2.size<=65552:=λy hy=>by
 obtain ⟨x,hx,rfl⟩:=yU hy;exact h x hx
theorem OY {l:List Pair} (h:∀ x∈l,x.1.length=32) (hv:∀ x∈l,x.2.size≠0/\x.2.size<=65552):Has (build 64 (sP l)) (gW l) :=
 ⟨KU 64 _ (Fa h),Ll 64 _,KN 64 _ (Vi hv),λk hk=>by
  rw [Pe 64 _ (Fa h) (path k) (by rw [iG]; omega) (kH k),Gt h k hk]⟩
theorem Has.built {t:T} {l:List Pair} (g:Has t (gW l)) (h:∀ x∈l,x.1.length=32) (hv:∀ x∈l,x.2.size≠0/\x.2.size<=65552):t=build 64 (sP l):=g.one (OY h hv)
theorem Da:∀ (l:List Pair) (x:Pair) (k:Key),gW (l++[x]) k=if k=x.1 then some x.2 else gW l k
 | [],x,k=>by
  by_cases e:k=x.1
  .simp [gW,e]
  .have:¬ x.1=k:=λh=>e h.symm;simp [gW,e,this]
 | y::l,x,k=>by
  show gW (y::(l++[x])) k=_;have e1:gW (y::(l++[x])) k=match gW (l++[x]) k with
   | some v=>some v
   | none=>if y.1=k then some y.2 else none:=rfl
  rw [e1,Da l x k];by_cases e:k=x.1
  .rw [if_pos e,if_pos e]
  .rw [if_neg e,if_neg e];rfl
def bq (t:T) (l:List Pair):T:=l.foldl (λt x=>put t (path x.1) x.2) t
theorem xP (t:T) (l:List Pair) (x:Pair):bq t (l++[x])=put (bq t l) (path x.1) x.2:=by
 unfold bq;rw [List.foldl_append];rfl
theorem Na:∀ (n:Nat) (l:List Pair),l.length=n->(∀ x∈l,x.1.length=32)->(∀ x∈l,x.2.size≠0/\x.2.size<=65552)->Has (bq .nil l) (gW l)
 | 0,l,hl,_,_=>by
  obtain rfl:=List.eq_nil_of_length_eq_zero hl;exact Has.nil
 | n+1,l,hl,h,hv=>by
  have hne:l≠[]:=λe=>by rw [e] at hl; cases hl
  obtain ⟨r,x,rfl⟩:∃ r x,l=r++[x]:=⟨l.dropLast,l.getLast hne,(List.dropLast_concat_getLast hne).symm⟩
  rw [List.length_append,List.length_singleton] at hl;have ih:=Na n r (by omega) (λy hy=>h y (List.mem_append_left _ hy)) (λy hy=>hv y (List.mem_append_left _ hy));have hx:=h x (by simp);have U1:=hv x (by simp);rw [xP];exact (ih.put hx U1.1 U1.2).congr (λk _=>(Da r x k).symm)
end Tr
end
section
namespace Tr
open Rf Rl Ni No
def aY:T->List T
 | .ext _ t=>[t]
 | .br ks=>(bI ks).map ks
 | _=>[]
def zu (refs:List aL) (ts:List T) (i:Fin 16):T:=if (refs.getD i.val eB).size=0 then .nil else ts.getD (bF (refs.take i.val)).length .nil
def makeT (n:Nd) (ts:List T):T:=if n.kd=1 then .leaf n.p n.v else if n.kd=2 then .ext n.p (ts.getD 0 .nil) else .br (zu n.ks ts)
theorem mh {t:T} (g:Good t L) (hL:L<=64) (f:Fine t):(ref t).size≠0↔t ≠ .nil:=by
 constructor
 .rintro h rfl; exact h rfl
 .intro h; exact (eT t L g hL f h).2.2
theorem ow (f:Fin 16->aL) (i:Fin 16):(dx f).getD i.val eB=f i:=by
 have hi:=i.isLt;unfold dx;rw [List.getD_eq_getElem?_getD,List.getElem?_map,List.getElem?_eq_getElem (by simp)];simp
theorem Ij (f:Fin 16->aL) (n:Nat):(dx f).take n=((List.finRange 16).take n).map f:=by
 unfold dx;rw [List.map_take]
def rank (ks:Fin 16->T) (i:Fin 16):Nat:=(((List.finRange 16).take i.val).filter λj=>!isNil (ks j)).length
theorem zP {ks:Fin 16->T} (h:∀ i,(ref (ks i)).size≠0↔ks i ≠ .nil) (l:List (Fin 16)):bF (l.map λi=>ref (ks i))=(l.filter λj=>!isNil (ks j)).map λi=>ref (ks i):=by
 unfold bF;rw [List.filter_map];congr 1;apply List.filter_congr;intro i _;show decide ((ref (ks i)).size≠0) = !isNil (ks i);cases hi:isNil (ks i) with
 | true =>
  have:=bM.1 hi;rw [decide_eq_false (λg=>(h i).1 g this)];rfl
 | false =>
  rw [aJ ((h i).2 (λe=>by rw [bM.2 e] at hi; cases hi))];rfl
theorem sD {t:T} {L:Nat} (g:Good t L) (hL:L<=64) (f:Fine t):bF (bg t).ks=(aY t).map ref:=by
 cases t with
 | nil=>decide +kernel
 | leaf p v=>exact List.eq_nil_of_length_eq_zero wM
 | ext q t =>
  obtain ⟨_,_,_,g4,g5⟩:=g;exact DT ((mh g5 (by omega) f).2 (kM g4))
 | br ks =>
  have h:∀ i,(ref (ks i)).size≠0↔ks i ≠ .nil:=λi=>mh (g.2.2 i) (by omega) (f i);show bF (dx λi=>ref (ks i))=((bI ks).map ks).map ref;unfold dx;rw [zP h,List.map_map];rfl
 | stub r=>exact List.eq_nil_of_length_eq_zero wM
theorem Qx {α:Type} (P : α->Bool) (l:List α) (i:Nat) (hi:i<l.length) (hp:P l[i]=true):(l.filter P)[((l.take i).filter P).length]? = some l[i]:=by
 have h:l=l.take i++l[i]::l.drop (i+1):=by
  rw [List.getElem_cons_drop,List.take_append_drop]
 have h2:l.filter P=(l.take i).filter P++l[i]::(l.drop (i+1)).filter P:=by
  conv=>lhs; rw [h]
  rw [List.filter_append,List.filter_cons_of_pos hp]
 rw [h2,List.getElem?_append_right aG,Nat.sub_self];rfl
theorem sF {ks:Fin 16->T} {i:Fin 16} (h:ks i ≠ .nil):(bI ks)[rank ks i]? = some i:=by
 have h1:(List.finRange 16)[i.val]'(by simp)=i:=by simp
 have h2:=Qx (λj=>!isNil (ks j)) (List.finRange 16) i.val (by simp) (by
  rw [h1];cases hi:isNil (ks i) with
  | false=>rfl
  | true=>exact absurd (bM.1 hi) h)
 rw [h1] at h2;exact h2
theorem XK {ks:Fin 16->T} {i:Fin 16} (h:ks i ≠ .nil):rank ks i<(bI ks).length:=(List.getElem?_eq_some_iff.1 (sF h)).1
theorem Dr {ks:Fin 16->T} (h:∀ i,(ref (ks i)).size≠0↔ks i ≠ .nil) (ts:List T) (i:Fin 16):zu (dx λi=>ref (ks i)) ts i=if isNil (ks i) then .nil else ts.getD (rank ks i) .nil:=by
 unfold zu;rw [ow,Ij,zP h,List.length_map];by_cases hn:ks i = .nil
 .have h1:(ref (ks i)).size=0:=Classical.byContradiction λg=>(h i).1 g hn;rw [if_pos h1,if_pos (bM.2 hn)]
 .rw [if_neg ((h i).2 hn),if_neg (λg=>hn (bM.1 g))];rfl
theorem Cn {t:T} {L:Nat} (g:Good t L) (hL:L<=64) (f:Fine t) (hn:t ≠ .nil) (hs:¬ dQ t):makeT (bg t) (aY t)=t:=by
 cases t with
 | nil=>exact absurd rfl hn
 | leaf p v=>rfl
 | ext q t=>rfl
 | br ks =>
  have h:∀ i,(ref (ks i)).size≠0↔ks i ≠ .nil:=λi=>mh (g.2.2 i) (by omega) (f i);show T.br (zu (dx λi=>ref (ks i)) ((bI ks).map ks)) = .br ks;congr 1;funext i;rw [Dr h];cases hi:isNil (ks i) with
  | true=>rw [if_pos rfl]; exact (bM.1 hi).symm
  | false =>
   have hne:ks i ≠ .nil:=λe=>by rw [bM.2 e] at hi; cases hi
   rw [if_neg (by decide),List.getD_eq_getElem?_getD,List.getElem?_map,sF hne];rfl
 | stub r=>exact absurd trivial hs
def Dx (t:T) (k:Nat):T :=
 match t with
 | .ext q s=>.ext q (.stub (ref s))
 | .br ks=>.br λi=>if isNil (ks i) then .nil else if rank ks i=k then .stub (ref (ks i)) else ks i
 | t=>t
theorem EG (ks:Fin 16->T) (k:Nat) (i:Fin 16):ref (if isNil (ks i) then .nil else if rank ks i=k then .stub (ref (ks i)) else ks i)=ref (ks i):=by
 cases hi:isNil (ks i) with
 | true=>rw [if_pos rfl,bM.1 hi]
 | false =>
  rw [if_neg (by decide)];split
  .rfl
  .rfl
theorem Dw (t:T) (k:Nat):bg (Dx t k)=bg t:=by
 cases t with
 | nil=>rfl
 | leaf p v=>rfl
 | ext q t=>rfl
 | br ks =>
  show (⟨3,[],eB,dx λi=>ref (if isNil (ks i) then .nil else if rank ks i=k then .stub (ref (ks i)) else ks i)⟩:Nd)=⟨3,[],eB,dx λi=>ref (ks i)⟩
  congr 2;funext i;exact EG ks k i
 | stub r=>rfl
theorem SX (t:T) (k:Nat):bE (Dx t k)=bE t:=by
 cases t with
 | nil=>rfl
 | leaf p v=>rfl
 | ext q t=>rfl
 | br ks =>
  show fU (bg (Dx (.br ks) k))=fU (bg (.br ks));rw [Dw]
 | stub r=>rfl
theorem Cy {t:T} {L:Nat} (g:Good t L) (k:Nat):Good (Dx t k) L:=by
 cases t with
 | nil=>exact g
 | leaf p v=>exact g
 | ext q t=>exact ⟨g.1,g.2.1,g.2.2.1,trivial,trivial⟩
 | br ks =>
  obtain ⟨h1,⟨i,j,hij,hi,hj⟩,h3⟩:=g;have hne:∀ i,ks i ≠ .nil->(if isNil (ks i) then T.nil else if rank ks i=k then .stub (ref (ks i)) else ks i) ≠ .nil:=λi h=>by
   rw [if_neg (λg=>h (bM.1 g))];split
   .intro e; cases e
   .exact h
  refine ⟨h1,⟨i,j,hij,hne i hi,hne j hj⟩,λi=>?_⟩;dsimp only;split
  .trivial
  .split
   .trivial
   .exact h3 i
 | stub r=>exact g
theorem QM {t:T} {L:Nat} (g:Good t L) (hL:L<=64) (f:Fine t) (k:Nat):Fine (Dx t k):=by
 cases t with
 | nil=>exact f
 | leaf p v=>exact f
 | ext q t =>
  have:=eT t _ g.2.2.2.2 (by have:=g.2.2.1; omega) f (kM g.2.2.2.1);exact this.2
 | br ks =>
  intro i;dsimp only;cases hi:isNil (ks i) with
  | true=>rw [if_pos rfl]; trivial
  | false =>
   have hne:ks i ≠ .nil:=λe=>by rw [bM.2 e] at hi; cases hi
   rw [if_neg (by decide)];split
   .exact (eT (ks i) _ (g.2.2 i) (by omega) (f i) hne).2
   .exact f i
 | stub r=>exact f
end Tr
end
section
open Go.RowKit
namespace Tm
open Tr
structure Mp where
 at_:Nat->Option T
 ft:Nat->Prop
def IsT (M:Mp) (p:aK) (t:T):Prop:=match p with
 | none=>t = .nil
 | some ad=>∃ b,ad=⟨b,0,none⟩/\M.at_ b=some t/\t ≠ .nil
def dB:T->Int
 | .nil=>0
 | .leaf _ _=>1
 | .ext _ _=>2
 | .br _=>3
 | .stub _ => -1
def bU:T->Pa
 | .leaf p _=>p
 | .ext q _=>q
 | _=>[]
def Fu:T->aL
 | .leaf _ v=>v
 | _=>eB
def fq:T->List T
 | .ext _ t=>[t]
 | .br ks=>(List.finRange 16).map ks
 | _=>[]
def FZ:T->aL
 | .stub r=>r
 | _=>eB
def Bs (M:Mp) (w:World) (a:aK) (n c:Nat) (l:aM):Prop:=bf w a n c l/\∀ ad,a=some ad->0<n->M.ft ad.block
def Ks (M:Mp) (w:World) (a:aK) (n c:Nat) (l:List T):Prop :=
 n<=c/\c<=maxLen/\l.length=n/\(a=none->c=0)/\∀ j,j<n->∃ b off p,a=some ⟨b,off,none⟩/\b<w.heap.size/\M.ft b/\w.cell? ⟨b,off+j,none⟩=some (.pointer p)/\IsT M p (l.getD j .nil)
def gY (t:T) (a:aK) (n c:Nat) (ka:aK) (kn kc:Nat) (d:Int) (r:aL):aN :=
 #[.int .i64 (dB t),.slice a n c,.string (Fu t),.slice ka kn kc,.int .u32 d,.int .i32 0,.int .u32 0,.string r]
def qc (M:Mp) (w:World) (b:Nat) (t:T):Prop :=
 ∃ a n c ka kn kc d r,w.heap[b]? = some (.cells (gY t a n c ka kn kc d r) 135 (0,0))/\Bs M w a n c (bU t)/\Ks M w ka kn kc (fq t)/\(d=0/\r=FZ t\/d=1/\¬ dQ t/\r=ref t)
structure Inv (M:Mp) (w:World):Prop where
 lt_:∀ k,M.ft k->k<w.heap.size
 part_:∀ b t,M.at_ b=some t->t ≠ .nil/\M.ft b/\qc M w b t
def gq (w:World) (k:Nat):Prop:=∃ j x,w.cell? ⟨k,j,none⟩=some (.int .u8 x)
structure Fr (M M':Mp) (w w':World):Prop where
 os:w'.os=w.os
 tape:w'.tape=w.tape
 output:w'.output=w.output
 size:w.heap.size<=w'.heap.size
 block:∀ k,k<w.heap.size->M.at_ k=none->w'.heap[k]? = w.heap[k]?
 mono:∀ k t,M.at_ k=some t->M'.at_ k=some t
 fresh:∀ k,k<w.heap.size->M.at_ k=none->M'.at_ k=none
 grow:∀ k,M.ft k->M'.ft k
 foot:∀ k,M'.ft k->M.ft k\/w.heap.size<=k\/gq w k
def M0:Mp:=⟨λ_=>none,λ_=>False⟩
theorem IsT.mono {M M':Mp} {p:aK} {t:T} (h:IsT M p t) (hm:∀ k t,M.at_ k=some t->M'.at_ k=some t):IsT M' p t:=by
 cases p with
 | none=>exact h
 | some ad =>
  obtain ⟨b,e,h1,h2⟩:=h;exact ⟨b,e,hm _ _ h1,h2⟩
theorem IsT.oC {M:Mp} {p:aK} {t:T} (h:IsT M p t):p=none↔t = .nil:=by
 cases p with
 | none=>exact ⟨λ_=>h,λ_=>rfl⟩
 | some ad =>
  obtain ⟨b,_,_,hn⟩:=h;exact ⟨λe=>(by cases e),λe=>absurd e hn⟩
theorem IsT.at_ {M:Mp} {p:aK} {t:T} (h:IsT M p t) (hn:t ≠ .nil):∃ b,p=some ⟨b,0,none⟩/\M.at_ b=some t:=by
 cases p with
 | none=>exact absurd h hn
 | some ad =>
  obtain ⟨b,e,hm,_⟩:=h;exact ⟨b,by rw [e],hm⟩
theorem IsT.zero (M:Mp):IsT M none .nil:=rfl
theorem Bs.nil (M:Mp) (w:World):Bs M w none 0 0 []:=⟨bf.nil w,λ_ e=>by cases e⟩
theorem Ks.nil (M:Mp) (w:World):Ks M w none 0 0 []:=⟨aG,Nat.zero_le _,rfl,λ_=>rfl,λ_ h=>absurd h (Nat.not_lt_zero _)⟩
theorem Ks.len {M:Mp} {a:aK} {n c:Nat} {l:List T} (h:Ks M w a n c l):l.length=n:=h.2.2.1
theorem Ks.at' {M:Mp} {a:aK} {n c:Nat} {l:List T} (h:Ks M w a n c l) (j:Nat) (hj:j<n):∃ b off p,a=some ⟨b,off,none⟩/\b<w.heap.size/\M.ft b/\w.cell? ⟨b,off+j,none⟩=some (.pointer p)/\IsT M p (l.getD j .nil):=h.2.2.2.2 j hj
theorem Inv.part {M:Mp} (h:Inv M w) {b:Nat} {t:T} (hm:M.at_ b=some t):qc M w b t:=(h.part_ b t hm).2.2
theorem Inv.lt {M:Mp} (h:Inv M w) {b:Nat} {t:T} (hm:M.at_ b=some t):b<w.heap.size:=h.lt_ b (h.part_ b t hm).2.1
theorem Inv.zero (w:World):Inv M0 w:=⟨λ_ h=>h.elim,λ_ _ h=>by cases h⟩
theorem FP {t:T} {a:aK} {n c:Nat} {ka:aK} {kn kc:Nat} {d:Int} {r:aL} {j:Nat} {v:Value} (h:(gY t a n c ka kn kc d r)[j]? = some v):(∀ x,v ≠ .int .u8 x)/\∀ p,v ≠ .pointer p:=by
 unfold gY at h
 match j,h with
 | 0,h | 1,h | 2,h | 3,h | 4,h | 5,h | 6,h | 7,h =>
  simp at h;subst h;exact ⟨λx e=>(by cases e),λp e=>(by cases e)⟩
 | j+8,h=>simp at h
theorem pO {b:Nat} {cs:aN} {t:TypeId} {f:Nat × Nat} (h:w.heap[b]? = some (.cells cs t f)) (hc:w.cell? ⟨b,j,none⟩=some v):cs[j]? = some v:=by
 rw [World.cell?,h] at hc;simpa using hc
theorem Inv.cZ {M:Mp} {w:World} (hi:Inv M w) {b j:Nat} {x:Int} (hc:w.cell? ⟨b,j,none⟩=some (.int .u8 x)):M.at_ b=none:=by
 cases hm:M.at_ b with
 | none=>rfl
 | some t =>
  obtain ⟨_,_,_,_,_,_,_,_,hb,_⟩:=hi.part hm;exact absurd rfl ((FP (pO hb hc)).1 x)
theorem Inv.nU {M:Mp} {w:World} (hi:Inv M w) {b j:Nat} {p:aK} (hc:w.cell? ⟨b,j,none⟩=some (.pointer p)):M.at_ b=none:=by
 cases hm:M.at_ b with
 | none=>rfl
 | some t =>
  obtain ⟨_,_,_,_,_,_,_,_,hb,_⟩:=hi.part hm;exact absurd rfl ((FP (pO hb hc)).2 p)
theorem Fr.refl (M:Mp) (w:World):Fr M M w w:=⟨rfl,rfl,rfl,aG,λ_ _ _=>rfl,λ_ _ h=>h,λ_ _ h=>h,λ_ h=>h,λ_ h=>Or.inl h⟩
theorem gq.back {M M':Mp} {k:Nat} (h:gq w' k) (f:Fr M M' w w') (hk:k<w.heap.size) (hm:M.at_ k=none):gq w k:=by
 obtain ⟨j,x,hc⟩:=h;exact ⟨j,x,by rw [<-hc]; exact (World.cell?_of_block (w:=w) (f.block k hk hm)).symm⟩
theorem Fr.trans {M M1 M2:Mp} {w w1 w2:World} (hi:Inv M w) (h:Fr M M1 w w1) (g:Fr M1 M2 w1 w2):Fr M M2 w w2 :=
 ⟨g.os.trans h.os,g.tape.trans h.tape,g.output.trans h.output,Nat.le_trans h.size g.size,
  λk hk hm=>(g.block k (aI hk h.size) (h.fresh k hk hm)).trans (h.block k hk hm),λk t hm=>g.mono k t (h.mono k t hm),λk hk hm=>g.fresh k (aI hk h.size) (h.fresh k hk hm),
  λk hk=>g.grow k (h.grow k hk),λk hk=>by
  rcases g.foot k hk with h1 | h1 | h1
  .exact h.foot k h1
  .exact Or.inr (Or.inl (Nat.le_trans h.size h1))
  .by_cases hlt:k<w.heap.size
   .cases hm:M.at_ k with
    | none=>exact Or.inr (Or.inr (h1.back h hlt hm))
    | some t=>exact Or.inl (hi.part_ k t hm).2.1
   .exact Or.inr (Or.inl (by omega))⟩
theorem Fr.below (M:Mp) (hb:Below w.heap.size w w'):Fr M M w w':=⟨hb.os,hb.tape,hb.output,hb.size,λk hk _=>hb.block k hk,λ_ _ h=>h,λ_ _ h=>h,λ_ h=>h,λ_ h=>Or.inl h⟩
theorem Fr.all {M':Mp} (h:Fr M0 M' w w'):Below w.heap.size w w':=⟨h.os,h.tape,h.output,h.size,λk hk=>h.block k hk rfl⟩
theorem Fr.cell {M M':Mp} (h:Fr M M' w w') {b o:Nat} (hb:b<w.heap.size) (hm:M.at_ b=none):w'.cell? ⟨b,o,none⟩=w.cell? ⟨b,o,none⟩:=World.cell?_of_block (w:=w) (h.block b hb hm)
theorem Bs.fr {M M':Mp} {a:aK} {n c:Nat} {l:aM} (hi:Inv M w) (h:Bs M w a n c l) (f:Fr M M' w w'):Bs M' w' a n c l:=by
 refine ⟨⟨h.1.1,h.1.2.1,h.1.2.2.1,h.1.2.2.2.1,λj hj=>?_⟩,λad e hn=>f.grow _ (h.2 ad e hn)⟩;obtain ⟨b,off,e,hlt,hc⟩:=h.1.2.2.2.2 j hj;exact ⟨b,off,e,aI hlt f.size,by rw [f.cell hlt (hi.cZ hc)]; exact hc⟩
theorem mP {M M':Mp} {a:aK} {n c:Nat} {l:aM} (hi:Inv M w) (h:bf w a n c l) (f:Fr M M' w w'):bf w' a n c l:=by
 refine ⟨h.1,h.2.1,h.2.2.1,h.2.2.2.1,λj hj=>?_⟩;obtain ⟨b,off,e,hlt,hc⟩:=h.2.2.2.2 j hj;exact ⟨b,off,e,aI hlt f.size,by rw [f.cell hlt (hi.cZ hc)]; exact hc⟩
theorem Ks.fr {M M':Mp} {a:aK} {n c:Nat} {l:List T} (hi:Inv M w) (h:Ks M w a n c l) (f:Fr M M' w w'):Ks M' w' a n c l:=by
 refine ⟨h.1,h.2.1,h.2.2.1,h.2.2.2.1,λj hj=>?_⟩;obtain ⟨b,off,p,e,hlt,hm,hc,ht⟩:=h.at' j hj;exact ⟨b,off,p,e,aI hlt f.size,f.grow b hm,by rw [f.cell hlt (hi.nU hc)]; exact hc,ht.mono f.mono⟩
theorem Inv.below {M:Mp} {w w':World} (h:Inv M w) (hb:Below w.heap.size w w'):Inv M w':=by
 refine ⟨λk hk=>aI (h.lt_ k hk) hb.size,λb t hm=>?_⟩;have hlt:=h.lt hm;refine ⟨(h.part_ b t hm).1,(h.part_ b t hm).2.1,?_⟩;obtain ⟨a,n,c,ka,kn,kc,d,r,h1,h2,h3,h4⟩:=h.part hm;exact ⟨a,n,c,ka,kn,kc,d,r,(hb.block b hlt).trans h1,h2.fr h (Fr.below M hb),h3.fr h (Fr.below M hb),h4⟩
theorem Inv.out {M:Mp} {w:World} (h:Inv M w) {b:Nat} (hb:w.heap.size<=b):M.at_ b=none:=by
 cases hm:M.at_ b with
 | none=>rfl
 | some t=>exact absurd (h.lt hm) (by omega)
theorem Inv.upd {M:Mp} (h:Inv M w) (hu:Rg.Upd w g w') (hg:¬ M.ft g):Inv M w':=by
 refine ⟨λk hk=>by rw [hu.size]; exact h.lt_ k hk,λb t hm=>?_⟩;obtain ⟨h1,h2,h3⟩:=h.part_ b t hm;refine ⟨h1,h2,?_⟩;obtain ⟨a,n,c,ka,kn,kc,d,r,hb,hB,hK,hd⟩:=h3;have hne:∀ k,M.ft k->k≠g:=λk hk e=>hg (by rw [<-e]; exact hk);refine ⟨a,n,c,ka,kn,kc,d,r,(hu.block b (hne b h2)).trans hb,⟨⟨hB.1.1,hB.1.2.1,hB.1.2.2.1,hB.1.2.2.2.1,λj hj=>?_⟩,hB.2⟩,⟨hK.1,hK.2.1,hK.2.2.1,hK.2.2.2.1,λj hj=>?_⟩,hd⟩
 .obtain ⟨b',off,e,hlt,hc⟩:=hB.1.2.2.2.2 j hj;exact ⟨b',off,e,by rw [hu.size]; exact hlt,by rw [World.cell?_of_block (hu.block b' (hne b' (hB.2 _ e (by omega))))]; exact hc⟩
 .obtain ⟨b',off,p,e,hlt,hf,hc,ht⟩:=hK.at' j hj;exact ⟨b',off,p,e,by rw [hu.size]; exact hlt,hf,by rw [World.cell?_of_block (hu.block b' (hne b' hf))]; exact hc,ht⟩
theorem Fr.box {M M':Mp} (f:Fr M M' w w') (hg:¬ M.ft g) (hlt:g<w.heap.size) (hb:¬ gq w g):¬ M'.ft g:=λh=>by
 rcases f.foot g h with h1 | h1 | h1
 .exact hg h1
 .omega
 .exact hb h1
theorem Inv.free {M:Mp} (h:Inv M w) (hg:w.heap.size<=g):¬ M.ft g:=λe=>by
 have:=h.lt_ g e;omega
theorem eH (p:aK):∀ (j:Nat) (x:Int),(#[Value.pointer p]:aN)[j]? ≠ some (Value.int .u8 x):=λj x h=>by
 match j,h with
 | 0,h=>simp at h
 | j+1,h=>simp at h
theorem cZ {cs:aN} {t:TypeId} (hO:Rg.Own w g cs t) (hne:∀ (j:Nat) (x:Int),cs[j]? ≠ some (Value.int .u8 x)):¬ gq w g:=λ⟨_,_,hc⟩=>hne _ _ (pO hO.2 hc)
theorem vX {a:aK} {n c:Nat} {l:aM} (h:bf w a n c l) (hg:¬ gq w g) (hu:Rg.Upd w g w'):bf w' a n c l:=by
 refine ⟨h.1,h.2.1,h.2.2.1,h.2.2.2.1,λj hj=>?_⟩;obtain ⟨b,off,e,hlt,hc⟩:=h.2.2.2.2 j hj;have hbg:b≠g:=by
  rintro rfl;exact hg ⟨_,_,hc⟩
 exact ⟨b,off,e,by rw [hu.size]; exact hlt,by rw [World.cell?_of_block (hu.block b hbg)]; exact hc⟩
def plus (M:Mp) (S:Nat->Prop):Mp:=⟨M.at_,λk=>M.ft k\/S k⟩
theorem Inv.plus {M:Mp} (h:Inv M w) (hS:∀ k,S k->k<w.heap.size):Inv (Tm.plus M S) w:=by
 refine ⟨λk hk=>hk.elim (h.lt_ k) (hS k),λb t hm=>?_⟩;obtain ⟨h1,h2,a,n,c,ka,kn,kc,d,r,hb,hB,hK,hd⟩:=h.part_ b t hm;exact ⟨h1,Or.inl h2,a,n,c,ka,kn,kc,d,r,hb,⟨hB.1,λad e hn=>Or.inl (hB.2 ad e hn)⟩,⟨hK.1,hK.2.1,hK.2.2.1,hK.2.2.2.1,λj hj=>by
  obtain ⟨b',off,p,e,hlt,hf,hc,ht⟩:=hK.at' j hj;exact ⟨b',off,p,e,hlt,Or.inl hf,hc,ht.mono λ_ _ h=>h⟩⟩,hd⟩
theorem zZ {M:Mp} {t:T} (h:IsT M p t):IsT (plus M S) p t:=h.mono λ_ _ h=>h
theorem Fr.plus {M M':Mp} (f:Fr M M' w w') (hS:∀ k,S k->w.heap.size<=k\/gq w k):Fr M (Tm.plus M' S) w w' :=
 ⟨f.os,f.tape,f.output,f.size,f.block,f.mono,f.fresh,λk hk=>Or.inl (f.grow k hk),λk hk=>hk.elim (f.foot k) (λh=>Or.inr (hS k h))⟩
def inS (a:aK) (n:Nat) (k:Nat):Prop:=∃ ad,a=some ad/\0<n/\ad.block=k
theorem vk {a:aK} {n c:Nat} {l:aM} (h:bf w a n c l) {k:Nat} (hk:inS a n k):gq w k/\k<w.heap.size:=by
 obtain ⟨ad,e,hn,hb⟩:=hk;obtain ⟨b,off,e',hlt,hc⟩:=h.at' 0 hn;rw [e] at e';obtain rfl:=Option.some.inj e';obtain rfl:b=k:=hb;exact ⟨⟨_,_,hc⟩,hlt⟩
theorem gq.below {k:Nat} (h:gq w' k) (hb:Below w.heap.size w w'):w.heap.size<=k\/gq w k:=by
 by_cases hlt:k<w.heap.size
 .obtain ⟨j,x,hc⟩:=h;exact Or.inr ⟨j,x,by rw [<-hc]; exact (World.cell?_of_block (w:=w) (hb.block k hlt)).symm⟩
 .exact Or.inl (by omega)
theorem Bs.in_ {M:Mp} {a:aK} {n c:Nat} {l:aM} (h:bf w a n c l):Bs (plus M (inS a n)) w a n c l:=⟨h,λad e hn=>Or.inr ⟨ad,e,hn,rfl⟩⟩
def dz (M:Mp) (w:World) (t:T) (e:Ending) (w':World):Prop:=∃ p M',e = .returned (.agg #[.pointer p])/\IsT M' p t/\Fr M M' w w'/\Inv M' w'/\Below w.heap.size w w'
def more (M:Mp) (b:Nat) (t:T) (lo hi:Nat):Mp:=⟨λk=>if k=b then some t else M.at_ k,λk=>M.ft k\/lo<=k/\k<hi⟩
theorem sG (M:Mp) (b:Nat) (t:T) (lo hi:Nat):(more M b t lo hi).at_ b=some t:=if_pos rfl
theorem qM {M:Mp} {b:Nat} {t:T} {lo hi k:Nat} (h:k≠b):(more M b t lo hi).at_ k=M.at_ k:=if_neg h
theorem Fr.more {M:Mp} (hi:Inv M w) (hb:Below w.heap.size w w') (b:Nat) (t:T) (hB:w.heap.size<=b):Fr M (more M b t w.heap.size w'.heap.size) w w':=by
 refine ⟨hb.os,hb.tape,hb.output,hb.size,λk hk _=>hb.block k hk,λk u hm=>?_,λk hk hm=>?_,λk hk=>Or.inl hk,λk hk=>hk.elim Or.inl (λh=>Or.inr (Or.inl h.1))⟩
 .have:=hi.lt hm;rw [qM (by omega)]; exact hm
 .rw [qM (by omega)]; exact hm
def Ks0 (M:Mp) (lo:Nat) (w:World) (a:aK) (n c:Nat) (l:List T):Prop :=
 n<=c/\c<=maxLen/\l.length=n/\(a=none->c=0)/\∀ j,j<n->∃ b off p,a=some ⟨b,off,none⟩/\b<w.heap.size/\(M.ft b\/lo<=b)/\w.cell? ⟨b,off+j,none⟩=some (.pointer p)/\IsT M p (l.getD j .nil)
theorem Ks.weak {M:Mp} {lo:Nat} {a:aK} {n c:Nat} {l:List T} (h:Ks M w a n c l):Ks0 M lo w a n c l :=
 ⟨h.1,h.2.1,h.2.2.1,h.2.2.2.1,λj hj=>by
  obtain ⟨b,off,p,e,hlt,hf,hc,ht⟩:=h.at' j hj;exact ⟨b,off,p,e,hlt,Or.inl hf,hc,ht⟩⟩
theorem vU {M:Mp} {b:Nat} {t:T} {a:aK} {n c:Nat} {ka:aK} {kc:Nat} (hi:Inv M w) (hb:Below w.heap.size w w') (hB:w.heap.size<=b) (hn:t ≠ .nil)
  (hc:w'.heap[b]? = some (.cells (gY t a n c ka kn kc 0 (FZ t)) 135 (0,0))) (hp:bf w' a n c (bU t)) (hf:∀ ad,a=some ad->0<n->M.ft ad.block\/w.heap.size<=ad.block) (hk:Ks0 M w.heap.size w' ka kn kc (fq t)) :
  dz M w t (.returned (.agg #[.pointer (some ⟨b,0,none⟩)])) w':=by
 have f:=Fr.more hi hb b t hB;have hlt:b<w'.heap.size:=(Array.getElem?_eq_some_iff.1 hc).1;refine ⟨_,Tm.more M b t w.heap.size w'.heap.size,rfl,⟨b,rfl,sG _ _ _ _ _,hn⟩,f,⟨λk hk=>hk.elim (λh=>aI (hi.lt_ k h) hb.size) (λh=>h.2),λk u hm=>?_⟩,hb⟩;by_cases e:k=b
 .subst e;rw [sG] at hm;obtain rfl:=Option.some.inj hm;refine ⟨hn,Or.inr ⟨hB,hlt⟩,a,n,c,ka,kn,kc,0,_,hc,⟨hp,λad e hn=>?_⟩,⟨hk.1,hk.2.1,hk.2.2.1,hk.2.2.2.1,λj hj=>?_⟩,Or.inl ⟨rfl,rfl⟩⟩
  .obtain ⟨b',off,e',hlt',_⟩:=hp.at' 0 hn;rcases hf ad e hn with h | h
   .exact Or.inl h
   .rw [e] at e';obtain rfl:=Option.some.inj e';exact Or.inr ⟨h,hlt'⟩
  .obtain ⟨b',off,p,e,hlt',hm,hcb,ht⟩:=hk.2.2.2.2 j hj;exact ⟨b',off,p,e,hlt',hm.elim Or.inl (λh=>Or.inr ⟨h,hlt'⟩),hcb,ht.mono f.mono⟩
 .rw [qM e] at hm;have hlt:=hi.lt hm;obtain ⟨h1,h2,a,n,c,ka,kn,kc,d,r,g1,g2,g3,g4⟩:=hi.part_ k u hm;exact ⟨h1,Or.inl h2,a,n,c,ka,kn,kc,d,r,(hb.block k hlt).trans g1,g2.fr hi f,g3.fr hi f,g4⟩
theorem XI {M:Mp} {t:T} (hi:Inv M w) (ht:IsT M p t) (hb:Below w.heap.size w w'):dz M w t (.returned (.agg #[.pointer p])) w' :=
 ⟨p,M,rfl,ht,Fr.below M hb,hi.below hb,hb⟩
def mD (ps:List (aK)):aN:=(ps.map Value.pointer).toArray
theorem Ks0.row {M:Mp} {lo:Nat} {b:Nat} {ps:List (aK)} {t:TypeId} {l:List T} (hlo:lo<=b) (h:Rg.Own w b (mD ps) t) (hl:ps.length=l.length) (hm:ps.length<=maxLen) (ht:∀ j,j<ps.length->IsT M (ps.getD j none) (l.getD j .nil)):Ks0 M lo w (some ⟨b,0,none⟩) ps.length ps.length l:=by
 refine ⟨aG,hm,hl.symm,λe=>(by cases e),λj hj=>?_⟩;have hc:w.cell? ⟨b,j,none⟩=some (.pointer (ps.getD j none)):=by
  rw [cell_of_row w b _ _ _ _ h.2];simp [mD,List.getD,hj]
 exact ⟨b,0,_,rfl,h.1,Or.inr hlo,by rw [Nat.zero_add]; exact hc,ht j hj⟩
abbrev tv (p:aK):Value:=.agg #[.pointer p]
theorem fB (w:World) (p:aK):(w.alloc (.cells #[.pointer p] 35)).cell? ⟨w.heap.size,0,none⟩=some (.pointer p):=by
 rw [World.cell?_alloc_mark]; rfl
theorem aW (hb:Below w1.heap.size w1 w2) {b o:Nat} (hc:w1.cell? ⟨b,o,none⟩=some v):w2.cell? ⟨b,o,none⟩=some v :=
 (hb.cell (p:=⟨b,o,none⟩) (World.block_lt_of_cell? w1 _ hc)).trans hc
theorem MZ {b o:Nat} (hc:w.cell? ⟨b,o,none⟩=some v):(w.alloc o').cell? ⟨b,o,none⟩=some v:=aW (al1 _ _) hc
theorem lH (p:aK) (w:World):Calls prog 112 #[.agg #[.pointer p]] w λe w'=>e = .returned (.bool p.isNone)/\Below w.heap.size w w':=by
 have h0:=fB w p;cases p with
 | none =>
  go_enter func112,ntmps112;go_wp2;go_ret;exact ⟨rfl,al1 _ _⟩
 | some ad =>
  go_enter func112,ntmps112;go_wp2;go_ret;exact ⟨rfl,al1 _ _⟩
theorem jL {b:Nat} {t:T} {a:aK} {n c:Nat} {ka:aK} {kc:Nat} (h:w.heap[b]? = some (.cells (gY t a n c ka kn kc d r) 135 (0,0))) :
  (w.cell? ⟨b,0,none⟩=some (.int .i64 (dB t))/\w.cell? ⟨b,1,none⟩=some (.slice a n c)/\w.cell? ⟨b,2,none⟩=some (.string (Fu t))/\w.cell? ⟨b,3,none⟩=some (.slice ka kn kc))/\
  w.cell? ⟨b,4,none⟩=some (.int .u32 d)/\w.cell? ⟨b,5,none⟩=some (.int .i32 0)/\w.cell? ⟨b,6,none⟩=some (.int .u32 0)/\w.cell? ⟨b,7,none⟩=some (.string r):=by
 refine ⟨⟨?_,?_,?_,?_⟩,?_,?_,?_,?_⟩;all_goals
  rw [cell_of_row w b _ _ _ _ h];rfl
theorem Inv.kind {M:Mp} (hi:Inv M w) {b:Nat} {t:T} (hm:M.at_ b=some t):w.cell? ⟨b,0,none⟩=some (.int .i64 (dB t)):=by
 obtain ⟨a,n,c,ka,kn,kc,d,r,hb,_⟩:=hi.part hm;exact (jL hb).1.1
theorem dA (M:Mp) (p:aK) (t:T) (w:World) (hi:Inv M w) (ht:IsT M p t) :
  Calls prog 67 #[.agg #[.pointer p]] w λe w'=>e = .returned (.int .i64 (dB t))/\Below w.heap.size w w':=by
 have h0:=fB w p;have HE:=hid (lH p (w.alloc (.cells #[.pointer p] 35)));cases p with
 | none =>
  obtain rfl:t = .nil:=ht;go_enter func67,ntmps67;go_wp2_with fail
  refine HE.out.mono ?_;rintro e w2 ⟨rfl,hb⟩;go_wp2;go_ret;exact ⟨rfl,bst (al1 _ _) hb⟩
 | some ad =>
  obtain ⟨b,rfl,hm,_⟩:=ht;have hk:=MZ (o':=.cells #[.pointer (some ⟨b,0,none⟩)] 35) (hi.kind hm);go_enter func67,ntmps67;go_wp2_with fail
  refine HE.out.mono ?_;rintro e w2 ⟨rfl,hb⟩;have h1:=aW hb h0;have h2:=aW hb hk;clear h0 hk;go_wp2;go_ret;exact ⟨rfl,bst (al1 _ _) hb⟩
def dL (a:aK) (c i:Nat):aK:=if c=i then a else a.map (·.add i)
theorem jJ (w:World):(sizeOf (prog.elem 40)).run prog w = .ok 1 w:=by kernel_rfl
theorem xk (w:World):(sizeOf (prog.elem 122)).run prog w = .ok 1 w:=by kernel_rfl
theorem iL:prog.underlying 40=some (.slice (prog.elem 40)):=by kernel_rfl
theorem lZ:prog.underlying 122=some (.slice (prog.elem 122)):=by kernel_rfl
section
variable {P:Program} {t:TypeId} {a:aK} {n c:Nat}
theorem Ui (ht:P.underlying t=some (.slice (P.elem t))) (hs:∀ w,(sizeOf (P.elem t)).run P w = .ok 1 w) (i:Nat) (hi:i<=n) (w:World) :
  (Instr.sliceAt t (.slice a n c) (some (.int .i64 i)) none none).run P w = .ok (.slice (dL a c i) (n-i) (c-i)) w:=by
 rw [run_sliceAt_slice (h:=ht),run_slice_l w t a n c ht .i64 i (by omega) (by omega),hs];simp [Result.andThen,sliced,dL]
theorem Td (ht:P.underlying t=some (.slice (P.elem t))) (hs:∀ w,(sizeOf (P.elem t)).run P w = .ok 1 w) (j:Nat) (hj:j<=c) (w:World) :
  (Instr.sliceAt t (.slice a n c) none (some (.int .i64 j)) none).run P w = .ok (.slice a j c) w:=by
 rw [run_sliceAt_slice (h:=ht),run_slice_h w t a n c ht .i64 j (by omega) (by omega),hs];have:a.map (λx=>x.add 0)=a:=by cases a <;> simp [Addr.add]
 simp [Result.andThen,sliced,this]
end
theorem kP {P:Program} {t:TypeId} {a:aK} {n c:Nat} {w:World} (ht:P.underlying t=some (.slice (P.elem t))) (hs:∀ w,(sizeOf (P.elem t)).run P w = .ok 1 w) (hi:i<=n)
  (ho:∃ x lo,o.op = .slice t x (some lo) none none/\ev x = .slice a n c/\ev lo = .int .i64 i):(execOp ev o).run P w = .ok (.value (.slice (dL a c i) (n-i) (c-i))) w:=by
 obtain ⟨x,lo,ho,hx,hl⟩:=ho;unfold execOp;simp only [ho,hx,hl,Option.map_some,Option.map_none,Sem.run_bind,Sem.run_pure,Result.andThen_ok,Ui ht hs i hi]
theorem pX {P:Program} {t:TypeId} {a:aK} {n c:Nat} {w:World} (ht:P.underlying t=some (.slice (P.elem t))) (hs:∀ w,(sizeOf (P.elem t)).run P w = .ok 1 w) (hj:j<=c)
  (ho:∃ x hi,o.op = .slice t x none (some hi) none/\ev x = .slice a n c/\ev hi = .int .i64 j):(execOp ev o).run P w = .ok (.value (.slice a j c)) w:=by
 obtain ⟨x,lo,ho,hx,hl⟩:=ho;unfold execOp;simp only [ho,hx,hl,Option.map_some,Option.map_none,Sem.run_bind,Sem.run_pure,Result.andThen_ok,Td ht hs j hj]
theorem yV {a:aK} {n c:Nat} {l:aM} (h:bf w a n c l) (i:Nat) (hi:i<=n):bf w (dL a c i) (n-i) (c-i) (l.drop i):=by
 have h1:=h.1;have h2:=h.2.1;refine ⟨by omega,by omega,by rw [List.length_drop,h.len],λe=>?_,λj hj=>?_⟩
 .unfold dL at e;split at e
  .omega
  .have:a=none:=by simpa using e
   have:=h.2.2.2.1 this;omega
 .obtain ⟨b,off,e,hlt,hc⟩:=h.at' (i+j) (by omega);refine ⟨b,off+i,?_,hlt,?_⟩
  .unfold dL;rw [if_neg (by omega),e];simp [Addr.add_mid]
  .rw [Nat.add_assoc,hc];simp [List.getD]
theorem GR {a:aK} {c i:Nat} {ad:Addr} (h:dL a c i=some ad):∃ Fl,a=some Fl/\Fl.block=ad.block:=by
 unfold dL at h;split at h
 .exact ⟨ad,h,rfl⟩
 .cases a with
  | none=>cases h
  | some x =>
   refine ⟨x,rfl,?_⟩;have:x.add i=ad:=by simpa using h
   rw [<-this];unfold Addr.add;split <;> rfl
theorem Bs.from' {M:Mp} {a:aK} {n c:Nat} {l:aM} (h:Bs M w a n c l) (i:Nat) (hi:i<=n):Bs M w (dL a c i) (n-i) (c-i) (l.drop i) :=
 ⟨yV h.1 i hi,λad e hn=>by
  obtain ⟨Fl,e',hb⟩:=GR e;rw [<-hb];exact h.2 Fl e' (by omega)⟩
theorem Bs.upto {M:Mp} {a:aK} {n c:Nat} {l:aM} (h:Bs M w a n c l) (j:Nat) (hj:j<=n):Bs M w a j c (l.take j):=by
 have h1:=h.1.1;refine ⟨⟨by omega,h.1.2.1,by rw [List.length_take,h.1.len]; omega,h.1.2.2.2.1,λi hi=>?_⟩,λad e hn=>h.2 ad e (by omega)⟩;obtain ⟨b,off,e,hlt,hc⟩:=h.1.at' i (by omega);refine ⟨b,off,e,hlt,?_⟩;rw [hc];simp [List.getD,hi]
theorem xA:(prog.info? 35).map (·.size)=some 1:=by kernel_rfl
theorem wO {w:World} {b o:Nat} {p:aK} (hc:w.cell? ⟨b,o,none⟩=some (.pointer p)):(loadVar 35 ⟨b,o,none⟩).run prog w = .ok (tv p) w :=
 run_loadVar_mid w b o 35 [.pointer p] _ (λj v hv=>by
  cases j with
  | zero=>simp at hv; subst hv; exact hc
  | succ j=>simp at hv) underlying35 rfl (by rw [xA]; rfl)
theorem aU {b off:Nat} (hc:w.cell? ⟨b,off,none⟩=some (.pointer p)) (ho:∃ x,o.op = .load 35 x/\ev x = .pointer (some ⟨b,off,none⟩)) :
  (execOp ev o).run prog w = .ok (.value (tv p)) w:=by
 obtain ⟨x,ho,hx⟩:=ho;unfold execOp;simp only [ho,hx,Instr.loadAt,Instr.sureAddr,Sem.run_bind,Sem.run_pure,Result.andThen_ok,wO hc]
theorem bN (w:World) (b o:Nat) (v:Value):Rg.Upd w b (w.setCell ⟨b,o,none⟩ v):=⟨rfl,rfl,rfl,by simp,λk hk=>Below.heap_setCell w _ v k hk⟩
theorem dw {b o:Nat} {cs:aN} {t:TypeId} (h:Rg.Own w b cs t) (v:Value):Rg.Own (w.setCell ⟨b,o,none⟩ v) b (cs.setIfInBounds o v) t:=by
 refine ⟨by simp; exact h.1,?_⟩;have hb:=h.2;simp only [World.setCell,Array.getElem?_modify,hb];simp
theorem aV {b:Nat} {cs:aN} {t:TypeId} (h:Rg.Own w b cs t) (hv:cs[j]? = some v):w.cell? ⟨b,j,none⟩=some v:=by
 rw [cell_of_row w b _ _ _ _ h.2]; exact hv
theorem zD {b o:Nat} {cs:aN} {t:TypeId} (h:Rg.Own w b cs t) (ho:o<cs.size) (p:aK) :
  (Instr.storeAt 35 (.pointer (some ⟨b,o,none⟩)) (tv p)).run prog w = .ok () (w.setCell ⟨b,o,none⟩ (.pointer p)):=by
 have hc:w.cell? ⟨b,o,none⟩=some cs[o]:=aV h (Array.getElem?_eq_getElem ho);exact run_storeAt_mid w b o 35 #[.pointer p] (λj hj=>by
  obtain rfl:j=0:=by simp at hj; exact hj
  exact ⟨by rw [Nat.add_zero,hc]; rfl,gJ h⟩) (by rw [xA]; rfl) (by simp [Value.oneCell'])
theorem aZ {rest:List Oper} {b off:Nat} {cs:aN} {t:TypeId} (h:Rg.Own w b cs t) (hof:off<cs.size) (p:aK)
  (hgd:o.guard=none) (x y:Operand) (ho:o.op = .store 35 x y) (hx:act.eval x = .pointer (some ⟨b,off,none⟩)) (hy:act.eval y=tv p)
  (hQ:∀ w',Rg.Own w' b (cs.setIfInBounds off (.pointer p)) t->Rg.Upd w b w'->wpList prog ops Q rest (act.put o.dst undef) w'):wpList prog ops Q (o::rest) act w :=
 wpList_plain hgd λK hK=>by
  unfold Oper.wp execOp;simp only [ho,hx,hy,Sem.run_bind,Sem.run_pure,Result.andThen_ok,zD h hof p];exact hK _ _ (hQ _ (dw h _) (bN _ _ _ _))
theorem eD {a:Act} (hw:Region.wanted o (yielded ops a.tmps)=true) {b off:Nat} {cs:aN} {t:TypeId} (hg:Rg.Own w b cs t) (hof:off<cs.size) (p:aK)
  (ho:∃ x y,o.op = .store 35 x y/\a.eval x = .pointer (some ⟨b,off,none⟩)/\a.eval y=tv p)
  (h:∀ w',Rg.Own w' b (cs.setIfInBounds off (.pointer p)) t->Rg.Upd w b w'->K (a.put o.dst undef) w'):if Region.wanted o (yielded ops a.tmps)=true then Oper.wp prog o a w K Q else K (a.put o.dst undef) w:=by
 obtain ⟨x,y,ho,hx,hy⟩:=ho;refine Rg.want hw ?_;unfold Oper.wp execOp;simp only [ho,hx,hy,Sem.run_bind,Sem.run_pure,Result.andThen_ok,zD hg hof p];exact h _ (dw hg _) (bN _ _ _ _)
theorem eF {fn:Func} {q:Tmp} (hf:fn.results = #[.cell q 35]) (tmps:aN) {b:Nat} (hp:tmps.getD q undef = .pointer (some ⟨b,0,none⟩)) (h:Rg.Own w b #[.pointer p] 35) :
  (results fn tmps).run prog w = .ok (tv p) w:=by
 have hp':tmps[q]?.getD undef = .pointer (some ⟨b,0,none⟩):=by simpa using hp
 simp [results,hf,hp',asAddr,wO (aV (j:=0) h rfl)]
theorem jq {fn:Func} {q u:Tmp} (hf:fn.results = #[.cell q 35,.tmp u]) (tmps:aN) {b:Nat} (hp:tmps.getD q undef = .pointer (some ⟨b,0,none⟩)) (h:Rg.Own w b #[.pointer p] 35) :
  (results fn tmps).run prog w = .ok (.tuple #[tv p,tmps.getD u undef]) w:=by
 have hp':tmps[q]?.getD undef = .pointer (some ⟨b,0,none⟩):=by simpa using hp
 simp [results,hf,hp',asAddr,wO (aV (j:=0) h rfl)]
theorem aX (ev:Operand->Value) (o:Oper) (w:World) (b:Nat) (hb:b=w.heap.size) (ho:o.op = .alloc 35) :
  (execOp ev o).run prog w = .ok (.value (.pointer (some ⟨b,0,none⟩))) (w.alloc (.cells #[.pointer none] 35)):=by
 subst hb;unfold execOp;rw [ho];kernel_rfl
theorem uE (a:aK) (n c:Nat) (p:Pa) (v:aL):prog.built 135 [(0,.int .i64 1),(1,.slice a n c),(2,.string v)]=some (gY (.leaf p v) a n c none 0 0 0 eB):=by kernel_rfl
theorem wR (a:aK) (n c:Nat) (ka:aK) (kn kc:Nat) (q:Pa) (t:T):prog.built 135 [(0,.int .i64 2),(1,.slice a n c),(3,.slice ka kn kc)]=some (gY (.ext q t) a n c ka kn kc 0 eB):=by kernel_rfl
theorem VW (ka:aK) (kn kc:Nat) (ks:Fin 16->T):prog.built 135 [(0,.int .i64 3),(3,.slice ka kn kc)]=some (gY (.br ks) none 0 0 ka kn kc 0 eB):=by kernel_rfl
theorem zT (r:aL):prog.built 135 [(0,.int .i64 (-1)),(5,.string r)]=some (gY (.stub r) none 0 0 none 0 0 0 r):=by kernel_rfl
theorem jd {t:T} {a:aK} {n c:Nat} {ka:aK} {kc:Nat} (ho:∃ x,o.op = .box 135 x/\ev x = .agg (gY t a n c ka kn kc d r)) :
  (execOp ev o).run prog w = .ok (.value (.pointer (some ⟨w.heap.size,0,none⟩))) (w.alloc (.cells (gY t a n c ka kn kc d r) 135)):=by
 obtain ⟨x,ho,hx⟩:=ho;unfold execOp;simp only [ho,hx];rfl
theorem yP {b:Nat} {cs:aN} {t:TypeId} (h:Rg.Own w b cs t) (hu:Rg.Upd w g w') (hne:b≠g):w'.heap[b]? = some (.cells cs t (0,0)):=(h.upd hu hne).2
theorem nL (M:Mp) (a:aK) (n c:Nat) (q:Pa) (v:aL) (w:World) (hi:Inv M w) (hB:Bs M w a n c q) :
  Calls prog 103 #[.slice a n c,.string v] w (dz M w (.leaf q v)):=by
 obtain ⟨w1,hw1⟩:=au (w.alloc (.cells #[.pointer none] 35))
 have hR:Rg.Own w1 w.heap.size #[.pointer none] 35:=by rw [hw1]; exact Rg.Own.new _ _ _
 have hb1:Below w.heap.size w w1:=by rw [hw1]; exact al1 _ _
 have hs1:w1.heap.size=w.heap.size+1:=by rw [hw1]; simp
 obtain ⟨w2,hw2⟩:=au (w1.alloc (.cells (gY (.leaf q v) a n c none 0 0 0 eB) 135))
 have hP:Rg.Own w2 w1.heap.size (gY (.leaf q v) a n c none 0 0 0 eB) 135:=by rw [hw2]; exact Rg.Own.new _ _ _
 have hb2:Below w1.heap.size w1 w2:=by rw [hw2]; exact al1 _ _
 have HR:=hid (hR.below hb2);have HE:Hid (∀ w3,Rg.Upd w2 w.heap.size w3->dz M w (.leaf q v) (.returned (tv (some ⟨w1.heap.size,0,none⟩))) w3):=hid (λw3 hu =>
  have hb:=hu.below (hb1.trans (hb2.mono hb1.size)) aG
  vU hi hb hb1.size (λe=>by cases e) (yP hP hu (by omega)) (hB.1.below hb) (λad e hn=>Or.inl (hB.2 ad e hn)) (Ks.nil _ _).weak)
 clear hR hb1 hb2 hP hi hB;subst hw2;subst hw1;go_enter func103,ntmps103;go_wp2_with (first
  | (refine aA (aX _ _ _ _ rfl rfl) ?_)
  | (refine aA (bL (uE a n c q v) ⟨_,rfl,rfl⟩) ?_)
  | (refine aA (jd ⟨_,rfl,rfl⟩) ?_)
  | (refine aZ HR.out (by decide) (some ⟨w.heap.size+1,0,none⟩) rfl _ _ rfl rfl rfl ?_; intro w3 hO3 hu3; have ag:=hid hO3; have me:=hid hu3; clear hO3 hu3))
 have:=HE.out w3 me.out;rw [hs1] at this;exact bodyPost_ret (eF rfl _ rfl ag.out) rfl this
theorem En (b:Nat) (hb:b=w.heap.size) (ho:∃ x,o.op = .buildSlice 122 1 #[(0,x)]/\ev x=tv p) :
  (execOp ev o).run prog w = .ok (.value (.slice (some ⟨b,0,none⟩) 1 1)) (w.alloc (.cells (mD [p]) 35)):=by
 obtain ⟨x,ho,hx⟩:=ho;subst hb;unfold execOp;simp only [ho,List.map_toArray,List.map_cons,List.map_nil,hx];kernel_rfl
theorem mI (w:World) (p:aK):∃ w2,w2=(w.alloc (.cells #[.pointer p] 35)).alloc (.cells #[.pointer none] 35)/\Rg.Own w2 w.heap.size #[.pointer p] 35/\Rg.Own w2 (w.heap.size+1) #[.pointer none] 35/\Below w.heap.size w w2/\w2.heap.size=w.heap.size+2:=by
 refine ⟨_,rfl,(Rg.Own.new _ _ _).below (al1 _ _),?_,al2 _ _ _,by simp⟩;have:=Rg.Own.new (w.alloc (.cells #[.pointer p] 35)) #[.pointer none] 35;simpa using this
theorem jK (M:Mp) (ka:aK) (kn kc:Nat) (ks:Fin 16->T) (w:World) (hi:Inv M w) (hK:Ks M w ka kn kc (fq (.br ks))) :
  Calls prog 149 #[.slice ka kn kc] w (dz M w (.br ks)):=by
 obtain ⟨w1,hw1⟩:=au (w.alloc (.cells #[.pointer none] 35))
 have hR:Rg.Own w1 w.heap.size #[.pointer none] 35:=by rw [hw1]; exact Rg.Own.new _ _ _
 have hb1:Below w.heap.size w w1:=by rw [hw1]; exact al1 _ _
 have hs1:w1.heap.size=w.heap.size+1:=by rw [hw1]; simp
 obtain ⟨w2,hw2⟩:=au (w1.alloc (.cells (gY (.br ks) none 0 0 ka kn kc 0 eB) 135))
 have hP:Rg.Own w2 w1.heap.size (gY (.br ks) none 0 0 ka kn kc 0 eB) 135:=by rw [hw2]; exact Rg.Own.new _ _ _
 have hb2:Below w1.heap.size w1 w2:=by rw [hw2]; exact al1 _ _
 have HR:=hid (hR.below hb2);have HE:Hid (∀ w3,Rg.Upd w2 w.heap.size w3->dz M w (.br ks) (.returned (tv (some ⟨w1.heap.size,0,none⟩))) w3):=hid (λw3 hu =>
  have hb:=hu.below (hb1.trans (hb2.mono hb1.size)) aG
  vU hi hb hb1.size (λe=>by cases e) (yP hP hu (by omega)) (bf.nil _) (λ_ e=>by cases e) (hK.fr hi (Fr.below M hb)).weak)
 clear hR hb1 hb2 hP hi hK;subst hw2;subst hw1;go_enter func149,ntmps149;go_wp2_with (first
  | (refine aA (aX _ _ _ _ rfl rfl) ?_)
  | (refine aA (bL (VW ka kn kc ks) ⟨_,rfl,rfl⟩) ?_)
  | (refine aA (jd ⟨_,rfl,rfl⟩) ?_)
  | (refine aZ HR.out (by decide) (some ⟨w.heap.size+1,0,none⟩) rfl _ _ rfl rfl rfl ?_; intro w3 hO3 hu3; have ag:=hid hO3; have me:=hid hu3; clear hO3 hu3))
 have:=HE.out w3 me.out;rw [hs1] at this;exact bodyPost_ret (eF rfl _ rfl ag.out) rfl this
theorem uq (M:Mp) (a:aK) (n c:Nat) (q:Pa) (p:aK) (t:T) (w:World) (hi:Inv M w) (hB:Bs M w a n c q) (ht:IsT M p t) :
  Calls prog 151 #[.slice a n c,.agg #[.pointer p]] w (dz M w (wrap q t)):=by
 obtain ⟨w2,hw2,am,ab,hb2,hs2⟩:=mI w p;have hl:=hB.1.len;have hlc:=hB.1.1;have hmx:=hB.1.2.1;unfold maxLen at hmx;have H0:=hid am;by_cases hn:n=0
 .subst hn;obtain rfl:q=[]:=List.eq_nil_of_length_eq_zero hl;have H1:=hid ab;have HE:Hid (∀ w3,Rg.Upd w2 (w.heap.size+1) w3->dz M w (wrap [] t) (.returned (tv p)) w3):=hid (λw3 hu=>XI hi ht (hu.below hb2 (by omega)));clear am ab hb2 hs2 hB hi ht hl;subst hw2;go_enter func151,ntmps151;go_wp2_with (first
   | (refine aA (aX _ _ _ (w.heap.size+1) (by simp) rfl) ?_)
   | (refine aA (aU (aV (j:=0) H0.out rfl) ⟨_,rfl,rfl⟩) ?_)
   | (refine aZ H1.out (by decide) p rfl _ _ rfl rfl rfl ?_; intro w3 hO3 hu3; have ag:=hid hO3; have me:=hid hu3; clear hO3 hu3))
  exact bodyPost_ret (eF rfl _ rfl ag.out) rfl (HE.out w3 me.out)
 .have hq:q≠[]:=λe=>hn (by rw [<-hl,e]; rfl);have hwr:wrap q t = .ext q t:=if_neg hq;rw [hwr];have hnz:((n:Int)==0)=false:=by simp; omega
  obtain ⟨w3,hw3⟩:=au (w2.alloc (.cells (mD [p]) 35))
  have hK:Rg.Own w3 w2.heap.size (mD [p]) 35:=by rw [hw3]; exact Rg.Own.new _ _ _
  have hb3:Below w2.heap.size w2 w3:=by rw [hw3]; exact al1 _ _
  have hs3:w3.heap.size=w.heap.size+3:=by rw [hw3]; simp [hs2]
  obtain ⟨w4,hw4⟩:=au (w3.alloc (.cells (gY (.ext q t) a n c (some ⟨w2.heap.size,0,none⟩) 1 1 0 eB) 135))
  have hP:Rg.Own w4 w3.heap.size (gY (.ext q t) a n c (some ⟨w2.heap.size,0,none⟩) 1 1 0 eB) 135:=by rw [hw4]; exact Rg.Own.new _ _ _
  have hb4:Below w3.heap.size w3 w4:=by rw [hw4]; exact al1 _ _
  have fx:Below w2.heap.size w2 w4:=hb3.trans (hb4.mono hb3.size);have H1:=hid (ab.below fx);have H2:=hid (ab);have HE:Hid (∀ w5,Rg.Upd w4 (w.heap.size+1) w5->dz M w (.ext q t) (.returned (tv (some ⟨w3.heap.size,0,none⟩))) w5):=hid (λw5 hu=>by
   have hb:=hu.below (hb2.trans (fx.mono hb2.size)) (show w.heap.size<=w.heap.size+1 by omega);refine vU hi hb (by omega) (λe=>by cases e) (yP hP hu (by omega)) (hB.1.below hb) (λad e hn=>Or.inl (hB.2 ad e hn)) ?_;exact Ks0.row (ps:=[p]) (b:=w2.heap.size) (by omega) ((hK.below hb4).upd hu (by omega)) rfl (by unfold maxLen; simp) (λj hj=>by
    obtain rfl:j=0:=by simp at hj; exact hj
    exact ht))
  rw [hs3] at HE;rw [hs2] at hw4;clear am ab hb2 hb3 hb4 fx hP hK hB hi ht hwr hs3;subst hw4;subst hw3;subst hw2;clear hs2;go_enter func151,ntmps151;go_wp2_with (first
   | (refine aA (aX _ _ _ (w.heap.size+1) (by simp) rfl) ?_)
   | (refine aA (aU (aV (j:=0) H0.out rfl) ⟨_,rfl,rfl⟩) ?_)
   | (refine aA (En (p:=p) (w.heap.size+2) (by simp) ⟨_,rfl,rfl⟩) ?_)
   | (refine aA (bL (wR a n c (some ⟨w.heap.size+2,0,none⟩) 1 1 q t) ⟨_,rfl,rfl⟩) ?_)
   | (refine aA (jd ⟨_,rfl,rfl⟩) ?_)
   | (refine aZ H1.out (by decide) (some ⟨w.heap.size+3,0,none⟩) rfl _ _ rfl rfl rfl ?_; intro w5 ap aq; have az:=hid ap; have n9:=hid aq; clear ap aq))
  exact bodyPost_ret (eF rfl _ rfl az.out) rfl (HE.out w5 n9.out)
def iQ (w:World) (a:aK) (n c:Nat) (ps:List (aK)):Prop :=
 n<=c/\c<=maxLen/\ps.length=n/\(a=none->c=0)/\∀ j,j<n->∃ b off,a=some ⟨b,off,none⟩/\b<w.heap.size/\w.cell? ⟨b,off+j,none⟩=some (.pointer (ps.getD j none))
def Are (M:Mp) (ps:List (aK)) (l:List T):Prop:=ps.length=l.length/\∀ j,j<ps.length->IsT M (ps.getD j none) (l.getD j .nil)
theorem Ks.ptrs {M:Mp} {a:aK} {n c:Nat} {l:List T} (h:Ks M w a n c l):∃ ps,iQ w a n c ps/\Are M ps l:=by
 have hp:∀ j,∃ p,j<n->∃ b off,a=some ⟨b,off,none⟩/\b<w.heap.size/\w.cell? ⟨b,off+j,none⟩=some (.pointer p)/\IsT M p (l.getD j .nil):=λj=>by
  by_cases hj:j<n
  .obtain ⟨b,off,p,e,hlt,_,hc,ht⟩:=h.at' j hj;exact ⟨p,λ_=>⟨b,off,e,hlt,hc,ht⟩⟩
  .exact ⟨none,λh=>absurd h hj⟩
 obtain ⟨F,hF⟩:∃ F:Nat->aK,∀ j,j<n->∃ b off,a=some ⟨b,off,none⟩/\b<w.heap.size/\w.cell? ⟨b,off+j,none⟩=some (.pointer (F j))/\IsT M (F j) (l.getD j .nil):=⟨λj=>Classical.choose (hp j),λj=>Classical.choose_spec (hp j)⟩
 have e:∀ j,j<n->((List.range n).map F).getD j none=F j:=λj hj=>by simp [List.getD,hj]
 refine ⟨(List.range n).map F,⟨h.1,h.2.1,by simp,h.2.2.2.1,λj hj=>?_⟩,by simp [h.len],λj hj=>?_⟩
 .obtain ⟨b,off,e1,hlt,hc,_⟩:=hF j hj;exact ⟨b,off,e1,hlt,by rw [e j hj]; exact hc⟩
 .have hj':j<n:=by simpa using hj
  obtain ⟨_,_,_,_,_,ht⟩:=hF j hj';rw [e j hj']; exact ht
theorem iQ.ks {M:Mp} {a:aK} {n c:Nat} {ps:List (aK)} {l:List T} (h:iQ w a n c ps) (ha:Are M ps l) (hf:∀ ad,a=some ad->0<n->M.ft ad.block):Ks M w a n c l:=by
 have hl:=h.2.2.1;refine ⟨h.1,h.2.1,by rw [<-ha.1]; exact hl,h.2.2.2.1,λj hj=>?_⟩;obtain ⟨b,off,e,hlt,hc⟩:=h.2.2.2.2 j hj;exact ⟨b,off,_,e,hlt,hf _ e (by omega),hc,ha.2 j (by omega)⟩
theorem iQ.below {a:aK} {n c:Nat} {ps:List (aK)} (h:iQ w a n c ps) (hb:Below w.heap.size w w'):iQ w' a n c ps:=by
 refine ⟨h.1,h.2.1,h.2.2.1,h.2.2.2.1,λj hj=>?_⟩;obtain ⟨b,off,e,hlt,hc⟩:=h.2.2.2.2 j hj;exact ⟨b,off,e,aI hlt hb.size,by rw [hb.cell (p:=⟨b,off+j,none⟩) hlt]; exact hc⟩
theorem Are.mono {M M':Mp} {ps:List (aK)} {l:List T} (h:Are M ps l) (hm:∀ k t,M.at_ k=some t->M'.at_ k=some t):Are M' ps l:=⟨h.1,λj hj=>(h.2 j hj).mono hm⟩
theorem Are.set {M:Mp} {ps:List (aK)} {l:List T} (h:Are M ps l) (i:Nat) {t:T} (ht:IsT M p t):Are M (ps.set i p) (l.set i t):=by
 refine ⟨by simp [h.1],λj hj=>?_⟩;have hj':j<ps.length:=by simpa using hj
 have hjl:j<l.length:=by rw [<-h.1]; exact hj'
 by_cases e:i=j
 .subst e;rw [List.getD_eq_getElem?_getD,List.getD_eq_getElem?_getD,List.getElem?_set_self hj',List.getElem?_set_self hjl];exact ht
 .rw [List.getD_eq_getElem?_getD,List.getD_eq_getElem?_getD,List.getElem?_set_ne e,List.getElem?_set_ne e,<-List.getD_eq_getElem?_getD,<-List.getD_eq_getElem?_getD];exact h.2 j hj'
def RowK (w:World) (g cap:Nat) (ps:List (aK)):Prop :=
 ∃ cur,Rg.Own w g cur 35/\cur.size=cap/\ps.length<=cap/\cap<=maxLen/\∀ j,j<ps.length->cur[j]? = some (.pointer (ps.getD j none))
theorem RowK.lt {ps:List (aK)} (h:RowK w g cap ps):g<w.heap.size:=by
 obtain ⟨cur,hO,_⟩:=h;exact hO.1
theorem RowK.below {w w':World} {g cap:Nat} {ps:List (aK)} (h:RowK w g cap ps) (hb:Below w.heap.size w w'):RowK w' g cap ps:=by
 obtain ⟨cur,hO,h1⟩:=h;exact ⟨cur,hO.below hb,h1⟩
theorem RowK.upd {w w':World} {g b cap:Nat} {ps:List (aK)} (h:RowK w g cap ps) (hu:Rg.Upd w b w') (hne:g≠b):RowK w' g cap ps:=by
 obtain ⟨cur,hO,h1⟩:=h;exact ⟨cur,hO.upd hu hne,h1⟩
theorem RowK.ptrs {ps:List (aK)} (h:RowK w g cap ps):iQ w (some ⟨g,0,none⟩) ps.length cap ps:=by
 obtain ⟨cur,hO,hs,hl,hm,hc⟩:=h;exact ⟨hl,hm,rfl,λe=>(by cases e),λj hj=>⟨g,0,rfl,hO.1,by rw [Nat.zero_add,cell_of_row w g _ _ _ _ hO.2]; exact hc j hj⟩⟩
theorem OV {ps:List (aK)} (hc:∀ j,j<ps.length->cur[j]? = some (.pointer (ps.getD j none))) (i:Nat) (p:aK) (hi:i<cur.size):∀ j,j<(ps.set i p).length->(cur.setIfInBounds i (.pointer p))[j]? = some (.pointer ((ps.set i p).getD j none)):=λj hj=>by
 have hj':j<ps.length:=by simpa using hj
 by_cases e:i=j
 .subst e;rw [List.getD_eq_getElem?_getD,List.getElem?_set_self hj'];simp [hi]
 .rw [List.getD_eq_getElem?_getD,List.getElem?_set_ne e,<-List.getD_eq_getElem?_getD,Array.getElem?_setIfInBounds_ne e];exact hc j hj'
theorem tu {rest:List Oper} {ps:List (aK)} (h:RowK w g cap ps) (hof:i<ps.length) (p:aK)
  (hgd:o.guard=none) (x y:Operand) (ho:o.op = .store 35 x y) (hx:act.eval x = .pointer (some ⟨g,i,none⟩)) (hy:act.eval y=tv p)
  (hQ:∀ w',RowK w' g cap (ps.set i p)->Rg.Upd w g w'->wpList prog ops Q rest (act.put o.dst undef) w'):wpList prog ops Q (o::rest) act w:=by
 obtain ⟨cur,hO,hs,hl,hm,hc⟩:=h;refine aZ hO (off:=i) (by omega) p hgd x y ho hx hy (λw' oa hu=>hQ w' ⟨_,oa,by simp [hs],by simpa using hl,hm,OV hc i p (by omega)⟩ hu)
theorem KO:(prog.info? 35).map (λi=>(i.size,i.bytes))=some (1,8):=by kernel_rfl
theorem Af:((prog.info? 35).bind (·.zero)).map (·.cells)=some #[.pointer none]:=by kernel_rfl
theorem jF:∃ i z,prog.info? 35=some i/\i.zero=some z/\i.size=1/\i.bytes=8/\z.cells.size=1:=by
 have h1:=KO;have h2:=Af;cases hi:prog.info? 35 with
 | none=>rw [hi] at h1; simp at h1
 | some i =>
  rw [hi] at h1 h2;simp at h1 h2;cases hz:i.zero with
  | none=>rw [hz] at h2; simp at h2
  | some z =>
   rw [hz] at h2;simp at h2;exact ⟨i,z,rfl,hz,h1.1,h1.2,by rw [h2]; rfl⟩
theorem ET (w:World):(binOp .eql 122 (.slice none 0 0) (.slice none 0 0)).run prog w = .ok (.bool true) w:=by kernel_rfl
theorem zN (a:Addr) (n cap:Nat) (w:World):(binOp .eql 122 (.slice (some a) n cap) (.slice none 0 0)).run prog w = .ok (.bool false) w:=by kernel_rfl
theorem KA (w:World):Calls prog 130 #[.slice none 0 0] w λe w'=>e = .returned (.slice none 0 0)/\w=w':=by
 have hnil:=ET;go_enter func130,ntmps130;go_wp2;go_ret;exact ⟨rfl,rfl⟩
def rM (w:World) (ps:List (aK)) (e:Ending) (w':World):Prop:=∃ g cap,e = .returned (.slice (some ⟨g,0,none⟩) ps.length cap)/\w.heap.size<=g/\RowK w' g cap ps/\Below w.heap.size w w'
theorem rC {ps:List (aK)} {n:Nat} (ho:w'.ownsRow w.heap.size 35 1 v n (ps.map Value.pointer)) (hl:ps.length=n) (hne:v ≠ .slice none 0 0) (hb:Below w.heap.size w w'):rM w ps (.returned v) w':=by
 rcases ho.2 with ⟨rfl,hz⟩ | ⟨g,cap,cur,rfl,hbg,hg,hnc,hcm,hcs,htake⟩
 .exact absurd rfl hne
 .subst hl;refine ⟨g,cap,rfl,hbg,⟨cur,⟨(Array.getElem?_eq_some_iff.1 hg).1,hg⟩,by omega,hnc,hcm,λj hj=>?_⟩,hb⟩;have h1:(ps.map Value.pointer)[j]? = some (.pointer (ps.getD j none)):=by simp [List.getD,hj]
  rw [<-htake,List.getElem?_take,if_pos (by omega)] at h1;simpa using h1
theorem zM (ad:Addr) (n cap:Nat) (ps:List (aK)) (w:World) (h:iQ w (some ad) n cap ps) (hn:n<=1000000) :
  Calls prog 130 #[.slice (some ad) n cap] w (rM w ps):=by
 obtain ⟨i0,z0,hi,hz,hs,hby,hzc⟩:=jF;have HI:Hid (_/\_/\_/\_/\_):=hid ⟨hi,hz,hs,hby,hzc⟩;have hl:=h.2.2.1;have hcell:∀ j u,(ps.map Value.pointer)[j]? = some u->(ad.add j).block<w.heap.size/\w.cell? (ad.add j)=some u:=λj u hu=>by
  have hj:j<n:=by rw [<-hl]; have:=(List.getElem?_eq_some_iff.1 hu).1; simpa using this
  obtain ⟨b,off,e,hlt,hc⟩:=h.2.2.2.2 j hj;obtain rfl:=Option.some.inj e;have hx:u = .pointer (ps.getD j none):=by
   have hj':j<ps.length:=by omega
   simp [hj'] at hu;simp [List.getD,hj',hu]
  rw [Addr.add_mid,hx];exact ⟨hlt,hc⟩
 have HC:=hid hcell;have HL:=hid hl;have hnil:=zN ad n cap;clear hi hz hs hby hzc h hcell hl;go_enter func130,ntmps130;have HO:Hid ((w.alloc (.cells #[] 35)).ownsRow w.heap.size 35 1 (.slice (some ⟨w.heap.size,0,none⟩) 0 0) 0 []):=hid (World.ownsRow_made w #[] 0 aG (Nat.zero_le _) (by simp))
 go_wp2_with (at_builtin; refine wpList_append_own _ rfl _ _ 122 rfl w.heap.size 35 i0 z0 1 8 underlying122 HI.out.1 HI.out.2.1 HI.out.2.2.1 HI.out.2.2.2.1 HI.out.2.2.2.2 (by decide) _ _ _ rfl HO.out ad n cap (ps.map Value.pointer) rfl (by simp [HL.out]) ?c2 ?c6 ?c3 ?c4 ?c5 ?_)
 case c2 =>
  intro j u hu;rw [(al1 w _).cell (HC.out j u hu).1];exact (HC.out j u hu).2
 case c6 =>
  intro u hu;simp at hu;obtain ⟨x,_,rfl⟩:=hu;rfl
 case c3=>unfold maxLen; omega
 case c4=>omega
 case c5=>simp
 intro v' w2 hown2 hgrow hnil';have HG:Hid (rM w ps (.returned v') w2):=hid (rC (by simpa using hown2) HL.out hnil' ((al1 w _).grown hgrow (by simp) (λk hk=>by simp [Value.ownBlock] at hk; omega)));clear hown2 hgrow hnil';go_wp2;go_ret;exact HG.out
open Ni
open Pk
theorem Ct:∀ x y:aM,ni x y=cp x y
 | [],_=>rfl
 | _::_,[]=>rfl
 | a::xs,b::ys=>by
  unfold ni cp;rw [Ct xs ys]
theorem Ag:∀ {q p:Pa},q<+:p->cp q p=q.length
 | [],_,_=>rfl
 | a::q,[],h=>by simp at h
 | a::q,b::p,h=>by
  obtain ⟨rfl,h2⟩:=List.cons_prefix_cons.1 h;unfold cp;rw [if_pos rfl,Ag h2]; rfl
theorem AB:∀ {q p:Pa},¬ q<+:p->cp q p<q.length
 | [],_,h=>absurd List.nil_prefix h
 | a::q,[],_=>by simp [cp]
 | a::q,b::p,h=>by
  unfold cp;by_cases e:a=b
  .subst e;rw [if_pos rfl];have:=AB (q:=q) (p:=p) (λg=>h (List.cons_prefix_cons.2 ⟨rfl,g⟩));simp; omega
  .rw [if_neg e]; simp
theorem xX (w:World) (q:Nat):Below w.heap.size w (w.drewN q):=below_drewN aH q
theorem oW (a b:aK) (n m c d:Nat) (x y:Pa) (hn:n<=1000000) (hm:m<=1000000) (hle:n<=m) (w:World) (ha:bf w a n c x) (hb:bf w b m d y) :
  Calls prog 113 #[.slice a n c,.slice b m d] w λe w'=>e = .returned (.int .i64 (cp x y:Nat))/\Below w.heap.size w w':=by
 have HC:=hid (MF a b n m c d x y hn hm w ha hb);have hx:=ha.len;have hl:cp x y<=n:=by rw [<-hx]; exact VU x y
 rw [Ct] at HC;obtain ⟨k,hk⟩:=ay (cp x y)
 rw [hk] at HC hl ⊢;clear hk ha hb hx;by_cases h:k=m
 .subst h;have h2:decide ((k:Int)<(n:Int))=false:=by simp; omega
  have h1:((k:Int)==(k:Int))=true:=by simp
  go_enter func113,ntmps113;go_wp2_with fail
  refine HC.out.mono ?_;rintro e w1 ⟨rfl,q,rfl⟩;go_wp2;go_ret;exact ⟨rfl,xX _ _⟩
 .have h1:((k:Int)==(m:Int))=false:=by simp; omega
  go_enter func113,ntmps113;go_wp2_with fail
  refine HC.out.mono ?_;rintro e w1 ⟨rfl,q,rfl⟩;go_wp2;go_ret;exact ⟨rfl,xX _ _⟩
theorem Inv.path {M:Mp} (hi:Inv M w) {b:Nat} {t:T} (hm:M.at_ b=some t):∃ a n c,w.cell? ⟨b,1,none⟩=some (.slice a n c)/\Bs M w a n c (bU t):=by
 obtain ⟨a,n,c,ka,kn,kc,d,r,hb,hB,_⟩:=hi.part hm;exact ⟨a,n,c,(jL hb).1.2.1,hB⟩
theorem Inv.val {M:Mp} (hi:Inv M w) {b:Nat} {t:T} (hm:M.at_ b=some t):w.cell? ⟨b,2,none⟩=some (.string (Fu t)):=by
 obtain ⟨a,n,c,ka,kn,kc,d,r,hb,_⟩:=hi.part hm;exact (jL hb).1.2.2.1
theorem Inv.kids {M:Mp} (hi:Inv M w) {b:Nat} {t:T} (hm:M.at_ b=some t):∃ a n c,w.cell? ⟨b,3,none⟩=some (.slice a n c)/\Ks M w a n c (fq t):=by
 obtain ⟨a,n,c,ka,kn,kc,d,r,hb,_,hk,_⟩:=hi.part hm;exact ⟨ka,kn,kc,(jL hb).1.2.2.2,hk⟩
theorem Ai (M:Mp) (b:Nat) (t:T) (hm:M.at_ b=some t) (a:aK) (n c:Nat) (way:Pa) (w:World) (hi:Inv M w) (hB:bf w a n c way) (hle:(bU t).length<=n) (hn:n<=1000) :
  Calls prog 69 #[.agg #[.pointer (some ⟨b,0,none⟩)],.slice a n c] w λe w' =>
   e=(if bU t<+:way then .returned (.slice (dL a c (bU t).length) (n-(bU t).length) (c-(bU t).length)) else .panicked [fu 7])/\Below w.heap.size w w':=by
 have hi1:=hi.below (al1 w (.cells #[.pointer (some ⟨b,0,none⟩)] 35));obtain ⟨pa,pn,pc,c1,hP,_⟩:=hi1.path hm;have h0:=fB w (some ⟨b,0,none⟩);have hl:=hP.len;have hcap:=hB.1;have hmx:=hB.2.1;unfold maxLen at hmx;have HA:=hid (oW pa a pn n pc c (bU t) way (by omega) (by omega) (by omega) _ hP (hB.alloc (.cells #[.pointer (some ⟨b,0,none⟩)] 35)));rw [hl] at hle ⊢;have wg:Hid (∀ X Y:Ending,(if bU t<+:way then X else Y)=if cp (bU t) way=pn then X else Y):=hid (λX Y=>by
  by_cases h:bU t<+:way
  .rw [if_pos h,if_pos ((Ag h).trans hl)]
  .rw [if_neg h,if_neg (by have:=AB h; omega)])
 rw [wg.out];have hkl:cp (bU t) way<=pn:=by rw [<-hl]; exact VU _ _
 obtain ⟨k,hk⟩:=ay (cp (bU t) way)
 rw [hk] at HA hkl ⊢;clear wg hk hP hB hi hi1 hl hm;by_cases h:k=pn
 .subst h;rw [if_pos rfl];have h2:decide ((k:Int)<(k:Int))=false:=by simp
  go_enter func69,ntmps69;go_wp2_with fail
  refine HA.out.mono ?_;rintro e w1 ⟨rfl,hb1⟩;have h0':=aW hb1 h0;have c1':=aW hb1 c1;have HB:=hid (bst (al1 _ _) hb1);clear h0 c1 hb1;go_wp2_with (refine aA (kP iL jJ hle ⟨_,_,rfl,rfl,rfl⟩) ?_)
  go_ret;exact ⟨rfl,HB.out⟩
 .rw [if_neg h];have h2:decide ((k:Int)<(pn:Int))=true:=by simp; omega
  go_enter func69,ntmps69;go_wp2_with fail
  refine HA.out.mono ?_;rintro e w1 ⟨rfl,hb1⟩;have h0':=aW hb1 h0;have c1':=aW hb1 c1;have HB:=hid (bst (al1 _ _) hb1);clear h0 c1 hb1;go_wp2;simp [bodyPost,fu];exact HB.out
theorem EN (M:Mp) (b:Nat) (t:T) (hm:M.at_ b=some t) (a:aK) (n c:Nat) (way:Pa) (w:World) (hi:Inv M w) (hB:bf w a n c way) (hle:(bU t).length=n) (hn:n<=1000) :
  Calls prog 70 #[.agg #[.pointer (some ⟨b,0,none⟩)],.slice a n c] w λe w' =>
   e=(if bU t=way then .returned (.tuple #[]) else .panicked [fu 7])/\Below w.heap.size w w':=by
 have h0:=fB w (some ⟨b,0,none⟩);have HP:=hid (Ai M b t hm a n c way (w.alloc (.cells #[.pointer (some ⟨b,0,none⟩)] 35)) (hi.below (al1 _ _)) (hB.alloc _) (by omega) hn);have wg:Hid (bU t<+:way↔bU t=way):=hid ⟨λh=>h.eq_of_length (by rw [hle,hB.len]),λh=>by rw [h]; exact List.prefix_rfl⟩;have HX:Hid (∀ X Y:Ending,(if bU t<+:way then X else Y)=if bU t=way then X else Y):=hid (λX Y=>by
  by_cases h:bU t=way
  .rw [if_pos h,if_pos (wg.out.2 h)]
  .rw [if_neg h,if_neg (λg=>h (wg.out.1 g))])
 rw [HX.out,hle] at HP;clear hi hB HX wg hm;by_cases h:bU t=way
 .rw [if_pos h] at HP ⊢;have h2:decide (0<((n-n:Nat):Int))=false:=by simp
  clear h;go_enter func70,ntmps70;go_wp2_with (refine aA (aU h0 ⟨_,rfl,rfl⟩) ?_)
  refine HP.out.mono ?_;rintro e w1 ⟨rfl,hb1⟩;have HB:=hid (bst (al1 _ _) hb1);clear h0 hb1;go_wp2;go_end0;exact ⟨rfl,HB.out⟩
 .rw [if_neg h] at HP ⊢;clear h;go_enter func70,ntmps70;go_wp2_with (refine aA (aU h0 ⟨_,rfl,rfl⟩) ?_)
  refine HP.out.mono ?_;rintro e w1 ⟨rfl,hb1⟩;have HB:=hid (bst (al1 _ _) hb1);clear h0 hb1;go_wp2;simp [bodyPost];exact HB.out
theorem Bn (a:aK) (n c:Nat) (way:Pa) (hn:1<=n) (w:World) (hB:bf w a n c way) :
  Calls prog 68 #[.slice a n c] w λe w'=>e = .returned (.tuple #[.int .u8 (way.getD 0 0).toNat,.slice (dL a c 1) (n-1) (c-1)])/\Below w.heap.size w w':=by
 obtain ⟨b,off,rfl,hlt,hc⟩:=hB.at' 0 (by omega);rw [Nat.add_zero] at hc;have hcap:=hB.1;have hmx:=hB.2.1;unfold maxLen at hmx;obtain ⟨x,hx⟩:=ay ((way.getD 0 0).toNat)
 rw [hx] at hc ⊢;have hnz:((n:Int)==0)=false:=by simp; omega
 have hn0:0<n:=hn;clear hB hx;go_enter func68,ntmps68;go_wp2_with fail
 refine aC (S:=λw'=>Below w.heap.size w w') (aH.drew) λhld=>?_;refine ah 0 ?_;try simp only [Act.put,ak]
 refine ah 1 ?_;try simp only [Act.put,ak]
 refine aD 2 (λwz hSw=>(hSw.cell (p:=⟨b,off,none⟩) hlt).trans hc) ?_;try simp only [Act.put,ak]
 refine ah 3 ?_;try simp only [Act.put,ak]
 refine ah 4 ?_ (hy:=by intro wz hSw; (refine kP (a:=some ⟨b,off,none⟩) (n:=n) (c:=c) (i:=1) iL jJ hn ?_; exact ⟨_,_,rfl,rfl,rfl⟩));try simp only [Act.put,ak]
 refine ah 5 ?_;try simp only [Act.put,ak]
 refine ah 6 ?_;try simp only [Act.put,ak]
 refine aB ?_;go_wp2;exact bodyPost_ret (results_tmp2 rfl _ _ _) rfl ⟨rfl,hld⟩
theorem Fr.upd {M M':Mp} (f:Fr M M' w w1) (hu:Rg.Upd w1 g w') (hg:w.heap.size<=g):Fr M M' w w' :=
 ⟨hu.os.trans f.os,hu.tape.trans f.tape,hu.output.trans f.output,by rw [hu.size]; exact f.size,λk hk hm=>(hu.block k (by omega)).trans (f.block k hk hm),f.mono,f.fresh,f.grow,f.foot⟩
theorem finish {M M1:Mp} {w3 w4:World} {t:T} {e:Ending} {cs:aN} (hi:Inv M w) (f3:Fr M M1 w w3) (b3:Below w.heap.size w w3) (hG:dz M1 w3 t e w4)
  (hO3:Rg.Own w3 g cs ty) (hne:∀ (j:Nat) (x:Int),cs[j]? ≠ some (Value.int .u8 x)) (hg:w.heap.size<=g) (hg1:¬ M1.ft g) :
  ∃ p,e = .returned (tv p)/\Rg.Own w4 g cs ty/\∀ w5,Rg.Upd w4 g w5->dz M w t (.returned (tv p)) w5:=by
 obtain ⟨p,M',he,ht,f,i,b⟩:=hG;have hbw:=b3.trans (b.mono b3.size);exact ⟨p,he,hO3.below b,λw5 hu=>⟨p,M',rfl,ht,(f3.trans hi f).upd hu hg,i.upd hu (f.box hg1 hO3.1 (cZ hO3 hne)),hu.below hbw hg⟩⟩
theorem jP {M:Mp} {b:Nat} {t:T} (hi:Inv M w) (hm:M.at_ b=some t):IsT M (some ⟨b,0,none⟩) t:=⟨b,rfl,hm,(hi.part_ b t hm).1⟩
theorem TK (M:Mp) (b:Nat) (q:Pa) (u:aL) (hm:M.at_ b=some (.leaf q u)) (k:Nat) (hk:k<=q.length) (w:World) (hi:Inv M w) :
  Calls prog 172 #[.agg #[.pointer (some ⟨b,0,none⟩)],.int .i64 k] w (dz M w (.leaf (q.drop k) u)):=by
 obtain ⟨w2,hw2,am,ab,hb2,hs2⟩:=mI w (some ⟨b,0,none⟩);have hi2:=hi.below hb2;obtain ⟨pa,pn,pc,c1,hP⟩:=hi2.path hm;have c2:=hi2.val hm;have hl:q.length=pn:=hP.1.len;have hcap:=hP.1.1;have hmx:=hP.1.2.1;unfold maxLen at hmx;rw [hl] at hk;have HK:=hid (dA M _ _ w2 hi2 (jP hi2 hm));have HL:Hid (∀ w3,Below w2.heap.size w2 w3->Calls prog 103 #[.slice (dL pa pc k) (pn-k) (pc-k),.string u] w3 (dz M w3 (.leaf (q.drop k) u))):=hid (λw3 hb3 =>
  nL M _ _ _ _ _ w3 (hi2.below hb3) ((hP.fr hi2 (Fr.below M hb3)).from' k hk))
 have H0:=hid am;have HF:Hid (∀ w3,Below w2.heap.size w2 w3->∀ e w4,dz M w3 (.leaf (q.drop k) u) e w4->∃ p,e = .returned (tv p)/\Rg.Own w4 (w.heap.size+1) #[.pointer none] 35/\∀ w5,Rg.Upd w4 (w.heap.size+1) w5->dz M w (.leaf (q.drop k) u) (.returned (tv p)) w5):=hid (λw3 hb3 e w4 hG =>
  finish hi (Fr.below M (bst hb2 hb3)) (bst hb2 hb3) hG (ab.below hb3) (eH _) (by omega) (hi.free (by omega)))
 have c2':w2.cell? ⟨b,2,none⟩=some (.string u):=c2;have h0:=aV (j:=0) am rfl;have HC:Hid (∀ w3,Below w2.heap.size w2 w3->w3.cell? ⟨w.heap.size,0,none⟩=some (.pointer (some ⟨b,0,none⟩))/\w3.cell? ⟨b,2,none⟩=some (.string u)):=hid (λw3 hb3=>⟨aW hb3 h0,aW hb3 c2'⟩);clear am ab hb2 hs2 hi hi2 hP c2 c2' hl;subst hw2;go_enter func172,ntmps172;go_wp2_with (first
  | (refine aA (aX _ _ _ (w.heap.size+1) (by simp) rfl) ?_)
  | (refine aA (kP iL jJ hk ⟨_,_,rfl,rfl,rfl⟩) ?_)
  | (refine aA (aU (aV (j:=0) H0.out rfl) ⟨_,rfl,rfl⟩) ?_))
 refine HK.out.mono ?_;rintro e w3 ⟨rfl,hb3⟩;obtain ⟨d0,d2⟩:=HC.out w3 hb3;have oX:=hid (HL.out w3 hb3);have eL:=hid (HF.out w3 hb3);clear hb3 HC HL HF h0 c1;unfold dB;go_wp2_with fail
 refine oX.out.mono ?_;intro e w4 hG;obtain ⟨p,rfl,hO4,hE⟩:=eL.out e w4 hG;have b8:=hid hO4;have HE:=hid hE;clear hG hO4 hE eL oX;go_wp2_with (refine aZ b8.out (by decide) p rfl _ _ rfl rfl rfl ?_; intro w5 ap aq; have az:=hid ap; have n9:=hid aq; clear ap aq)
 exact bodyPost_ret (eF rfl _ rfl az.out) rfl (HE.out w5 n9.out)
theorem WL (M:Mp) (b:Nat) (q:Pa) (s:T) (hm:M.at_ b=some (.ext q s)) (k:Nat) (hk:k<=q.length) (w:World) (hi:Inv M w) :
  Calls prog 172 #[.agg #[.pointer (some ⟨b,0,none⟩)],.int .i64 k] w (dz M w (wrap (q.drop k) s)):=by
 obtain ⟨w2,hw2,am,ab,hb2,hs2⟩:=mI w (some ⟨b,0,none⟩);have hi2:=hi.below hb2;obtain ⟨pa,pn,pc,c1,hP⟩:=hi2.path hm;obtain ⟨ka,kn,kc,c3,hK⟩:=hi2.kids hm;obtain ⟨kb,ko,p0,rfl,d8,gj,hk0,hT0⟩:=hK.at' 0 (by rw [<-hK.len]; exact Nat.one_pos);have hkn:kn=1:=hK.len.symm;have hkc:=hK.1;have hkm:=hK.2.1;unfold maxLen at hkm;rw [Nat.add_zero] at hk0;have bm:IsT M p0 s:=hT0;have hl:q.length=pn:=hP.1.len;have hcap:=hP.1.1;have hmx:=hP.1.2.1;unfold maxLen at hmx;rw [hl] at hk;have HK:=hid (dA M _ _ w2 hi2 (jP hi2 hm));have h0:=aV (j:=0) am rfl
 have H3:Hid (∀ w3,Below w2.heap.size w2 w3->Calls prog 151 #[.slice (dL pa pc k) (pn-k) (pc-k),.agg #[.pointer p0]] w3 (dz M w3 (wrap (q.drop k) s))/\(∀ e w9,dz M w3 (wrap (q.drop k) s) e w9->∃ p,e = .returned (tv p)/\Rg.Own w9 (w.heap.size+1) #[.pointer none] 35/\∀ af,Rg.Upd w9 (w.heap.size+1) af->dz M w (wrap (q.drop k) s) (.returned (tv p)) af)/\
   w3.cell? ⟨w.heap.size,0,none⟩=some (.pointer (some ⟨b,0,none⟩))/\w3.cell? ⟨b,3,none⟩=some (.slice (some ⟨kb,ko,none⟩) kn kc)/\w3.cell? ⟨kb,ko,none⟩=some (.pointer p0)):=hid (λw3 hb3 =>
  ⟨uq M _ _ _ _ _ _ w3 (hi2.below hb3) ((hP.fr hi2 (Fr.below M hb3)).from' k hk) bm,
   λe w9 hG=>finish hi (Fr.below M (bst hb2 hb3)) (bst hb2 hb3) hG (ab.below hb3) (eH _) (by omega) (hi.free (by omega)),
   aW hb3 h0,aW hb3 c3,aW hb3 hk0⟩)
 have H0:=hid am;clear am ab hb2 hs2 hi hi2 hP hl hK hT0 bm c3 hk0 h0;subst hw2;go_enter func172,ntmps172;go_wp2_with (first
  | (refine aA (aX _ _ _ (w.heap.size+1) (by simp) rfl) ?_)
  | (refine aA (kP iL jJ hk ⟨_,_,rfl,rfl,rfl⟩) ?_)
  | (refine aA (aU (aV (j:=0) H0.out rfl) ⟨_,rfl,rfl⟩) ?_))
 refine HK.out.mono ?_;rintro e w3 ⟨rfl,hb3⟩;obtain ⟨HB,HF,d0,d3,e0⟩:=H3.out w3 hb3;replace HB:=hid HB;replace HF:=hid HF;clear hb3 H3 c1;unfold dB;go_wp2_with (refine aA (aU e0 ⟨_,rfl,rfl⟩) ?_)
 refine HB.out.mono ?_;intro e w9 hG;obtain ⟨p9,rfl,ax,hE⟩:=HF.out e w9 hG;have ce:=hid ax;have HE:=hid hE;clear hG ax hE;go_wp2_with (refine aZ ce.out (by decide) p9 rfl _ _ rfl rfl rfl ?_; intro af ai al; have cf:=hid ai; have el:=hid al; clear ai al)
 exact bodyPost_ret (eF rfl _ rfl cf.out) rfl (HE.out af el.out)
theorem fD (ks:Fin 16->T):(fq (.br ks)).length=16:=by simp [fq]
theorem jY (ks:Fin 16->T) (i:Fin 16):(fq (.br ks)).getD i.val .nil=ks i:=by
 have hi:=i.isLt;show ((List.finRange 16).map ks).getD i.val .nil=ks i;rw [List.getD_eq_getElem?_getD,List.getElem?_map,List.getElem?_eq_getElem (by simp)];simp
theorem wQ (ks:Fin 16->T) (i:Fin 16) (t:T):(fq (.br ks)).set i.val t=fq (.br λj=>if j=i then t else ks j):=by
 apply List.ext_getElem?;intro j;by_cases hj:j<16
 .have h1:=jY (λj=>if j=i then t else ks j) ⟨j,hj⟩;have h2:=jY ks ⟨j,hj⟩;have hl1:j<(fq (.br ks)).length:=by rw [fD]; exact hj
  have hl2:j<(fq (.br λj=>if j=i then t else ks j)).length:=by rw [fD]; exact hj
  rw [List.getD_eq_getElem?_getD,List.getElem?_eq_getElem hl2] at h1;rw [List.getD_eq_getElem?_getD,List.getElem?_eq_getElem hl1] at h2;rw [List.getElem?_eq_getElem hl2];by_cases e:i.val=j
  .subst e;rw [List.getElem?_set_self hl1];simp only [Option.getD_some] at h1;rw [h1]; simp
  .rw [List.getElem?_set_ne e,List.getElem?_eq_getElem hl1];have:(⟨j,hj⟩:Fin 16)≠i:=λh=>e (by rw [<-h]);simp only [Option.getD_some] at h1 h2;rw [h1,h2,if_neg this]
 .rw [List.getElem?_eq_none (by rw [List.length_set,fD]; omega),List.getElem?_eq_none (by rw [fD]; omega)]
theorem YT (w:World) (p q:aK):∃ w2,w2=((w.alloc (.cells #[.pointer p] 35)).alloc (.cells #[.pointer q] 35)).alloc (.cells #[.pointer none] 35)/\Rg.Own w2 w.heap.size #[.pointer p] 35/\Rg.Own w2 (w.heap.size+1) #[.pointer q] 35/\Rg.Own w2 (w.heap.size+2) #[.pointer none] 35/\Below w.heap.size w w2/\w2.heap.size=w.heap.size+3:=by
 have h2:=Rg.Own.new (w.alloc (.cells #[.pointer p] 35)) #[.pointer q] 35;have h3:=Rg.Own.new ((w.alloc (.cells #[.pointer p] 35)).alloc (.cells #[.pointer q] 35)) #[.pointer none] 35;rw [show (w.alloc (.cells #[.pointer p] 35)).heap.size=w.heap.size+1 by simp] at h2;rw [show ((w.alloc (.cells #[.pointer p] 35)).alloc (.cells #[.pointer q] 35)).heap.size=w.heap.size+2 by simp] at h3
 exact ⟨_,rfl,((Rg.Own.new _ _ _).below (al1 _ _)).below (al1 _ _),h2.below (al1 _ _),h3,(al2 _ _ _).alloc (by simp; omega) _,by simp⟩
theorem Kz (M:Mp) (b:Nat) (ks:Fin 16->T) (hm:M.at_ b=some (.br ks)) (i:Fin 16) (p:aK) (t:T) (ht:IsT M p t) (w:World) (hi:Inv M w) :
  Calls prog 101 #[.agg #[.pointer (some ⟨b,0,none⟩)],.int .u8 i.val,.agg #[.pointer p]] w (dz M w (.br λj=>if j=i then t else ks j)):=by
 obtain ⟨w2,hw2,am,ab,hO2,hb2,hs2⟩:=YT w (some ⟨b,0,none⟩) p;have hi2:=hi.below hb2;obtain ⟨ka,kn,kc,c3,hK⟩:=hi2.kids hm;have hkn:kn=16:=by rw [<-hK.len]; exact fD ks
 subst hkn;obtain ⟨ps,N1,m7⟩:=hK.ptrs;obtain ⟨kb,ko,p0,rfl,_⟩:=hK.at' 0 (by omega);have hpl:ps.length=16:=N1.2.2.1;have HC:Hid (Calls prog 130 #[.slice (some ⟨kb,ko,none⟩) 16 kc] w2 λe w'=>∃ g cap,e = .returned (.slice (some ⟨g,0,none⟩) 16 cap)/\w2.heap.size<=g/\RowK w' g cap ps/\Below w2.heap.size w2 w'):=hid (by
  have:=zM ⟨kb,ko,none⟩ 16 kc ps w2 N1 (by omega);refine this.mono ?_;rintro e w' ⟨g,cap,rfl,h1,h2,h3⟩;exact ⟨g,cap,by rw [hpl],h1,h2,h3⟩)
 have hlt:=i.isLt;have hiv:((dH i).toNat:Nat)=i.val:=lV i;obtain ⟨k,hk⟩:=ay i.val
 have H3:Hid (∀ g cap w4,w2.heap.size<=g->RowK w4 g cap ps->Below w2.heap.size w2 w4->Rg.Own w4 (w.heap.size+1) #[.pointer p] 35/\16<=cap/\cap<=maxLen/\∀ w5,RowK w5 g cap (ps.set k p)->Rg.Upd w4 g w5->∃ M5,
   Calls prog 149 #[.slice (some ⟨g,0,none⟩) 16 cap] w5 (dz M5 w5 (.br λj=>if j=i then t else ks j))/\
   ∀ e w9,dz M5 w5 (.br λj=>if j=i then t else ks j) e w9->∃ p,e = .returned (tv p)/\Rg.Own w9 (w.heap.size+2) #[.pointer none] 35/\∀ af,Rg.Upd w9 (w.heap.size+2) af->dz M w (.br λj=>if j=i then t else ks j) (.returned (tv p)) af):=hid (λg cap w4 hg hR hb4=>by
  refine ⟨ab.below hb4,by have:=hR.ptrs.1; omega,hR.ptrs.2.1,λw5 eN hu=>?_⟩;have hbw:=hu.below (bst hb2 hb4) (show w.heap.size<=g by omega);have hi5:Inv (plus M (λk=>k=g)) w5:=(hi.below hbw).plus (λk hk=>by rw [hk]; exact eN.lt);have we:Ks (plus M (λk=>k=g)) w5 (some ⟨g,0,none⟩) 16 cap (fq (.br λj=>if j=i then t else ks j)):=by
   have h1:=eN.ptrs;rw [List.length_set,hpl] at h1;rw [<-wQ,hk];exact h1.ks ((m7.set k ht).mono λ_ _ h=>h) (λad e _=>by
    obtain rfl:=Option.some.inj e;exact Or.inr rfl)
  have ap:=(hO2.below hb4).upd hu (by omega);exact ⟨plus M (λk=>k=g),jK _ _ _ _ _ w5 hi5 we,λe w9 hG=>finish hi ((Fr.below M hbw).plus (λk hk=>Or.inl (by omega))) hbw hG ap (eH _) (by omega) (λh=>h.elim (hi.free (by omega)) (λh=>by omega))⟩)
 rw [hk] at hlt ⊢;have h0:=aV (j:=0) am rfl;have hU:=hid hpl;clear am ab hO2 hb2 hs2 hi hi2 hK N1 m7 ht hpl hiv hk hm;obtain ⟨R,hRr⟩:=ay (T.br λj=>if j=i then t else ks j)
 rw [hRr] at H3 ⊢;clear hRr;subst hw2;go_enter func101,ntmps101;go_wp2_with (refine aA (aX _ _ _ (w.heap.size+2) (by simp) rfl) ?_)
 refine HC.out.mono ?_;rintro e w4 ⟨g,cap,rfl,hg,hR,hb4⟩;obtain ⟨hO4,hcap,hcm,H5⟩:=H3.out g cap w4 hg hR hb4;unfold maxLen at hcm;replace H5:=hid H5;have b8:=hid hO4;have HR4:=hid hR;clear H3 HC hg hR hb4 hO4 c3 h0;go_wp2_with (first
  | (refine aA (aU (aV (j:=0) b8.out rfl) ⟨_,rfl,rfl⟩) ?_)
  | (refine tu HR4.out (i:=k) (by rw [hU.out]; exact hlt) p rfl _ _ rfl rfl rfl ?_; intro w5 eN aq; have dc:=hid eN; have n9:=hid aq; clear eN aq))
 obtain ⟨M5,HB,HF⟩:=H5.out w5 dc.out n9.out;replace HB:=hid HB;replace HF:=hid HF;clear H5 b8 HR4 dc n9;refine HB.out.mono ?_;intro e w9 hG;obtain ⟨p9,rfl,ax,hE⟩:=HF.out e w9 hG;have ce:=hid ax;have HE:=hid hE;clear hG ax hE;go_wp2_with (refine aZ ce.out (by decide) p9 rfl _ _ rfl rfl rfl ?_; intro af ai al; have cf:=hid ai; have el:=hid al; clear ai al)
 exact bodyPost_ret (eF rfl _ rfl cf.out) rfl (HE.out af el.out)
structure St (M:Mp) (w:World) (M':Mp) (w':World):Prop where
 f:Fr M M' w w'
 i:Inv M' w'
 b:Below w.heap.size w w'
 i0:Inv M w
theorem St.refl {M:Mp} {w:World} (hi:Inv M w):St M w M w:=⟨Fr.refl _ _,hi,aH,hi⟩
theorem St.below {M M1:Mp} {w w1 w2:World} (s:St M w M1 w1) (h:Below w1.heap.size w1 w2):St M w M1 w2:=⟨s.f.trans s.i0 (Fr.below M1 h),s.i.below h,bst s.b h,s.i0⟩
theorem St.got {M M1:Mp} {t:T} {e:Ending} (s:St M w M1 w1) (h:dz M1 w1 t e w2):∃ p M2,e = .returned (tv p)/\IsT M2 p t/\St M w M2 w2/\Fr M1 M2 w1 w2/\Below w1.heap.size w1 w2:=by
 obtain ⟨p,M2,he,ht,f,i,b⟩:=h;exact ⟨p,M2,he,ht,⟨s.f.trans s.i0 f,i,bst s.b b,s.i0⟩,f,b⟩
theorem St.upd {M M1:Mp} {w w1 w2:World} {g:Nat} (s:St M w M1 w1) (hu:Rg.Upd w1 g w2) (hg:w.heap.size<=g) (hf:¬ M1.ft g):St M w M1 w2:=⟨s.f.upd hu hg,s.i.upd hu hf,hu.below s.b hg,s.i0⟩
theorem St.plus {M M1:Mp} {w w1:World} (s:St M w M1 w1) {S:Nat->Prop} (hS:∀ k,S k->(w.heap.size<=k\/gq w k)/\k<w1.heap.size):St M w (Tm.plus M1 S) w1:=⟨s.f.plus λk hk=>(hS k hk).1,s.i.plus λk hk=>(hS k hk).2,s.b,s.i0⟩
theorem St.bytes {M M1:Mp} (s:St M w M1 w1) {a:aK} {n c:Nat} {l:aM} (h:bf w1 a n c l):St M w (Tm.plus M1 (inS a n)) w1:=s.plus λk hk=>⟨by
  obtain ⟨⟨j,x,hc⟩,_⟩:=vk h hk;exact gq.below ⟨j,x,hc⟩ s.b,(vk h hk).2⟩
structure Bx (M:Mp) (w:World) (g:Nat) (cs:aN) (t:TypeId):Prop where
 o:Rg.Own w g cs t
 n:¬ M.ft g
 h:∀ (j:Nat) (x:Int),cs[j]? ≠ some (Value.int .u8 x)
theorem Bx.got {M M':Mp} {cs:aN} {t:TypeId} (h:Bx M w g cs t) (f:Fr M M' w w') (b:Below w.heap.size w w'):Bx M' w' g cs t:=⟨h.o.below b,f.box h.n h.o.1 (cZ h.o h.h),h.h⟩
theorem Bx.upd {M:Mp} {w w':World} {g b:Nat} {cs:aN} {t:TypeId} (h:Bx M w g cs t) (hu:Rg.Upd w b w') (hne:g≠b):Bx M w' g cs t:=⟨h.o.upd hu hne,h.n,h.h⟩
theorem Bx.below {M:Mp} {w w':World} {g:Nat} {cs:aN} {t:TypeId} (h:Bx M w g cs t) (b:Below w.heap.size w w'):Bx M w' g cs t:=⟨h.o.below b,h.n,h.h⟩
theorem Bx.plus {M:Mp} {cs:aN} {t:TypeId} (h:Bx M w g cs t) (hS:¬ S g):Bx (Tm.plus M S) w g cs t:=⟨h.o,λe=>e.elim h.n hS,h.h⟩
structure Rx (M:Mp) (w:World) (g:Nat) (ps:List (aK)):Prop where
 o:Rg.Own w g (mD ps) 35
 n:¬ M.ft g
 m:ps.length<=maxLen
theorem YX (ps:List (aK)):∀ (j:Nat) (x:Int),(mD ps)[j]? ≠ some (Value.int .u8 x):=λj x h=>by
 simp [mD] at h
theorem Rx.got {M M':Mp} {ps:List (aK)} (h:Rx M w g ps) (f:Fr M M' w w') (b:Below w.heap.size w w'):Rx M' w' g ps:=⟨h.o.below b,f.box h.n h.o.1 (cZ h.o (YX ps)),h.m⟩
theorem Rx.below {M:Mp} {w w':World} {g:Nat} {ps:List (aK)} (h:Rx M w g ps) (b:Below w.heap.size w w'):Rx M w' g ps:=⟨h.o.below b,h.n,h.m⟩
theorem Hz (ps:List (aK)) (i:Nat) (p:aK):(mD ps).setIfInBounds i (.pointer p)=mD (ps.set i p):=by
 unfold mD;rw [List.map_set];simp
theorem Rx.ks {M:Mp} {ps:List (aK)} {l:List T} (h:Rx M w g ps) (ha:Are M ps l):Ks (Tm.plus M (λk=>k=g)) w (some ⟨g,0,none⟩) ps.length ps.length l:=by
 refine ⟨aG,h.m,ha.1.symm,λe=>(by cases e),λj hj=>⟨g,0,_,rfl,h.o.1,Or.inr rfl,?_,zZ (ha.2 j hj)⟩⟩;rw [Nat.zero_add,cell_of_row w g _ _ _ _ h.o.2];simp [mD,List.getD,hj]
theorem tK {a:Act} {M:Mp} (hw:Region.wanted o (yielded ops a.tmps)=true) {ps:List (aK)} (h:Rx M w g ps) (hof:i<ps.length) (p:aK)
  (ho:∃ x y,o.op = .store 35 x y/\a.eval x = .pointer (some ⟨g,i,none⟩)/\a.eval y=tv p)
  (hQ:∀ w',Rx M w' g (ps.set i p)->Rg.Upd w g w'->K (a.put o.dst undef) w'):if Region.wanted o (yielded ops a.tmps)=true then Oper.wp prog o a w K Q else K (a.put o.dst undef) w :=
 eD hw h.o (off:=i) (by simpa [mD] using hof) p ho (λw' oa hu=>hQ w' ⟨by rw [<-Hz]; exact oa,h.n,by simpa using h.m⟩ hu)
def sQ:List (aK):=List.replicate 16 none
theorem oI:sQ.length=16:=rfl
theorem Du (b:Nat) (hb:b=w.heap.size) (ho:∃ x y,o.op = .makeSlice 122 x y/\ev x = .int .i64 16/\ev y = .int .i64 16) :
  (execOp ev o).run prog w = .ok (.value (.slice (some ⟨b,0,none⟩) 16 16)) (w.alloc (.cells (mD sQ) 35)):=by
 obtain ⟨x,y,ho,hx,hy⟩:=ho;subst hb;unfold execOp;rw [ho];dsimp only;rw [hx,hy];kernel_rfl
theorem OQ (j:Nat):sQ.getD j none=none:=by
 unfold sQ;rw [List.getD_eq_getElem?_getD,List.getElem?_replicate];split <;> rfl
theorem Ke (j:Nat):(List.replicate 16 T.nil).getD j T.nil=T.nil:=by
 rw [List.getD_eq_getElem?_getD,List.getElem?_replicate];split <;> rfl
theorem UH (M:Mp):Are M sQ (List.replicate 16 .nil):=⟨rfl,λj hj=>by rw [OQ,Ke]; exact rfl⟩
theorem XG (i j:Fin 16) (a b:T) (hij:i≠j):((List.replicate 16 T.nil).set i.val a).set j.val b=fq (two i j a b):=by
 have e:List.replicate 16 T.nil=fq (.br λ_=>.nil):=by
  show List.replicate 16 T.nil=(List.finRange 16).map (λ_=>T.nil);rfl
 rw [e,wQ,wQ];unfold two;congr 2;funext k;by_cases h1:k=j
 .subst h1;rw [if_pos rfl,if_neg (λe=>hij e.symm),if_pos rfl]
 .rw [if_neg h1,if_neg h1]
structure Bo (g:Nat) (w w':World):Prop where
 size:w.heap.size<=w'.heap.size
 block:∀ k,k<w.heap.size->k≠g->w'.heap[k]? = w.heap[k]?
 os:w'.os=w.os
 tape:w'.tape=w.tape
 output:w'.output=w.output
theorem Bo.of (h:Below w.heap.size w w'):Bo g w w':=⟨h.size,λk hk _=>h.block k hk,h.os,h.tape,h.output⟩
theorem Bo.then (h:Bo g w w1) (hb:Below w1.heap.size w1 w2):Bo g w w2:=⟨Nat.le_trans h.size hb.size,λk hk hg=>(hb.block k (aI hk h.size)).trans (h.block k hk hg),hb.os.trans h.os,hb.tape.trans h.tape,hb.output.trans h.output⟩
theorem Bo.upd (h:Bo g w w1) (hu:Rg.Upd w1 g w2):Bo g w w2:=⟨by rw [hu.size]; exact h.size,λk hk hg=>(hu.block k hg).trans (h.block k hk hg),hu.os.trans h.os,hu.tape.trans h.tape,hu.output.trans h.output⟩
theorem Bo.below {B:Nat} {w0:World} (h:Bo g w w') (hb:Below B w0 w) (hB:B<=w.heap.size) (hg:B<=g):Below B w0 w':=⟨h.os.trans hb.os,h.tape.trans hb.tape,h.output.trans hb.output,Nat.le_trans hb.size h.size,λk hk=>(h.block k (by omega) (by omega)).trans (hb.block k hk)⟩
theorem gy (h:Bo g w w') {b o:Nat} (hne:b≠g) (hc:w.cell? ⟨b,o,none⟩=some v):w'.cell? ⟨b,o,none⟩=some v:=by
 rw [<-hc];exact World.cell?_of_block (w:=w) (h.block b (World.block_lt_of_cell? w _ hc) hne)
end Tm
end
section
open Go.RowKit
namespace Ky
open Ni
def kc (k:aM):aN:=(k.map λb=>Value.int .u8 b.toNat).toArray
theorem iq (k:aM):(kc k).size=k.length:=by simp [kc]
theorem xg (k:aM):(kc k).all (·.oneCell')=true:=by
 rw [Array.all_eq_true];intro i hi;simp [kc];rfl
theorem Hr:(prog.info? 24).map (·.size)=some 32:=by kernel_rfl
theorem jk (k:aM) (h:k.length=32):(prog.info? 24).map (·.size)=some (kc k).size:=by rw [iq,h]; exact Hr
def bJ (k:aM):aM:=Ni.fJ ⟨k.toArray⟩
theorem vg (k:aM) (hk:k.length=32) (w:World) :
  Calls prog 38 #[.agg (kc k)] w (VR w (bJ k)):=by
 have h0:bf (w.alloc (.cells (kc k) 24)) (some ⟨w.heap.size,0,none⟩) k.length k.length k:=bf.new w k (by unfold maxLen; omega) _ _ rfl;rw [hk] at h0;have hcv:=kQ h0;obtain ⟨s,hs⟩:=ay (⟨k.toArray⟩:aL)
 have hsz:s.size=32:=by rw [<-hs]; show k.toArray.size=32; simp [hk]
 have HP:Hid (bJ k=Ni.fJ s):=hid (by unfold bJ; rw [hs]);have As:=hid (λwx=>Ni.Ay s (by omega) wx);rw [hs] at hcv;obtain ⟨C,hC⟩:=ay (kc k)
 rw [hC] at hcv ⊢;clear h0 hs hC hsz hk;go_enter func38,ntmps38;go_wp2_with fail
 refine (As.out _).mono ?_;rintro e w1 ⟨a,n,cap,rfl,hx,hb⟩;go_wp2;go_ret;exact ⟨a,n,cap,rfl,by rw [HP.out]; exact hx,((Below.refl w.heap.size w).alloc aG _).trans (hb.mono (by simp))⟩
def zk:aM:=List.replicate 32 0
theorem eZ {P:Program} {rest:List Oper} {a:Act} (hgd:o.guard=none) (v:Value) (w':World)
  (hr:(execOp a.eval o).run P w = .ok (.value v) w') (h:wpList P ops Q rest (a.put o.dst v) w'):wpList P ops Q (o::rest) a w :=
 wpList_plain hgd λK hK=>by
  unfold Oper.wp;rw [hr];exact hK _ _ h
theorem tJ (ev:Operand->Value) (o:Oper) (ho:o.op = .alloc 24) (w:World) :
  (execOp ev o).run prog w = .ok (.value (.pointer (some ⟨w.heap.size,0,none⟩))) (w.alloc (.cells (kc zk) 24)):=by
 unfold execOp;rw [ho];kernel_rfl
theorem WI:(kc zk).size=32:=by rw [iq]; rfl
theorem kJ (k:aM) (hk:k.length=32):(bJ k).length=64:=by
 unfold bJ;rw [fE];show 2*k.toArray.size=64;simp [hk]
theorem Dj (k:aM) (i:Nat) (hi:i<k.length) (w:World):(part 5 (kc k) i).run prog w = .ok (.int .u8 (k.getD i 0).toNat) w:=by
 have hagg:(isAgg 5).run prog w = .ok false w:=by
  unfold isAgg;rw [Sem.run_bind,run_underlying underlying5 w];simp
 have hg:(kc k)[i]? = some (.int .u8 (k.getD i 0).toNat):=by simp [kc,List.getD,hi]
 unfold part;rw [Sem.run_bind,hagg];simp [hg]
theorem Sj:prog.cellsOf 5=1:=by kernel_rfl
theorem La (k:aM):dh (bJ k)=true:=rA _
theorem Jb (ev:Operand->Value) (o:Oper) (x:Operand) (w:World) (g:Nat) (l:aM) (ho:o.op = .load 24 x) (hx:ev x = .pointer (some ⟨g,0,none⟩)) (hr:(loadVar 24 ⟨g,0,none⟩).run prog w = .ok (.agg (kc l)) w) :
  (execOp ev o).run prog w = .ok (.value (.agg (kc l))) w:=by
 unfold execOp;simp only [ho,hx,Instr.loadAt,Instr.sureAddr,Sem.run_bind,Sem.run_pure,Result.andThen_ok,hr]
theorem Mq (w:World) (g:Nat) (l:aM) (hl:l.length=32) (hg:w.heap[g]? = some (.cells (kc l) 24 (0,0))):(loadVar 24 ⟨g,0,none⟩).run prog w = .ok (.agg (kc l)) w :=
 run_loadVar_row (P:=prog) w g 24 24 (kc l) (0,0) _ hg underlying24 rfl (jk l hl)
end Ky
end
end Go.Proofs.YtoipgepkhomfgaaGreatDoor
