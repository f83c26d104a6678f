/-
 Contracts of node.Reference, node.fits, node.Check, node.Get: of any bytes.
-/
import Derived.Test.YtlcplcgigjagpaaGreatDoorSd8
open Go.Lib (hid)
open Go.Proofs.Tryz
set_option linter.unusedSimpArgs false
set_option linter.unusedVariables false
set_option maxHeartbeats 40000000
set_option maxRecDepth 100000
namespace Go.Proofs.YtlcplcgigjagpaaGreatDoor
variable {L cap g i j kn off:Nat} {v:Value} {w w':World} {cs cur:aM} {o:Oper} {S:Nat->Prop} {o':Obj} {d:Int} {r:aK} {ev:Operand->Value} {ops:Array Oper} {act:Act} {Q:Exit->Act->World->Prop} {K:Act->World->Prop}
section
open Go.RowKit
namespace No
open Rl Ni
def nD (k:aK):Prop:=∀ w:World,Calls prog 97 #[.string k] w λe w'=>e = .returned (.bool (bR k))/\Below w.heap.size w w'
def Fp (w:World) (r:Option Nd) (e:Ending) (w':World):Prop:=∃ (N:Nd) (a:aJ) (n c:Nat) (er:Int),e = .returned (.tuple #[.agg (ndC N a n c),.int .i64 er])/\(er=0/\r=some N\/er≠0/\N=nd0/\r=none)/\
 BsF w.heap.size w' a n c N.p/\N.ks.length=16/\Below w.heap.size w w'
def NZ (s:aK):Prop:=∀ w:World,Calls prog 160 #[.string s] w (Fp w (yK s.data.toList))
theorem Uj (s:aK) (h:NZ s) (w:World):Calls prog 132 #[.string s] w λe w'=>e = .returned (.bool (yK s.data.toList).isSome)/\Below w.heap.size w w':=by
 have HG:=hid (h w);obtain ⟨r,hr⟩:=av (yK s.data.toList)
 rw [hr] at HG ⊢;clear h hr;go_enter func132,ntmps132;go_wp2_with fail
 refine HG.out.mono ?_;rintro e w3 ⟨N,a3,n3,c3,er,rfl,hr3,hx3,hl3,hb3⟩;have HO:Hid (dQ (w3.alloc (.cells (ndC nd0 none 0 0) 56)) w3.heap.size nd0 none 0 0):=hid (Rg.Own.new _ _ _);have HB:=hid (bst hb3 (al1 w3 (.cells (ndC nd0 none 0 0) 56)));have HL:=hid hl3;have hge:=hb3.size;clear hx3 hl3 hb3 HG;rcases hr3 with ⟨rfl,rfl⟩ | ⟨he,rfl,rfl⟩
 .go_wp2_with (first
   | (refine ay (aX _ _ _ w3.heap.size rfl rfl) ?_)
   | (refine bG HO.out rfl N a3 n3 c3 HL.out rfl _ _ rfl rfl rfl rfl ?_))
  go_ret;exact ⟨rfl,bU HB.out hge _⟩
 .have hd:(er==0)=false:=by simp; exact he
  go_wp2_with (first
   | (refine ay (aX _ _ _ w3.heap.size rfl rfl) ?_)
   | (refine bG HO.out rfl nd0 a3 n3 c3 HL.out rfl _ _ rfl rfl rfl rfl ?_))
  go_ret;exact ⟨rfl,bU HB.out hge _⟩
theorem KD (k:aK) (hk:k.size<=9223372036854775807) (h:k.size<32->NZ k):nD k:=by
 intro w;have HP:=hid (yS k w);cases hp:dF k with
 | true =>
  have HF:Hid (bR k=true):=hid (by unfold bR; rw [hp]; rfl);rw [hp] at HP;rw [HF.out];clear h hp;go_enter func97,ntmps97;go_wp2_with fail
  refine HP.out.mono ?_;rintro e w3 ⟨rfl,rfl⟩;go_wp2;go_ret;exact ⟨rfl,aG⟩
 | false =>
  rw [hp] at HP;by_cases h32:k.size<32
  .have HF:Hid (bR k=(yK k.data.toList).isSome):=hid (by unfold bR; rw [hp]; simp [h32]);have HG:=hid (Uj k (h h32) w);rw [<-HF.out] at HG;clear h hp HF;go_enter func97,ntmps97;go_wp2_with fail
   refine HP.out.mono ?_;rintro e w3 ⟨rfl,rfl⟩;go_wp2_with fail
   refine HG.out.mono ?_;rintro e w4 ⟨rfl,hb4⟩;have HB:=hid hb4;clear hb4;go_wp2;go_ret;exact ⟨rfl,HB.out⟩
  .have HF:Hid (bR k=false):=hid (by unfold bR; rw [hp]; simp [h32]);rw [HF.out];clear h hp;go_enter func97,ntmps97;go_wp2_with fail
   refine HP.out.mono ?_;rintro e w3 ⟨rfl,rfl⟩;go_wp2;go_ret;exact ⟨rfl,aG⟩
theorem RX (k:aK) (h:nD k) (w:World):Calls prog 137 #[.string k] w λe w'=>e = .returned (.bool (!bR k))/\Below w.heap.size w w':=by
 have HG:=hid (h w);obtain ⟨r,hr⟩:=av (bR k)
 rw [hr] at HG ⊢;clear h hr;go_enter func137,ntmps137;go_wp2_with fail
 refine HG.out.mono ?_;rintro e w3 ⟨rfl,hb3⟩;have HB:=hid hb3;clear hb3;go_wp2;go_ret;exact ⟨rfl,HB.out⟩
def Nt (w:World) (xs:List aK) (e:Ending) (w':World):Prop:=∃ r:Int,e = .returned (.int .i64 r)/\-1<=r/\r<=9223372036854775807/\decide (0<=r) = !xs.all bR/\Below w.heap.size w w'
theorem UK {xs:List aK} (hj:j<xs.length) (h:(xs.take j).all bR=true) (hk:bR (xs.getD j eB)=true):(xs.take (j+1)).all bR=true:=by
 have e:xs.getD j eB=xs[j]:=by simp [List.getD,hj]
 rw [List.take_succ_eq_append_getElem hj,List.all_append,h,List.all_cons,List.all_nil,<-e,hk];rfl
theorem PI (xs:List aK) (hR:∀ k∈xs,nD k) (a:aJ) (n cap:Nat) (w:World) (h:jV w a n cap xs) :
  Calls prog 162 #[.slice a n cap,.func (Fn.func 137) #[] #[]] w (Nt w xs):=by
 have hm:=h.2.1;have hnc:=h.1;have hl:=h.len;unfold maxLen at hm;have H:=hid h;have HL:=hid hl;have HR:=hid hR;clear h hl hR;go_enter func162,ntmps162;go_wp2;go_loopw [8] (λi wr=>∃ j:Nat,j<=n/\i = .int .i64 j/\Hid ((xs.take j).all bR=true)/\Hid (Below w.heap.size w wr)) (λi _=>n-(intOf i).toNat)
 case atStart=>exact ⟨0,Nat.zero_le _,rfl,hid rfl,hid aG⟩
 case round =>
  obtain ⟨j,hj,rfl,HJ,HB⟩:=hrel;by_cases hlt:j<n
  .obtain ⟨b,off,rfl,hblt,hc⟩:=H.out.at' j hlt;have hc':=(Below.cell (p:=⟨b,off+j,none⟩) HB.out hblt).trans hc;have HM:Hid (xs.getD j eB∈xs):=hid (by
    have hj':j<xs.length:=by rw [HL.out]; exact hlt
    have e:xs.getD j eB=xs[j]:=by simp [List.getD,hj']
    rw [e]; exact List.getElem_mem hj')
   have HC:=hid (RX _ (HR.out _ HM.out) wr);have HT:Hid (bR (xs.getD j eB)=true->(xs.take (j+1)).all bR=true):=hid (UK (by rw [HL.out]; exact hlt) HJ.out);obtain ⟨K,hK⟩:=av (xs.getD j eB)
   rw [hK] at HC HM HT hc';clear hK hc HJ;go_wp2_with fail
   refine HC.out.mono ?_;rintro e w5 ⟨rfl,hb5⟩;have ae:=hid (bst HB.out hb5);clear hb5 HC HB hc';cases hf:bR K with
   | true =>
    have FF:=hid (HT.out hf);clear HT hf;go_wp2;go_roundw
    case rel=>exact ⟨j+1,by omega,by go_num,FF,ae⟩
    case measure=>simp [intOf]; omega
   | false =>
    have HF:Hid (xs.all bR=false):=hid (by rw [List.all_eq_false]; exact ⟨K,HM.out,by rw [hf]; simp⟩);clear HT hf;go_wp2;go_ret;exact ⟨(j:Int),rfl,by omega,by omega,by rw [HF.out]; simp,ae.out⟩
  .obtain rfl:j=n:=by omega
   have HF:Hid (xs.all bR=true):=hid (by have:=HJ.out; rw [List.take_of_length_le (by rw [HL.out]; exact aF)] at this; exact this);go_wp2;go_ret;exact ⟨-1,rfl,by decide,by decide,by rw [HF.out]; rfl,HB.out⟩
theorem FV (xs:List aK) (hR:∀ k∈xs,nD k) (a:aJ) (n cap:Nat) (w:World) (h:jV w a n cap xs) :
  Calls prog 136 #[.slice a n cap,.func (Fn.func 137) #[] #[]] w λe w'=>e = .returned (.bool (!xs.all bR))/\Below w.heap.size w w':=by
 have HI:=hid (PI xs hR a n cap w h);unfold Nt at HI;obtain ⟨F,hF⟩:=av (!xs.all bR)
 rw [hF] at HI ⊢;clear h hR hF;go_enter func136,ntmps136;go_wp2_with fail
 refine HI.out.mono ?_;rintro e w3 ⟨r,rfl,h1,h2,h3,hb3⟩;have HB:=hid hb3;have H3:=hid h3;clear hb3 HI h3;go_wp2;go_ret;exact ⟨by rw [<-H3.out]; rfl,HB.out⟩
theorem Vr (N:Nd) (a:aJ) (n c:Nat) (hl:N.ks.length=16) (hp:N.p.length=n) (hm:n<=maxLen) (hv:N.v.size<=maxLen) (hR:∀ k∈N.ks,nD k) (w:World) :
  Calls prog 102 #[.agg (ndC N a n c)] w λe w'=>e = .returned (.bool (lS bR N))/\Below w.heap.size w w':=by
 have HO:Hid (dQ (w.alloc (.cells (ndC N a n c) 56)) w.heap.size N a n c):=hid (Rg.Own.new _ _ _);have HK:=hid (UU N a n c hl (w.alloc (.cells (ndC N a n c) 56)));have gh:Hid (nD (N.ks.getD 0 eB)):=hid (hR _ (by rw [List.getD_eq_getElem?_getD,List.getElem?_eq_getElem (by omega)]; exact List.getElem_mem _));have Y6:Hid (∀ k∈bL N.ks,nD k):=hid (λk hk=>hR k (List.mem_filter.1 hk).1);have HL:=hid hl;have HU:=hid (rfl:lS bR N=lS bR N);unfold lS at HU;unfold maxLen at hm hv;rw [hp] at HU;obtain ⟨F,hF⟩:=av (lS bR N)
 have HF:Hid (F=if N.kd=1 then decide (N.v.size≠0)&&decide (N.v.size<=65552)&&decide ((bL N.ks).length=0) else
  if N.kd=2 then decide (0<n)&&decide (N.v.size=0)&&decide ((bL N.ks).length=1)&&decide ((N.ks.getD 0 eB).size≠0)&&bR (N.ks.getD 0 eB) else
  if N.kd=3 then decide (n=0)&&decide (N.v.size=0)&&decide (2<=(bL N.ks).length)&&(bL N.ks).all bR else false):=hid (by
   rw [<-hF];unfold lS;rw [hp])
 rw [hF];clear HU hF hR hl hp;by_cases hkd:N.kd=1
 .rw [if_pos hkd] at HF;go_enter func102,ntmps102;go_wp2_with (refine ay (dH HO.out HL.out ?_) ?_; · exact ⟨_,rfl,rfl⟩)
  refine HK.out.mono ?_;rintro e w3 ⟨a3,n3,rf,rfl,hs3,hb3⟩;have hO3:=HO.out.below hb3;obtain ⟨c0,c1,c2⟩:=bP hO3;have ck:w3.cell? ⟨w.heap.size,3,none⟩=some (.string (N.ks.getD 0 eB)):=nJ hO3 HL.out 0 (by decide);have ip:=hs3.len;have uB:=hs3.2.1;have uC:=hs3.1;unfold maxLen at uB;have cL:=hid hs3;have HB3:=hid (pG (zw hb3));rw [ip] at HF;rw [hkd] at c0;clear hs3 hb3 hO3 HK ip;by_cases hv0:N.v.size=0
  .have py:=dU hv0;rw [py] at c2;go_wp2;go_ret;exact ⟨by rw [HF.out]; simp [hv0],HB3.out⟩
  .have RW:=Ni.dz (s:=N.v) (by omega);by_cases hv2:N.v.size<=65552
   .by_cases hk3:n3=0
    .subst hk3;go_wp2;go_ret;exact ⟨by rw [HF.out]; simp [hv0,hv2],HB3.out⟩
    .go_wp2;go_ret;exact ⟨by rw [HF.out]; simp [hv0,hv2,hk3],HB3.out⟩
   .go_wp2;go_ret;exact ⟨by rw [HF.out]; simp [hv0,hv2],HB3.out⟩
 .rw [if_neg hkd] at HF;have hk1:(N.kd==1)=false:=by simp; exact hkd
  clear hkd;by_cases hkd:N.kd=2
  .rw [if_pos hkd] at HF;go_enter func102,ntmps102;go_wp2_with (refine ay (dH HO.out HL.out ?_) ?_; · exact ⟨_,rfl,rfl⟩)
   refine HK.out.mono ?_;rintro e w3 ⟨a3,n3,rf,rfl,hs3,hb3⟩;have hO3:=HO.out.below hb3;obtain ⟨c0,c1,c2⟩:=bP hO3;have ck:w3.cell? ⟨w.heap.size,3,none⟩=some (.string (N.ks.getD 0 eB)):=nJ hO3 HL.out 0 (by decide);have ip:=hs3.len;have uB:=hs3.2.1;have uC:=hs3.1;unfold maxLen at uB;have cL:=hid hs3;have HB3:=hid (pG (zw hb3));rw [ip] at HF;rw [hkd] at c0;clear hs3 hb3 hO3 HK ip;by_cases hn0:0<n
   .by_cases hv0:N.v.size=0
    .have py:=dU hv0;rw [py] at c2;by_cases hk3:n3=1
     .subst hk3;obtain ⟨K,hK⟩:=av (N.ks.getD 0 eB)
      rw [hK] at HF ck gh;clear hK;by_cases hz:K.size=0
      .obtain rfl:=dU hz;go_wp2;go_ret;exact ⟨by rw [HF.out]; rw [show decide (eB.size≠0)=false from rfl,Bool.and_false,Bool.false_and]; rfl,HB3.out⟩
      .have hkn:=Ni.dz (s:=K) (by omega);go_wp2_with fail
       refine (gh.out _).mono ?_;rintro e w4 ⟨rfl,hb4⟩;have cg:=hid (bst HB3.out hb4);obtain ⟨rb,hrb⟩:=av (bR K)
       rw [hrb] at HF ⊢;clear hb4 hrb;go_wp2;go_ret;exact ⟨by rw [HF.out]; simp [hn0,hz,hv0],cg.out⟩
     .go_wp2;go_ret;exact ⟨by rw [HF.out]; simp [hk3],HB3.out⟩
    .have RW:=Ni.dz (s:=N.v) (by omega);go_wp2;go_ret;exact ⟨by rw [HF.out]; simp [hv0],HB3.out⟩
   .obtain rfl:n=0:=by omega
    go_wp2;go_ret;exact ⟨by rw [HF.out]; simp,HB3.out⟩
  .rw [if_neg hkd] at HF;have hk2:(N.kd==2)=false:=by simp; exact hkd
   clear hkd;by_cases hkd:N.kd=3
   .rw [if_pos hkd] at HF;go_enter func102,ntmps102;go_wp2_with (refine ay (dH HO.out HL.out ?_) ?_; · exact ⟨_,rfl,rfl⟩)
    refine HK.out.mono ?_;rintro e w3 ⟨a3,n3,rf,rfl,hs3,hb3⟩;have hO3:=HO.out.below hb3;obtain ⟨c0,c1,c2⟩:=bP hO3;have ck:w3.cell? ⟨w.heap.size,3,none⟩=some (.string (N.ks.getD 0 eB)):=nJ hO3 HL.out 0 (by decide);have ip:=hs3.len;have uB:=hs3.2.1;have uC:=hs3.1;unfold maxLen at uB;have cL:=hid hs3;have HB3:=hid (pG (zw hb3));rw [ip] at HF;rw [hkd] at c0;clear hs3 hb3 hO3 HK ip;by_cases hn0:n=0
    .subst hn0;by_cases hv0:N.v.size=0
     .have py:=dU hv0;rw [py] at c2;by_cases hk3:2<=n3
      .have S0:=hid (λw4 hb4=>FV (bL N.ks) Y6.out a3 n3 rf w4 (cL.out.below hb4));obtain ⟨KL,rS⟩:=av ((bL N.ks).all bR)
       rw [rS] at HF S0;clear rS;go_wp2_with fail
       refine (S0.out _ aG).mono ?_;rintro e w4 ⟨rfl,hb4⟩;have cg:=hid (bst HB3.out hb4);clear hb4;go_wp2;go_ret;exact ⟨by rw [HF.out]; simp [hk3,hv0],cg.out⟩
      .go_wp2;go_ret;exact ⟨by rw [HF.out]; simp [hk3],HB3.out⟩
     .have RW:=Ni.dz (s:=N.v) (by omega);go_wp2;go_ret;exact ⟨by rw [HF.out]; simp [hv0],HB3.out⟩
    .go_wp2;go_ret;exact ⟨by rw [HF.out]; simp [hn0],HB3.out⟩
   .rw [if_neg hkd] at HF;have Y7:(N.kd==3)=false:=by simp; exact hkd
    go_enter func102,ntmps102;go_wp2_with (refine ay (dH HO.out HL.out ?_) ?_; · exact ⟨_,rfl,rfl⟩)
    refine HK.out.mono ?_;rintro e w3 ⟨a3,n3,rf,rfl,hs3,hb3⟩;have hO3:=HO.out.below hb3;obtain ⟨c0,c1,c2⟩:=bP hO3;have ck:w3.cell? ⟨w.heap.size,3,none⟩=some (.string (N.ks.getD 0 eB)):=nJ hO3 HL.out 0 (by decide);have ip:=hs3.len;have uB:=hs3.2.1;have uC:=hs3.1;unfold maxLen at uB;have cL:=hid hs3;have HB3:=hid (pG (zw hb3));clear hs3 hb3 hO3 HK ip;go_wp2;go_ret;exact ⟨by rw [HF.out]; rfl,HB3.out⟩
theorem qG (N:Nd) (a:aJ) (n c:Nat) (hl:N.ks.length=16) (w:World) (hB:bA w a n c N.p) (hv:N.v.size<=maxLen) (hR:∀ k∈N.ks,nD k) :
  Calls prog 70 #[.agg (ndC N a n c)] w λe w'=>e = .returned (.int .i64 (if fC bR N then 0 else 2))/\Below w.heap.size w w':=by
 have hp:=hB.len;have hm:=hB.2.1;have hnc:=hB.1;have HO:Hid (dQ (w.alloc (.cells (ndC N a n c) 56)) w.heap.size N a n c):=hid (Rg.Own.new _ _ _);have cA:=hid (al1 w (.cells (ndC N a n c) 56));have B4:=hid (Vr N a n c hl hp (by omega) hv hR (w.alloc (.cells (ndC N a n c) 56)));have ik:=hid (fu a n c N.p (w.alloc (.cells (ndC N a n c) 56)) (hB.below (al1 _ _)));obtain ⟨c0,c1,c2⟩:=bP HO.out;have HL:=hid hl;unfold maxLen at hm;obtain ⟨F,hF⟩:=av (if fC bR N then (0:Int) else 2)
 have HM:Hid (F=if (decide (n<=64)&&dA N.p&&lS bR N)=true then 0 else 2):=hid (by rw [<-hF]; unfold fC; rw [hp]);rw [hF];clear hF hR hB hp hl hv;obtain ⟨R,hR⟩:=av (dA N.p)
 obtain ⟨T,hT⟩:=av (lS bR N)
 rw [hR] at HM ik;rw [hT] at HM B4;clear hR hT;by_cases h64:n<=64
 .have Y8:decide (64<(n:Int))=false:=by simp; omega
  cases R with
  | true =>
   go_enter func70,ntmps70;go_wp2_with fail
   refine ik.out.mono ?_;rintro e w3 ⟨rfl,rfl⟩;go_wp2_with (refine Rg.runW (by rfl) _ _ (dH HO.out HL.out ?_) ?_; · exact ⟨_,rfl,rfl⟩)
   refine B4.out.mono ?_;rintro e w3 ⟨rfl,hb3⟩;have HB3:=hid (bst cA.out hb3);clear hb3 B4 ik;cases T;all_goals
    go_wp2;go_ret;exact ⟨by rw [HM.out]; simp [h64],HB3.out⟩
  | false =>
   go_enter func70,ntmps70;go_wp2_with fail
   refine ik.out.mono ?_;rintro e w3 ⟨rfl,rfl⟩;go_wp2;go_ret;exact ⟨by rw [HM.out]; simp,cA.out⟩
 .have Y8:decide (64<(n:Int))=true:=by simp; omega
  go_enter func70,ntmps70;go_wp2;go_ret;exact ⟨by rw [HM.out]; simp [h64],cA.out⟩
theorem Ww {s:aL} {x:It} (hs:s.length<=1000000) (h:iK s = .ok x):∀ y∈x.xs,Good y:=by
 obtain ⟨g1,g2,g3⟩:=oM (by omega) h;intro y hy;have h1:=Ag g2 (by rw [g1]; omega) hy;rw [g1] at h1;have h2:=Qe y (MV g2 hy) (Nat.zero_le _);obtain ⟨i,hi⟩:=List.getElem?_of_mem hy;have h3:=TV x.xs i y hi;have h4:x.size=1+(x.xs.map It.size).sum:=by cases x; exact It.size_mk _ _ _
 have h5:=lC y;have h6:y.s.size<=y.inner.length:=by
  unfold It.inner;rw [List.length_append,je];omega
 exact ⟨h2,by omega,by omega,by omega⟩
theorem CS {s:aL} {c:Int} (h:iK s = .error c):c≠0:=by
 unfold iK at h;split at h
 .rename_i c' hr;cases h;have:=(codes s.length).1 _ _ _ _ aF hr;omega
 .split at h
  .cases h; decide
  .cases h
theorem VW {xs:List It} {N:Nd} (hG:∀ x∈xs,Good x) (h:eT xs=some N):N.v.size<=1000000:=by
 unfold eT at h;by_cases h2:xs.length=2
 .rw [if_pos h2] at h;have h1:=hG _ (yt (xs:=xs) (i:=1) (by omega));unfold iX at h;split at h
  .cases h
  .split at h
   .obtain rfl:=Option.some.inj h;exact h1.2.2.2
   .obtain ⟨k,hk,rfl⟩:=Option.map_eq_some_iff.1 h;exact Nat.zero_le _
 .rw [if_neg h2] at h;split at h
  .unfold dR at h;split at h
   .cases h
   .split at h
    .obtain rfl:=Option.some.inj h;exact Nat.zero_le _
    .cases h
  .cases h
theorem Vg (s:aK) (hs:s.size<=1000000) (ih:∀ k:aK,k.size<32->k.size<s.size->NZ k):NZ s:=by
 intro w;have hsl:=je s;obtain ⟨w2,hw2⟩:=au (w.alloc (.cells (ndC nd0 none 0 0) 56))
 have hO:dQ w2 w.heap.size nd0 none 0 0:=by rw [hw2]; exact Rg.Own.new _ _ _
 have hB2:Below w.heap.size w w2:=by rw [hw2]; exact al1 _ _
 have HO:=hid hO;have HB2:=hid hB2;have hW:=EO s (by omega) w2;have hgt:=FL s.data.toList (by omega);cases hr:iK s.data.toList with
 | error c =>
  rw [hr] at hW hgt;have HW:Hid (Calls prog 144 #[.string s] w2 λe w'=>e = .returned (.tuple #[itV it0 none 0 0,.int .i64 c])/\Below w2.heap.size w2 w'):=hid hW;unfold itV at HW;dsimp only [it0,It.l,It.s] at HW;have hne:(c != 0)=true:=by simp; exact CS hr
  have HC:=hid (CS hr);have HG:Hid (yK s.data.toList=none):=hid hgt;rw [HG.out];clear hO hB2 hr hgt ih hW;subst hw2;go_enter func160,ntmps160;go_wp2_with (refine ay (aX _ _ _ w.heap.size rfl rfl) ?_)
  with_reducible refine HW.out.mono ?_
  rintro e w3 ⟨rfl,hb3⟩;have am:=hid ((HO.out.below hb3).below (al1 w3 (.cells #[.bool false,.string ⟨#[]⟩,.slice none 0 0] 130)));have HB3:=hid (bst (bst HB2.out hb3) (al1 w3 (.cells #[.bool false,.string ⟨#[]⟩,.slice none 0 0] 130)));clear hb3 HW;go_wp2_with (first
   | (refine ay (bK rP ?_) ?_; · exact ⟨_,rfl,rfl⟩)
   | (refine bG am.out rfl nd0 none 0 0 rfl rfl _ _ rfl rfl rfl rfl ?_))
  exact bodyPost_ret (fA rfl _ rfl (dD am.out) rfl) rfl ⟨nd0,none,0,0,c,rfl,.inr ⟨HC.out,rfl,rfl⟩,BsF.nil _ _,rfl,bU HB3.out aF _⟩
 | ok x =>
  have hG:=Ww (by omega) hr;rw [hr] at hW hgt;dsimp only at hgt;have HW:Hid (Calls prog 144 #[.string s] w2 λe w'=>∃ a nn cap,e = .returned (.tuple #[itV x a nn cap,.int .i64 0])/\bN w2.heap.size w' x.xs a nn cap/\Below w2.heap.size w2 w'):=hid hW;unfold itV at HW;have eL:=hid (λw a n cap h=>Rs x.xs a n cap w h hG);have sb:=hid hgt;have mt:Hid (∀ N,eT x.xs=some N->N.v.size<=maxLen/\∀ k∈N.ks,nD k):=hid (λN hN=>by
   have h1:=VW hG hN;obtain ⟨_,h2⟩:=Jw (by omega) hr hN;refine ⟨Nat.le_trans h1 (by unfold maxLen; omega),λk hk=>?_⟩;have hs0:0<s.size:=by
    have hb:=oM (by omega) hr;have:=uH hb.2.1 (by rw [hb.1]; omega);rw [hb.1] at this;have:=List.length_pos_iff.2 this;omega
   rcases h2 k hk with hp | ⟨h3,h4⟩
   .have hp:=of_decide_eq_true hp;exact KD k (by omega) (λh=>ih k h (by omega))
   .exact KD k (by omega) (λh=>ih k h (by omega)))
  obtain ⟨r,hrr⟩:=av (eT x.xs)
  obtain ⟨G,L8⟩:=av (yK s.data.toList)
  rw [hrr] at sb eL mt;rw [L8] at sb;rw [L8];clear hO hB2 hr hgt ih hW hG hrr L8;subst hw2;go_enter func160,ntmps160;go_wp2_with (refine ay (aX _ _ _ w.heap.size rfl rfl) ?_)
  with_reducible refine HW.out.mono ?_
  rintro e w3 ⟨a3,n3,c3,rfl,C3,hb3⟩;obtain ⟨w4,hw4⟩:=au (w3.alloc (.cells #[.bool x.l,.string x.s,.slice a3 n3 c3] 130))
  have hb4:Below w3.heap.size w3 w4:=by rw [hw4]; exact al1 _ _
  have hO4:=(HO.out.below hb3).below hb4;have hB4:=bst (bst HB2.out hb3) hb4;have HR4:=hid (eL.out w4 a3 n3 c3 (bN.weak (C3.stays hb4) (Nat.zero_le _)));have cn:=hid hO4;have cg:=hid hB4;clear hb3 hb4 C3 hO4 hB4 HW eL;subst hw4;go_wp2_with fail
  with_reducible refine HR4.out.mono ?_
  rintro e w5 ⟨N,a5,n5,c5,b5,rfl,Y9,hx5,hl5,hb5⟩;have Ys:=hb5.size;have b8:=cn.out.below hb5;have iz:=bst cg.out hb5;obtain ⟨w6,lb⟩:=au (w5.alloc (.cells (ndC N a5 n5 c5) 56))
  have m6:Hid (dQ (w5.alloc (.cells (ndC nd0 none 0 0) 56)) w5.heap.size nd0 none 0 0):=hid (Rg.Own.new _ _ _);have vz:Hid (dQ ((w5.alloc (.cells (ndC nd0 none 0 0) 56)).setRow w5.heap.size (ndC N a5 n5 c5)) w5.heap.size N a5 n5 c5):=hid (dD m6.out);have da:Below w5.heap.size w5 ((w5.alloc (.cells (ndC nd0 none 0 0) 56)).setRow w5.heap.size (ndC N a5 n5 c5)):=bU (al1 _ _) aF _;have cS:=hid (b8.below da);have cq:=hid (bst iz da);have nj:=hid (hx5.below da);have fw:=hid hl5;have hw0:=cn.out.1
  clear b8 iz hx5 hl5 hb5 da HR4 cn cg lb w6;rcases Y9 with ⟨rfl,rfl⟩ | ⟨rfl,rfl⟩
  .have hck:=qG N a5 n5 c5 fw.out ((w5.alloc (.cells (ndC nd0 none 0 0) 56)).setRow w5.heap.size (ndC N a5 n5 c5)) nj.out.1 (mt.out N rfl).1 (mt.out N rfl).2;obtain ⟨M,hM⟩:=av (fC bR N)
   have HG:Hid (G=if M=true then some N else none):=hid (by rw [sb.out,<-hM]);rw [hM] at hck;have HC:=hid hck;clear hM sb mt hck;go_wp2_with (first
    | (refine ay (aX _ _ _ w5.heap.size rfl rfl) ?_)
    | (refine bG m6.out rfl N a5 n5 c5 fw.out rfl _ _ rfl rfl rfl rfl ?_)
    | (refine Rg.runW (by rfl) _ _ (dH vz.out fw.out ?_) ?_; · exact ⟨_,rfl,rfl⟩))
   refine HC.out.mono ?_;rintro e w7 ⟨rfl,cP⟩;have hs7:=cP.size;have YY:=hid (vz.out.below cP);have m7:=hid (cS.out.below cP);have cC:=hid (bst cq.out cP);have wq:=hid (nj.out.below cP);clear cP HC cS cq nj;cases M with
   | true =>
    go_wp2_with (first
     | (refine ay (dH YY.out fw.out ?_) ?_; · exact ⟨_,rfl,rfl⟩)
     | (refine bG m7.out rfl N a5 n5 c5 fw.out rfl _ _ rfl rfl rfl rfl ?_))
    exact bodyPost_ret (fA rfl _ rfl (dD m7.out) fw.out) rfl ⟨N,a5,n5,c5,0,rfl,.inl ⟨rfl,HG.out⟩,(wq.out.row (by omega) _).weak (by omega),fw.out,bU cC.out aF _⟩
   | false =>
    go_wp2_with (first
     | (refine ay (bK rP ?_) ?_; · exact ⟨_,rfl,rfl⟩)
     | (refine bG m7.out rfl nd0 none 0 0 rfl rfl _ _ rfl rfl rfl rfl ?_))
    exact bodyPost_ret (fA rfl _ rfl (dD m7.out) rfl) rfl ⟨nd0,none,0,0,6,rfl,.inr ⟨by decide,rfl,HG.out⟩,BsF.nil _ _,rfl,bU cC.out aF _⟩
  .have HG:Hid (G=none):=sb;go_wp2_with (first
    | (refine ay (aX _ _ _ w5.heap.size rfl rfl) ?_)
    | (refine bG m6.out rfl N a5 n5 c5 fw.out rfl _ _ rfl rfl rfl rfl ?_)
    | (refine ay (bK rP ?_) ?_; · exact ⟨_,rfl,rfl⟩)
    | (refine bG cS.out rfl nd0 none 0 0 rfl rfl _ _ rfl rfl rfl rfl ?_))
   exact bodyPost_ret (fA rfl _ rfl (dD cS.out) rfl) rfl ⟨nd0,none,0,0,6,rfl,.inr ⟨by decide,rfl,HG.out⟩,BsF.nil _ _,rfl,bU cq.out aF _⟩
theorem Si (N:Nat) (hN:N<=1000000):∀ s:aK,s.size<=N->NZ s:=by
 induction N using Nat.strongRecOn with
 | ind N ih=>exact λs hs=>Vg s (by omega) (λk _ hk=>ih k.size (by omega) (by omega) k aF)
theorem Rq (s:aK) (hs:s.size<=1000000):NZ s:=Si s.size hs s aF
theorem lK (k:aK) (hk:k.size<=9223372036854775807):nD k:=KD k hk (λh=>Rq k (by omega))
end No
end
section
open Go.RowKit
namespace Rf
open Rl Ni No
def oF (k:aK):Nat:=if k.size=0 then 0 else if k.size=32 then 1 else if bR k then 2 else 3
theorem dJ (k:aK) (hk:k.size<=maxLen) (w:World) :
  Calls prog 62 #[.string k] w λe w'=>e = .returned (.int .i64 (oF k))/\Below w.heap.size w w':=by
 unfold maxLen at hk;have HR:=hid (lK k (by omega) w);by_cases h0:k.size=0
 .obtain rfl:=dU h0;have HF:Hid (oF eB=0):=hid rfl;rw [HF.out];clear HR hk h0 HF;go_enter func62,ntmps62;go_wp2;go_ret;exact ⟨rfl,aG⟩
 have hne:=Ni.dz (s:=k) (by omega);by_cases h32:k.size=32
 .have HF:Hid (oF k=1):=hid (by unfold oF; rw [if_neg h0,if_pos h32]);have hd:(((k.size:Int)==32):Bool)=true:=by simp; omega
  rw [HF.out];clear HR HF h0 h32;go_enter func62,ntmps62;go_wp2;go_ret;exact ⟨rfl,aG⟩
 have HF:Hid (oF k=if bR k then 2 else 3):=hid (by unfold oF; rw [if_neg h0,if_neg h32]);have hd:(((k.size:Int)==32):Bool)=false:=by simp; omega
 rw [HF.out];obtain ⟨r,hr⟩:=av (bR k)
 rw [hr] at HR;rw [hr];clear HF h0 h32 hr;cases r;all_goals
  go_enter func62,ntmps62;go_wp2_with fail
  refine HR.out.mono ?_;rintro e w1 ⟨rfl,hb1⟩;go_wp2;go_ret;exact ⟨rfl,hb1⟩
open Sh
open Sm
theorem str_eq (a b:aK):(a.toList==b.toList)=decide (a=b):=by
 by_cases h:a=b
 .subst h; simp
 .rw [decide_eq_false h,beq_eq_false_iff_ne];intro e;apply h;rw [ByteArray.toList_eq,ByteArray.toList_eq] at e;apply ByteArray.ext;exact Array.ext' e
def ofP (s:aK):aK:=if s.size<32 then s else ⟨(xk s).toArray⟩
theorem YE (s:aK) (hs:s.size<=900000) (w:World) (hT:Tab w):Calls prog 93 #[.string s] w λe w'=>e = .returned (.agg (kc (xk s)))/\Below w.heap.size w w':=Sm.Fu s hs w hT
theorem Wz (s:aK) (hs:s.size<=900000) (w:World) (hT:Tab w) :
  Calls prog 56 #[.string s] w λe w'=>e = .returned (.string (ofP s))/\Below w.heap.size w w':=by
 by_cases h:s.size<32
 .have HF:Hid (ofP s=s):=hid (by unfold ofP; rw [if_pos h]);have hd:decide ((s.size:Int)<32)=true:=by simp; omega
  rw [HF.out];clear hT HF;go_enter func56,ntmps56;go_wp2;go_ret;exact ⟨rfl,aG⟩
 .have HF:Hid (ofP s=⟨(xk s).toArray⟩):=hid (by unfold ofP; rw [if_neg h]);have hd:decide ((s.size:Int)<32)=false:=by simp; omega
  have kv:=hid (YE s hs w hT);have ub:=hid (λW=>Sm.lJ (xk s) (sV s) W);rw [HF.out];obtain ⟨K,hK⟩:=av (xk s)
  rw [hK] at kv ub;rw [hK];obtain ⟨T,nd⟩:=av (⟨K.toArray⟩:aK)
  rw [nd] at ub;rw [nd];clear hT HF hK nd;go_enter func56,ntmps56;go_wp2_with fail
  refine kv.out.mono ?_;rintro e w1 ⟨rfl,hb1⟩;go_wp2_with fail
  refine (ub.out _).mono ?_;rintro e w2 ⟨rfl,hb2⟩;go_wp2;go_ret;exact ⟨rfl,bst hb1 hb2⟩
end Rf
end
section
open Go.RowKit
namespace No
open Rl Ni
def dY (k:aK):It:=if dF k then .mk false k [] else match iK k.data.toList with
 | .ok x=>x
 | .error _=>it0
abbrev uW (n:Nd):It:=.mk false ⟨(iH n.p (decide (n.kd=1))).toArray⟩ []
def bS (n:Nd):List It:=if n.kd=3 then n.ks.map dY++[it0] else if n.kd=1 then [uW n,.mk false n.v []] else [uW n,dY (n.ks.getD 0 eB)]
def gy (n:Nd):It:=.mk true ⟨#[]⟩ (bS n)
def jU (n:Nd):aL:=(gy n).bytes
theorem Gz (x:It):∀ {d e:Nat},Fits d x->e+x.bytes.length<=65->Fits e x:=by
 induction x using It.ind with
 | h l s xs ih =>
  intro d e h he;have hb:=uH h (by omega);have hb1:=List.length_pos_iff.2 hb;have hless:∀ y∈xs,y.bytes.length<(It.mk l s xs).bytes.length:=λy hy=>Ag h (by omega) hy;cases h with
  | mk ha hs hx hy=>exact .mk (by omega) hs hx (λy hm=>ih y hm (hy y hm) (by have:=hless y hm; omega))
theorem UC (xs:List It) (h:∀ y∈xs,y.size<=y.bytes.length):(xs.map It.size).sum<=((xs.map It.bytes).flatten).length:=by
 induction xs with
 | nil=>exact aF
 | cons y ys ih =>
  rw [List.map_cons,List.sum_cons,List.map_cons,List.flatten_cons,List.length_append];have h1:=h y (List.mem_cons_self ..);have h2:=ih (λz hz=>h z (List.mem_cons_of_mem _ hz));omega
theorem vo (x:It):∀ {d:Nat},Fits d x->x.bytes.length<=4294967296->x.size<=x.bytes.length:=by
 induction x using It.ind with
 | h l s xs ih =>
  intro d h hb;have hp:=List.length_pos_iff.2 (uH h hb);have hless:∀ y∈xs,y.bytes.length<(It.mk l s xs).bytes.length:=λy hy=>Ag h hb hy;have hle:=UC xs (λy hy=>ih y hy (MV h hy) (by have:=hless y hy; omega));rw [It.size_mk];cases l with
  | true =>
   have h1:=yZ h hb rfl;have h2:=iW (((It.mk true s xs).xs.map It.bytes).flatten).length true;simp only [It.xs] at h1 h2;omega
  | false =>
   cases h with
   | mk ha hs hx hy =>
    rw [hx rfl] at hp ⊢;rw [List.map_nil,List.sum_nil];exact hp
theorem JH {x:It} (h:Fits 0 x) (hb:x.bytes.length<=4294967296) (hk:x.size<=4096):iK x.bytes = .ok x:=by
 have:=forth x 0 0 [] h hb (by omega);rw [List.append_nil] at this;unfold iK;rw [this];dsimp only;rw [if_neg (by omega)]
theorem qw (d:Nat) (hd:d<=64) (s:aK):Fits d (.mk false s []):=.mk hd (λe=>by cases e) (λ_=>rfl) (λy hy=>by cases hy)
theorem tu (s:aK) (h:s.size<=4294967296):(It.mk false s []).bytes.length<=9+s.size:=by
 rw [mE s h,List.length_append,je];have:=nk s.size false (by omega);split
 .simp
 .omega
theorem uh {k:aK} (hp:dF k=false) (h:bR k=true):∃ x n,iK k.data.toList = .ok x/\dY k=x/\x.l=true/\eT x.xs=some n/\k.size<32/\x.bytes=k.data.toList/\Fits 0 x/\fC bR n=true:=by
 unfold bR at h;rw [hp,Bool.false_or,Bool.and_eq_true] at h;have h32:k.size<32:=of_decide_eq_true h.1;obtain ⟨n,hn⟩:=Option.isSome_iff_exists.1 h.2;have hsl:=je k;obtain ⟨x,hw,hr,hm⟩:=EN (by omega) hn;obtain ⟨g1,g2,g3⟩:=oM (by omega) hw;refine ⟨x,n,hw,?_,?_,hr,h32,g1,g2,hm⟩
 .unfold dY;rw [hp,hw];rfl
 .refine Co g2 (λe=>?_);rw [e] at hr;cases hr
theorem oP {k:aK} (hp:dF k=true):dY k = .mk false k []:=by
 unfold dY;rw [hp];rfl
theorem lV {k:aK} (hp:dF k=true):k.size=0\/k.size=32:=of_decide_eq_true hp
theorem mF {k:aK} (h:bR k=true):Fits 1 (dY k)/\(dY k).bytes.length<=41:=by
 cases hp:dF k with
 | true =>
  rw [oP hp];have:=lV hp;have h2:=tu k (by omega);exact ⟨qw 1 (by omega) k,by omega⟩
 | false =>
  obtain ⟨x,n,hw,e,hl,hr,h32,hb,hf,_⟩:=uh hp h;have hsl:=je k;rw [e];exact ⟨Gz x hf (by rw [hb]; omega),by rw [hb]; omega⟩
theorem EI {k:aK} (h:bR k=true):mY (dY k)=some k:=by
 cases hp:dF k with
 | true =>
  rw [oP hp];show (if dF k then some k else none)=some k;rw [hp];rfl
 | false =>
  obtain ⟨x,n,hw,e,hl,hr,h32,hb,hf,_⟩:=uh hp h;have hsl:=je k;rw [e];unfold mY;rw [hl,if_pos rfl,if_pos (by rw [hb]; omega),hb]
theorem pO (xs:List It) (m:Nat) (h:∀ y∈xs,y.bytes.length<=m):((xs.map It.bytes).flatten).length<=xs.length*m:=by
 induction xs with
 | nil=>simp
 | cons y ys ih =>
  rw [List.map_cons,List.flatten_cons,List.length_append,List.length_cons,Nat.succ_mul];have h1:=h y (List.mem_cons_self ..);have h2:=ih (λz hz=>h z (List.mem_cons_of_mem _ hz));omega
theorem jK {n:Nd} (h:fC bR n=true):n.p.length<=64/\dA n.p=true/\lS bR n=true:=by
 unfold fC at h;rw [Bool.and_eq_true,Bool.and_eq_true] at h;exact ⟨of_decide_eq_true h.1.1,h.1.2,h.2⟩
theorem TL {ks:List aK} (h:(bL ks).all bR=true):∀ k∈ks,bR k=true:=by
 intro k hk;by_cases hz:k.size=0
 .unfold bR dF;simp [hz]
 .exact List.all_eq_true.1 h k (List.mem_filter.2 ⟨hk,by simp; intro e; rw [e] at hz; exact hz rfl⟩)
theorem jJ {n:Nd} (_hl:n.ks.length=16) (h:fC bR n=true) :
  n.kd=1/\n.v.size≠0/\n.v.size<=65552/\(bL n.ks).length=0\/n.kd=2/\0<n.p.length/\n.v.size=0/\(bL n.ks).length=1/\(n.ks.getD 0 eB).size≠0/\bR (n.ks.getD 0 eB)=true\/n.kd=3/\n.p=[]/\n.v.size=0/\2<=(bL n.ks).length/\∀ k∈n.ks,bR k=true:=by
 obtain ⟨_,_,h⟩:=jK h;unfold lS at h;by_cases h1:n.kd=1
 .rw [if_pos h1] at h;simp only [Bool.and_eq_true,decide_eq_true_eq] at h;exact .inl ⟨h1,h.1.1,h.1.2,h.2⟩
 .rw [if_neg h1] at h;by_cases h2:n.kd=2
  .rw [if_pos h2] at h;simp only [Bool.and_eq_true,decide_eq_true_eq] at h;exact .inr (.inl ⟨h2,h.1.1.1.1,h.1.1.1.2,h.1.1.2,h.1.2,h.2⟩)
  .rw [if_neg h2] at h;by_cases h3:n.kd=3
   .rw [if_pos h3] at h;simp only [Bool.and_eq_true,decide_eq_true_eq] at h;exact .inr (.inr ⟨h3,List.eq_nil_of_length_eq_zero h.1.1.1,h.1.1.2,h.1.2,TL h.2⟩)
   .rw [if_neg h3] at h; cases h
theorem vF {n:Nd} (hl:n.ks.length=16) (h:fC bR n=true):∀ y∈bS n,Fits 1 y/\y.bytes.length<=65561:=by
 obtain ⟨g1,g2,g3⟩:=jK h;have hpk:Fits 1 (uW n)/\(uW n).bytes.length<=65561:=by
  have:=oU n.p (decide (n.kd=1));have h2:=tu ⟨(iH n.p (decide (n.kd=1))).toArray⟩ (by omega);exact ⟨qw 1 (by omega) _,Nat.le_trans h2 (by omega)⟩
 rcases jJ hl h with ⟨k1,v1,v2,_⟩ | ⟨k1,_,_,_,_,hr⟩ | ⟨k1,_,_,_,hr⟩
 .unfold bS;rw [if_neg (by omega),if_pos k1];intro y hy;rcases List.mem_cons.1 hy with rfl | hy
  .exact hpk
  .rcases List.mem_cons.1 hy with rfl | hy
   .have h2:=tu n.v (by omega);exact ⟨qw 1 (by omega) _,by omega⟩
   .cases hy
 .unfold bS;rw [if_neg (by omega),if_neg (by omega)];intro y hy;rcases List.mem_cons.1 hy with rfl | hy
  .exact hpk
  .rcases List.mem_cons.1 hy with rfl | hy
   .have:=mF hr;exact ⟨this.1,by omega⟩
   .cases hy
 .unfold bS;rw [if_pos k1];intro y hy;rcases List.mem_append.1 hy with hy | hy
  .obtain ⟨k,hk,rfl⟩:=List.mem_map.1 hy;have:=mF (hr k hk);exact ⟨this.1,by omega⟩
  .rcases List.mem_cons.1 hy with rfl | hy
   .have h2:=tu eB (by decide);refine ⟨qw 1 (by omega) _,?_⟩;have:eB.size=0:=rfl;show (It.mk false eB []).bytes.length<=_;omega
   .cases hy
theorem yg {n:Nd} (hl:n.ks.length=16):(bS n).length<=17:=by
 unfold bS;split
 .simp [hl]
 .split <;> simp
theorem EL {n:Nd} (hl:n.ks.length=16) (h:fC bR n=true):Fits 0 (gy n)/\(gy n).bytes.length<=1200000/\(gy n).size<=4096/\(jU n).length=(gy n).bytes.length:=by
 have hg:=vF hl h;have hf:Fits 0 (gy n):=.mk (by omega) (λ_=>rfl) (λe=>by cases e) (λy hy=>(hg y hy).1);have d9:=yg hl;have hlen:=pO (bS n) 65561 (λy hy=>(hg y hy).2);have hm:(bS n).length*65561<=17*65561:=Nat.mul_le_mul_right _ d9;have hb:(gy n).bytes.length<=1200000:=by
  unfold gy;rw [jv _ (by omega),List.length_append];have:=nk ((bS n).map It.bytes).flatten.length true (by omega);omega
 refine ⟨hf,hb,?_,rfl⟩;unfold gy;rw [It.size_mk];have:∀ y∈bS n,y.size<=200:=by
  obtain ⟨g1,g2,g3⟩:=jK h;rcases jJ hl h with ⟨k1,v1,v2,_⟩ | ⟨k1,_,_,_,_,hr⟩ | ⟨k1,_,_,_,hr⟩
  .unfold bS;rw [if_neg (by omega),if_pos k1];intro y hy;rcases List.mem_cons.1 hy with rfl | hy
   .rw [It.size_mk]; simp
   .rcases List.mem_cons.1 hy with rfl | hy
    .rw [It.size_mk]; simp
    .cases hy
  .unfold bS;rw [if_neg (by omega),if_neg (by omega)];intro y hy;rcases List.mem_cons.1 hy with rfl | hy
   .rw [It.size_mk]; simp
   .rcases List.mem_cons.1 hy with rfl | hy
    .have:=mF hr;have:=vo _ this.1 (by omega);omega
    .cases hy
  .unfold bS;rw [if_pos k1];intro y hy;rcases List.mem_append.1 hy with hy | hy
   .obtain ⟨k,hk,rfl⟩:=List.mem_map.1 hy;have:=mF (hr k hk);have:=vo _ this.1 (by omega);omega
   .rcases List.mem_cons.1 hy with rfl | hy
    .unfold it0; rw [It.size_mk]; simp
    .cases hy
 have hs:((bS n).map It.size).sum<=(bS n).length*200:=by
  generalize bS n=l at this
  induction l with
  | nil=>simp
  | cons y ys ih =>
   rw [List.map_cons,List.sum_cons,List.length_cons,Nat.succ_mul];have h1:=this y (List.mem_cons_self ..);have h2:=ih (λz hz=>this z (List.mem_cons_of_mem _ hz));omega
 have:(bS n).length*200<=17*200:=Nat.mul_le_mul_right _ d9;omega
theorem ES {ks:List aK} (h:(bL ks).length=0):ks=List.replicate ks.length eB:=by
 induction ks with
 | nil=>rfl
 | cons k ks ih =>
  unfold bL at h;rw [List.filter_cons] at h;split at h
  .cases h
  .rename_i hz;simp at hz;rw [List.length_cons,List.replicate_succ,<-ih h];congr 1
theorem Vp {ks:List aK} (hl:ks.length=16) (h:(bL ks).length=1) (h0:(ks.getD 0 eB).size≠0):ks=eZ (ks.getD 0 eB):=by
 cases ks with
 | nil=>cases hl
 | cons k ks =>
  have h0':k.size≠0:=h0;unfold bL at h;rw [List.filter_cons,if_pos (by simp; intro e; rw [e] at h0'; exact h0' rfl),List.length_cons] at h;have:=ES (ks:=ks) (by unfold bL; omega);unfold eZ;rw [List.length_cons] at hl;rw [show ks.length=15 by omega] at this;rw [this];rfl
theorem TU {ks:List aK} (h:∀ k∈ks,bR k=true):ou (ks.map dY)=some ks:=by
 induction ks with
 | nil=>rfl
 | cons k ks ih =>
  rw [List.map_cons];unfold ou;rw [EI (h k (List.mem_cons_self ..)),ih (λz hz=>h z (List.mem_cons_of_mem _ hz))]
theorem Lx {n:Nd} (hl:n.ks.length=16) (h:fC bR n=true):eT (bS n)=some n:=by
 obtain ⟨g1,g2,g3⟩:=jK h;have hsz:=oU n.p (decide (n.kd=1));have hgood:=OU n.p (decide (n.kd=1)) g2 g1;have pA:=Qd n.p (decide (n.kd=1)) g2;have pB:=Qf n.p (decide (n.kd=1)) g2;obtain ⟨S,hS⟩:=av (⟨(iH n.p (decide (n.kd=1))).toArray⟩:aK)
 have hpi:uW n = .mk false S []:=by unfold uW; rw [hS]
 rw [hS] at hsz hgood pA pB;rcases jJ hl h with ⟨k1,v1,v2,hk⟩ | ⟨k1,hp0,hv,hk,hk0,hr⟩ | ⟨k1,hp,hv,hk,hr⟩
 .have hI:bS n=[.mk false S [],.mk false n.v []]:=by unfold bS; rw [if_neg (by omega),if_pos k1,hpi]
  rw [hI];unfold eT;rw [if_pos (by rfl)];show iX (.mk false S []) (.mk false n.v [])=some n;unfold iX;rw [if_neg (by
   rintro (e | e)
   .have e':S.size=0:=e;omega
   .exact hgood e)]
  show (if qo S=true then some (⟨1,nK S,n.v,zks⟩:Nd) else _)=some n;rw [pA,pB,k1,if_pos (by decide)];have:=ES hk;rw [hl] at this;cases n;simp only at k1 this ⊢;rw [k1,this];rfl
 .have hI:bS n=[.mk false S [],dY (n.ks.getD 0 eB)]:=by unfold bS; rw [if_neg (by omega),if_neg (by omega),hpi]
  rw [hI];unfold eT;rw [if_pos (by rfl)];show iX (.mk false S []) (dY (n.ks.getD 0 eB))=some n;unfold iX;rw [if_neg (by
   rintro (e | e)
   .have e':S.size=0:=e;omega
   .exact hgood e)]
  show (if qo S=true then _ else (mY (dY (n.ks.getD 0 eB))).map λk=>(⟨2,nK S,eB,eZ k⟩:Nd))=some n;rw [pA,pB,k1,if_neg (by decide),EI hr,Option.map_some,<-Vp hl hk hk0];have py:=dU hv;cases n;simp only at k1 py ⊢;rw [k1,py]
 .have hI:bS n=n.ks.map dY++[it0]:=by unfold bS; rw [if_pos k1]
  rw [hI];unfold eT;have hlen:(n.ks.map dY++[it0]).length=17:=by simp [hl]
  rw [if_neg (by omega),if_pos hlen];unfold dR;rw [List.take_append_of_le_length (by simp [hl]),List.take_of_length_le (by simp [hl]),TU hr];have e16:(n.ks.map dY++[it0]).getD 16 it0=it0:=by
   rw [List.getD_eq_getElem?_getD,List.getElem?_append_right (by simp [hl])];simp [hl]
  rw [e16];dsimp only;rw [if_pos ⟨rfl,rfl⟩];have py:=dU hv;cases n;simp only at k1 py hp ⊢;rw [k1,py,hp]
theorem get_put {n:Nd} (hl:n.ks.length=16) (h:fC bR n=true):yK (jU n)=some n:=by
 obtain ⟨f1,f2,f3,_⟩:=EL hl h;unfold jU;rw [FL _ (by omega),JH f1 (by omega) f3];dsimp only;rw [show (gy n).xs=bS n from rfl,Lx hl h];dsimp only;rw [h];rfl
end No
end
section
namespace Tr
open Rf Rl Ni No
def jZ (n:Nd):aK:=⟨(jU n).toArray⟩
def dn (f:Fin 16->aK):List aK:=(List.finRange 16).map f
def ref:T->aK
 | .nil=>eB
 | .leaf p v=>ofP (jZ ⟨1,p,v,zks⟩)
 | .ext q t=>ofP (jZ ⟨2,q,eB,eZ (ref t)⟩)
 | .br ks=>ofP (jZ ⟨3,[],eB,dn λi=>ref (ks i)⟩)
 | .stub r=>r
def bM:T->Nd
 | .nil=>nd0
 | .leaf p v=>⟨1,p,v,zks⟩
 | .ext q t=>⟨2,q,eB,eZ (ref t)⟩
 | .br ks=>⟨3,[],eB,dn λi=>ref (ks i)⟩
 | .stub _=>nd0
def jS:T->aK
 | .nil=>eB
 | .stub _=>eB
 | t=>jZ (bM t)
def eX:T->Prop
 | .stub _=>True
 | _=>False
theorem MW {t:T} (h:¬ eX t):ref t=ofP (jS t):=by
 cases t with
 | stub r=>exact absurd trivial h
 | nil=>rfl
 | leaf p v=>rfl
 | ext q t=>rfl
 | br ks=>rfl
theorem nY {t:T} (h:Full t):¬ eX t:=by
 cases t with
 | stub r=>exact h.elim
 | _=>exact id
theorem mV (f:Fin 16->aK):(dn f).length=16:=by simp [dn]
theorem dP (t:T):(bM t).ks.length=16:=by
 cases t with
 | nil=>rfl
 | leaf p v=>rfl
 | ext q t=>exact fJ _
 | br ks=>exact mV _
 | stub r=>rfl
theorem wL {p:Pa} (h:Nib p):dA p=true:=by
 unfold dA;rw [List.all_eq_true];intro c hc;have:=h c hc;exact aI (by omega)
def Fine:T->Prop
 | .nil=>True
 | .leaf _ v=>v.size≠0/\v.size<=65552
 | .ext _ t=>Fine t
 | .br ks=>∀ i,Fine (ks i)
 | .stub r=>bR r=true/\r.size≠0
theorem yC (n:Nd):(jZ n).size=(jU n).length:=by
 show (jU n).toArray.size=_;simp
theorem QM (n:Nd):(jZ n).data.toList=jU n:=by
 show (jU n).toArray.toList=_;simp
theorem put_pos {n:Nd} (hl:n.ks.length=16) (h:fC bR n=true):0<(jU n).length:=by
 have:=No.get_put hl h;rcases Nat.eq_zero_or_pos (jU n).length with h0 | h0
 .have:=Xp (s:=jU n) (by omega) this;omega
 .exact h0
theorem FP {n:Nd} (hl:n.ks.length=16) (h:fC bR n=true):bR (ofP (jZ n))=true/\(ofP (jZ n)).size≠0:=by
 have hp:=put_pos hl h;have hs:=yC n;unfold ofP;by_cases h32:(jZ n).size<32
 .rw [if_pos h32];refine ⟨?_,by omega⟩;unfold bR;rw [QM,No.get_put hl h,aI h32];simp
 .rw [if_neg h32];have hz:(⟨(xk (jZ n)).toArray⟩:aK).size=32:=by
   have:(⟨(xk (jZ n)).toArray⟩:aK).size=(xk (jZ n)).length:=by show (xk (jZ n)).toArray.size=_; simp
   rw [this,sV]
  refine ⟨?_,by omega⟩;unfold bR;rw [show dF _=true from aI (.inr hz)];rfl
theorem yj:(bL zks).length=0:=by decide +kernel
theorem EC {k:aK} (h:k.size≠0):bL (eZ k)=[k]:=by
 have hz:bL (List.replicate 15 eB)=[]:=by decide +kernel
 have:bL (k::List.replicate 15 eB)=k::bL (List.replicate 15 eB):=by
  unfold bL;rw [List.filter_cons_of_pos (by simpa using h)]
 show bL (k::List.replicate 15 eB)=_;rw [this,hz]
theorem Pv {f:Fin 16->aK} {i j:Fin 16} (hij:i≠j) (hi:(f i).size≠0) (hj:(f j).size≠0):2<=(bL (dn f)).length:=by
 unfold bL dn;rw [List.filter_map,List.length_map];have hnd:((List.finRange 16).filter ((λk:aK=>decide (k.size≠0)) ∘ f)).Nodup:=(List.nodup_finRange 16).filter _;have mi:i∈(List.finRange 16).filter ((λk:aK=>decide (k.size≠0)) ∘ f):=List.mem_filter.2 ⟨List.mem_finRange i,aI hi⟩;have mj:j∈(List.finRange 16).filter ((λk:aK=>decide (k.size≠0)) ∘ f):=List.mem_filter.2 ⟨List.mem_finRange j,aI hj⟩
 match hk:(List.finRange 16).filter ((λk:aK=>decide (k.size≠0)) ∘ f) with
 | []=>rw [hk] at mi; cases mi
 | [a] =>
  rw [hk] at mi mj;exact absurd ((List.mem_singleton.1 mi).trans (List.mem_singleton.1 mj).symm) hij
 | a::b::l=>simp
theorem QH {f:Fin 16->aK} {R:aK->Bool} (h:∀ i,(f i).size≠0->R (f i)=true):(bL (dn f)).all R=true:=by
 rw [List.all_eq_true];intro k hk;obtain ⟨h1,h2⟩:=List.mem_filter.1 hk;obtain ⟨i,_,rfl⟩:=List.mem_map.1 h1;exact h i (of_decide_eq_true h2)
theorem fU:∀ (t:T) (L:Nat),Good t L->L<=64->Fine t->t ≠ .nil->(¬ eX t->fC bR (bM t)=true)/\bR (ref t)=true/\(ref t).size≠0
 | .nil,_,_,_,_,h=>absurd rfl h
 | .leaf p v,L,g,hL,hf,_=>by
  have hm:fC bR ⟨1,p,v,zks⟩=true:=by
   unfold fC lS;rw [aI (show (⟨1,p,v,zks⟩:Nd).p.length<=64 from by show p.length<=64; rw [g.1]; exact hL),wL (show Nib (⟨1,p,v,zks⟩:Nd).p from g.2),if_pos rfl,
    aI (show (⟨1,p,v,zks⟩:Nd).v.size≠0 from hf.1),aI (show (⟨1,p,v,zks⟩:Nd).v.size<=65552 from hf.2),aI (show (bL (⟨1,p,v,zks⟩:Nd).ks).length=0 from yj)]
   rfl
  exact ⟨λ_=>hm,FP rfl hm⟩
 | .ext q t,L,g,hL,hf,_=>by
  obtain ⟨g1,g2,g3,g4,g5⟩:=g;obtain ⟨_,h2,h3⟩:=fU t _ g5 (by omega) hf (pQ g4);have hm:fC bR ⟨2,q,eB,eZ (ref t)⟩=true:=by
   unfold fC lS;rw [aI (show (⟨2,q,eB,eZ (ref t)⟩:Nd).p.length<=64 from by show q.length<=64; omega),wL (show Nib (⟨2,q,eB,eZ (ref t)⟩:Nd).p from g2),if_neg (show ¬ (⟨2,q,eB,eZ (ref t)⟩:Nd).kd=1 by show ¬ ((2:Int)=1); decide),if_pos rfl,
    aI (show 0<(⟨2,q,eB,eZ (ref t)⟩:Nd).p.length from List.length_pos_iff.2 g1),aI (show (⟨2,q,eB,eZ (ref t)⟩:Nd).v.size=0 from rfl),
    aI (show (bL (⟨2,q,eB,eZ (ref t)⟩:Nd).ks).length=1 from by show (bL (eZ (ref t))).length=1; rw [EC h3]; rfl),
    aI (show ((⟨2,q,eB,eZ (ref t)⟩:Nd).ks.getD 0 eB).size≠0 from h3),show bR ((⟨2,q,eB,eZ (ref t)⟩:Nd).ks.getD 0 eB)=true from h2]
   rfl
  exact ⟨λ_=>hm,FP (fJ _) hm⟩
 | .br ks,L,g,hL,hf,_=>by
  obtain ⟨g1,⟨i,j,hij,hi,hj⟩,g3⟩:=g;have hk:∀ i,(ref (ks i)).size≠0->bR (ref (ks i))=true:=λi h=>by
   refine (fU (ks i) _ (g3 i) (by omega) (hf i) (λe=>h ?_)).2.1;rw [e]; rfl
  have hm:fC bR ⟨3,[],eB,dn λi=>ref (ks i)⟩=true:=by
   unfold fC lS;rw [aI (show (⟨3,[],eB,dn λi=>ref (ks i)⟩:Nd).p.length<=64 from Nat.zero_le _),wL (show Nib (⟨3,[],eB,dn λi=>ref (ks i)⟩:Nd).p from .nil),if_neg (show ¬ (⟨3,[],eB,dn λi=>ref (ks i)⟩:Nd).kd=1 by show ¬ ((3:Int)=1); decide),if_neg (show ¬ (⟨3,[],eB,dn λi=>ref (ks i)⟩:Nd).kd=2 by show ¬ ((3:Int)=2); decide),if_pos rfl,
    aI (show (⟨3,[],eB,dn λi=>ref (ks i)⟩:Nd).p.length=0 from rfl),aI (show (⟨3,[],eB,dn λi=>ref (ks i)⟩:Nd).v.size=0 from rfl),
    aI (show 2<=(bL (⟨3,[],eB,dn λi=>ref (ks i)⟩:Nd).ks).length from Pv (f:=λi=>ref (ks i)) hij (fU (ks i) _ (g3 i) (by omega) (hf i) hi).2.2 (fU (ks j) _ (g3 j) (by omega) (hf j) hj).2.2),
    show (bL (⟨3,[],eB,dn λi=>ref (ks i)⟩:Nd).ks).all bR=true from QH hk]
   rfl
  exact ⟨λ_=>hm,FP (mV _) hm⟩
 | .stub r,_,_,_,hf,_=>⟨λh=>absurd trivial h,hf⟩
theorem yH {s:Pa} {t:T} (h:Fine t):Fine (wrap s t):=by
 unfold wrap;split
 .exact h
 .exact h
theorem GV {i j:Fin 16} {a b:T} (ha:Fine a) (hb:Fine b):Fine (two i j a b):=λk=>by
 dsimp only;split
 .exact ha
 .split
  .exact hb
  .trivial
theorem Bg:∀ (t:T),Fine t->∀ (p:Pa) (v:aK),v.size≠0->v.size<=65552->Fine (put t p v)
 | .nil,_,_,v,h1,h2=>⟨h1,h2⟩
 | .leaf q u,f,p,v,h1,h2=>by
  unfold put;split
  .exact ⟨h1,h2⟩
  .unfold fork; exact yH (GV f ⟨h1,h2⟩)
 | .ext q t,f,p,v,h1,h2=>by
  unfold put;split
  .exact Bg t f _ v h1 h2
  .unfold fork; exact yH (GV (yH f) ⟨h1,h2⟩)
 | .br ks,f,p,v,h1,h2=>by
  cases p with
  | nil=>exact f
  | cons c r =>
   intro k;dsimp only;split
   .exact Bg (ks k) (f k) r v h1 h2
   .exact f k
 | .stub _,f,_,_,_,_=>f
theorem om:∀ (L:Nat) (l:List In),(∀ x∈l,x.2.size≠0/\x.2.size<=65552)->Fine (build L l):=by
 intro L
 induction L using Nat.strongRecOn with
 | ind L ih =>
  intro l h;have hr:∀ (m:List In) (n:Nat),(∀ x∈m,x.2.size≠0/\x.2.size<=65552)->∀ x∈bD m n,x.2.size≠0/\x.2.size<=65552:=λm n hm x hx=>by
   obtain ⟨y,hy,rfl⟩:=List.mem_map.1 hx;exact hm y hy
  match l with
  | []=>rw [build]; trivial
  | [x]=>rw [build]; exact h x (by simp)
  | x::y::r =>
   rw [build];split
   .exact ih _ (by omega) _ (hr _ _ h)
   .split
    .exact λc=>ih _ (by omega) _ (hr _ _ (λz hz=>h z (kQ.1 hz).1))
    .trivial
end Tr
end
section
namespace Tr
open Rf Rl Ni No
abbrev Key:=aL
abbrev Pair:=Key × aK
def path (k:Key):Pa:=iB ⟨k.toArray⟩
theorem iP (k:Key):(path k).length=2*k.length:=by
 unfold path;rw [gQ];rfl
theorem Gg {p:Pa} (h:dA p=true):Nib p:=λc hc=>by
 unfold dA at h;have:=of_decide_eq_true (List.all_eq_true.1 h c hc);omega
theorem lF (k:Key):Nib (path k):=Gg (zI _)
theorem BQ {k k':Key} (hl:k.length=k'.length) (h:path k=path k'):k=k':=by
 have h1:=Ci ⟨k.toArray⟩;have h2:=Ci ⟨k'.toArray⟩;have e1:(⟨k.toArray⟩:aK).size=k.length:=by show k.toArray.size=_; simp
 have e2:(⟨k'.toArray⟩:aK).size=k'.length:=by show k'.toArray.size=_; simp
 rw [e1] at h1;rw [e2] at h2;unfold path at h;rw [h,hl,h2] at h1;simpa using h1.symm
theorem Tg {p:Pa} (hp:p.length=64) (hn:Nib p):∃ k:Key,k.length=32/\path k=p:=by
 refine ⟨gD p 32,mU _ _,?_⟩;exact BK p (wL hn) 32 (by omega)
structure Has (t:T) (m:Key->Option aK):Prop where
 good:Good t 64
 full:Full t
 fine:Fine t
 get:∀ k:Key,k.length=32->get t (path k)=some (m k)
theorem Has.nil:Has .nil (λ_=>none):=⟨trivial,trivial,trivial,λ_ _=>rfl⟩
theorem Has.put {t:T} {m:Key->Option aK} (h:Has t m) {k:Key} (hk:k.length=32) {v:aK} (h1:v.size≠0) (h2:v.size<=65552):Has (put t (path k) v) (λx=>if x=k then some v else m x):=by
 have hl:(path k).length=64:=by rw [iP]; omega
 refine ⟨BS t 64 h.good _ v hl (lF k),Cm t h.full _ v,Bg t h.fine _ v h1 h2,λx hx=>?_⟩;rw [Tr.get_put t 64 h.good _ v hl (lF k) (by rw [h.get k hk]; intro e; cases e) (path x) (by rw [iP]; omega) (lF x),h.get x hx];by_cases e:x=k
 .subst e; rw [if_pos rfl,if_pos rfl]
 .rw [if_neg e,if_neg (λh=>e (BQ (by omega) h))]
theorem Has.congr {t:T} {m m':Key->Option aK} (h:Has t m) (e:∀ k:Key,k.length=32->m k=m' k):Has t m':=⟨h.good,h.full,h.fine,λk hk=>by rw [h.get k hk,e k hk]⟩
theorem Has.one {t t':T} {m:Key->Option aK} (h:Has t m) (g:Has t' m):t=t' :=
 uniq t t' 64 h.good h.full g.good g.full (λp h1 h2=>by
  obtain ⟨k,hk,rfl⟩:=Tg h1 h2;rw [h.get k hk,g.get k hk])
def iV:List Pair->List In
 | []=>[]
 | x::r=>if r.any (λy=>decide (y.1=x.1)) then iV r else (path x.1,x.2)::iV r
def iF:List Pair->Key->Option aK
 | [],_=>none
 | x::r,k=>match iF r k with
  | some v=>some v
  | none=>if x.1=k then some x.2 else none
theorem uP:∀ {l:List Pair} {k:Key},iF l k=none↔∀ x∈l,x.1≠k
 | [],_=>by simp [iF]
 | x::r,k=>by
  unfold iF;cases h:iF r k with
  | some v =>
   have h2:¬ ∀ x∈r,x.1≠k:=λg=>by rw [uP.2 g] at h; cases h
   constructor
   .intro e; cases e
   .intro g; exact absurd (λy hy=>g y (List.mem_cons_of_mem _ hy)) h2
  | none =>
   have h2:=uP.1 h;constructor
   .intro g y hy;rcases List.mem_cons.1 hy with rfl | hy
    .intro e; simp [e] at g
    .exact h2 y hy
   .intro g;have:=g x List.mem_cons_self;simp [this]
theorem Ah:∀ {l:List Pair} {y:In},y∈iV l->∃ x∈l,y=(path x.1,x.2)
 | [],_,h=>by cases h
 | x::r,y,h=>by
  unfold iV at h;split at h
  .obtain ⟨z,hz,e⟩:=Ah h;exact ⟨z,List.mem_cons_of_mem _ hz,e⟩
  .rcases List.mem_cons.1 h with rfl | h
   .exact ⟨x,List.mem_cons_self,rfl⟩
   .obtain ⟨z,hz,e⟩:=Ah h;exact ⟨z,List.mem_cons_of_mem _ hz,e⟩
theorem yU:∀ {l:List Pair},(∀ x∈l,x.1.length=32)->Ok 64 (iV l)
 | [],_=>⟨λ_ h=>(by cases h),List.Pairwise.nil⟩
 | x::r,h=>by
  have ih:=yU (l:=r) (λy hy=>h y (List.mem_cons_of_mem _ hy));have hx:=h x List.mem_cons_self;unfold iV;split
  .exact ih
  .rename_i hn;refine ⟨λy hy=>?_,List.pairwise_cons.2 ⟨λy hy=>?_,ih.2⟩⟩
   .rcases List.mem_cons.1 hy with rfl | hy
    .exact ⟨by rw [iP]; omega,lF _⟩
    .exact ih.1 y hy
   .obtain ⟨z,hz,rfl⟩:=Ah hy;intro e;have:=BQ (by rw [hx,h z (List.mem_cons_of_mem _ hz)]) e;apply hn;rw [List.any_eq_true];exact ⟨z,hz,by simpa using this.symm⟩
theorem Gu:∀ {l:List Pair},(∀ x∈l,x.1.length=32)->∀ k:Key,k.length=32->pE (iV l) (path k)=iF l k
 | [],_,k,_=>rfl
 | x::r,h,k,hk=>by
  have hr:∀ y∈r,y.1.length=32:=λy hy=>h y (List.mem_cons_of_mem _ hy);have ih:=Gu hr k hk;have hx:=h x List.mem_cons_self;unfold iV iF;by_cases e:x.1=k
  .by_cases hn:r.any (λy=>decide (y.1=x.1))=true
   .rw [if_pos hn,ih];cases hl:iF r k with
    | some v=>rfl
    | none =>
     exfalso;obtain ⟨z,hz,ez⟩:=List.any_eq_true.1 hn;exact uP.1 hl z hz (by rw [<-e]; simpa using ez)
   .rw [if_neg hn];have hl:iF r k=none:=uP.2 (λy hy e2=>hn (List.any_eq_true.2 ⟨y,hy,by simp [e2,e]⟩));rw [hl];simp [pE,e]
  .have hp:¬ path x.1=path k:=λh=>e (BQ (by omega) h);have hs:(match iF r k with | some v=>some v | none=>if x.1=k then some x.2 else none)=iF r k:=by
    cases iF r k with
    | some v=>rfl
    | none=>simp [e]
   rw [hs,<-ih];split
   .rfl
   .simp [pE,hp]
theorem Cy {l:List Pair} (h:∀ x∈l,x.2.size≠0/\x.2.size<=65552):∀ x∈iV l,x.2.size≠0/\x.2.size<=65552:=λy hy=>by
 obtain ⟨x,hx,rfl⟩:=Ah hy;exact h x hx
theorem NW {l:List Pair} (h:∀ x∈l,x.1.length=32) (hv:∀ x∈l,x.2.size≠0/\x.2.size<=65552):Has (build 64 (iV l)) (iF l) :=
 ⟨oQ 64 _ (yU h),mH 64 _,om 64 _ (Cy hv),λk hk=>by
  rw [Oe 64 _ (yU h) (path k) (by rw [iP]; omega) (lF k),Gu h k hk]⟩
theorem Has.built {t:T} {l:List Pair} (g:Has t (iF l)) (h:∀ x∈l,x.1.length=32) (hv:∀ x∈l,x.2.size≠0/\x.2.size<=65552):t=build 64 (iV l):=g.one (NW h hv)
theorem Ej:∀ (l:List Pair) (x:Pair) (k:Key),iF (l++[x]) k=if k=x.1 then some x.2 else iF l k
 | [],x,k=>by
  by_cases e:k=x.1
  .simp [iF,e]
  .have:¬ x.1=k:=λh=>e h.symm;simp [iF,e,this]
 | y::l,x,k=>by
  show iF (y::(l++[x])) k=_;have e1:iF (y::(l++[x])) k=match iF (l++[x]) k with
   | some v=>some v
   | none=>if y.1=k then some y.2 else none:=rfl
  rw [e1,Ej l x k];by_cases e:k=x.1
  .rw [if_pos e,if_pos e]
  .rw [if_neg e,if_neg e];rfl
def bq (t:T) (l:List Pair):T:=l.foldl (λt x=>put t (path x.1) x.2) t
theorem zq (t:T) (l:List Pair) (x:Pair):bq t (l++[x])=put (bq t l) (path x.1) x.2:=by
 unfold bq;rw [List.foldl_append];rfl
theorem Nq:∀ (n:Nat) (l:List Pair),l.length=n->(∀ x∈l,x.1.length=32)->(∀ x∈l,x.2.size≠0/\x.2.size<=65552)->Has (bq .nil l) (iF l)
 | 0,l,hl,_,_=>by
  obtain rfl:=List.eq_nil_of_length_eq_zero hl;exact Has.nil
 | n+1,l,hl,h,hv=>by
  have hne:l≠[]:=λe=>by rw [e] at hl; cases hl
  obtain ⟨r,x,rfl⟩:∃ r x,l=r++[x]:=⟨l.dropLast,l.getLast hne,(List.dropLast_concat_getLast hne).symm⟩
  rw [List.length_append,List.length_singleton] at hl;have ih:=Nq n r (by omega) (λy hy=>h y (List.mem_append_left _ hy)) (λy hy=>hv y (List.mem_append_left _ hy));have hx:=h x (by simp);have S1:=hv x (by simp);rw [zq];exact (ih.put hx S1.1 S1.2).congr (λk _=>(Ej r x k).symm)
end Tr
end
section
namespace Tr
open Rf Rl Ni No
def bC:T->List T
 | .ext _ t=>[t]
 | .br ks=>(eH ks).map ks
 | _=>[]
def EJ (refs:List aK) (ts:List T) (i:Fin 16):T:=if (refs.getD i.val eB).size=0 then .nil else ts.getD (bL (refs.take i.val)).length .nil
def makeT (n:Nd) (ts:List T):T:=if n.kd=1 then .leaf n.p n.v else if n.kd=2 then .ext n.p (ts.getD 0 .nil) else .br (EJ n.ks ts)
theorem mX {t:T} (g:Good t L) (hL:L<=64) (f:Fine t):(ref t).size≠0↔t ≠ .nil:=by
 constructor
 .rintro h rfl; exact h rfl
 .intro h; exact (fU t L g hL f h).2.2
theorem kJ (f:Fin 16->aK) (i:Fin 16):(dn f).getD i.val eB=f i:=by
 have hi:=i.isLt;unfold dn;rw [List.getD_eq_getElem?_getD,List.getElem?_map,List.getElem?_eq_getElem (by simp)];simp
theorem GX (f:Fin 16->aK) (n:Nat):(dn f).take n=((List.finRange 16).take n).map f:=by
 unfold dn;rw [List.map_take]
def rank (ks:Fin 16->T) (i:Fin 16):Nat:=(((List.finRange 16).take i.val).filter λj=>!isNil (ks j)).length
theorem BX {ks:Fin 16->T} (h:∀ i,(ref (ks i)).size≠0↔ks i ≠ .nil) (l:List (Fin 16)):bL (l.map λi=>ref (ks i))=(l.filter λj=>!isNil (ks j)).map λi=>ref (ks i):=by
 unfold bL;rw [List.filter_map];congr 1;apply List.filter_congr;intro i _;show decide ((ref (ks i)).size≠0) = !isNil (ks i);cases hi:isNil (ks i) with
 | true =>
  have:=cO.1 hi;rw [decide_eq_false (λg=>(h i).1 g this)];rfl
 | false =>
  rw [aI ((h i).2 (λe=>by rw [cO.2 e] at hi; cases hi))];rfl
theorem EF {t:T} {L:Nat} (g:Good t L) (hL:L<=64) (f:Fine t):bL (bM t).ks=(bC t).map ref:=by
 cases t with
 | nil=>decide +kernel
 | leaf p v=>exact List.eq_nil_of_length_eq_zero yj
 | ext q t =>
  obtain ⟨_,_,_,g4,g5⟩:=g;exact EC ((mX g5 (by omega) f).2 (pQ g4))
 | br ks =>
  have h:∀ i,(ref (ks i)).size≠0↔ks i ≠ .nil:=λi=>mX (g.2.2 i) (by omega) (f i);show bL (dn λi=>ref (ks i))=((eH ks).map ks).map ref;unfold dn;rw [BX h,List.map_map];rfl
 | stub r=>exact List.eq_nil_of_length_eq_zero yj
theorem Pq {α:Type} (P : α->Bool) (l:List α) (i:Nat) (hi:i<l.length) (hp:P l[i]=true):(l.filter P)[((l.take i).filter P).length]? = some l[i]:=by
 have h:l=l.take i++l[i]::l.drop (i+1):=by
  rw [List.getElem_cons_drop,List.take_append_drop]
 have h2:l.filter P=(l.take i).filter P++l[i]::(l.drop (i+1)).filter P:=by
  conv=>lhs; rw [h]
  rw [List.filter_append,List.filter_cons_of_pos hp]
 rw [h2,List.getElem?_append_right aF,Nat.sub_self];rfl
theorem yI {ks:Fin 16->T} {i:Fin 16} (h:ks i ≠ .nil):(eH ks)[rank ks i]? = some i:=by
 have h1:(List.finRange 16)[i.val]'(by simp)=i:=by simp
 have h2:=Pq (λj=>!isNil (ks j)) (List.finRange 16) i.val (by simp) (by
  rw [h1];cases hi:isNil (ks i) with
  | false=>rfl
  | true=>exact absurd (cO.1 hi) h)
 rw [h1] at h2;exact h2
theorem VF {ks:Fin 16->T} {i:Fin 16} (h:ks i ≠ .nil):rank ks i<(eH ks).length:=(List.getElem?_eq_some_iff.1 (yI h)).1
theorem Oc {ks:Fin 16->T} (h:∀ i,(ref (ks i)).size≠0↔ks i ≠ .nil) (ts:List T) (i:Fin 16):EJ (dn λi=>ref (ks i)) ts i=if isNil (ks i) then .nil else ts.getD (rank ks i) .nil:=by
 unfold EJ;rw [kJ,GX,BX h,List.length_map];by_cases hn:ks i = .nil
 .have h1:(ref (ks i)).size=0:=Classical.byContradiction λg=>(h i).1 g hn;rw [if_pos h1,if_pos (cO.2 hn)]
 .rw [if_neg ((h i).2 hn),if_neg (λg=>hn (cO.1 g))];rfl
end Tr
end
section
namespace Tr
open Rf Rl Ni No
def lq:T->List aK
 | .nil=>[]
 | .leaf p v=>[jS (.leaf p v)]
 | .ext q t=>jS (.ext q t)::lq t
 | .br ks=>jS (.br ks)::((List.finRange 16).map λi=>lq (ks i)).flatten
 | .stub _=>[]
end Tr
end
section
namespace Tr
open Rf Rl Ni No
def dL:T->Nat
 | .nil=>0
 | .leaf _ _=>0
 | .ext _ t=>dL t
 | .br ks=>((List.finRange 16).map λi=>dL (ks i)).sum
 | .stub _=>1
theorem vZ:∀ t:T,Full t->dL t=0
 | .nil,_=>rfl
 | .leaf _ _,_=>rfl
 | .ext _ t,f=>vZ t f
 | .br ks,f=>by
  have e:((List.finRange 16).map λi=>dL (ks i))=(List.finRange 16).map λ_=>0:=List.map_congr_left λi _=>vZ (ks i) (f i);show ((List.finRange 16).map λi=>dL (ks i)).sum=0;rw [e];decide
 | .stub _,f=>f.elim
end Tr
end
section
namespace Tr
open Rf Rl Ni No
def Cut:T->T->Prop
 | .ext q s,t'=>∃ s',t' = .ext q s'/\(s' = .stub (ref s)/\s ≠ .nil\/Cut s s')
 | .br ks,t'=>∃ ks',t' = .br ks'/\∀ i,ks' i = .stub (ref (ks i))/\ks i ≠ .nil\/Cut (ks i) (ks' i)
 | t,t'=>t'=t
theorem Cut.ref:∀ {t t':T},Cut t t'->Tr.ref t'=Tr.ref t
 | .nil,_,h=>by rw [show _=T.nil from h]
 | .leaf _ _,_,h=>by rw [show _=T.leaf _ _ from h]
 | .stub _,_,h=>by rw [show _=T.stub _ from h]
 | .ext q s,_,h=>by
  obtain ⟨s',rfl,h⟩:=h;have e:Tr.ref s'=Tr.ref s:=by
   rcases h with ⟨rfl,_⟩ | h
   .rfl
   .exact h.ref
  show ofP (jZ ⟨2,q,eB,eZ (Tr.ref s')⟩)=ofP (jZ ⟨2,q,eB,eZ (Tr.ref s)⟩);rw [e]
 | .br ks,_,h=>by
  obtain ⟨ks',rfl,h⟩:=h;have e:∀ i,Tr.ref (ks' i)=Tr.ref (ks i):=λi=>by
   rcases h i with ⟨e,_⟩ | h
   .rw [e]; rfl
   .exact h.ref
  show ofP (jZ ⟨3,[],eB,dn λi=>Tr.ref (ks' i)⟩)=ofP (jZ ⟨3,[],eB,dn λi=>Tr.ref (ks i)⟩);rw [show (λi=>Tr.ref (ks' i))=λi=>Tr.ref (ks i) from funext e]
def Sub (s s':T):Prop:=s' = .stub (ref s)/\s ≠ .nil\/Cut s s'
theorem Sub.ref {s s':T} (h:Sub s s'):Tr.ref s'=Tr.ref s:=by
 rcases h with ⟨rfl,_⟩ | h
 .rfl
 .exact h.ref
theorem Cut.node {t t':T} (h:Cut t t'):bM t'=bM t:=by
 cases t with
 | nil=>rw [show t'=T.nil from h]
 | leaf p v=>rw [show t'=T.leaf _ _ from h]
 | stub r=>rw [show t'=T.stub _ from h]
 | ext q s =>
  obtain ⟨s',rfl,h⟩:=h;show (⟨2,q,eB,eZ (Tr.ref s')⟩:Nd)=⟨2,q,eB,eZ (Tr.ref s)⟩
  rw [Sub.ref h]
 | br ks =>
  obtain ⟨ks',rfl,h⟩:=h;show (⟨3,[],eB,dn λi=>Tr.ref (ks' i)⟩:Nd)=⟨3,[],eB,dn λi=>Tr.ref (ks i)⟩
  rw [show (λi=>Tr.ref (ks' i))=λi=>Tr.ref (ks i) from funext λi=>Sub.ref (h i)]
theorem Cut.enc {t t':T} (h:Cut t t'):jS t'=jS t:=by
 have hn:=h.node;cases t with
 | nil=>rw [show t'=T.nil from h]
 | leaf p v=>rw [show t'=T.leaf _ _ from h]
 | stub r=>rw [show t'=T.stub _ from h]
 | ext q s =>
  obtain ⟨s',rfl,_⟩:=h;show jZ (bM _)=jZ (bM _);rw [hn]
 | br ks =>
  obtain ⟨ks',rfl,_⟩:=h;show jZ (bM _)=jZ (bM _);rw [hn]
theorem Cut.Zl {t t':T} (h:Cut t t') (g:vL t):vL t':=by
 cases t with
 | nil=>exact g.elim
 | leaf p v=>exact g.elim
 | ext q s=>exact g.elim
 | stub r=>rw [show t'=T.stub _ from h]; trivial
 | br ks =>
  obtain ⟨ks',rfl,_⟩:=h
  trivial
theorem Cut.ne {t t':T} (h:Cut t t') (g:t ≠ .nil):t' ≠ .nil:=by
 cases t with
 | nil=>exact absurd rfl g
 | leaf p v=>rw [show t'=T.leaf _ _ from h]; intro e; cases e
 | stub r=>rw [show t'=T.stub _ from h]; intro e; cases e
 | ext q s =>
  obtain ⟨s',rfl,_⟩:=h;intro e; cases e
 | br ks =>
  obtain ⟨ks',rfl,_⟩:=h;intro e; cases e
theorem Cut.good:∀ {t t':T} {L:Nat},Cut t t'->Good t L->Good t' L
 | .nil,_,_,h,g=>by rw [show _=T.nil from h]; exact g
 | .leaf _ _,_,_,h,g=>by rw [show _=T.leaf _ _ from h]; exact g
 | .stub _,_,_,h,g=>by rw [show _=T.stub _ from h]; exact g
 | .ext q s,_,L,h,g=>by
  obtain ⟨s',rfl,h⟩:=h;refine ⟨g.1,g.2.1,g.2.2.1,?_,?_⟩
  .rcases h with ⟨rfl,_⟩ | h
   .trivial
   .exact h.Zl g.2.2.2.1
  .rcases h with ⟨rfl,_⟩ | h
   .trivial
   .exact h.good g.2.2.2.2
 | .br ks,_,L,h,g=>by
  obtain ⟨ks',rfl,h⟩:=h;obtain ⟨h1,⟨i,j,hij,hi,hj⟩,h3⟩:=g;have hne:∀ i,ks i ≠ .nil->ks' i ≠ .nil:=λi hi=>by
   rcases h i with ⟨e,_⟩ | h
   .rw [e]; intro e; cases e
   .exact h.ne hi
  refine ⟨h1,⟨i,j,hij,hne i hi,hne j hj⟩,λi=>?_⟩;rcases h i with ⟨e,_⟩ | h
  .rw [e]; trivial
  .exact h.good (h3 i)
theorem Cut.fine:∀ {t t':T} {L:Nat},Cut t t'->Good t L->L<=64->Fine t->Fine t'
 | .nil,_,_,h,_,_,f=>by rw [show _=T.nil from h]; exact f
 | .leaf _ _,_,_,h,_,_,f=>by rw [show _=T.leaf _ _ from h]; exact f
 | .stub _,_,_,h,_,_,f=>by rw [show _=T.stub _ from h]; exact f
 | .ext q s,_,L,h,g,hL,f=>by
  obtain ⟨s',rfl,h⟩:=h;rcases h with ⟨rfl,hn⟩ | h
  .exact (fU s _ g.2.2.2.2 (by omega) f hn).2
  .exact h.fine g.2.2.2.2 (by omega) f
 | .br ks,_,L,h,g,hL,f=>by
  obtain ⟨ks',rfl,h⟩:=h;intro i;rcases h i with ⟨e,hn⟩ | h
  .rw [e]; exact (fU (ks i) _ (g.2.2 i) (by omega) (f i) hn).2
  .exact h.fine (g.2.2 i) (by omega) (f i)
theorem Cut.get:∀ {t t':T},Cut t t'->∀ p:Pa,Tr.get t' p=none\/Tr.get t' p=Tr.get t p
 | .nil,_,h,_=>by rw [show _=T.nil from h]; exact .inr rfl
 | .leaf _ _,_,h,_=>by rw [show _=T.leaf _ _ from h]; exact .inr rfl
 | .stub _,_,h,_=>by rw [show _=T.stub _ from h]; exact .inr rfl
 | .ext q s,_,h,p=>by
  obtain ⟨s',rfl,h⟩:=h;by_cases hq:q<+:p
  .rw [show Tr.get (.ext q s') p=Tr.get s' (p.drop q.length) by simp [Tr.get,hq],show Tr.get (.ext q s) p=Tr.get s (p.drop q.length) by simp [Tr.get,hq]];rcases h with ⟨rfl,_⟩ | h
   .exact .inl rfl
   .exact h.get _
  .rw [fK s' hq,fK s hq];exact .inr rfl
 | .br ks,_,h,[]=>by
  obtain ⟨ks',rfl,_⟩:=h;exact .inr rfl
 | .br ks,_,h,c::r=>by
  obtain ⟨ks',rfl,h⟩:=h;show Tr.get (ks' (nb c)) r=none\/Tr.get (ks' (nb c)) r=Tr.get (ks (nb c)) r;rcases h (nb c) with ⟨e,_⟩ | h
  .rw [e]; exact .inl rfl
  .exact h.get r
def bQ:T->List aK
 | .nil=>[]
 | .leaf _ _=>[]
 | .ext _ t=>bQ t
 | .br ks=>((List.finRange 16).map λi=>bQ (ks i)).flatten
 | .stub r=>[r]
theorem qQ:∀ t:T,(bQ t).length=dL t
 | .nil=>rfl
 | .leaf _ _=>rfl
 | .stub _=>rfl
 | .ext _ t=>qQ t
 | .br ks=>by
  show (((List.finRange 16).map λi=>bQ (ks i)).flatten).length=((List.finRange 16).map λi=>dL (ks i)).sum;rw [List.length_flatten,List.map_map];congr 1;apply List.map_congr_left;intro i _;exact qQ (ks i)
def cB:Nat->T->T
 | d,.ext q s=>.ext q (if d<=1/\(ref s).size=32 then .stub (ref s) else cB (d-1) s)
 | d,.br ks=>.br λi=>if d<=1/\(ref (ks i)).size=32 then .stub (ref (ks i)) else cB (d-1) (ks i)
 | _,t=>t
theorem nI {s:T} (h:(ref s).size=32):s ≠ .nil:=by
 rintro rfl;have h2:(0:Nat)=32:=h;omega
theorem qF:∀ (t:T) (d:Nat),Cut t (cB d t)
 | .nil,_=>rfl
 | .leaf _ _,_=>rfl
 | .stub _,_=>rfl
 | .ext q s,d=>by
  refine ⟨_,rfl,?_⟩;by_cases h:d<=1/\(ref s).size=32
  .rw [if_pos h]; exact .inl ⟨rfl,nI h.2⟩
  .rw [if_neg h]; exact .inr (qF s _)
 | .br ks,d=>by
  refine ⟨_,rfl,λi=>?_⟩;by_cases h:d<=1/\(ref (ks i)).size=32
  .rw [if_pos h]; exact .inl ⟨rfl,nI h.2⟩
  .rw [if_neg h]; exact .inr (qF (ks i) _)
def jN:Nat->T->List aK
 | d,.ext _ s=>if d<=1/\(ref s).size=32 then [ref s] else jN (d-1) s
 | d,.br ks=>((List.finRange 16).map λi=>if d<=1/\(ref (ks i)).size=32 then [ref (ks i)] else jN (d-1) (ks i)).flatten
 | _,_=>[]
theorem pI:∀ (t:T) (d:Nat),Full t->bQ (cB d t)=jN d t
 | .nil,_,_=>rfl
 | .leaf _ _,_,_=>rfl
 | .stub _,_,f=>f.elim
 | .ext q s,d,f=>by
  show bQ (if d<=1/\(ref s).size=32 then .stub (ref s) else cB (d-1) s)=if d<=1/\(ref s).size=32 then [ref s] else jN (d-1) s
  by_cases h:d<=1/\(ref s).size=32
  .rw [if_pos h,if_pos h]; rfl
  .rw [if_neg h,if_neg h]; exact pI s _ f
 | .br ks,d,f=>by
  show ((List.finRange 16).map λi=>bQ (if d<=1/\(ref (ks i)).size=32 then .stub (ref (ks i)) else cB (d-1) (ks i))).flatten=((List.finRange 16).map λi=>if d<=1/\(ref (ks i)).size=32 then [ref (ks i)] else jN (d-1) (ks i)).flatten;congr 1;apply List.map_congr_left;intro i _;by_cases h:d<=1/\(ref (ks i)).size=32
  .rw [if_pos h,if_pos h]; rfl
  .rw [if_neg h,if_neg h]; exact pI (ks i) _ (f i)
def onP (q:Pa) (ws:List Pa):List Pa:=(ws.filter λw=>decide (q<+:w)).map λw=>w.drop q.length
def onC (c:Nat) (ws:List Pa):List Pa:=(ws.filter λw=>decide (w≠[]/\(w.headD 0).toNat=c)).map List.tail
def eD:List Pa->T->T
 | ws,.ext q s=>.ext q (if onP q ws=[]/\(ref s).size=32 then .stub (ref s) else eD (onP q ws) s)
 | ws,.br ks=>.br λi=>if onC i.val ws=[]/\(ref (ks i)).size=32 then .stub (ref (ks i)) else eD (onC i.val ws) (ks i)
 | _,t=>t
theorem sU:∀ (t:T) (ws:List Pa),Cut t (eD ws t)
 | .nil,_=>rfl
 | .leaf _ _,_=>rfl
 | .stub _,_=>rfl
 | .ext q s,ws=>by
  refine ⟨_,rfl,?_⟩;by_cases h:onP q ws=[]/\(ref s).size=32
  .rw [if_pos h]; exact .inl ⟨rfl,nI h.2⟩
  .rw [if_neg h]; exact .inr (sU s _)
 | .br ks,ws=>by
  refine ⟨_,rfl,λi=>?_⟩;by_cases h:onC i.val ws=[]/\(ref (ks i)).size=32
  .rw [if_pos h]; exact .inl ⟨rfl,nI h.2⟩
  .rw [if_neg h]; exact .inr (sU (ks i) _)
def jO:List Pa->T->List aK
 | ws,.ext q s=>if onP q ws=[]/\(ref s).size=32 then [ref s] else jO (onP q ws) s
 | ws,.br ks=>((List.finRange 16).map λi=>if onC i.val ws=[]/\(ref (ks i)).size=32 then [ref (ks i)] else jO (onC i.val ws) (ks i)).flatten
 | _,_=>[]
theorem qV:∀ (t:T) (ws:List Pa),Full t->bQ (eD ws t)=jO ws t
 | .nil,_,_=>rfl
 | .leaf _ _,_,_=>rfl
 | .stub _,_,f=>f.elim
 | .ext q s,ws,f=>by
  show bQ (if onP q ws=[]/\(ref s).size=32 then .stub (ref s) else eD (onP q ws) s)=if onP q ws=[]/\(ref s).size=32 then [ref s] else jO (onP q ws) s
  by_cases h:onP q ws=[]/\(ref s).size=32
  .rw [if_pos h,if_pos h]; rfl
  .rw [if_neg h,if_neg h]; exact qV s _ f
 | .br ks,ws,f=>by
  show ((List.finRange 16).map λi=>bQ (if onC i.val ws=[]/\(ref (ks i)).size=32 then .stub (ref (ks i)) else eD (onC i.val ws) (ks i))).flatten=((List.finRange 16).map λi=>if onC i.val ws=[]/\(ref (ks i)).size=32 then [ref (ks i)] else jO (onC i.val ws) (ks i)).flatten;congr 1;apply List.map_congr_left;intro i _;by_cases h:onC i.val ws=[]/\(ref (ks i)).size=32
  .rw [if_pos h,if_pos h]; rfl
  .rw [if_neg h,if_neg h]; exact qV (ks i) _ (f i)
theorem Xx {q w:Pa} {ws:List Pa} (hw:w∈ws) (h:q<+:w):w.drop q.length∈onP q ws:=List.mem_map.2 ⟨w,List.mem_filter.2 ⟨hw,aI h⟩,rfl⟩
theorem VN {c:UInt8} {r:Pa} {ws:List Pa} (hw:c::r∈ws):r∈onC c.toNat ws:=List.mem_map.2 ⟨c::r,List.mem_filter.2 ⟨hw,aI ⟨by simp,rfl⟩⟩,rfl⟩
theorem yT:∀ (t:T) (ws:List Pa) (w:Pa),Full t->Nib w->w∈ws->Tr.get (eD ws t) w≠none
 | .nil,_,_,_,_,_=>by intro e; cases e
 | .leaf _ _,_,_,_,_,_=>by intro e; cases e
 | .stub _,_,_,f,_,_=>f.elim
 | .ext q s,ws,w,f,hn,hw=>by
  show Tr.get (.ext q _) w≠none;by_cases hq:q<+:w
  .have hm:=Xx hw hq;have hne:onP q ws≠[]:=λe=>by rw [e] at hm; cases hm
   rw [if_neg (λh=>hne h.1)];simp only [Tr.get,if_pos hq];exact yT s _ _ f (hn.drop _) hm
  .rw [fK _ hq];intro e; cases e
 | .br ks,ws,[],_,_,_=>by intro e; cases e
 | .br ks,ws,c::r,f,hn,hw=>by
  show Tr.get (if onC (nb c).val ws=[]/\(ref (ks (nb c))).size=32 then .stub (ref (ks (nb c))) else eD (onC (nb c).val ws) (ks (nb c))) r≠none;have hv:(nb c).val=c.toNat:=Nat.mod_eq_of_lt hn.head;have hm:=VN hw;rw [<-hv] at hm;have hne:onC (nb c).val ws≠[]:=λe=>by rw [e] at hm; cases hm
  rw [if_neg (λh=>hne h.1)];exact yT (ks (nb c)) _ _ (f _) hn.tail hm
end Tr
end
section
namespace Tr
open Rf Rl Ni No
end Tr
end
section
namespace Tr
open Rf Rl Ni No
def dh (R:aK) (p:T):T->T
 | .ext q s=>.ext q (dh R p s)
 | .br ks=>.br λi=>dh R p (ks i)
 | .stub r=>if r=R then p else .stub r
 | t=>t
def dM (R:aK):T->Nat
 | .ext _ s=>dM R s
 | .br ks=>((List.finRange 16).map λi=>dM R (ks i)).sum
 | .stub r=>if r=R then 1 else 0
 | _=>0
theorem yG {R:aK} {p:T} (h:ref p=R):∀ t:T,ref (dh R p t)=ref t
 | .nil=>rfl
 | .leaf _ _=>rfl
 | .stub r=>by
  show ref (if r=R then p else .stub r)=r;by_cases e:r=R
  .rw [if_pos e,h,e]
  .rw [if_neg e]; rfl
 | .ext q s=>by
  show ofP (jZ ⟨2,q,eB,eZ (ref (dh R p s))⟩)=ofP (jZ ⟨2,q,eB,eZ (ref s)⟩);rw [yG h s]
 | .br ks=>by
  show ofP (jZ ⟨3,[],eB,dn λi=>ref (dh R p (ks i))⟩)=ofP (jZ ⟨3,[],eB,dn λi=>ref (ks i)⟩);rw [show (λi=>ref (dh R p (ks i)))=λi=>ref (ks i) from funext λi=>yG h (ks i)]
theorem UE {α:Type} {f : α->Nat} {l:List α} (h:(l.map f).sum=0):∀ i∈l,f i=0:=by
 induction l with
 | nil=>intro i hi; cases hi
 | cons x l ih =>
  simp only [List.map_cons,List.sum_cons] at h;intro i hi;rcases List.mem_cons.1 hi with rfl | hi
  .omega
  .exact ih (by omega) i hi
theorem CK:∀ {t u:T},Cut t u->dL u=0->u=t
 | .nil,_,h,_=>h
 | .leaf _ _,_,h,_=>h
 | .stub _,_,h,_=>h
 | .ext q s,_,h,hz=>by
  obtain ⟨s',rfl,h⟩:=h;rcases h with ⟨rfl,_⟩ | h
  .cases hz
  .rw [CK h hz]
 | .br ks,_,h,hz=>by
  obtain ⟨ks',rfl,h⟩:=h;congr 1;funext i;have hi:dL (ks' i)=0:=UE hz i (List.mem_finRange i);rcases h i with ⟨e,_⟩ | h
  .rw [e] at hi; cases hi
  .exact CK h hi
end Tr
end
section
open Go.RowKit
namespace Tm
open Tr
structure Mp where
 at_:Nat->Option T
 ft:Nat->Prop
def IsT (M:Mp) (p:aJ) (t:T):Prop:=match p with
 | none=>t = .nil
 | some ad=>∃ b,ad=⟨b,0,none⟩/\M.at_ b=some t/\t ≠ .nil
def dG:T->Int
 | .nil=>0
 | .leaf _ _=>1
 | .ext _ _=>2
 | .br _=>3
 | .stub _ => -1
def bV:T->Pa
 | .leaf p _=>p
 | .ext q _=>q
 | _=>[]
def Fz:T->aK
 | .leaf _ v=>v
 | _=>eB
def fH:T->List T
 | .ext _ t=>[t]
 | .br ks=>(List.finRange 16).map ks
 | _=>[]
def Jk:T->aK
 | .stub r=>r
 | _=>eB
def Bs (M:Mp) (w:World) (a:aJ) (n c:Nat) (l:aL):Prop:=bA w a n c l/\∀ ad,a=some ad->0<n->M.ft ad.block
def Ks (M:Mp) (w:World) (a:aJ) (n c:Nat) (l:List T):Prop :=
 n<=c/\c<=maxLen/\l.length=n/\(a=none->c=0)/\∀ j,j<n->∃ b off p,a=some ⟨b,off,none⟩/\b<w.heap.size/\M.ft b/\w.cell? ⟨b,off+j,none⟩=some (.pointer p)/\IsT M p (l.getD j .nil)
def iy (t:T) (a:aJ) (n c:Nat) (ka:aJ) (kn kc:Nat) (d:Int) (r:aK):aM :=
 #[.int .i64 (dG t),.slice a n c,.string (Fz t),.slice ka kn kc,.int .u32 d,.int .i32 0,.int .u32 0,.string r]
def rH (M:Mp) (w:World) (b:Nat) (t:T):Prop :=
 ∃ a n c ka kn kc d r,w.heap[b]? = some (.cells (iy t a n c ka kn kc d r) 108 (0,0))/\Bs M w a n c (bV t)/\Ks M w ka kn kc (fH t)/\(d=0/\r=Jk t\/d=1/\¬ eX t/\r=ref t)
structure Inv (M:Mp) (w:World):Prop where
 lt_:∀ k,M.ft k->k<w.heap.size
 part_:∀ b t,M.at_ b=some t->t ≠ .nil/\M.ft b/\rH M w b t
def gM (w:World) (k:Nat):Prop:=∃ j x,w.cell? ⟨k,j,none⟩=some (.int .u8 x)
structure Fr (M M':Mp) (w w':World):Prop where
 os:w'.os=w.os
 tape:w'.tape=w.tape
 output:w'.output=w.output
 size:w.heap.size<=w'.heap.size
 block:∀ k,k<w.heap.size->M.at_ k=none->w'.heap[k]? = w.heap[k]?
 mono:∀ k t,M.at_ k=some t->M'.at_ k=some t
 fresh:∀ k,k<w.heap.size->M.at_ k=none->M'.at_ k=none
 grow:∀ k,M.ft k->M'.ft k
 foot:∀ k,M'.ft k->M.ft k\/w.heap.size<=k\/gM w k
def M0:Mp:=⟨λ_=>none,λ_=>False⟩
theorem IsT.mono {M M':Mp} {p:aJ} {t:T} (h:IsT M p t) (hm:∀ k t,M.at_ k=some t->M'.at_ k=some t):IsT M' p t:=by
 cases p with
 | none=>exact h
 | some ad =>
  obtain ⟨b,e,h1,h2⟩:=h;exact ⟨b,e,hm _ _ h1,h2⟩
theorem IsT.qR {M:Mp} {p:aJ} {t:T} (h:IsT M p t):p=none↔t = .nil:=by
 cases p with
 | none=>exact ⟨λ_=>h,λ_=>rfl⟩
 | some ad =>
  obtain ⟨b,_,_,hn⟩:=h;exact ⟨λe=>(by cases e),λe=>absurd e hn⟩
theorem IsT.at_ {M:Mp} {p:aJ} {t:T} (h:IsT M p t) (hn:t ≠ .nil):∃ b,p=some ⟨b,0,none⟩/\M.at_ b=some t:=by
 cases p with
 | none=>exact absurd h hn
 | some ad =>
  obtain ⟨b,e,hm,_⟩:=h;exact ⟨b,by rw [e],hm⟩
theorem Bs.nil (M:Mp) (w:World):Bs M w none 0 0 []:=⟨bA.nil w,λ_ e=>by cases e⟩
theorem Ks.nil (M:Mp) (w:World):Ks M w none 0 0 []:=⟨aF,Nat.zero_le _,rfl,λ_=>rfl,λ_ h=>absurd h (Nat.not_lt_zero _)⟩
theorem Ks.len {M:Mp} {a:aJ} {n c:Nat} {l:List T} (h:Ks M w a n c l):l.length=n:=h.2.2.1
theorem Ks.at' {M:Mp} {a:aJ} {n c:Nat} {l:List T} (h:Ks M w a n c l) (j:Nat) (hj:j<n):∃ b off p,a=some ⟨b,off,none⟩/\b<w.heap.size/\M.ft b/\w.cell? ⟨b,off+j,none⟩=some (.pointer p)/\IsT M p (l.getD j .nil):=h.2.2.2.2 j hj
theorem Inv.part {M:Mp} (h:Inv M w) {b:Nat} {t:T} (hm:M.at_ b=some t):rH M w b t:=(h.part_ b t hm).2.2
theorem Inv.lt {M:Mp} (h:Inv M w) {b:Nat} {t:T} (hm:M.at_ b=some t):b<w.heap.size:=h.lt_ b (h.part_ b t hm).2.1
theorem Inv.zero (w:World):Inv M0 w:=⟨λ_ h=>h.elim,λ_ _ h=>by cases h⟩
theorem EZ {t:T} {a:aJ} {n c:Nat} {ka:aJ} {kn kc:Nat} {d:Int} {r:aK} {j:Nat} {v:Value} (h:(iy t a n c ka kn kc d r)[j]? = some v):(∀ x,v ≠ .int .u8 x)/\∀ p,v ≠ .pointer p:=by
 unfold iy at h
 match j,h with
 | 0,h | 1,h | 2,h | 3,h | 4,h | 5,h | 6,h | 7,h =>
  simp at h;subst h;exact ⟨λx e=>(by cases e),λp e=>(by cases e)⟩
 | j+8,h=>simp at h
theorem mG {b:Nat} {t:TypeId} {f:Nat × Nat} (h:w.heap[b]? = some (.cells cs t f)) (hc:w.cell? ⟨b,j,none⟩=some v):cs[j]? = some v:=by
 rw [World.cell?,h] at hc;simpa using hc
theorem Inv.eG {M:Mp} {w:World} (hi:Inv M w) {b j:Nat} {x:Int} (hc:w.cell? ⟨b,j,none⟩=some (.int .u8 x)):M.at_ b=none:=by
 cases hm:M.at_ b with
 | none=>rfl
 | some t =>
  obtain ⟨_,_,_,_,_,_,_,_,hb,_⟩:=hi.part hm;exact absurd rfl ((EZ (mG hb hc)).1 x)
theorem Inv.lZ {M:Mp} {w:World} (hi:Inv M w) {b j:Nat} {p:aJ} (hc:w.cell? ⟨b,j,none⟩=some (.pointer p)):M.at_ b=none:=by
 cases hm:M.at_ b with
 | none=>rfl
 | some t =>
  obtain ⟨_,_,_,_,_,_,_,_,hb,_⟩:=hi.part hm;exact absurd rfl ((EZ (mG hb hc)).2 p)
theorem Fr.refl (M:Mp) (w:World):Fr M M w w:=⟨rfl,rfl,rfl,aF,λ_ _ _=>rfl,λ_ _ h=>h,λ_ _ h=>h,λ_ h=>h,λ_ h=>Or.inl h⟩
theorem gM.back {M M':Mp} {k:Nat} (h:gM w' k) (f:Fr M M' w w') (hk:k<w.heap.size) (hm:M.at_ k=none):gM w k:=by
 obtain ⟨j,x,hc⟩:=h;exact ⟨j,x,by rw [<-hc]; exact (World.cell?_of_block (w:=w) (f.block k hk hm)).symm⟩
theorem Fr.trans {M M1 M2:Mp} {w w1 w2:World} (hi:Inv M w) (h:Fr M M1 w w1) (g:Fr M1 M2 w1 w2):Fr M M2 w w2 :=
 ⟨g.os.trans h.os,g.tape.trans h.tape,g.output.trans h.output,Nat.le_trans h.size g.size,
  λk hk hm=>(g.block k (aH hk h.size) (h.fresh k hk hm)).trans (h.block k hk hm),λk t hm=>g.mono k t (h.mono k t hm),λk hk hm=>g.fresh k (aH hk h.size) (h.fresh k hk hm),
  λk hk=>g.grow k (h.grow k hk),λk hk=>by
  rcases g.foot k hk with h1 | h1 | h1
  .exact h.foot k h1
  .exact Or.inr (Or.inl (Nat.le_trans h.size h1))
  .by_cases hlt:k<w.heap.size
   .cases hm:M.at_ k with
    | none=>exact Or.inr (Or.inr (h1.back h hlt hm))
    | some t=>exact Or.inl (hi.part_ k t hm).2.1
   .exact Or.inr (Or.inl (by omega))⟩
theorem Fr.below (M:Mp) (hb:Below w.heap.size w w'):Fr M M w w':=⟨hb.os,hb.tape,hb.output,hb.size,λk hk _=>hb.block k hk,λ_ _ h=>h,λ_ _ h=>h,λ_ h=>h,λ_ h=>Or.inl h⟩
theorem Fr.all {M':Mp} (h:Fr M0 M' w w'):Below w.heap.size w w':=⟨h.os,h.tape,h.output,h.size,λk hk=>h.block k hk rfl⟩
theorem Fr.cell {M M':Mp} (h:Fr M M' w w') {b o:Nat} (hb:b<w.heap.size) (hm:M.at_ b=none):w'.cell? ⟨b,o,none⟩=w.cell? ⟨b,o,none⟩:=World.cell?_of_block (w:=w) (h.block b hb hm)
theorem Bs.fr {M M':Mp} {a:aJ} {n c:Nat} {l:aL} (hi:Inv M w) (h:Bs M w a n c l) (f:Fr M M' w w'):Bs M' w' a n c l:=by
 refine ⟨⟨h.1.1,h.1.2.1,h.1.2.2.1,h.1.2.2.2.1,λj hj=>?_⟩,λad e hn=>f.grow _ (h.2 ad e hn)⟩;obtain ⟨b,off,e,hlt,hc⟩:=h.1.2.2.2.2 j hj;exact ⟨b,off,e,aH hlt f.size,by rw [f.cell hlt (hi.eG hc)]; exact hc⟩
theorem mI {M M':Mp} {a:aJ} {n c:Nat} {l:aL} (hi:Inv M w) (h:bA w a n c l) (f:Fr M M' w w'):bA w' a n c l:=by
 refine ⟨h.1,h.2.1,h.2.2.1,h.2.2.2.1,λj hj=>?_⟩;obtain ⟨b,off,e,hlt,hc⟩:=h.2.2.2.2 j hj;exact ⟨b,off,e,aH hlt f.size,by rw [f.cell hlt (hi.eG hc)]; exact hc⟩
theorem Ks.fr {M M':Mp} {a:aJ} {n c:Nat} {l:List T} (hi:Inv M w) (h:Ks M w a n c l) (f:Fr M M' w w'):Ks M' w' a n c l:=by
 refine ⟨h.1,h.2.1,h.2.2.1,h.2.2.2.1,λj hj=>?_⟩;obtain ⟨b,off,p,e,hlt,hm,hc,ht⟩:=h.at' j hj;exact ⟨b,off,p,e,aH hlt f.size,f.grow b hm,by rw [f.cell hlt (hi.lZ hc)]; exact hc,ht.mono f.mono⟩
theorem Inv.below {M:Mp} {w w':World} (h:Inv M w) (hb:Below w.heap.size w w'):Inv M w':=by
 refine ⟨λk hk=>aH (h.lt_ k hk) hb.size,λb t hm=>?_⟩;have hlt:=h.lt hm;refine ⟨(h.part_ b t hm).1,(h.part_ b t hm).2.1,?_⟩;obtain ⟨a,n,c,ka,kn,kc,d,r,h1,h2,h3,h4⟩:=h.part hm;exact ⟨a,n,c,ka,kn,kc,d,r,(hb.block b hlt).trans h1,h2.fr h (Fr.below M hb),h3.fr h (Fr.below M hb),h4⟩
theorem Inv.out {M:Mp} {w:World} (h:Inv M w) {b:Nat} (hb:w.heap.size<=b):M.at_ b=none:=by
 cases hm:M.at_ b with
 | none=>rfl
 | some t=>exact absurd (h.lt hm) (by omega)
theorem Inv.upd {M:Mp} (h:Inv M w) (hu:Rg.Upd w g w') (hg:¬ M.ft g):Inv M w':=by
 refine ⟨λk hk=>by rw [hu.size]; exact h.lt_ k hk,λb t hm=>?_⟩;obtain ⟨h1,h2,h3⟩:=h.part_ b t hm;refine ⟨h1,h2,?_⟩;obtain ⟨a,n,c,ka,kn,kc,d,r,hb,hB,hK,hd⟩:=h3;have hne:∀ k,M.ft k->k≠g:=λk hk e=>hg (by rw [<-e]; exact hk);refine ⟨a,n,c,ka,kn,kc,d,r,(hu.block b (hne b h2)).trans hb,⟨⟨hB.1.1,hB.1.2.1,hB.1.2.2.1,hB.1.2.2.2.1,λj hj=>?_⟩,hB.2⟩,⟨hK.1,hK.2.1,hK.2.2.1,hK.2.2.2.1,λj hj=>?_⟩,hd⟩
 .obtain ⟨b',off,e,hlt,hc⟩:=hB.1.2.2.2.2 j hj;exact ⟨b',off,e,by rw [hu.size]; exact hlt,by rw [World.cell?_of_block (hu.block b' (hne b' (hB.2 _ e (by omega))))]; exact hc⟩
 .obtain ⟨b',off,p,e,hlt,hf,hc,ht⟩:=hK.at' j hj;exact ⟨b',off,p,e,by rw [hu.size]; exact hlt,hf,by rw [World.cell?_of_block (hu.block b' (hne b' hf))]; exact hc,ht⟩
theorem Fr.box {M M':Mp} (f:Fr M M' w w') (hg:¬ M.ft g) (hlt:g<w.heap.size) (hb:¬ gM w g):¬ M'.ft g:=λh=>by
 rcases f.foot g h with h1 | h1 | h1
 .exact hg h1
 .omega
 .exact hb h1
theorem Inv.free {M:Mp} (h:Inv M w) (hg:w.heap.size<=g):¬ M.ft g:=λe=>by
 have:=h.lt_ g e;omega
theorem bX (p:aJ):∀ (j:Nat) (x:Int),(#[Value.pointer p]:aM)[j]? ≠ some (Value.int .u8 x):=λj x h=>by
 match j,h with
 | 0,h=>simp at h
 | j+1,h=>simp at h
theorem eG {t:TypeId} (hO:Rg.Own w g cs t) (hne:∀ (j:Nat) (x:Int),cs[j]? ≠ some (Value.int .u8 x)):¬ gM w g:=λ⟨_,_,hc⟩=>hne _ _ (mG hO.2 hc)
theorem sN {a:aJ} {n c:Nat} {l:aL} (h:bA w a n c l) (hg:¬ gM w g) (hu:Rg.Upd w g w'):bA w' a n c l:=by
 refine ⟨h.1,h.2.1,h.2.2.1,h.2.2.2.1,λj hj=>?_⟩;obtain ⟨b,off,e,hlt,hc⟩:=h.2.2.2.2 j hj;have hbg:b≠g:=by
  rintro rfl;exact hg ⟨_,_,hc⟩
 exact ⟨b,off,e,by rw [hu.size]; exact hlt,by rw [World.cell?_of_block (hu.block b hbg)]; exact hc⟩
def plus (M:Mp) (S:Nat->Prop):Mp:=⟨M.at_,λk=>M.ft k\/S k⟩
theorem Inv.plus {M:Mp} (h:Inv M w) (hS:∀ k,S k->k<w.heap.size):Inv (Tm.plus M S) w:=by
 refine ⟨λk hk=>hk.elim (h.lt_ k) (hS k),λb t hm=>?_⟩;obtain ⟨h1,h2,a,n,c,ka,kn,kc,d,r,hb,hB,hK,hd⟩:=h.part_ b t hm;exact ⟨h1,Or.inl h2,a,n,c,ka,kn,kc,d,r,hb,⟨hB.1,λad e hn=>Or.inl (hB.2 ad e hn)⟩,⟨hK.1,hK.2.1,hK.2.2.1,hK.2.2.2.1,λj hj=>by
  obtain ⟨b',off,p,e,hlt,hf,hc,ht⟩:=hK.at' j hj;exact ⟨b',off,p,e,hlt,Or.inl hf,hc,ht.mono λ_ _ h=>h⟩⟩,hd⟩
theorem AO {M:Mp} {p:aJ} {t:T} (h:IsT M p t):IsT (plus M S) p t:=h.mono λ_ _ h=>h
theorem Fr.plus {M M':Mp} (f:Fr M M' w w') (hS:∀ k,S k->w.heap.size<=k\/gM w k):Fr M (Tm.plus M' S) w w' :=
 ⟨f.os,f.tape,f.output,f.size,f.block,f.mono,f.fresh,λk hk=>Or.inl (f.grow k hk),λk hk=>hk.elim (f.foot k) (λh=>Or.inr (hS k h))⟩
def inS (a:aJ) (n:Nat) (k:Nat):Prop:=∃ ad,a=some ad/\0<n/\ad.block=k
theorem xE {a:aJ} {n c:Nat} {l:aL} (h:bA w a n c l) {k:Nat} (hk:inS a n k):gM w k/\k<w.heap.size:=by
 obtain ⟨ad,e,hn,hb⟩:=hk;obtain ⟨b,off,e',hlt,hc⟩:=h.at' 0 hn;rw [e] at e';obtain rfl:=Option.some.inj e';obtain rfl:b=k:=hb;exact ⟨⟨_,_,hc⟩,hlt⟩
theorem gM.below {k:Nat} (h:gM w' k) (hb:Below w.heap.size w w'):w.heap.size<=k\/gM w k:=by
 by_cases hlt:k<w.heap.size
 .obtain ⟨j,x,hc⟩:=h;exact Or.inr ⟨j,x,by rw [<-hc]; exact (World.cell?_of_block (w:=w) (hb.block k hlt)).symm⟩
 .exact Or.inl (by omega)
theorem Bs.in_ {M:Mp} {a:aJ} {n c:Nat} {l:aL} (h:bA w a n c l):Bs (plus M (inS a n)) w a n c l:=⟨h,λad e hn=>Or.inr ⟨ad,e,hn,rfl⟩⟩
def dB (M:Mp) (w:World) (t:T) (e:Ending) (w':World):Prop:=∃ p M',e = .returned (.agg #[.pointer p])/\IsT M' p t/\Fr M M' w w'/\Inv M' w'/\Below w.heap.size w w'
def more (M:Mp) (b:Nat) (t:T) (lo hi:Nat):Mp:=⟨λk=>if k=b then some t else M.at_ k,λk=>M.ft k\/lo<=k/\k<hi⟩
theorem uj (M:Mp) (b:Nat) (t:T) (lo hi:Nat):(more M b t lo hi).at_ b=some t:=if_pos rfl
theorem sJ {M:Mp} {b:Nat} {t:T} {lo hi k:Nat} (h:k≠b):(more M b t lo hi).at_ k=M.at_ k:=if_neg h
theorem Fr.more {M:Mp} (hi:Inv M w) (hb:Below w.heap.size w w') (b:Nat) (t:T) (hB:w.heap.size<=b):Fr M (more M b t w.heap.size w'.heap.size) w w':=by
 refine ⟨hb.os,hb.tape,hb.output,hb.size,λk hk _=>hb.block k hk,λk u hm=>?_,λk hk hm=>?_,λk hk=>Or.inl hk,λk hk=>hk.elim Or.inl (λh=>Or.inr (Or.inl h.1))⟩
 .have:=hi.lt hm;rw [sJ (by omega)]; exact hm
 .rw [sJ (by omega)]; exact hm
def Ks0 (M:Mp) (lo:Nat) (w:World) (a:aJ) (n c:Nat) (l:List T):Prop :=
 n<=c/\c<=maxLen/\l.length=n/\(a=none->c=0)/\∀ j,j<n->∃ b off p,a=some ⟨b,off,none⟩/\b<w.heap.size/\(M.ft b\/lo<=b)/\w.cell? ⟨b,off+j,none⟩=some (.pointer p)/\IsT M p (l.getD j .nil)
theorem Ks.weak {M:Mp} {lo:Nat} {a:aJ} {n c:Nat} {l:List T} (h:Ks M w a n c l):Ks0 M lo w a n c l :=
 ⟨h.1,h.2.1,h.2.2.1,h.2.2.2.1,λj hj=>by
  obtain ⟨b,off,p,e,hlt,hf,hc,ht⟩:=h.at' j hj;exact ⟨b,off,p,e,hlt,Or.inl hf,hc,ht⟩⟩
theorem Bb {M:Mp} {b:Nat} {t:T} {a:aJ} {n c:Nat} {ka:aJ} {kc:Nat} (hi:Inv M w) (hb:Below w.heap.size w w') (hB:w.heap.size<=b) (hn:t ≠ .nil)
  (hc:w'.heap[b]? = some (.cells (iy t a n c ka kn kc 0 (Jk t)) 108 (0,0))) (hp:bA w' a n c (bV t)) (hf:∀ ad,a=some ad->0<n->M.ft ad.block\/w.heap.size<=ad.block) (hk:Ks0 M w.heap.size w' ka kn kc (fH t)) :
  dB M w t (.returned (.agg #[.pointer (some ⟨b,0,none⟩)])) w':=by
 have f:=Fr.more hi hb b t hB;have hlt:b<w'.heap.size:=(Array.getElem?_eq_some_iff.1 hc).1;refine ⟨_,Tm.more M b t w.heap.size w'.heap.size,rfl,⟨b,rfl,uj _ _ _ _ _,hn⟩,f,⟨λk hk=>hk.elim (λh=>aH (hi.lt_ k h) hb.size) (λh=>h.2),λk u hm=>?_⟩,hb⟩;by_cases e:k=b
 .subst e;rw [uj] at hm;obtain rfl:=Option.some.inj hm;refine ⟨hn,Or.inr ⟨hB,hlt⟩,a,n,c,ka,kn,kc,0,_,hc,⟨hp,λad e hn=>?_⟩,⟨hk.1,hk.2.1,hk.2.2.1,hk.2.2.2.1,λj hj=>?_⟩,Or.inl ⟨rfl,rfl⟩⟩
  .obtain ⟨b',off,e',hlt',_⟩:=hp.at' 0 hn;rcases hf ad e hn with h | h
   .exact Or.inl h
   .rw [e] at e';obtain rfl:=Option.some.inj e';exact Or.inr ⟨h,hlt'⟩
  .obtain ⟨b',off,p,e,hlt',hm,hcb,ht⟩:=hk.2.2.2.2 j hj;exact ⟨b',off,p,e,hlt',hm.elim Or.inl (λh=>Or.inr ⟨h,hlt'⟩),hcb,ht.mono f.mono⟩
 .rw [sJ e] at hm;have hlt:=hi.lt hm;obtain ⟨h1,h2,a,n,c,ka,kn,kc,d,r,g1,g2,g3,g4⟩:=hi.part_ k u hm;exact ⟨h1,Or.inl h2,a,n,c,ka,kn,kc,d,r,(hb.block k hlt).trans g1,g2.fr hi f,g3.fr hi f,g4⟩
theorem VP {M:Mp} {p:aJ} {t:T} (hi:Inv M w) (ht:IsT M p t) (hb:Below w.heap.size w w'):dB M w t (.returned (.agg #[.pointer p])) w' :=
 ⟨p,M,rfl,ht,Fr.below M hb,hi.below hb,hb⟩
def oV (ps:List (aJ)):aM:=(ps.map Value.pointer).toArray
theorem Ks0.row {M:Mp} {lo:Nat} {b:Nat} {ps:List (aJ)} {t:TypeId} {l:List T} (hlo:lo<=b) (h:Rg.Own w b (oV ps) t) (hl:ps.length=l.length) (hm:ps.length<=maxLen) (ht:∀ j,j<ps.length->IsT M (ps.getD j none) (l.getD j .nil)):Ks0 M lo w (some ⟨b,0,none⟩) ps.length ps.length l:=by
 refine ⟨aF,hm,hl.symm,λe=>(by cases e),λj hj=>?_⟩;have hc:w.cell? ⟨b,j,none⟩=some (.pointer (ps.getD j none)):=by
  rw [cell_of_row w b _ _ _ _ h.2];simp [oV,List.getD,hj]
 exact ⟨b,0,_,rfl,h.1,Or.inr hlo,by rw [Nat.zero_add]; exact hc,ht j hj⟩
abbrev tv (p:aJ):Value:=.agg #[.pointer p]
theorem fT (w:World) (p:aJ):(w.alloc (.cells #[.pointer p] 31)).cell? ⟨w.heap.size,0,none⟩=some (.pointer p):=by
 rw [World.cell?_alloc_mark]; rfl
theorem aV {w1 w2:World} (hb:Below w1.heap.size w1 w2) {b o:Nat} (hc:w1.cell? ⟨b,o,none⟩=some v):w2.cell? ⟨b,o,none⟩=some v :=
 (hb.cell (p:=⟨b,o,none⟩) (World.block_lt_of_cell? w1 _ hc)).trans hc
theorem Nk {b o:Nat} (hc:w.cell? ⟨b,o,none⟩=some v):(w.alloc o').cell? ⟨b,o,none⟩=some v:=aV (al1 _ _) hc
theorem iJ (p:aJ) (w:World):Calls prog 7 #[.agg #[.pointer p]] w λe w'=>e = .returned (.bool p.isNone)/\Below w.heap.size w w':=by
 have h0:=fT w p;cases p with
 | none =>
  go_enter func7,ntmps7;go_wp2;go_ret;exact ⟨rfl,al1 _ _⟩
 | some ad =>
  go_enter func7,ntmps7;go_wp2;go_ret;exact ⟨rfl,al1 _ _⟩
theorem kr {b:Nat} {t:T} {a:aJ} {n c:Nat} {ka:aJ} {kc:Nat} (h:w.heap[b]? = some (.cells (iy t a n c ka kn kc d r) 108 (0,0))) :
  (w.cell? ⟨b,0,none⟩=some (.int .i64 (dG t))/\w.cell? ⟨b,1,none⟩=some (.slice a n c)/\w.cell? ⟨b,2,none⟩=some (.string (Fz t))/\w.cell? ⟨b,3,none⟩=some (.slice ka kn kc))/\
  w.cell? ⟨b,4,none⟩=some (.int .u32 d)/\w.cell? ⟨b,5,none⟩=some (.int .i32 0)/\w.cell? ⟨b,6,none⟩=some (.int .u32 0)/\w.cell? ⟨b,7,none⟩=some (.string r):=by
 refine ⟨⟨?_,?_,?_,?_⟩,?_,?_,?_,?_⟩;all_goals
  rw [cell_of_row w b _ _ _ _ h];rfl
theorem Inv.kind {M:Mp} (hi:Inv M w) {b:Nat} {t:T} (hm:M.at_ b=some t):w.cell? ⟨b,0,none⟩=some (.int .i64 (dG t)):=by
 obtain ⟨a,n,c,ka,kn,kc,d,r,hb,_⟩:=hi.part hm;exact (kr hb).1.1
theorem dJ (M:Mp) (p:aJ) (t:T) (w:World) (hi:Inv M w) (ht:IsT M p t) :
  Calls prog 53 #[.agg #[.pointer p]] w λe w'=>e = .returned (.int .i64 (dG t))/\Below w.heap.size w w':=by
 have h0:=fT w p;have HE:=hid (iJ p (w.alloc (.cells #[.pointer p] 31)));cases p with
 | none =>
  obtain rfl:t = .nil:=ht;go_enter func53,ntmps53;go_wp2_with fail
  refine HE.out.mono ?_;rintro e w2 ⟨rfl,hb⟩;go_wp2;go_ret;exact ⟨rfl,bst (al1 _ _) hb⟩
 | some ad =>
  obtain ⟨b,rfl,hm,_⟩:=ht;have hk:=Nk (o':=.cells #[.pointer (some ⟨b,0,none⟩)] 31) (hi.kind hm);go_enter func53,ntmps53;go_wp2_with fail
  refine HE.out.mono ?_;rintro e w2 ⟨rfl,hb⟩;have h1:=aV hb h0;have h2:=aV hb hk;clear h0 hk;go_wp2;go_ret;exact ⟨rfl,bst (al1 _ _) hb⟩
def bZ (a:aJ) (c i:Nat):aJ:=if c=i then a else a.map (·.add i)
theorem jf (w:World):(sizeOf (prog.elem 42)).run prog w = .ok 1 w:=by kernel_rfl
theorem yA (w:World):(sizeOf (prog.elem 57)).run prog w = .ok 1 w:=by kernel_rfl
theorem gY:prog.underlying 42=some (.slice (prog.elem 42)):=by kernel_rfl
theorem ni:prog.underlying 57=some (.slice (prog.elem 57)):=by kernel_rfl
section
variable {P:Program} {t:TypeId} {a:aJ} {n c:Nat}
theorem TS (ht:P.underlying t=some (.slice (P.elem t))) (hs:∀ w,(sizeOf (P.elem t)).run P w = .ok 1 w) (i:Nat) (hi:i<=n) (w:World) :
  (Instr.sliceAt t (.slice a n c) (some (.int .i64 i)) none none).run P w = .ok (.slice (bZ a c i) (n-i) (c-i)) w:=by
 rw [run_sliceAt_slice (h:=ht),run_slice_l w t a n c ht .i64 i (by omega) (by omega),hs];simp [Result.andThen,sliced,bZ]
theorem SE (ht:P.underlying t=some (.slice (P.elem t))) (hs:∀ w,(sizeOf (P.elem t)).run P w = .ok 1 w) (j:Nat) (hj:j<=c) (w:World) :
  (Instr.sliceAt t (.slice a n c) none (some (.int .i64 j)) none).run P w = .ok (.slice a j c) w:=by
 rw [run_sliceAt_slice (h:=ht),run_slice_h w t a n c ht .i64 j (by omega) (by omega),hs];have:a.map (λx=>x.add 0)=a:=by cases a <;> simp [Addr.add]
 simp [Result.andThen,sliced,this]
end
theorem jI {P:Program} {t:TypeId} {a:aJ} {n c:Nat} (ht:P.underlying t=some (.slice (P.elem t))) (hs:∀ w,(sizeOf (P.elem t)).run P w = .ok 1 w) (hi:i<=n)
  (ho:∃ x lo,o.op = .slice t x (some lo) none none/\ev x = .slice a n c/\ev lo = .int .i64 i):(execOp ev o).run P w = .ok (.value (.slice (bZ a c i) (n-i) (c-i))) w:=by
 obtain ⟨x,lo,ho,hx,hl⟩:=ho;unfold execOp;simp only [ho,hx,hl,Option.map_some,Option.map_none,Sem.run_bind,Sem.run_pure,Result.andThen_ok,TS ht hs i hi]
theorem Aq {P:Program} {t:TypeId} {a:aJ} {n c:Nat} (ht:P.underlying t=some (.slice (P.elem t))) (hs:∀ w,(sizeOf (P.elem t)).run P w = .ok 1 w) (hj:j<=c)
  (ho:∃ x hi,o.op = .slice t x none (some hi) none/\ev x = .slice a n c/\ev hi = .int .i64 j):(execOp ev o).run P w = .ok (.value (.slice a j c)) w:=by
 obtain ⟨x,lo,ho,hx,hl⟩:=ho;unfold execOp;simp only [ho,hx,hl,Option.map_some,Option.map_none,Sem.run_bind,Sem.run_pure,Result.andThen_ok,SE ht hs j hj]
theorem wI {a:aJ} {n c:Nat} {l:aL} (h:bA w a n c l) (i:Nat) (hi:i<=n):bA w (bZ a c i) (n-i) (c-i) (l.drop i):=by
 have h1:=h.1;have h2:=h.2.1;refine ⟨by omega,by omega,by rw [List.length_drop,h.len],λe=>?_,λj hj=>?_⟩
 .unfold bZ at e;split at e
  .omega
  .have:a=none:=by simpa using e
   have:=h.2.2.2.1 this;omega
 .obtain ⟨b,off,e,hlt,hc⟩:=h.at' (i+j) (by omega);refine ⟨b,off+i,?_,hlt,?_⟩
  .unfold bZ;rw [if_neg (by omega),e];simp [Addr.add_mid]
  .rw [Nat.add_assoc,hc];simp [List.getD]
theorem GZ {a:aJ} {c i:Nat} {ad:Addr} (h:bZ a c i=some ad):∃ E8,a=some E8/\E8.block=ad.block:=by
 unfold bZ at h;split at h
 .exact ⟨ad,h,rfl⟩
 .cases a with
  | none=>cases h
  | some x =>
   refine ⟨x,rfl,?_⟩;have:x.add i=ad:=by simpa using h
   rw [<-this];unfold Addr.add;split <;> rfl
theorem Bs.from' {M:Mp} {a:aJ} {n c:Nat} {l:aL} (h:Bs M w a n c l) (i:Nat) (hi:i<=n):Bs M w (bZ a c i) (n-i) (c-i) (l.drop i) :=
 ⟨wI h.1 i hi,λad e hn=>by
  obtain ⟨E8,e',hb⟩:=GZ e;rw [<-hb];exact h.2 E8 e' (by omega)⟩
theorem Bs.upto {M:Mp} {a:aJ} {n c:Nat} {l:aL} (h:Bs M w a n c l) (j:Nat) (hj:j<=n):Bs M w a j c (l.take j):=by
 have h1:=h.1.1;refine ⟨⟨by omega,h.1.2.1,by rw [List.length_take,h.1.len]; omega,h.1.2.2.2.1,λi hi=>?_⟩,λad e hn=>h.2 ad e (by omega)⟩;obtain ⟨b,off,e,hlt,hc⟩:=h.1.at' i (by omega);refine ⟨b,off,e,hlt,?_⟩;rw [hc];simp [List.getD,hi]
theorem EG:(prog.info? 31).map (·.size)=some 1:=by kernel_rfl
theorem yL {w:World} {b o:Nat} {p:aJ} (hc:w.cell? ⟨b,o,none⟩=some (.pointer p)):(loadVar 31 ⟨b,o,none⟩).run prog w = .ok (tv p) w :=
 run_loadVar_mid w b o 31 [.pointer p] _ (λj v hv=>by
  cases j with
  | zero=>simp at hv; subst hv; exact hc
  | succ j=>simp at hv) underlying31 rfl (by rw [EG]; rfl)
theorem aT {b:Nat} {p:aJ} (hc:w.cell? ⟨b,off,none⟩=some (.pointer p)) (ho:∃ x,o.op = .load 31 x/\ev x = .pointer (some ⟨b,off,none⟩)) :
  (execOp ev o).run prog w = .ok (.value (tv p)) w:=by
 obtain ⟨x,ho,hx⟩:=ho;unfold execOp;simp only [ho,hx,Instr.loadAt,Instr.sureAddr,Sem.run_bind,Sem.run_pure,Result.andThen_ok,yL hc]
theorem bW (w:World) (b o:Nat) (v:Value):Rg.Upd w b (w.setCell ⟨b,o,none⟩ v):=⟨rfl,rfl,rfl,by simp,λk hk=>Below.heap_setCell w _ v k hk⟩
theorem dS {b o:Nat} {t:TypeId} (h:Rg.Own w b cs t) (v:Value):Rg.Own (w.setCell ⟨b,o,none⟩ v) b (cs.setIfInBounds o v) t:=by
 refine ⟨by simp; exact h.1,?_⟩;have hb:=h.2;simp only [World.setCell,Array.getElem?_modify,hb];simp
theorem aU {b:Nat} {t:TypeId} (h:Rg.Own w b cs t) (hv:cs[j]? = some v):w.cell? ⟨b,j,none⟩=some v:=by
 rw [cell_of_row w b _ _ _ _ h.2]; exact hv
theorem CJ {b o:Nat} {t:TypeId} (h:Rg.Own w b cs t) (ho:o<cs.size) (p:aJ) :
  (Instr.storeAt 31 (.pointer (some ⟨b,o,none⟩)) (tv p)).run prog w = .ok () (w.setCell ⟨b,o,none⟩ (.pointer p)):=by
 have hc:w.cell? ⟨b,o,none⟩=some cs[o]:=aU h (Array.getElem?_eq_getElem ho);exact run_storeAt_mid w b o 31 #[.pointer p] (λj hj=>by
  obtain rfl:j=0:=by simp at hj; exact hj
  exact ⟨by rw [Nat.add_zero,hc]; rfl,jm h⟩) (by rw [EG]; rfl) (by simp [Value.oneCell'])
theorem aZ {rest:List Oper} {b:Nat} {t:TypeId} (h:Rg.Own w b cs t) (hof:off<cs.size) (p:aJ)
  (hgd:o.guard=none) (x y:Operand) (ho:o.op = .store 31 x y) (hx:act.eval x = .pointer (some ⟨b,off,none⟩)) (hy:act.eval y=tv p)
  (hQ:∀ w',Rg.Own w' b (cs.setIfInBounds off (.pointer p)) t->Rg.Upd w b w'->wpList prog ops Q rest (act.put o.dst undef) w'):wpList prog ops Q (o::rest) act w :=
 wpList_plain hgd λK hK=>by
  unfold Oper.wp execOp;simp only [ho,hx,hy,Sem.run_bind,Sem.run_pure,Result.andThen_ok,CJ h hof p];exact hK _ _ (hQ _ (dS h _) (bW _ _ _ _))
theorem aY {a:Act} (hw:Region.wanted o (yielded ops a.tmps)=true) {b:Nat} {t:TypeId} (hg:Rg.Own w b cs t) (hof:off<cs.size) (p:aJ)
  (ho:∃ x y,o.op = .store 31 x y/\a.eval x = .pointer (some ⟨b,off,none⟩)/\a.eval y=tv p)
  (h:∀ w',Rg.Own w' b (cs.setIfInBounds off (.pointer p)) t->Rg.Upd w b w'->K (a.put o.dst undef) w'):if Region.wanted o (yielded ops a.tmps)=true then Oper.wp prog o a w K Q else K (a.put o.dst undef) w:=by
 obtain ⟨x,y,ho,hx,hy⟩:=ho;refine Rg.want hw ?_;unfold Oper.wp execOp;simp only [ho,hx,hy,Sem.run_bind,Sem.run_pure,Result.andThen_ok,CJ hg hof p];exact h _ (dS hg _) (bW _ _ _ _)
theorem eu {fn:Func} {q:Tmp} (hf:fn.results = #[.cell q 31]) (tmps:aM) {b:Nat} {p:aJ} (hp:tmps.getD q undef = .pointer (some ⟨b,0,none⟩)) (h:Rg.Own w b #[.pointer p] 31) :
  (results fn tmps).run prog w = .ok (tv p) w:=by
 have hp':tmps[q]?.getD undef = .pointer (some ⟨b,0,none⟩):=by simpa using hp
 simp [results,hf,hp',asAddr,yL (aU (j:=0) h rfl)]
theorem uE {fn:Func} {q u:Tmp} (hf:fn.results = #[.cell q 31,.tmp u]) (tmps:aM) {b:Nat} {p:aJ} (hp:tmps.getD q undef = .pointer (some ⟨b,0,none⟩)) (h:Rg.Own w b #[.pointer p] 31) :
  (results fn tmps).run prog w = .ok (.tuple #[tv p,tmps.getD u undef]) w:=by
 have hp':tmps[q]?.getD undef = .pointer (some ⟨b,0,none⟩):=by simpa using hp
 simp [results,hf,hp',asAddr,yL (aU (j:=0) h rfl)]
theorem aW (ev:Operand->Value) (o:Oper) (w:World) (b:Nat) (hb:b=w.heap.size) (ho:o.op = .alloc 31) :
  (execOp ev o).run prog w = .ok (.value (.pointer (some ⟨b,0,none⟩))) (w.alloc (.cells #[.pointer none] 31)):=by
 subst hb;unfold execOp;rw [ho];kernel_rfl
theorem qU (a:aJ) (n c:Nat) (p:Pa) (v:aK):prog.built 108 [(0,.int .i64 1),(1,.slice a n c),(2,.string v)]=some (iy (.leaf p v) a n c none 0 0 0 eB):=by kernel_rfl
theorem yF (a:aJ) (n c:Nat) (ka:aJ) (kn kc:Nat) (q:Pa) (t:T):prog.built 108 [(0,.int .i64 2),(1,.slice a n c),(3,.slice ka kn kc)]=some (iy (.ext q t) a n c ka kn kc 0 eB):=by kernel_rfl
theorem Vm (ka:aJ) (kn kc:Nat) (ks:Fin 16->T):prog.built 108 [(0,.int .i64 3),(3,.slice ka kn kc)]=some (iy (.br ks) none 0 0 ka kn kc 0 eB):=by kernel_rfl
theorem Cv (r:aK):prog.built 108 [(0,.int .i64 (-1)),(5,.string r)]=some (iy (.stub r) none 0 0 none 0 0 0 r):=by kernel_rfl
theorem kR {t:T} {a:aJ} {n c:Nat} {ka:aJ} {kc:Nat} (ho:∃ x,o.op = .box 108 x/\ev x = .agg (iy t a n c ka kn kc d r)) :
  (execOp ev o).run prog w = .ok (.value (.pointer (some ⟨w.heap.size,0,none⟩))) (w.alloc (.cells (iy t a n c ka kn kc d r) 108)):=by
 obtain ⟨x,ho,hx⟩:=ho;unfold execOp;simp only [ho,hx];rfl
theorem Aj {b:Nat} {t:TypeId} (h:Rg.Own w b cs t) (hu:Rg.Upd w g w') (hne:b≠g):w'.heap[b]? = some (.cells cs t (0,0)):=(h.upd hu hne).2
theorem oG (M:Mp) (a:aJ) (n c:Nat) (q:Pa) (v:aK) (w:World) (hi:Inv M w) (hB:Bs M w a n c q) :
  Calls prog 96 #[.slice a n c,.string v] w (dB M w (.leaf q v)):=by
 obtain ⟨w1,hw1⟩:=au (w.alloc (.cells #[.pointer none] 31))
 have hR:Rg.Own w1 w.heap.size #[.pointer none] 31:=by rw [hw1]; exact Rg.Own.new _ _ _
 have hb1:Below w.heap.size w w1:=by rw [hw1]; exact al1 _ _
 have hs1:w1.heap.size=w.heap.size+1:=by rw [hw1]; simp
 obtain ⟨w2,hw2⟩:=au (w1.alloc (.cells (iy (.leaf q v) a n c none 0 0 0 eB) 108))
 have hP:Rg.Own w2 w1.heap.size (iy (.leaf q v) a n c none 0 0 0 eB) 108:=by rw [hw2]; exact Rg.Own.new _ _ _
 have hb2:Below w1.heap.size w1 w2:=by rw [hw2]; exact al1 _ _
 have HR:=hid (hR.below hb2);have HE:Hid (∀ w3,Rg.Upd w2 w.heap.size w3->dB M w (.leaf q v) (.returned (tv (some ⟨w1.heap.size,0,none⟩))) w3):=hid (λw3 hu =>
  have hb:=hu.below (hb1.trans (hb2.mono hb1.size)) aF
  Bb hi hb hb1.size (λe=>by cases e) (Aj hP hu (by omega)) (hB.1.below hb) (λad e hn=>Or.inl (hB.2 ad e hn)) (Ks.nil _ _).weak)
 clear hR hb1 hb2 hP hi hB;subst hw2;subst hw1;go_enter func96,ntmps96;go_wp2_with (first
  | (refine ay (aW _ _ _ _ rfl rfl) ?_)
  | (refine ay (bK (qU a n c q v) ⟨_,rfl,rfl⟩) ?_)
  | (refine ay (kR ⟨_,rfl,rfl⟩) ?_)
  | (refine aZ HR.out (by decide) (some ⟨w.heap.size+1,0,none⟩) rfl _ _ rfl rfl rfl ?_; intro w3 hO3 hu3; have am:=hid hO3; have mm:=hid hu3; clear hO3 hu3))
 have:=HE.out w3 mm.out;rw [hs1] at this;exact bodyPost_ret (eu rfl _ rfl am.out) rfl this
theorem Nj {p:aJ} (b:Nat) (hb:b=w.heap.size) (ho:∃ x,o.op = .buildSlice 57 1 #[(0,x)]/\ev x=tv p) :
  (execOp ev o).run prog w = .ok (.value (.slice (some ⟨b,0,none⟩) 1 1)) (w.alloc (.cells (oV [p]) 31)):=by
 obtain ⟨x,ho,hx⟩:=ho;subst hb;unfold execOp;simp only [ho,List.map_toArray,List.map_cons,List.map_nil,hx];kernel_rfl
theorem nG (w:World) (p:aJ):∃ w2,w2=(w.alloc (.cells #[.pointer p] 31)).alloc (.cells #[.pointer none] 31)/\Rg.Own w2 w.heap.size #[.pointer p] 31/\Rg.Own w2 (w.heap.size+1) #[.pointer none] 31/\Below w.heap.size w w2/\w2.heap.size=w.heap.size+2:=by
 refine ⟨_,rfl,(Rg.Own.new _ _ _).below (al1 _ _),?_,al2 _ _ _,by simp⟩;have:=Rg.Own.new (w.alloc (.cells #[.pointer p] 31)) #[.pointer none] 31;simpa using this
theorem kF (M:Mp) (ka:aJ) (kn kc:Nat) (ks:Fin 16->T) (w:World) (hi:Inv M w) (hK:Ks M w ka kn kc (fH (.br ks))) :
  Calls prog 128 #[.slice ka kn kc] w (dB M w (.br ks)):=by
 obtain ⟨w1,hw1⟩:=au (w.alloc (.cells #[.pointer none] 31))
 have hR:Rg.Own w1 w.heap.size #[.pointer none] 31:=by rw [hw1]; exact Rg.Own.new _ _ _
 have hb1:Below w.heap.size w w1:=by rw [hw1]; exact al1 _ _
 have hs1:w1.heap.size=w.heap.size+1:=by rw [hw1]; simp
 obtain ⟨w2,hw2⟩:=au (w1.alloc (.cells (iy (.br ks) none 0 0 ka kn kc 0 eB) 108))
 have hP:Rg.Own w2 w1.heap.size (iy (.br ks) none 0 0 ka kn kc 0 eB) 108:=by rw [hw2]; exact Rg.Own.new _ _ _
 have hb2:Below w1.heap.size w1 w2:=by rw [hw2]; exact al1 _ _
 have HR:=hid (hR.below hb2);have HE:Hid (∀ w3,Rg.Upd w2 w.heap.size w3->dB M w (.br ks) (.returned (tv (some ⟨w1.heap.size,0,none⟩))) w3):=hid (λw3 hu =>
  have hb:=hu.below (hb1.trans (hb2.mono hb1.size)) aF
  Bb hi hb hb1.size (λe=>by cases e) (Aj hP hu (by omega)) (bA.nil _) (λ_ e=>by cases e) (hK.fr hi (Fr.below M hb)).weak)
 clear hR hb1 hb2 hP hi hK;subst hw2;subst hw1;go_enter func128,ntmps128;go_wp2_with (first
  | (refine ay (aW _ _ _ _ rfl rfl) ?_)
  | (refine ay (bK (Vm ka kn kc ks) ⟨_,rfl,rfl⟩) ?_)
  | (refine ay (kR ⟨_,rfl,rfl⟩) ?_)
  | (refine aZ HR.out (by decide) (some ⟨w.heap.size+1,0,none⟩) rfl _ _ rfl rfl rfl ?_; intro w3 hO3 hu3; have am:=hid hO3; have mm:=hid hu3; clear hO3 hu3))
 have:=HE.out w3 mm.out;rw [hs1] at this;exact bodyPost_ret (eu rfl _ rfl am.out) rfl this
theorem vQ (M:Mp) (a:aJ) (n c:Nat) (q:Pa) (p:aJ) (t:T) (w:World) (hi:Inv M w) (hB:Bs M w a n c q) (ht:IsT M p t) :
  Calls prog 130 #[.slice a n c,.agg #[.pointer p]] w (dB M w (wrap q t)):=by
 obtain ⟨w2,hw2,aE,ag,hb2,hs2⟩:=nG w p;have hl:=hB.1.len;have hlc:=hB.1.1;have hmx:=hB.1.2.1;unfold maxLen at hmx;have H0:=hid aE;by_cases hn:n=0
 .subst hn;obtain rfl:q=[]:=List.eq_nil_of_length_eq_zero hl;have H1:=hid ag;have HE:Hid (∀ w3,Rg.Upd w2 (w.heap.size+1) w3->dB M w (wrap [] t) (.returned (tv p)) w3):=hid (λw3 hu=>VP hi ht (hu.below hb2 (by omega)));clear aE ag hb2 hs2 hB hi ht hl;subst hw2;go_enter func130,ntmps130;go_wp2_with (first
   | (refine ay (aW _ _ _ (w.heap.size+1) (by simp) rfl) ?_)
   | (refine ay (aT (aU (j:=0) H0.out rfl) ⟨_,rfl,rfl⟩) ?_)
   | (refine aZ H1.out (by decide) p rfl _ _ rfl rfl rfl ?_; intro w3 hO3 hu3; have am:=hid hO3; have mm:=hid hu3; clear hO3 hu3))
  exact bodyPost_ret (eu rfl _ rfl am.out) rfl (HE.out w3 mm.out)
 .have hq:q≠[]:=λe=>hn (by rw [<-hl,e]; rfl);have hwr:wrap q t = .ext q t:=if_neg hq;rw [hwr];have hnz:((n:Int)==0)=false:=by simp; omega
  obtain ⟨w3,hw3⟩:=au (w2.alloc (.cells (oV [p]) 31))
  have hK:Rg.Own w3 w2.heap.size (oV [p]) 31:=by rw [hw3]; exact Rg.Own.new _ _ _
  have hb3:Below w2.heap.size w2 w3:=by rw [hw3]; exact al1 _ _
  have hs3:w3.heap.size=w.heap.size+3:=by rw [hw3]; simp [hs2]
  obtain ⟨w4,hw4⟩:=au (w3.alloc (.cells (iy (.ext q t) a n c (some ⟨w2.heap.size,0,none⟩) 1 1 0 eB) 108))
  have hP:Rg.Own w4 w3.heap.size (iy (.ext q t) a n c (some ⟨w2.heap.size,0,none⟩) 1 1 0 eB) 108:=by rw [hw4]; exact Rg.Own.new _ _ _
  have hb4:Below w3.heap.size w3 w4:=by rw [hw4]; exact al1 _ _
  have mf:Below w2.heap.size w2 w4:=hb3.trans (hb4.mono hb3.size);have H1:=hid (ag.below mf);have H2:=hid (ag);have HE:Hid (∀ w5,Rg.Upd w4 (w.heap.size+1) w5->dB M w (.ext q t) (.returned (tv (some ⟨w3.heap.size,0,none⟩))) w5):=hid (λw5 hu=>by
   have hb:=hu.below (hb2.trans (mf.mono hb2.size)) (show w.heap.size<=w.heap.size+1 by omega);refine Bb hi hb (by omega) (λe=>by cases e) (Aj hP hu (by omega)) (hB.1.below hb) (λad e hn=>Or.inl (hB.2 ad e hn)) ?_;exact Ks0.row (ps:=[p]) (b:=w2.heap.size) (by omega) ((hK.below hb4).upd hu (by omega)) rfl (by unfold maxLen; simp) (λj hj=>by
    obtain rfl:j=0:=by simp at hj; exact hj
    exact ht))
  rw [hs3] at HE;rw [hs2] at hw4;clear aE ag hb2 hb3 hb4 mf hP hK hB hi ht hwr hs3;subst hw4;subst hw3;subst hw2;clear hs2;go_enter func130,ntmps130;go_wp2_with (first
   | (refine ay (aW _ _ _ (w.heap.size+1) (by simp) rfl) ?_)
   | (refine ay (aT (aU (j:=0) H0.out rfl) ⟨_,rfl,rfl⟩) ?_)
   | (refine ay (Nj (p:=p) (w.heap.size+2) (by simp) ⟨_,rfl,rfl⟩) ?_)
   | (refine ay (bK (yF a n c (some ⟨w.heap.size+2,0,none⟩) 1 1 q t) ⟨_,rfl,rfl⟩) ?_)
   | (refine ay (kR ⟨_,rfl,rfl⟩) ?_)
   | (refine aZ H1.out (by decide) (some ⟨w.heap.size+3,0,none⟩) rfl _ _ rfl rfl rfl ?_; intro w5 b8 ax; have bz:=hid b8; have jp:=hid ax; clear b8 ax))
  exact bodyPost_ret (eu rfl _ rfl bz.out) rfl (HE.out w5 jp.out)
def jD (w:World) (a:aJ) (n c:Nat) (ps:List (aJ)):Prop :=
 n<=c/\c<=maxLen/\ps.length=n/\(a=none->c=0)/\∀ j,j<n->∃ b off,a=some ⟨b,off,none⟩/\b<w.heap.size/\w.cell? ⟨b,off+j,none⟩=some (.pointer (ps.getD j none))
def Are (M:Mp) (ps:List (aJ)) (l:List T):Prop:=ps.length=l.length/\∀ j,j<ps.length->IsT M (ps.getD j none) (l.getD j .nil)
theorem Ks.ptrs {M:Mp} {a:aJ} {n c:Nat} {l:List T} (h:Ks M w a n c l):∃ ps,jD w a n c ps/\Are M ps l:=by
 have hp:∀ j,∃ p,j<n->∃ b off,a=some ⟨b,off,none⟩/\b<w.heap.size/\w.cell? ⟨b,off+j,none⟩=some (.pointer p)/\IsT M p (l.getD j .nil):=λj=>by
  by_cases hj:j<n
  .obtain ⟨b,off,p,e,hlt,_,hc,ht⟩:=h.at' j hj;exact ⟨p,λ_=>⟨b,off,e,hlt,hc,ht⟩⟩
  .exact ⟨none,λh=>absurd h hj⟩
 obtain ⟨F,hF⟩:∃ F:Nat->aJ,∀ j,j<n->∃ b off,a=some ⟨b,off,none⟩/\b<w.heap.size/\w.cell? ⟨b,off+j,none⟩=some (.pointer (F j))/\IsT M (F j) (l.getD j .nil):=⟨λj=>Classical.choose (hp j),λj=>Classical.choose_spec (hp j)⟩
 have e:∀ j,j<n->((List.range n).map F).getD j none=F j:=λj hj=>by simp [List.getD,hj]
 refine ⟨(List.range n).map F,⟨h.1,h.2.1,by simp,h.2.2.2.1,λj hj=>?_⟩,by simp [h.len],λj hj=>?_⟩
 .obtain ⟨b,off,e1,hlt,hc,_⟩:=hF j hj;exact ⟨b,off,e1,hlt,by rw [e j hj]; exact hc⟩
 .have hj':j<n:=by simpa using hj
  obtain ⟨_,_,_,_,_,ht⟩:=hF j hj';rw [e j hj']; exact ht
theorem jD.ks {M:Mp} {a:aJ} {n c:Nat} {ps:List (aJ)} {l:List T} (h:jD w a n c ps) (ha:Are M ps l) (hf:∀ ad,a=some ad->0<n->M.ft ad.block):Ks M w a n c l:=by
 have hl:=h.2.2.1;refine ⟨h.1,h.2.1,by rw [<-ha.1]; exact hl,h.2.2.2.1,λj hj=>?_⟩;obtain ⟨b,off,e,hlt,hc⟩:=h.2.2.2.2 j hj;exact ⟨b,off,_,e,hlt,hf _ e (by omega),hc,ha.2 j (by omega)⟩
theorem jD.below {a:aJ} {n c:Nat} {ps:List (aJ)} (h:jD w a n c ps) (hb:Below w.heap.size w w'):jD w' a n c ps:=by
 refine ⟨h.1,h.2.1,h.2.2.1,h.2.2.2.1,λj hj=>?_⟩;obtain ⟨b,off,e,hlt,hc⟩:=h.2.2.2.2 j hj;exact ⟨b,off,e,aH hlt hb.size,by rw [hb.cell (p:=⟨b,off+j,none⟩) hlt]; exact hc⟩
theorem Are.mono {M M':Mp} {ps:List (aJ)} {l:List T} (h:Are M ps l) (hm:∀ k t,M.at_ k=some t->M'.at_ k=some t):Are M' ps l:=⟨h.1,λj hj=>(h.2 j hj).mono hm⟩
theorem Are.set {M:Mp} {ps:List (aJ)} {l:List T} (h:Are M ps l) (i:Nat) {p:aJ} {t:T} (ht:IsT M p t):Are M (ps.set i p) (l.set i t):=by
 refine ⟨by simp [h.1],λj hj=>?_⟩;have hj':j<ps.length:=by simpa using hj
 have hjl:j<l.length:=by rw [<-h.1]; exact hj'
 by_cases e:i=j
 .subst e;rw [List.getD_eq_getElem?_getD,List.getD_eq_getElem?_getD,List.getElem?_set_self hj',List.getElem?_set_self hjl];exact ht
 .rw [List.getD_eq_getElem?_getD,List.getD_eq_getElem?_getD,List.getElem?_set_ne e,List.getElem?_set_ne e,<-List.getD_eq_getElem?_getD,<-List.getD_eq_getElem?_getD];exact h.2 j hj'
def RowK (w:World) (g cap:Nat) (ps:List (aJ)):Prop :=
 ∃ cur,Rg.Own w g cur 31/\cur.size=cap/\ps.length<=cap/\cap<=maxLen/\∀ j,j<ps.length->cur[j]? = some (.pointer (ps.getD j none))
theorem RowK.lt {ps:List (aJ)} (h:RowK w g cap ps):g<w.heap.size:=by
 obtain ⟨cur,hO,_⟩:=h;exact hO.1
theorem RowK.below {w w':World} {g cap:Nat} {ps:List (aJ)} (h:RowK w g cap ps) (hb:Below w.heap.size w w'):RowK w' g cap ps:=by
 obtain ⟨cur,hO,h1⟩:=h;exact ⟨cur,hO.below hb,h1⟩
theorem RowK.upd {w w':World} {g b cap:Nat} {ps:List (aJ)} (h:RowK w g cap ps) (hu:Rg.Upd w b w') (hne:g≠b):RowK w' g cap ps:=by
 obtain ⟨cur,hO,h1⟩:=h;exact ⟨cur,hO.upd hu hne,h1⟩
theorem RowK.ptrs {ps:List (aJ)} (h:RowK w g cap ps):jD w (some ⟨g,0,none⟩) ps.length cap ps:=by
 obtain ⟨cur,hO,hs,hl,hm,hc⟩:=h;exact ⟨hl,hm,rfl,λe=>(by cases e),λj hj=>⟨g,0,rfl,hO.1,by rw [Nat.zero_add,cell_of_row w g _ _ _ _ hO.2]; exact hc j hj⟩⟩
theorem PD {ps:List (aJ)} (hc:∀ j,j<ps.length->cur[j]? = some (.pointer (ps.getD j none))) (i:Nat) (p:aJ) (hi:i<cur.size):∀ j,j<(ps.set i p).length->(cur.setIfInBounds i (.pointer p))[j]? = some (.pointer ((ps.set i p).getD j none)):=λj hj=>by
 have hj':j<ps.length:=by simpa using hj
 by_cases e:i=j
 .subst e;rw [List.getD_eq_getElem?_getD,List.getElem?_set_self hj'];simp [hi]
 .rw [List.getD_eq_getElem?_getD,List.getElem?_set_ne e,<-List.getD_eq_getElem?_getD,Array.getElem?_setIfInBounds_ne e];exact hc j hj'
theorem uZ {rest:List Oper} {ps:List (aJ)} (h:RowK w g cap ps) (hof:i<ps.length) (p:aJ)
  (hgd:o.guard=none) (x y:Operand) (ho:o.op = .store 31 x y) (hx:act.eval x = .pointer (some ⟨g,i,none⟩)) (hy:act.eval y=tv p)
  (hQ:∀ w',RowK w' g cap (ps.set i p)->Rg.Upd w g w'->wpList prog ops Q rest (act.put o.dst undef) w'):wpList prog ops Q (o::rest) act w:=by
 obtain ⟨cur,hO,hs,hl,hm,hc⟩:=h;refine aZ hO (off:=i) (by omega) p hgd x y ho hx hy (λw' xl hu=>hQ w' ⟨_,xl,by simp [hs],by simpa using hl,hm,PD hc i p (by omega)⟩ hu)
theorem Mf:(prog.info? 31).map (λi=>(i.size,i.bytes))=some (1,8):=by kernel_rfl
theorem BR:((prog.info? 31).bind (·.zero)).map (·.cells)=some #[.pointer none]:=by kernel_rfl
theorem rU:∃ i z,prog.info? 31=some i/\i.zero=some z/\i.size=1/\i.bytes=8/\z.cells.size=1:=by
 have h1:=Mf;have h2:=BR;cases hi:prog.info? 31 with
 | none=>rw [hi] at h1; simp at h1
 | some i =>
  rw [hi] at h1 h2;simp at h1 h2;cases hz:i.zero with
  | none=>rw [hz] at h2; simp at h2
  | some z =>
   rw [hz] at h2;simp at h2;exact ⟨i,z,rfl,hz,h1.1,h1.2,by rw [h2]; rfl⟩
theorem Gh (w:World):(binOp .eql 57 (.slice none 0 0) (.slice none 0 0)).run prog w = .ok (.bool true) w:=by kernel_rfl
theorem BP (a:Addr) (n cap:Nat) (w:World):(binOp .eql 57 (.slice (some a) n cap) (.slice none 0 0)).run prog w = .ok (.bool false) w:=by kernel_rfl
theorem Lf (w:World):Calls prog 46 #[.slice none 0 0] w λe w'=>e = .returned (.slice none 0 0)/\w=w':=by
 have hnil:=Gh;go_enter func46,ntmps46;go_wp2;go_ret;exact ⟨rfl,rfl⟩
def tq (w:World) (ps:List (aJ)) (e:Ending) (w':World):Prop:=∃ g cap,e = .returned (.slice (some ⟨g,0,none⟩) ps.length cap)/\w.heap.size<=g/\RowK w' g cap ps/\Below w.heap.size w w'
theorem tC {ps:List (aJ)} {n:Nat} (ho:w'.ownsRow w.heap.size 31 1 v n (ps.map Value.pointer)) (hl:ps.length=n) (hne:v ≠ .slice none 0 0) (hb:Below w.heap.size w w'):tq w ps (.returned v) w':=by
 rcases ho.2 with ⟨rfl,hz⟩ | ⟨g,cap,cur,rfl,hbg,hg,hnc,hcm,hcs,htake⟩
 .exact absurd rfl hne
 .subst hl;refine ⟨g,cap,rfl,hbg,⟨cur,⟨(Array.getElem?_eq_some_iff.1 hg).1,hg⟩,by omega,hnc,hcm,λj hj=>?_⟩,hb⟩;have h1:(ps.map Value.pointer)[j]? = some (.pointer (ps.getD j none)):=by simp [List.getD,hj]
  rw [<-htake,List.getElem?_take,if_pos (by omega)] at h1;simpa using h1
theorem BA (ad:Addr) (n cap:Nat) (ps:List (aJ)) (w:World) (h:jD w (some ad) n cap ps) (hn:n<=1000000) :
  Calls prog 46 #[.slice (some ad) n cap] w (tq w ps):=by
 obtain ⟨i0,z0,hi,hz,hs,hby,hzc⟩:=rU;have HI:Hid (_/\_/\_/\_/\_):=hid ⟨hi,hz,hs,hby,hzc⟩;have hl:=h.2.2.1;have hcell:∀ j u,(ps.map Value.pointer)[j]? = some u->(ad.add j).block<w.heap.size/\w.cell? (ad.add j)=some u:=λj u hu=>by
  have hj:j<n:=by rw [<-hl]; have:=(List.getElem?_eq_some_iff.1 hu).1; simpa using this
  obtain ⟨b,off,e,hlt,hc⟩:=h.2.2.2.2 j hj;obtain rfl:=Option.some.inj e;have hx:u = .pointer (ps.getD j none):=by
   have hj':j<ps.length:=by omega
   simp [hj'] at hu;simp [List.getD,hj',hu]
  rw [Addr.add_mid,hx];exact ⟨hlt,hc⟩
 have HC:=hid hcell;have HL:=hid hl;have hnil:=BP ad n cap;clear hi hz hs hby hzc h hcell hl;go_enter func46,ntmps46;have HO:Hid ((w.alloc (.cells #[] 31)).ownsRow w.heap.size 31 1 (.slice (some ⟨w.heap.size,0,none⟩) 0 0) 0 []):=hid (World.ownsRow_made w #[] 0 aF (Nat.zero_le _) (by simp))
 go_wp2_with (at_builtin; refine wpList_append_own _ rfl _ _ 57 rfl w.heap.size 31 i0 z0 1 8 underlying57 HI.out.1 HI.out.2.1 HI.out.2.2.1 HI.out.2.2.2.1 HI.out.2.2.2.2 (by decide) _ _ _ rfl HO.out ad n cap (ps.map Value.pointer) rfl (by simp [HL.out]) ?c2 ?c6 ?c3 ?c4 ?c5 ?_)
 case c2 =>
  intro j u hu;rw [(al1 w _).cell (HC.out j u hu).1];exact (HC.out j u hu).2
 case c6 =>
  intro u hu;simp at hu;obtain ⟨x,_,rfl⟩:=hu;rfl
 case c3=>unfold maxLen; omega
 case c4=>omega
 case c5=>simp
 intro v' w2 hown2 hgrow hnil';have HG:Hid (tq w ps (.returned v') w2):=hid (tC (by simpa using hown2) HL.out hnil' ((al1 w _).grown hgrow (by simp) (λk hk=>by simp [Value.ownBlock] at hk; omega)));clear hown2 hgrow hnil';go_wp2;go_ret;exact HG.out
open Ni
open Pk
theorem uD:∀ x y:aL,jG x y=cp x y
 | [],_=>rfl
 | _::_,[]=>rfl
 | a::xs,b::ys=>by
  unfold jG cp;rw [uD xs ys]
theorem xZ:∀ {q p:Pa},q<+:p->cp q p=q.length
 | [],_,_=>rfl
 | a::q,[],h=>by simp at h
 | a::q,b::p,h=>by
  obtain ⟨rfl,h2⟩:=List.cons_prefix_cons.1 h;unfold cp;rw [if_pos rfl,xZ h2]; rfl
theorem xX:∀ {q p:Pa},¬ q<+:p->cp q p<q.length
 | [],_,h=>absurd List.nil_prefix h
 | a::q,[],_=>by simp [cp]
 | a::q,b::p,h=>by
  unfold cp;by_cases e:a=b
  .subst e;rw [if_pos rfl];have:=xX (q:=q) (p:=p) (λg=>h (List.cons_prefix_cons.2 ⟨rfl,g⟩));simp; omega
  .rw [if_neg e]; simp
theorem zD (w:World) (q:Nat):Below w.heap.size w (w.drewN q):=below_drewN aG q
theorem qB (a b:aJ) (n m c d:Nat) (x y:Pa) (hn:n<=1000000) (hm:m<=1000000) (hle:n<=m) (w:World) (ha:bA w a n c x) (hb:bA w b m d y) :
  Calls prog 113 #[.slice a n c,.slice b m d] w λe w'=>e = .returned (.int .i64 (cp x y:Nat))/\Below w.heap.size w w':=by
 have HC:=hid (qP a b n m c d x y hn hm w ha hb);have hx:=ha.len;have hl:cp x y<=n:=by rw [<-hx]; exact UA x y
 rw [uD] at HC;obtain ⟨k,hk⟩:=av (cp x y)
 rw [hk] at HC hl ⊢;clear hk ha hb hx;by_cases h:k=m
 .subst h;have h2:decide ((k:Int)<(n:Int))=false:=by simp; omega
  have h1:((k:Int)==(k:Int))=true:=by simp
  go_enter func113,ntmps113;go_wp2_with fail
  refine HC.out.mono ?_;rintro e w1 ⟨rfl,q,rfl⟩;go_wp2;go_ret;exact ⟨rfl,zD _ _⟩
 .have h1:((k:Int)==(m:Int))=false:=by simp; omega
  go_enter func113,ntmps113;go_wp2_with fail
  refine HC.out.mono ?_;rintro e w1 ⟨rfl,q,rfl⟩;go_wp2;go_ret;exact ⟨rfl,zD _ _⟩
theorem Inv.path {M:Mp} (hi:Inv M w) {b:Nat} {t:T} (hm:M.at_ b=some t):∃ a n c,w.cell? ⟨b,1,none⟩=some (.slice a n c)/\Bs M w a n c (bV t):=by
 obtain ⟨a,n,c,ka,kn,kc,d,r,hb,hB,_⟩:=hi.part hm;exact ⟨a,n,c,(kr hb).1.2.1,hB⟩
theorem Inv.val {M:Mp} (hi:Inv M w) {b:Nat} {t:T} (hm:M.at_ b=some t):w.cell? ⟨b,2,none⟩=some (.string (Fz t)):=by
 obtain ⟨a,n,c,ka,kn,kc,d,r,hb,_⟩:=hi.part hm;exact (kr hb).1.2.2.1
theorem Inv.kids {M:Mp} (hi:Inv M w) {b:Nat} {t:T} (hm:M.at_ b=some t):∃ a n c,w.cell? ⟨b,3,none⟩=some (.slice a n c)/\Ks M w a n c (fH t):=by
 obtain ⟨a,n,c,ka,kn,kc,d,r,hb,_,hk,_⟩:=hi.part hm;exact ⟨ka,kn,kc,(kr hb).1.2.2.2,hk⟩
theorem BH (M:Mp) (b:Nat) (t:T) (hm:M.at_ b=some t) (a:aJ) (n c:Nat) (way:Pa) (w:World) (hi:Inv M w) (hB:bA w a n c way) (hle:(bV t).length<=n) (hn:n<=1000) :
  Calls prog 78 #[.agg #[.pointer (some ⟨b,0,none⟩)],.slice a n c] w λe w' =>
   e=(if bV t<+:way then .returned (.slice (bZ a c (bV t).length) (n-(bV t).length) (c-(bV t).length)) else .panicked [fE 7])/\Below w.heap.size w w':=by
 have hi1:=hi.below (al1 w (.cells #[.pointer (some ⟨b,0,none⟩)] 31));obtain ⟨pa,pn,pc,c1,hP,_⟩:=hi1.path hm;have h0:=fT w (some ⟨b,0,none⟩);have hl:=hP.len;have hcap:=hB.1;have hmx:=hB.2.1;unfold maxLen at hmx;have HA:=hid (qB pa a pn n pc c (bV t) way (by omega) (by omega) (by omega) _ hP (hB.alloc (.cells #[.pointer (some ⟨b,0,none⟩)] 31)));rw [hl] at hle ⊢;have xi:Hid (∀ X Y:Ending,(if bV t<+:way then X else Y)=if cp (bV t) way=pn then X else Y):=hid (λX Y=>by
  by_cases h:bV t<+:way
  .rw [if_pos h,if_pos ((xZ h).trans hl)]
  .rw [if_neg h,if_neg (by have:=xX h; omega)])
 rw [xi.out];have hkl:cp (bV t) way<=pn:=by rw [<-hl]; exact UA _ _
 obtain ⟨k,hk⟩:=av (cp (bV t) way)
 rw [hk] at HA hkl ⊢;clear xi hk hP hB hi hi1 hl hm;by_cases h:k=pn
 .subst h;rw [if_pos rfl];have h2:decide ((k:Int)<(k:Int))=false:=by simp
  go_enter func78,ntmps78;go_wp2_with fail
  refine HA.out.mono ?_;rintro e w1 ⟨rfl,hb1⟩;have h0':=aV hb1 h0;have c1':=aV hb1 c1;have HB:=hid (bst (al1 _ _) hb1);clear h0 c1 hb1;go_wp2_with (refine ay (jI gY jf hle ⟨_,_,rfl,rfl,rfl⟩) ?_)
  go_ret;exact ⟨rfl,HB.out⟩
 .rw [if_neg h];have h2:decide ((k:Int)<(pn:Int))=true:=by simp; omega
  go_enter func78,ntmps78;go_wp2_with fail
  refine HA.out.mono ?_;rintro e w1 ⟨rfl,hb1⟩;have h0':=aV hb1 h0;have c1':=aV hb1 c1;have HB:=hid (bst (al1 _ _) hb1);clear h0 c1 hb1;go_wp2;simp [bodyPost,fE];exact HB.out
theorem FQ (M:Mp) (b:Nat) (t:T) (hm:M.at_ b=some t) (a:aJ) (n c:Nat) (way:Pa) (w:World) (hi:Inv M w) (hB:bA w a n c way) (hle:(bV t).length=n) (hn:n<=1000) :
  Calls prog 79 #[.agg #[.pointer (some ⟨b,0,none⟩)],.slice a n c] w λe w' =>
   e=(if bV t=way then .returned (.tuple #[]) else .panicked [fE 7])/\Below w.heap.size w w':=by
 have h0:=fT w (some ⟨b,0,none⟩);have HP:=hid (BH M b t hm a n c way (w.alloc (.cells #[.pointer (some ⟨b,0,none⟩)] 31)) (hi.below (al1 _ _)) (hB.alloc _) (by omega) hn);have xi:Hid (bV t<+:way↔bV t=way):=hid ⟨λh=>h.eq_of_length (by rw [hle,hB.len]),λh=>by rw [h]; exact List.prefix_rfl⟩;have HX:Hid (∀ X Y:Ending,(if bV t<+:way then X else Y)=if bV t=way then X else Y):=hid (λX Y=>by
  by_cases h:bV t=way
  .rw [if_pos h,if_pos (xi.out.2 h)]
  .rw [if_neg h,if_neg (λg=>h (xi.out.1 g))])
 rw [HX.out,hle] at HP;clear hi hB HX xi hm;by_cases h:bV t=way
 .rw [if_pos h] at HP ⊢;have h2:decide (0<((n-n:Nat):Int))=false:=by simp
  clear h;go_enter func79,ntmps79;go_wp2_with (refine ay (aT h0 ⟨_,rfl,rfl⟩) ?_)
  refine HP.out.mono ?_;rintro e w1 ⟨rfl,hb1⟩;have HB:=hid (bst (al1 _ _) hb1);clear h0 hb1;go_wp2;go_end0;exact ⟨rfl,HB.out⟩
 .rw [if_neg h] at HP ⊢;clear h;go_enter func79,ntmps79;go_wp2_with (refine ay (aT h0 ⟨_,rfl,rfl⟩) ?_)
  refine HP.out.mono ?_;rintro e w1 ⟨rfl,hb1⟩;have HB:=hid (bst (al1 _ _) hb1);clear h0 hb1;go_wp2;simp [bodyPost];exact HB.out
theorem lG (a:aJ) (n c:Nat) (way:Pa) (hn:1<=n) (w:World) (hB:bA w a n c way) :
  Calls prog 77 #[.slice a n c] w λe w'=>e = .returned (.tuple #[.int .u8 (way.getD 0 0).toNat,.slice (bZ a c 1) (n-1) (c-1)])/\Below w.heap.size w w':=by
 obtain ⟨b,off,rfl,hlt,hc⟩:=hB.at' 0 (by omega);rw [Nat.add_zero] at hc;have hcap:=hB.1;have hmx:=hB.2.1;unfold maxLen at hmx;obtain ⟨x,hx⟩:=av ((way.getD 0 0).toNat)
 rw [hx] at hc ⊢;have hnz:((n:Int)==0)=false:=by simp; omega
 have hn0:0<n:=hn;clear hB hx;go_enter func77,ntmps77;go_wp2_with fail
 refine aB (S:=λw'=>Below w.heap.size w w') (aG.drew) λhld=>?_;refine ah 0 ?_;try simp only [ak]
 refine ah 1 ?_;try simp only [ak]
 refine aC 2 (λwz hSw=>(hSw.cell (p:=⟨b,off,none⟩) hlt).trans hc) ?_;try simp only [ak]
 refine ah 3 ?_;try simp only [ak]
 refine ah 4 ?_ (hy:=by intro wz hSw; (refine jI (a:=some ⟨b,off,none⟩) (n:=n) (c:=c) (i:=1) gY jf hn ?_; exact ⟨_,_,rfl,rfl,rfl⟩));try simp only [ak]
 refine ah 5 ?_;try simp only [ak]
 refine ah 6 ?_;try simp only [ak]
 refine aA ?_;go_wp2;exact bodyPost_ret (results_tmp2 rfl _ _ _) rfl ⟨rfl,hld⟩
end Tm
end
end Go.Proofs.YtlcplcgigjagpaaGreatDoor
