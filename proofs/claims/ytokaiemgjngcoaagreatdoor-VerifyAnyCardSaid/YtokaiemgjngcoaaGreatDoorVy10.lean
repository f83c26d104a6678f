/-
 The contract of node.Get, of any bytes that are not far too many.
-/
import Derived.Test.YtokaiemgjngcoaaGreatDoorVy9
open Go.Lib (hid)
open Go.Proofs.Tryz
set_option linter.unusedSimpArgs false
set_option linter.unusedVariables false
set_option maxHeartbeats 40000000
set_option maxRecDepth 100000
namespace Go.Proofs.YtokaiemgjngcoaaGreatDoor
variable {k r x:aM} {v:Value} {L cap g i j kn lo off:Nat} {w w':World} {o:Oper} {S:Nat->Prop} {p:aL} {o':Obj} {d:Int} {ev:Operand->Value} {ops:Array Oper} {act:Act} {Q:Exit->Act->World->Prop} {K:Act->World->Prop} {cur:aO}
section
open Go.RowKit
namespace No
open Rl Ni
theorem oN {s:aN} {x:It} (hs:s.length<=1000000) (h:dJ s = .ok x):∀ y∈x.xs,Good y:=by
 obtain ⟨g1,g2,g3⟩:=jy (by omega) h;intro y hy;have h1:=qx g2 (by rw [g1]; omega) hy;rw [g1] at h1;have h2:=Dp y (EC g2 hy) (Nat.zero_le _);obtain ⟨i,hi⟩:=List.getElem?_of_mem hy;have h3:=vQ x.xs i y hi;have h4:x.size=1+(x.xs.map It.size).sum:=by cases x; exact It.size_mk _ _ _
 have h5:=kX y;have h6:y.s.size<=y.inner.length:=by
  unfold It.inner;rw [List.length_append,dZ];omega
 exact ⟨h2,by omega,by omega,by omega⟩
theorem Bn {s:aN} {c:Int} (h:dJ s = .error c):c≠0:=by
 unfold dJ at h;split at h
 .rename_i c' hr;cases h;have:=(codes s.length).1 _ _ _ _ aH hr;omega
 .split at h
  .cases h; decide
  .cases h
theorem Ug {xs:List It} {N:Nd} (hG:∀ x∈xs,Good x) (h:dO xs=some N):N.v.size<=1000000:=by
 unfold dO at h;by_cases h2:xs.length=2
 .rw [if_pos h2] at h;have h1:=hG _ (kR (xs:=xs) (i:=1) (by omega));unfold fA at h;split at h
  .cases h
  .split at h
   .obtain rfl:=Option.some.inj h;exact h1.2.2.2
   .obtain ⟨k,hk,rfl⟩:=Option.map_eq_some_iff.1 h;exact Nat.zero_le _
 .rw [if_neg h2] at h;split at h
  .unfold dK at h;split at h
   .cases h
   .split at h
    .obtain rfl:=Option.some.inj h;exact Nat.zero_le _
    .cases h
  .cases h
theorem SQ (s:aM) (hs:s.size<=1000000) (ih:∀ k:aM,k.size<32->k.size<s.size->OW k):OW s:=by
 intro w;have hsl:=dZ s;obtain ⟨w2,hw2⟩:=ay (w.alloc (.cells (ndC nd0 none 0 0) 67))
 have hO:dL w2 w.heap.size nd0 none 0 0:=by rw [hw2]; exact Rg.Own.new _ _ _
 have hB2:Below w.heap.size w w2:=by rw [hw2]; exact al1 _ _
 have HO:=hid hO;have HB2:=hid hB2;have hW:=Cb s (by omega) w2;have hgt:=qz s.data.toList (by omega);cases hr:dJ s.data.toList with
 | error c =>
  rw [hr] at hW hgt;have HW:Hid (Calls prog 75 #[.string s] w2 λe w'=>e = .returned (.tuple #[itV it0 none 0 0,.int .i64 c])/\Below w2.heap.size w2 w'):=hid hW;unfold itV at HW;dsimp only [it0,It.l,It.s] at HW;have hne:(c != 0)=true:=by simp; exact Bn hr
  have HC:=hid (Bn hr);have HG:Hid (fE s.data.toList=none):=hid hgt;rw [HG.out];clear hO hB2 hr hgt ih hW;subst hw2;go_enter func43,ntmps43;go_wp2_with (refine aB (aY _ _ _ w.heap.size rfl rfl) ?_)
  with_reducible refine HW.out.mono ?_
  rintro e w3 ⟨rfl,hb3⟩;have ce:=hid ((HO.out.below hb3).below (al1 w3 (.cells #[.bool false,.string ⟨#[]⟩,.slice none 0 0] 96)));have HB3:=hid (bst (bst HB2.out hb3) (al1 w3 (.cells #[.bool false,.string ⟨#[]⟩,.slice none 0 0] 96)));clear hb3 HW;go_wp2_with (first
   | (refine aB (bC lY ?_) ?_; · exact ⟨_,rfl,rfl⟩)
   | (refine bA ce.out rfl nd0 none 0 0 rfl rfl _ _ rfl rfl rfl rfl ?_))
  exact bodyPost_ret (dU rfl _ rfl (dG ce.out) rfl) rfl ⟨nd0,none,0,0,c,rfl,.inr ⟨HC.out,rfl,rfl⟩,BsF.nil _ _,rfl,bX HB3.out aH _⟩
 | ok x =>
  have hG:=oN (by omega) hr;rw [hr] at hW hgt;dsimp only at hgt;have HW:Hid (Calls prog 75 #[.string s] w2 λe w'=>∃ a nn cap,e = .returned (.tuple #[itV x a nn cap,.int .i64 0])/\bP w2.heap.size w' x.xs a nn cap/\Below w2.heap.size w2 w'):=hid hW;unfold itV at HW;have lO:=hid (λw a n cap h=>SK x.xs a n cap w h hG);have gO:=hid hgt;have eS:Hid (∀ N,dO x.xs=some N->N.v.size<=maxLen/\∀ k∈N.ks,mW k):=hid (λN hN=>by
   have h1:=Ug hG hN;obtain ⟨_,h2⟩:=Ad (by omega) hr hN;refine ⟨Nat.le_trans h1 (by unfold maxLen; omega),λk hk=>?_⟩;have hs0:0<s.size:=by
    have hb:=jy (by omega) hr;have:=pO hb.2.1 (by rw [hb.1]; omega);rw [hb.1] at this;have:=List.length_pos_iff.2 this;omega
   rcases h2 k hk with hp | ⟨h3,h4⟩
   .have hp:=of_decide_eq_true hp;exact Kj k (by omega) (λh=>ih k h (by omega))
   .exact Kj k (by omega) (λh=>ih k h (by omega)))
  obtain ⟨r,hrr⟩:=aA (dO x.xs)
  obtain ⟨G,mr⟩:=aA (fE s.data.toList)
  rw [hrr] at gO lO eS;rw [mr] at gO;rw [mr];clear hO hB2 hr hgt ih hW hG hrr mr;subst hw2;go_enter func43,ntmps43;go_wp2_with (refine aB (aY _ _ _ w.heap.size rfl rfl) ?_)
  with_reducible refine HW.out.mono ?_
  rintro e w3 ⟨a3,n3,c3,rfl,cL,hb3⟩;obtain ⟨w4,hw4⟩:=ay (w3.alloc (.cells #[.bool x.l,.string x.s,.slice a3 n3 c3] 96))
  have hb4:Below w3.heap.size w3 w4:=by rw [hw4]; exact al1 _ _
  have hO4:=(HO.out.below hb3).below hb4;have hB4:=bst (bst HB2.out hb3) hb4;have HR4:=hid (lO.out w4 a3 n3 c3 (bP.weak (cL.stays hb4) (Nat.zero_le _)));have cS:=hid hO4;have co:=hid hB4;clear hb3 hb4 cL hO4 hB4 HW lO;subst hw4;go_wp2_with fail
  with_reducible refine HR4.out.mono ?_
  rintro e w5 ⟨N,a5,n5,c5,b5,rfl,mL,hx5,hl5,hb5⟩;have X5:=hb5.size;have c8:=cS.out.below hb5;have eV:=bst co.out hb5;obtain ⟨w6,y0⟩:=ay (w5.alloc (.cells (ndC N a5 n5 c5) 67))
  have iv:Hid (dL (w5.alloc (.cells (ndC nd0 none 0 0) 67)) w5.heap.size nd0 none 0 0):=hid (Rg.Own.new _ _ _);have aq:Hid (dL ((w5.alloc (.cells (ndC nd0 none 0 0) 67)).setRow w5.heap.size (ndC N a5 n5 c5)) w5.heap.size N a5 n5 c5):=hid (dG iv.out);have d8:Below w5.heap.size w5 ((w5.alloc (.cells (ndC nd0 none 0 0) 67)).setRow w5.heap.size (ndC N a5 n5 c5)):=bX (al1 _ _) aH _;have cG:=hid (c8.below d8);have bd:=hid (bst eV d8);have ms:=hid (hx5.below d8);have rS:=hid hl5;have hw0:=cS.out.1
  clear c8 eV hx5 hl5 hb5 d8 HR4 cS co y0 w6;rcases mL with ⟨rfl,rfl⟩ | ⟨rfl,rfl⟩
  .have hck:=sG N a5 n5 c5 rS.out ((w5.alloc (.cells (ndC nd0 none 0 0) 67)).setRow w5.heap.size (ndC N a5 n5 c5)) ms.out.1 (eS.out N rfl).1 (eS.out N rfl).2;obtain ⟨M,hM⟩:=aA (dN bJ N)
   have HG:Hid (G=if M=true then some N else none):=hid (by rw [gO.out,<-hM]);rw [hM] at hck;have HC:=hid hck;clear hM gO eS hck;go_wp2_with (first
    | (refine aB (aY _ _ _ w5.heap.size rfl rfl) ?_)
    | (refine bA iv.out rfl N a5 n5 c5 rS.out rfl _ _ rfl rfl rfl rfl ?_)
    | (refine Rg.runW (by rfl) _ _ (bH aq.out rS.out ?_) ?_; · exact ⟨_,rfl,rfl⟩))
   refine HC.out.mono ?_;rintro e w7 ⟨rfl,cH⟩;have hs7:=cH.size;have mN:=hid (aq.out.below cH);have cN:=hid (cG.out.below cH);have cI:=hid (bst bd.out cH);have mS:=hid (ms.out.below cH);clear cH HC cG bd ms;cases M with
   | true =>
    go_wp2_with (first
     | (refine aB (bH mN.out rS.out ?_) ?_; · exact ⟨_,rfl,rfl⟩)
     | (refine bA cN.out rfl N a5 n5 c5 rS.out rfl _ _ rfl rfl rfl rfl ?_))
    exact bodyPost_ret (dU rfl _ rfl (dG cN.out) rS.out) rfl ⟨N,a5,n5,c5,0,rfl,.inl ⟨rfl,HG.out⟩,(mS.out.row (by omega) _).weak (by omega),rS.out,bX cI.out aH _⟩
   | false =>
    go_wp2_with (first
     | (refine aB (bC lY ?_) ?_; · exact ⟨_,rfl,rfl⟩)
     | (refine bA cN.out rfl nd0 none 0 0 rfl rfl _ _ rfl rfl rfl rfl ?_))
    exact bodyPost_ret (dU rfl _ rfl (dG cN.out) rfl) rfl ⟨nd0,none,0,0,6,rfl,.inr ⟨by decide,rfl,HG.out⟩,BsF.nil _ _,rfl,bX cI.out aH _⟩
  .have HG:Hid (G=none):=gO;go_wp2_with (first
    | (refine aB (aY _ _ _ w5.heap.size rfl rfl) ?_)
    | (refine bA iv.out rfl N a5 n5 c5 rS.out rfl _ _ rfl rfl rfl rfl ?_)
    | (refine aB (bC lY ?_) ?_; · exact ⟨_,rfl,rfl⟩)
    | (refine bA cG.out rfl nd0 none 0 0 rfl rfl _ _ rfl rfl rfl rfl ?_))
   exact bodyPost_ret (dU rfl _ rfl (dG cG.out) rfl) rfl ⟨nd0,none,0,0,6,rfl,.inr ⟨by decide,rfl,HG.out⟩,BsF.nil _ _,rfl,bX bd.out aH _⟩
theorem Tt (N:Nat) (hN:N<=1000000):∀ s:aM,s.size<=N->OW s:=by
 induction N using Nat.strongRecOn with
 | ind N ih=>exact λs hs=>SQ s (by omega) (λk _ hk=>ih k.size (by omega) (by omega) k aH)
theorem Iy (s:aM) (hs:s.size<=1000000):OW s:=Tt s.size hs s aH
theorem oI (k:aM) (hk:k.size<=9223372036854775807):mW k:=Kj k hk (λh=>Iy k (by omega))
end No
end
section
open Go.RowKit
namespace Rf
open Rl Ni No
open Sh
open Sm
theorem Qj (w:World) (v:Value) (t:TypeId):(w.alloc (.cells #[v] t)).cell? ⟨w.heap.size,0,none⟩=some v:=by
 have:=Bu.cell_one_new' w v t (0,0) 0 v rfl;rwa [Addr.add_mid] at this
def ofP (s:aM):aM:=if s.size<32 then s else ⟨(mK s).toArray⟩
theorem KC (s:aM) (hs:s.size<=900000) (w:World) (hT:Tab w):Calls prog 62 #[.string s] w λe w'=>e = .returned (.agg (kc (mK s)))/\Below w.heap.size w w':=Sm.Kv s hs w hT
theorem LY (s:aM) (hs:s.size<=900000) (w:World) (hT:Tab w) :
  Calls prog 153 #[.string s] w λe w'=>e = .returned (.string (ofP s))/\Below w.heap.size w w':=by
 by_cases h:s.size<32
 .have HF:Hid (ofP s=s):=hid (by unfold ofP; rw [if_pos h]);have hd:decide ((s.size:Int)<32)=true:=by simp; omega
  rw [HF.out];clear hT HF;go_enter func153,ntmps153;go_wp2;go_ret;exact ⟨rfl,aI⟩
 .have HF:Hid (ofP s=⟨(mK s).toArray⟩):=hid (by unfold ofP; rw [if_neg h]);have hd:decide ((s.size:Int)<32)=false:=by simp; omega
  have cT:=hid (KC s hs w hT);have IN:=hid (λW=>Sm.kW (mK s) (mQ s) W);rw [HF.out];obtain ⟨K,hK⟩:=aA (mK s)
  rw [hK] at cT IN;rw [hK];obtain ⟨T,lg⟩:=aA (⟨K.toArray⟩:aM)
  rw [lg] at IN;rw [lg];clear hT HF hK lg;go_enter func153,ntmps153;go_wp2_with fail
  refine cT.out.mono ?_;rintro e w1 ⟨rfl,hb1⟩;go_wp2_with fail
  refine (IN.out _).mono ?_;rintro e w2 ⟨rfl,hb2⟩;go_wp2;go_ret;exact ⟨rfl,bst hb1 hb2⟩
def eT (s:aM):aN:=if s.size=0 then mK ⟨#[128]⟩ else mK s
theorem iq (s:aM):(eT s).length=32:=by unfold eT; split <;> exact mQ _
theorem zx (s:aM) (hs:s.size<=900000) (w:World) (hT:Tab w) :
  Calls prog 33 #[.string s] w λe w'=>e = .returned (.agg (kc (eT s)))/\Below w.heap.size w w':=by
 have h0:=hT.pos;have HT:=hid hT;have bj:=hid (iq s);by_cases h:s.size=0
 .obtain rfl:=cZ h;have cT:=hid (λW (h:Tab W)=>KC ⟨#[128]⟩ (by decide) W h);have hR:eT eB=mK ⟨#[128]⟩:=rfl;rw [<-hR] at cT;obtain ⟨K,hK⟩:=aA (eT eB)
  rw [hK] at cT bj;rw [hK];clear hT hK hR h;go_enter func33,ntmps33;go_wp2_with (refine eH rfl _ _ (fH _ _ rfl _ _ rfl) ?_)
  refine (cT.out _ (HT.out.below (al1 _ _) h0)).mono ?_;rintro e w1 ⟨rfl,hb1⟩;have el:=hid ((Rg.Own.new w (kc zk) 23).below hb1);have HB2:Hid (Below w.heap.size w w1):=hid (bst (al1 _ _) hb1);clear hb1;go_wp2_with (refine wpList_store_rowTo rfl 23 _ _ rfl rfl _ (kc K) rfl rfl 23 (kc zk) el.out.2 (gq K bj.out) (by rw [gy,gy,bj.out]; rfl) (tO _) ?_)
  exact bodyPost_ret (results_cell_row rfl _ _ w.heap.size 23 (kc K) (0,0) _ rfl (setRow_heap _ _ _ _ _ _ el.out.2) underlying23 rfl (gq K bj.out)) rfl ⟨rfl,Sm.bI HB2.out aH _⟩
 .have hne:=Ni.bZ (s:=s) (by omega);have cT:=hid (λW (h:Tab W)=>KC s hs W h);have hR:eT s=mK s:=by unfold eT; rw [if_neg h]
  rw [<-hR] at cT;obtain ⟨K,hK⟩:=aA (eT s)
  rw [hK] at cT bj;rw [hK];clear hT hK hR h;go_enter func33,ntmps33;go_wp2_with (refine eH rfl _ _ (fH _ _ rfl _ _ rfl) ?_)
  refine (cT.out _ (HT.out.below (al1 _ _) h0)).mono ?_;rintro e w1 ⟨rfl,hb1⟩;have el:=hid ((Rg.Own.new w (kc zk) 23).below hb1);have HB2:Hid (Below w.heap.size w w1):=hid (bst (al1 _ _) hb1);clear hb1;go_wp2_with (refine wpList_store_rowTo rfl 23 _ _ rfl rfl _ (kc K) rfl rfl 23 (kc zk) el.out.2 (gq K bj.out) (by rw [gy,gy,bj.out]; rfl) (tO _) ?_)
  exact bodyPost_ret (results_cell_row rfl _ _ w.heap.size 23 (kc K) (0,0) _ rfl (setRow_heap _ _ _ _ _ _ el.out.2) underlying23 rfl (gq K bj.out)) rfl ⟨rfl,Sm.bI HB2.out aH _⟩
theorem EP (r:aM) (w:World) :
  Calls prog 119 #[.string r] w λe w'=>e = .returned (.func (Fn.func 154) #[] #[.pointer (some ⟨w.heap.size,0,none⟩)])/\w'=w.alloc (.cells #[.string r] 9):=by
 go_enter func119,ntmps119;go_wp2;go_ret;exact ⟨rfl,rfl⟩
def qV (r s:aM):Bool:=decide (s.size≠0)&&decide (ofP s=r)
theorem JR (c:Nat) (r s:aM) (hs:s.size<=900000) (w:World) (hT:Tab w) (hc:w.cell? ⟨c,0,none⟩=some (.string r)) :
  Calls prog 154 #[.string s,.pointer (some ⟨c,0,none⟩)] w λe w'=>e = .returned (.bool (qV r s))/\Below w.heap.size w w':=by
 have h0:=hT.pos;have HT:=hid hT;have tp:=World.block_lt_of_cell? w _ hc;by_cases h:s.size=0
 .obtain rfl:=cZ h;have HF:Hid (qV r eB=false):=hid rfl;rw [HF.out];clear HT hT h HF hs;go_enter func154,ntmps154;go_wp2;go_quiet (fail)
  go_wp2;go_ret;exact ⟨rfl,below_drewN aI _⟩
 have hne:=Ni.bZ (s:=s) (by omega);have cT:=hid (λW (h:Tab W)=>LY s hs W h);have HF:Hid (qV r s=decide (ofP s=r)):=hid (by unfold qV; simp [h]);obtain ⟨T,lg⟩:=aA (ofP s)
 rw [lg] at cT HF;clear lg hT h;go_enter func154,ntmps154;go_wp2_with fail
 refine aD (S:=λw'=>Below w.heap.size w w') (aI.drew) λhld=>?_;refine aj 0 ?_;try simp only [Act.put,au]
 refine aj 1 ?_;try simp only [Act.put,au]
 refine aj 2 ?_;try simp only [Act.put,au]
 refine aj 3 ?_;try simp only [Act.put,au]
 refine aF 5 (λwz hSw=>(hSw.cell (p:=⟨c,0,none⟩) tp).trans hc) ?_;try simp only [Act.put,au]
 refine ak 4 λK hK=>?_;go_simp;go_at_call 153
 (with_reducible refine (cT.out _ (HT.out.below hld h0)).mono ?_)
 rintro e il ⟨rfl,hbx⟩;refine hK.out _ _ (Below.trans hld (hbx.mono hld.size)) λhld=>?_;clear hK K;try simp only [Act.put,au]
 refine aj 6 ?_;try simp only [Act.put,au]
 refine aj 7 ?_;try simp only [Act.put,au]
 refine aj 8 ?_;try simp only [Act.put,au]
 refine aC ?_;go_wp2;go_ret;exact ⟨by rw [HF.out,<-str_eq]; rfl,hld⟩
theorem Jo (r s:aM) (hs:s.size<=900000) (w:World) (hT:Tab w) :
  Calls prog 73 #[.string r,.string s] w λe w'=>e = .returned (.bool (qV r s))/\Below w.heap.size w w':=by
 have h0:=hT.pos;have HM:=hid (EP r w);have H1:=hid (JR w.heap.size r s hs (w.alloc (.cells #[.string r] 9)) (hT.below (al1 _ _) h0) (Qj _ _ _));obtain ⟨F,hF⟩:=aA (qV r s)
 rw [hF] at H1 ⊢;clear hF hT hs;go_enter func73,ntmps73;go_wp2_with fail
 refine HM.out.mono ?_;rintro e w1 ⟨rfl,rfl⟩;go_wp2_with fail
 refine H1.out.mono ?_;rintro e w2 ⟨rfl,hb2⟩;go_wp2;go_ret;exact ⟨rfl,bst (al1 _ _) hb2⟩
end Rf
end
section
open Go.RowKit
namespace No
open Rl Ni
def eD (k:aM):It:=if dH k then .mk false k [] else match dJ k.data.toList with
 | .ok x=>x
 | .error _=>it0
abbrev nX (n:Nd):It:=.mk false ⟨(fG n.p (decide (n.kd=1))).toArray⟩ []
def cB (n:Nd):List It:=if n.kd=3 then n.ks.map eD++[it0] else if n.kd=1 then [nX n,.mk false n.v []] else [nX n,eD (n.ks.getD 0 eB)]
def gN (n:Nd):It:=.mk true ⟨#[]⟩ (cB n)
def gU (n:Nd):aN:=(gN n).bytes
theorem GX (x:It):∀ {d e:Nat},Fits d x->e+x.bytes.length<=65->Fits e x:=by
 induction x using It.ind with
 | h l s xs ih =>
  intro d e h he;have hb:=pO h (by omega);have hb1:=List.length_pos_iff.2 hb;have hless:∀ y∈xs,y.bytes.length<(It.mk l s xs).bytes.length:=λy hy=>qx h (by omega) hy;cases h with
  | mk ha hs hx hy=>exact .mk (by omega) hs hx (λy hm=>ih y hm (hy y hm) (by have:=hless y hm; omega))
theorem QL (xs:List It) (h:∀ y∈xs,y.size<=y.bytes.length):(xs.map It.size).sum<=((xs.map It.bytes).flatten).length:=by
 induction xs with
 | nil=>exact aH
 | cons y ys ih =>
  rw [List.map_cons,List.sum_cons,List.map_cons,List.flatten_cons,List.length_append];have h1:=h y (List.mem_cons_self ..);have h2:=ih (λz hz=>h z (List.mem_cons_of_mem _ hz));omega
theorem sV (x:It):∀ {d:Nat},Fits d x->x.bytes.length<=4294967296->x.size<=x.bytes.length:=by
 induction x using It.ind with
 | h l s xs ih =>
  intro d h hb;have hp:=List.length_pos_iff.2 (pO h hb);have hless:∀ y∈xs,y.bytes.length<(It.mk l s xs).bytes.length:=λy hy=>qx h hb hy;have hle:=QL xs (λy hy=>ih y hy (EC h hy) (by have:=hless y hy; omega));rw [It.size_mk];cases l with
  | true =>
   have h1:=wZ h hb rfl;have h2:=iU (((It.mk true s xs).xs.map It.bytes).flatten).length true;simp only [It.xs] at h1 h2;omega
  | false =>
   cases h with
   | mk ha hs hx hy =>
    rw [hx rfl] at hp ⊢;rw [List.map_nil,List.sum_nil];exact hp
theorem xP {x:It} (h:Fits 0 x) (hb:x.bytes.length<=4294967296) (hk:x.size<=4096):dJ x.bytes = .ok x:=by
 have:=forth x 0 0 [] h hb (by omega);rw [List.append_nil] at this;unfold dJ;rw [this];dsimp only;rw [if_neg (by omega)]
theorem pF (d:Nat) (hd:d<=64) (s:aM):Fits d (.mk false s []):=.mk hd (λe=>by cases e) (λ_=>rfl) (λy hy=>by cases hy)
theorem rz (s:aM) (h:s.size<=4294967296):(It.mk false s []).bytes.length<=9+s.size:=by
 rw [jY s h,List.length_append,dZ];have:=mJ s.size false (by omega);split
 .simp
 .omega
theorem qW (hp:dH k=false) (h:bJ k=true):∃ x n,dJ k.data.toList = .ok x/\eD k=x/\x.l=true/\dO x.xs=some n/\k.size<32/\x.bytes=k.data.toList/\Fits 0 x/\dN bJ n=true:=by
 unfold bJ at h;rw [hp,Bool.false_or,Bool.and_eq_true] at h;have h32:k.size<32:=of_decide_eq_true h.1;obtain ⟨n,hn⟩:=Option.isSome_iff_exists.1 h.2;have hsl:=dZ k;obtain ⟨x,hw,hr,hm⟩:=mF (by omega) hn;obtain ⟨g1,g2,g3⟩:=jy (by omega) hw;refine ⟨x,n,hw,?_,?_,hr,h32,g1,g2,hm⟩
 .unfold eD;rw [hp,hw];rfl
 .refine vJ g2 (λe=>?_);rw [e] at hr;cases hr
theorem lZ (hp:dH k=true):eD k = .mk false k []:=by
 unfold eD;rw [hp];rfl
theorem jV (hp:dH k=true):k.size=0\/k.size=32:=of_decide_eq_true hp
theorem lV {k:aM} (h:bJ k=true):Fits 1 (eD k)/\(eD k).bytes.length<=41:=by
 cases hp:dH k with
 | true =>
  rw [lZ hp];have:=jV hp;have h2:=rz k (by omega);exact ⟨pF 1 (by omega) k,by omega⟩
 | false =>
  obtain ⟨x,n,hw,e,hl,hr,h32,hb,hf,_⟩:=qW hp h;have hsl:=dZ k;rw [e];exact ⟨GX x hf (by rw [hb]; omega),by rw [hb]; omega⟩
theorem CS {k:aM} (h:bJ k=true):jL (eD k)=some k:=by
 cases hp:dH k with
 | true =>
  rw [lZ hp];show (if dH k then some k else none)=some k;rw [hp];rfl
 | false =>
  obtain ⟨x,n,hw,e,hl,hr,h32,hb,hf,_⟩:=qW hp h;have hsl:=dZ k;rw [e];unfold jL;rw [hl,if_pos rfl,if_pos (by rw [hb]; omega),hb]
theorem yR (xs:List It) (m:Nat) (h:∀ y∈xs,y.bytes.length<=m):((xs.map It.bytes).flatten).length<=xs.length*m:=by
 induction xs with
 | nil=>simp
 | cons y ys ih =>
  rw [List.map_cons,List.flatten_cons,List.length_append,List.length_cons,Nat.succ_mul];have h1:=h y (List.mem_cons_self ..);have h2:=ih (λz hz=>h z (List.mem_cons_of_mem _ hz));omega
theorem jH {n:Nd} (h:dN bJ n=true):n.p.length<=64/\dx n.p=true/\kK bJ n=true:=by
 unfold dN at h;rw [Bool.and_eq_true,Bool.and_eq_true] at h;exact ⟨of_decide_eq_true h.1.1,h.1.2,h.2⟩
theorem TP {ks:List aM} (h:(dF ks).all bJ=true):∀ k∈ks,bJ k=true:=by
 intro k hk;by_cases hz:k.size=0
 .unfold bJ dH;simp [hz]
 .exact List.all_eq_true.1 h k (List.mem_filter.2 ⟨hk,by simp; intro e; rw [e] at hz; exact hz rfl⟩)
theorem fM {n:Nd} (_hl:n.ks.length=16) (h:dN bJ n=true) :
  n.kd=1/\n.v.size≠0/\n.v.size<=65552/\(dF n.ks).length=0\/n.kd=2/\0<n.p.length/\n.v.size=0/\(dF n.ks).length=1/\(n.ks.getD 0 eB).size≠0/\bJ (n.ks.getD 0 eB)=true\/n.kd=3/\n.p=[]/\n.v.size=0/\2<=(dF n.ks).length/\∀ k∈n.ks,bJ k=true:=by
 obtain ⟨_,_,h⟩:=jH h;unfold kK at h;by_cases h1:n.kd=1
 .rw [if_pos h1] at h;simp only [Bool.and_eq_true,decide_eq_true_eq] at h;exact .inl ⟨h1,h.1.1,h.1.2,h.2⟩
 .rw [if_neg h1] at h;by_cases h2:n.kd=2
  .rw [if_pos h2] at h;simp only [Bool.and_eq_true,decide_eq_true_eq] at h;exact .inr (.inl ⟨h2,h.1.1.1.1,h.1.1.1.2,h.1.1.2,h.1.2,h.2⟩)
  .rw [if_neg h2] at h;by_cases h3:n.kd=3
   .rw [if_pos h3] at h;simp only [Bool.and_eq_true,decide_eq_true_eq] at h;exact .inr (.inr ⟨h3,List.eq_nil_of_length_eq_zero h.1.1.1,h.1.1.2,h.1.2,TP h.2⟩)
   .rw [if_neg h3] at h; cases h
theorem uz {n:Nd} (hl:n.ks.length=16) (h:dN bJ n=true):∀ y∈cB n,Fits 1 y/\y.bytes.length<=65561:=by
 obtain ⟨g1,g2,g3⟩:=jH h;have hpk:Fits 1 (nX n)/\(nX n).bytes.length<=65561:=by
  have:=nW n.p (decide (n.kd=1));have h2:=rz ⟨(fG n.p (decide (n.kd=1))).toArray⟩ (by omega);exact ⟨pF 1 (by omega) _,Nat.le_trans h2 (by omega)⟩
 rcases fM hl h with ⟨k1,v1,v2,_⟩ | ⟨k1,_,_,_,_,hr⟩ | ⟨k1,_,_,_,hr⟩
 .unfold cB;rw [if_neg (by omega),if_pos k1];intro y hy;rcases List.mem_cons.1 hy with rfl | hy
  .exact hpk
  .rcases List.mem_cons.1 hy with rfl | hy
   .have h2:=rz n.v (by omega);exact ⟨pF 1 (by omega) _,by omega⟩
   .cases hy
 .unfold cB;rw [if_neg (by omega),if_neg (by omega)];intro y hy;rcases List.mem_cons.1 hy with rfl | hy
  .exact hpk
  .rcases List.mem_cons.1 hy with rfl | hy
   .have:=lV hr;exact ⟨this.1,by omega⟩
   .cases hy
 .unfold cB;rw [if_pos k1];intro y hy;rcases List.mem_append.1 hy with hy | hy
  .obtain ⟨k,hk,rfl⟩:=List.mem_map.1 hy;have:=lV (hr k hk);exact ⟨this.1,by omega⟩
  .rcases List.mem_cons.1 hy with rfl | hy
   .have h2:=rz eB (by decide);refine ⟨pF 1 (by omega) _,?_⟩;have:eB.size=0:=rfl;show (It.mk false eB []).bytes.length<=_;omega
   .cases hy
theorem wD {n:Nd} (hl:n.ks.length=16):(cB n).length<=17:=by
 unfold cB;split
 .simp [hl]
 .split <;> simp
theorem Df {n:Nd} (hl:n.ks.length=16) (h:dN bJ n=true):Fits 0 (gN n)/\(gN n).bytes.length<=1200000/\(gN n).size<=4096/\(gU n).length=(gN n).bytes.length:=by
 have hg:=uz hl h;have hf:Fits 0 (gN n):=.mk (by omega) (λ_=>rfl) (λe=>by cases e) (λy hy=>(hg y hy).1);have ez:=wD hl;have hlen:=yR (cB n) 65561 (λy hy=>(hg y hy).2);have hm:(cB n).length*65561<=17*65561:=Nat.mul_le_mul_right _ ez;have hb:(gN n).bytes.length<=1200000:=by
  unfold gN;rw [jB _ (by omega),List.length_append];have:=mJ ((cB n).map It.bytes).flatten.length true (by omega);omega
 refine ⟨hf,hb,?_,rfl⟩;unfold gN;rw [It.size_mk];have:∀ y∈cB n,y.size<=200:=by
  obtain ⟨g1,g2,g3⟩:=jH h;rcases fM hl h with ⟨k1,v1,v2,_⟩ | ⟨k1,_,_,_,_,hr⟩ | ⟨k1,_,_,_,hr⟩
  .unfold cB;rw [if_neg (by omega),if_pos k1];intro y hy;rcases List.mem_cons.1 hy with rfl | hy
   .rw [It.size_mk]; simp
   .rcases List.mem_cons.1 hy with rfl | hy
    .rw [It.size_mk]; simp
    .cases hy
  .unfold cB;rw [if_neg (by omega),if_neg (by omega)];intro y hy;rcases List.mem_cons.1 hy with rfl | hy
   .rw [It.size_mk]; simp
   .rcases List.mem_cons.1 hy with rfl | hy
    .have:=lV hr;have:=sV _ this.1 (by omega);omega
    .cases hy
  .unfold cB;rw [if_pos k1];intro y hy;rcases List.mem_append.1 hy with hy | hy
   .obtain ⟨k,hk,rfl⟩:=List.mem_map.1 hy;have:=lV (hr k hk);have:=sV _ this.1 (by omega);omega
   .rcases List.mem_cons.1 hy with rfl | hy
    .unfold it0; rw [It.size_mk]; simp
    .cases hy
 have hs:((cB n).map It.size).sum<=(cB n).length*200:=by
  generalize cB n=l at this
  induction l with
  | nil=>simp
  | cons y ys ih =>
   rw [List.map_cons,List.sum_cons,List.length_cons,Nat.succ_mul];have h1:=this y (List.mem_cons_self ..);have h2:=ih (λz hz=>this z (List.mem_cons_of_mem _ hz));omega
 have:(cB n).length*200<=17*200:=Nat.mul_le_mul_right _ ez;omega
theorem vR {ks:List aM} (h:(dF ks).length=0):ks=List.replicate ks.length eB:=by
 induction ks with
 | nil=>rfl
 | cons k ks ih =>
  unfold dF at h;rw [List.filter_cons] at h;split at h
  .cases h
  .rename_i hz;simp at hz;rw [List.length_cons,List.replicate_succ,<-ih h];congr 1
theorem Gi {ks:List aM} (hl:ks.length=16) (h:(dF ks).length=1) (h0:(ks.getD 0 eB).size≠0):ks=dR (ks.getD 0 eB):=by
 cases ks with
 | nil=>cases hl
 | cons k ks =>
  have h0':k.size≠0:=h0;unfold dF at h;rw [List.filter_cons,if_pos (by simp; intro e; rw [e] at h0'; exact h0' rfl),List.length_cons] at h;have:=vR (ks:=ks) (by unfold dF; omega);unfold dR;rw [List.length_cons] at hl;rw [show ks.length=15 by omega] at this;rw [this];rfl
theorem Sk {ks:List aM} (h:∀ k∈ks,bJ k=true):kU (ks.map eD)=some ks:=by
 induction ks with
 | nil=>rfl
 | cons k ks ih =>
  rw [List.map_cons];unfold kU;rw [CS (h k (List.mem_cons_self ..)),ih (λz hz=>h z (List.mem_cons_of_mem _ hz))]
theorem JO {n:Nd} (hl:n.ks.length=16) (h:dN bJ n=true):dO (cB n)=some n:=by
 obtain ⟨g1,g2,g3⟩:=jH h;have hsz:=nW n.p (decide (n.kd=1));have hgood:=CQ n.p (decide (n.kd=1)) g2 g1;have mT:=Nr n.p (decide (n.kd=1)) g2;have n8:=Pn n.p (decide (n.kd=1)) g2;obtain ⟨S,hS⟩:=aA (⟨(fG n.p (decide (n.kd=1))).toArray⟩:aM)
 have hpi:nX n = .mk false S []:=by unfold nX; rw [hS]
 rw [hS] at hsz hgood mT n8;rcases fM hl h with ⟨k1,v1,v2,hk⟩ | ⟨k1,hp0,hv,hk,hk0,hr⟩ | ⟨k1,hp,hv,hk,hr⟩
 .have hI:cB n=[.mk false S [],.mk false n.v []]:=by unfold cB; rw [if_neg (by omega),if_pos k1,hpi]
  rw [hI];unfold dO;rw [if_pos (by rfl)];show fA (.mk false S []) (.mk false n.v [])=some n;unfold fA;rw [if_neg (by
   rintro (e | e)
   .have e':S.size=0:=e;omega
   .exact hgood e)]
  show (if iC S=true then some (⟨1,bW S,n.v,zks⟩:Nd) else _)=some n;rw [mT,n8,k1,if_pos (by decide)];have:=vR hk;rw [hl] at this;cases n;simp only at k1 this ⊢;rw [k1,this];rfl
 .have hI:cB n=[.mk false S [],eD (n.ks.getD 0 eB)]:=by unfold cB; rw [if_neg (by omega),if_neg (by omega),hpi]
  rw [hI];unfold dO;rw [if_pos (by rfl)];show fA (.mk false S []) (eD (n.ks.getD 0 eB))=some n;unfold fA;rw [if_neg (by
   rintro (e | e)
   .have e':S.size=0:=e;omega
   .exact hgood e)]
  show (if iC S=true then _ else (jL (eD (n.ks.getD 0 eB))).map λk=>(⟨2,bW S,eB,dR k⟩:Nd))=some n;rw [mT,n8,k1,if_neg (by decide),CS hr,Option.map_some,<-Gi hl hk hk0];have n9:=cZ hv;cases n;simp only at k1 n9 ⊢;rw [k1,n9]
 .have hI:cB n=n.ks.map eD++[it0]:=by unfold cB; rw [if_pos k1]
  rw [hI];unfold dO;have hlen:(n.ks.map eD++[it0]).length=17:=by simp [hl]
  rw [if_neg (by omega),if_pos hlen];unfold dK;rw [List.take_append_of_le_length (by simp [hl]),List.take_of_length_le (by simp [hl]),Sk hr];have e16:(n.ks.map eD++[it0]).getD 16 it0=it0:=by
   rw [List.getD_eq_getElem?_getD,List.getElem?_append_right (by simp [hl])];simp [hl]
  rw [e16];dsimp only;rw [if_pos ⟨rfl,rfl⟩];have n9:=cZ hv;cases n;simp only at k1 n9 hp ⊢;rw [k1,n9,hp]
theorem get_put {n:Nd} (hl:n.ks.length=16) (h:dN bJ n=true):fE (gU n)=some n:=by
 obtain ⟨f1,f2,f3,_⟩:=Df hl h;unfold gU;rw [qz _ (by omega),xP f1 (by omega) f3];dsimp only;rw [show (gN n).xs=cB n from rfl,JO hl h];dsimp only;rw [h];rfl
theorem vk {d:Nat} {x:It} (h:Fits d x) (hs:x.s.size≠0):x = .mk false x.s []:=by
 cases h with
 | mk ha hs' hx hy =>
  rename_i l s xs;cases l with
  | true =>
   rw [hs' rfl] at hs;exact absurd rfl hs
  | false=>rw [hx rfl]; rfl
theorem AU {d:Nat} {x:It} (h:Fits d x) (hl:x.l=false):x = .mk false x.s []:=by
 cases h with
 | mk ha hs' hx hy =>
  rename_i l s xs;obtain rfl:l=false:=hl;rw [hx rfl];rfl
theorem Dq {x:It} {k:aM} (hf:Fits 0 x) (hk:x.size<=4096) (hb:x.bytes.length<=4294967296) (h:jL x=some k):eD k=x:=by
 unfold jL at h;cases hl:x.l with
 | true =>
  rw [hl,if_pos rfl] at h;split at h
  .rename_i h32;obtain rfl:=Option.some.inj h;have hp:=List.length_pos_iff.2 (pO hf hb);have hpl:dH ⟨x.bytes.toArray⟩=false:=by
    unfold dH;rw [dM];exact decide_eq_false (by omega)
   unfold eD;rw [hpl];show (match dJ x.bytes with | .ok x=>x | .error _=>it0)=x;rw [xP hf hb hk]
  .cases h
 | false =>
  rw [hl,if_neg (by simp)] at h;split at h
  .rename_i hp;obtain rfl:=Option.some.inj h;rw [lZ hp];exact (AU hf hl).symm
  .cases h
theorem JV {xs:List It} {ks:List aM} (hg:∀ x∈xs,Fits 0 x/\x.size<=4096/\x.bytes.length<=4294967296) (h:kU xs=some ks):ks.map eD=xs:=by
 induction xs generalizing ks with
 | nil=>obtain rfl:=Option.some.inj h; rfl
 | cons x xs ih =>
  unfold kU at h;split at h
  .cases h
  .rename_i k hk;split at h
   .cases h
   .rename_i ks' hks;obtain rfl:=Option.some.inj h;obtain ⟨g1,g2,g3⟩:=hg x (List.mem_cons_self ..);rw [List.map_cons,Dq g1 g2 g3 hk,ih (λy hy=>hg y (List.mem_cons_of_mem _ hy)) hks]
theorem JQ {xs:List It} {n:Nd} (hg:∀ x∈xs,Fits 0 x/\x.size<=4096/\x.bytes.length<=4294967296) (h:dO xs=some n) (hv:n.kd=1->n.v.size≠0):cB n=xs:=by
 unfold dO at h;by_cases h2:xs.length=2
 .rw [if_pos h2] at h;obtain ⟨x0,x1,rfl⟩:∃ x0 x1,xs=[x0,x1]:=by
   match xs,h2 with
   | [x0,x1],_=>exact ⟨x0,x1,rfl⟩
  have h':fA x0 x1=some n:=h;have g0:=hg x0 (List.mem_cons_self ..);have g1:=hg x1 (List.mem_cons_of_mem _ (List.mem_cons_self ..));unfold fA at h';split at h'
  .cases h'
  .rename_i hnb;have hs0:x0.s.size≠0:=λe=>hnb (.inl e);have hx0:=vk g0.1 hs0;have hup:=unpack_pack x0.s (by omega) (λe=>hnb (.inr e));split at h'
   .rename_i hlf;obtain rfl:=Option.some.inj h';rw [hlf] at hup;have hx1:=vk g1.1 (hv rfl);unfold cB nX;rw [if_neg (show ¬ (1:Int)=3 by decide),if_pos rfl];show [It.mk false ⟨(fG (bW x0.s) true).toArray⟩ [],It.mk false x1.s []]=[x0,x1]
    rw [hup,<-hx0,<-hx1]
   .rename_i hlf;obtain ⟨k,hk,rfl⟩:=Option.map_eq_some_iff.1 h';have IO:iC x0.s=false:=by simpa using hlf
    rw [IO] at hup;unfold cB nX;rw [if_neg (show ¬ (2:Int)=3 by decide),if_neg (show ¬ (2:Int)=1 by decide)];show [It.mk false ⟨(fG (bW x0.s) false).toArray⟩ [],eD k]=[x0,x1]
    rw [hup,<-hx0,Dq g1.1 g1.2.1 g1.2.2 hk]
 .rw [if_neg h2] at h;split at h
  .rename_i cY;unfold dK at h;split at h
   .cases h
   .rename_i ks hks;split at h
    .rename_i hend;obtain rfl:=Option.some.inj h;have hm:=JV (λx hx=>hg x (List.mem_of_mem_take hx)) hks;unfold cB;rw [if_pos rfl];show ks.map eD++[it0]=xs;rw [hm];have hx16:xs[16]? = some (xs.getD 16 it0):=by
      rw [List.getD_eq_getElem?_getD,List.getElem?_eq_getElem (by omega)];rfl
     have g16:=hg _ (List.mem_of_getElem? hx16);have e16:=AU g16.1 hend.1;rw [cZ hend.2] at e16;have ht:xs=xs.take 16++[xs.getD 16 it0]:=by
      have h1:xs.take 17=xs.take 16++(xs[16]?).toList:=List.take_add_one;rw [List.take_of_length_le (by omega),hx16] at h1;exact h1
     rw [e16] at ht;exact ht.symm
    .cases h
  .cases h
theorem Pj {s:aN} (hs:s.length<=1000000) {n:Nd} (h:fE s=some n):dJ s = .ok (gN n)/\gU n=s/\dN bJ n=true/\n.ks.length=16:=by
 obtain ⟨x,hw,hr,hm⟩:=mF (by omega) h;obtain ⟨g1,g2,g3⟩:=jy (by omega) hw;have hl:=(Bg hr).1;have hg:∀ y∈x.xs,Fits 0 y/\y.size<=4096/\y.bytes.length<=4294967296:=by
  intro y hy;have h1:=qx g2 (by rw [g1]; omega) hy;rw [g1] at h1;obtain ⟨i,hi⟩:=List.getElem?_of_mem hy;have h3:=vQ x.xs i y hi;have h4:x.size=1+(x.xs.map It.size).sum:=by cases x; exact It.size_mk _ _ _
  exact ⟨Dp y (EC g2 hy) (Nat.zero_le _),by omega,by omega⟩
 have he:=JQ hg hr (λk1=>by
  rcases fM hl hm with ⟨_,v,_⟩ | ⟨k2,_⟩ | ⟨k3,_⟩
  .exact v
  .omega
  .omega)
 have hxl:=vJ g2 (λe=>by rw [e] at hr; cases hr);have hx:x=gN n:=by
  unfold gN;rw [he];cases g2 with
  | mk ha hs' hx hy =>
   rename_i l t xs;obtain rfl:l=true:=hxl;rw [hs' rfl];rfl
 rw [<-hx];refine ⟨hw,?_,hm,hl⟩;unfold gU;rw [<-hx];exact g1
end No
end
section
namespace Tr
open Rf Rl Ni No
def iK (n:Nd):aM:=⟨(gU n).toArray⟩
def iJ (f:Fin 16->aM):List aM:=(List.finRange 16).map f
def ref:T->aM
 | .nil=>eB
 | .leaf p v=>ofP (iK ⟨1,p,v,zks⟩)
 | .ext q t=>ofP (iK ⟨2,q,eB,dR (ref t)⟩)
 | .br ks=>ofP (iK ⟨3,[],eB,iJ λi=>ref (ks i)⟩)
 | .stub r=>r
def bV:T->Nd
 | .nil=>nd0
 | .leaf p v=>⟨1,p,v,zks⟩
 | .ext q t=>⟨2,q,eB,dR (ref t)⟩
 | .br ks=>⟨3,[],eB,iJ λi=>ref (ks i)⟩
 | .stub _=>nd0
def dP:T->aM
 | .nil=>eB
 | .stub _=>eB
 | t=>iK (bV t)
def gK:T->Prop
 | .stub _=>True
 | _=>False
theorem yK {t:T} (h:¬ gK t):ref t=ofP (dP t):=by
 cases t with
 | stub r=>exact absurd trivial h
 | nil=>rfl
 | leaf p v=>rfl
 | ext q t=>rfl
 | br ks=>rfl
theorem lS {t:T} (h:Full t):¬ gK t:=by
 cases t with
 | stub r=>exact h.elim
 | _=>exact id
theorem oV (f:Fin 16->aM):(iJ f).length=16:=by simp [iJ]
theorem ig (t:T):(bV t).ks.length=16:=by
 cases t with
 | nil=>rfl
 | leaf p v=>rfl
 | ext q t=>exact gB _
 | br ks=>exact oV _
 | stub r=>rfl
theorem zA {p:Pa} (h:Nib p):dx p=true:=by
 unfold dx;rw [List.all_eq_true];intro c hc;have:=h c hc;exact aK (by omega)
def Fine:T->Prop
 | .nil=>True
 | .leaf _ v=>v.size≠0/\v.size<=65552
 | .ext _ t=>Fine t
 | .br ks=>∀ i,Fine (ks i)
 | .stub r=>bJ r=true/\r.size≠0
theorem DF (n:Nd):(iK n).size=(gU n).length:=by
 show (gU n).toArray.size=_;simp
theorem Ct (n:Nd):(iK n).data.toList=gU n:=by
 show (gU n).toArray.toList=_;simp
theorem put_pos {n:Nd} (hl:n.ks.length=16) (h:dN bJ n=true):0<(gU n).length:=by
 have:=No.get_put hl h;rcases Nat.eq_zero_or_pos (gU n).length with h0 | h0
 .have:=Us (s:=gU n) (by omega) this;omega
 .exact h0
theorem Eu {n:Nd} (hl:n.ks.length=16) (h:dN bJ n=true):bJ (ofP (iK n))=true/\(ofP (iK n)).size≠0:=by
 have hp:=put_pos hl h;have hs:=DF n;unfold ofP;by_cases h32:(iK n).size<32
 .rw [if_pos h32];refine ⟨?_,by omega⟩;unfold bJ;rw [Ct,No.get_put hl h,aK h32];simp
 .rw [if_neg h32];have hz:(⟨(mK (iK n)).toArray⟩:aM).size=32:=by
   have:(⟨(mK (iK n)).toArray⟩:aM).size=(mK (iK n)).length:=by show (mK (iK n)).toArray.size=_; simp
   rw [this,mQ]
  refine ⟨?_,by omega⟩;unfold bJ;rw [show dH _=true from aK (.inr hz)];rfl
theorem Nw:(dF zks).length=0:=by decide +kernel
theorem MC (h:k.size≠0):dF (dR k)=[k]:=by
 have hz:dF (List.replicate 15 eB)=[]:=by decide +kernel
 have:dF (k::List.replicate 15 eB)=k::dF (List.replicate 15 eB):=by
  unfold dF;rw [List.filter_cons_of_pos (by simpa using h)]
 show dF (k::List.replicate 15 eB)=_;rw [this,hz]
theorem Mk {f:Fin 16->aM} {i j:Fin 16} (hij:i≠j) (hi:(f i).size≠0) (hj:(f j).size≠0):2<=(dF (iJ f)).length:=by
 unfold dF iJ;rw [List.filter_map,List.length_map];have hnd:((List.finRange 16).filter ((λk:aM=>decide (k.size≠0)) ∘ f)).Nodup:=(List.nodup_finRange 16).filter _;have mi:i∈(List.finRange 16).filter ((λk:aM=>decide (k.size≠0)) ∘ f):=List.mem_filter.2 ⟨List.mem_finRange i,aK hi⟩;have mj:j∈(List.finRange 16).filter ((λk:aM=>decide (k.size≠0)) ∘ f):=List.mem_filter.2 ⟨List.mem_finRange j,aK hj⟩
 match hk:(List.finRange 16).filter ((λk:aM=>decide (k.size≠0)) ∘ f) with
 | []=>rw [hk] at mi; cases mi
 | [a] =>
  rw [hk] at mi mj;exact absurd ((List.mem_singleton.1 mi).trans (List.mem_singleton.1 mj).symm) hij
 | a::b::l=>simp
theorem OP {f:Fin 16->aM} {R:aM->Bool} (h:∀ i,(f i).size≠0->R (f i)=true):(dF (iJ f)).all R=true:=by
 rw [List.all_eq_true];intro k hk;obtain ⟨h1,h2⟩:=List.mem_filter.1 hk;obtain ⟨i,_,rfl⟩:=List.mem_map.1 h1;exact h i (of_decide_eq_true h2)
theorem iM:∀ (t:T) (L:Nat),Good t L->L<=64->Fine t->t ≠ .nil->(¬ gK t->dN bJ (bV t)=true)/\bJ (ref t)=true/\(ref t).size≠0
 | .nil,_,_,_,_,h=>absurd rfl h
 | .leaf p v,L,g,hL,hf,_=>by
  have hm:dN bJ ⟨1,p,v,zks⟩=true:=by
   unfold dN kK;rw [aK (show (⟨1,p,v,zks⟩:Nd).p.length<=64 from by show p.length<=64; rw [g.1]; exact hL),zA (show Nib (⟨1,p,v,zks⟩:Nd).p from g.2),if_pos rfl,
    aK (show (⟨1,p,v,zks⟩:Nd).v.size≠0 from hf.1),aK (show (⟨1,p,v,zks⟩:Nd).v.size<=65552 from hf.2),aK (show (dF (⟨1,p,v,zks⟩:Nd).ks).length=0 from Nw)]
   rfl
  exact ⟨λ_=>hm,Eu rfl hm⟩
 | .ext q t,L,g,hL,hf,_=>by
  obtain ⟨g1,g2,g3,g4,g5⟩:=g;obtain ⟨_,h2,h3⟩:=iM t _ g5 (by omega) hf (qy g4);have hm:dN bJ ⟨2,q,eB,dR (ref t)⟩=true:=by
   unfold dN kK;rw [aK (show (⟨2,q,eB,dR (ref t)⟩:Nd).p.length<=64 from by show q.length<=64; omega),zA (show Nib (⟨2,q,eB,dR (ref t)⟩:Nd).p from g2),if_neg (show ¬ (⟨2,q,eB,dR (ref t)⟩:Nd).kd=1 by show ¬ ((2:Int)=1); decide),if_pos rfl,
    aK (show 0<(⟨2,q,eB,dR (ref t)⟩:Nd).p.length from List.length_pos_iff.2 g1),aK (show (⟨2,q,eB,dR (ref t)⟩:Nd).v.size=0 from rfl),
    aK (show (dF (⟨2,q,eB,dR (ref t)⟩:Nd).ks).length=1 from by show (dF (dR (ref t))).length=1; rw [MC h3]; rfl),
    aK (show ((⟨2,q,eB,dR (ref t)⟩:Nd).ks.getD 0 eB).size≠0 from h3),show bJ ((⟨2,q,eB,dR (ref t)⟩:Nd).ks.getD 0 eB)=true from h2]
   rfl
  exact ⟨λ_=>hm,Eu (gB _) hm⟩
 | .br ks,L,g,hL,hf,_=>by
  obtain ⟨g1,⟨i,j,hij,hi,hj⟩,g3⟩:=g;have hk:∀ i,(ref (ks i)).size≠0->bJ (ref (ks i))=true:=λi h=>by
   refine (iM (ks i) _ (g3 i) (by omega) (hf i) (λe=>h ?_)).2.1;rw [e]; rfl
  have hm:dN bJ ⟨3,[],eB,iJ λi=>ref (ks i)⟩=true:=by
   unfold dN kK;rw [aK (show (⟨3,[],eB,iJ λi=>ref (ks i)⟩:Nd).p.length<=64 from Nat.zero_le _),zA (show Nib (⟨3,[],eB,iJ λi=>ref (ks i)⟩:Nd).p from .nil),if_neg (show ¬ (⟨3,[],eB,iJ λi=>ref (ks i)⟩:Nd).kd=1 by show ¬ ((3:Int)=1); decide),if_neg (show ¬ (⟨3,[],eB,iJ λi=>ref (ks i)⟩:Nd).kd=2 by show ¬ ((3:Int)=2); decide),if_pos rfl,
    aK (show (⟨3,[],eB,iJ λi=>ref (ks i)⟩:Nd).p.length=0 from rfl),aK (show (⟨3,[],eB,iJ λi=>ref (ks i)⟩:Nd).v.size=0 from rfl),
    aK (show 2<=(dF (⟨3,[],eB,iJ λi=>ref (ks i)⟩:Nd).ks).length from Mk (f:=λi=>ref (ks i)) hij (iM (ks i) _ (g3 i) (by omega) (hf i) hi).2.2 (iM (ks j) _ (g3 j) (by omega) (hf j) hj).2.2),
    show (dF (⟨3,[],eB,iJ λi=>ref (ks i)⟩:Nd).ks).all bJ=true from OP hk]
   rfl
  exact ⟨λ_=>hm,Eu (oV _) hm⟩
 | .stub r,_,_,_,hf,_=>⟨λh=>absurd trivial h,hf⟩
theorem wR {s:Pa} {t:T} (h:Fine t):Fine (wrap s t):=by
 unfold wrap;split
 .exact h
 .exact h
theorem Iw {i j:Fin 16} {a b:T} (ha:Fine a) (hb:Fine b):Fine (two i j a b):=λk=>by
 dsimp only;split
 .exact ha
 .split
  .exact hb
  .trivial
theorem zL:∀ (t:T),Fine t->∀ (p:Pa) (v:aM),v.size≠0->v.size<=65552->Fine (put t p v)
 | .nil,_,_,v,h1,h2=>⟨h1,h2⟩
 | .leaf q u,f,p,v,h1,h2=>by
  unfold put;split
  .exact ⟨h1,h2⟩
  .unfold fork; exact wR (Iw f ⟨h1,h2⟩)
 | .ext q t,f,p,v,h1,h2=>by
  unfold put;split
  .exact zL t f _ v h1 h2
  .unfold fork; exact wR (Iw (wR f) ⟨h1,h2⟩)
 | .br ks,f,p,v,h1,h2=>by
  cases p with
  | nil=>exact f
  | cons c r =>
   intro k;dsimp only;split
   .exact zL (ks k) (f k) r v h1 h2
   .exact f k
 | .stub _,f,_,_,_,_=>f
end Tr
end
section
namespace Tr
open Rf Rl Ni No
abbrev Key:=aN
abbrev Pair:=Key × aM
def path (k:Key):Pa:=fJ ⟨k.toArray⟩
theorem iR (k:Key):(path k).length=2*k.length:=by
 unfold path;rw [dW];rfl
theorem Er {p:Pa} (h:dx p=true):Nib p:=λc hc=>by
 unfold dx at h;have:=of_decide_eq_true (List.all_eq_true.1 h c hc);omega
theorem qj (k:Key):Nib (path k):=Er (ow _)
theorem SS {k k':Key} (hl:k.length=k'.length) (h:path k=path k'):k=k':=by
 have h1:=tV ⟨k.toArray⟩;have h2:=tV ⟨k'.toArray⟩;have e1:(⟨k.toArray⟩:aM).size=k.length:=by show k.toArray.size=_; simp
 have e2:(⟨k'.toArray⟩:aM).size=k'.length:=by show k'.toArray.size=_; simp
 rw [e1] at h1;rw [e2] at h2;unfold path at h;rw [h,hl,h2] at h1;simpa using h1.symm
structure Has (t:T) (m:Key->Option aM):Prop where
 good:Good t 64
 full:Full t
 fine:Fine t
 get:∀ k:Key,k.length=32->get t (path k)=some (m k)
theorem Has.nil:Has .nil (λ_=>none):=⟨trivial,trivial,trivial,λ_ _=>rfl⟩
theorem Has.put {t:T} {m:Key->Option aM} (h:Has t m) {k:Key} (hk:k.length=32) {v:aM} (h1:v.size≠0) (h2:v.size<=65552):Has (put t (path k) v) (λx=>if x=k then some v else m x):=by
 have hl:(path k).length=64:=by rw [iR]; omega
 refine ⟨AO t 64 h.good _ v hl (qj k),zC t h.full _ v,zL t h.fine _ v h1 h2,λx hx=>?_⟩;rw [Tr.get_put t 64 h.good _ v hl (qj k) (by rw [h.get k hk]; intro e; cases e) (path x) (by rw [iR]; omega) (qj x),h.get x hx];by_cases e:x=k
 .subst e; rw [if_pos rfl,if_pos rfl]
 .rw [if_neg e,if_neg (λh=>e (SS (by omega) h))]
theorem Has.congr {t:T} {m m':Key->Option aM} (h:Has t m) (e:∀ k:Key,k.length=32->m k=m' k):Has t m':=⟨h.good,h.full,h.fine,λk hk=>by rw [h.get k hk,e k hk]⟩
def oO:List Pair->Key->Option aM
 | [],_=>none
 | x::r,k=>match oO r k with
  | some v=>some v
  | none=>if x.1=k then some x.2 else none
theorem CZ:∀ (l:List Pair) (x:Pair) (k:Key),oO (l++[x]) k=if k=x.1 then some x.2 else oO l k
 | [],x,k=>by
  by_cases e:k=x.1
  .simp [oO,e]
  .have:¬ x.1=k:=λh=>e h.symm;simp [oO,e,this]
 | y::l,x,k=>by
  show oO (y::(l++[x])) k=_;have e1:oO (y::(l++[x])) k=match oO (l++[x]) k with
   | some v=>some v
   | none=>if y.1=k then some y.2 else none:=rfl
  rw [e1,CZ l x k];by_cases e:k=x.1
  .rw [if_pos e,if_pos e]
  .rw [if_neg e,if_neg e];rfl
def dV (t:T) (l:List Pair):T:=l.foldl (λt x=>put t (path x.1) x.2) t
theorem xX (t:T) (l:List Pair) (x:Pair):dV t (l++[x])=put (dV t l) (path x.1) x.2:=by
 unfold dV;rw [List.foldl_append];rfl
theorem LD:∀ (n:Nat) (l:List Pair),l.length=n->(∀ x∈l,x.1.length=32)->(∀ x∈l,x.2.size≠0/\x.2.size<=65552)->Has (dV .nil l) (oO l)
 | 0,l,hl,_,_=>by
  obtain rfl:=List.eq_nil_of_length_eq_zero hl;exact Has.nil
 | n+1,l,hl,h,hv=>by
  have hne:l≠[]:=λe=>by rw [e] at hl; cases hl
  obtain ⟨r,x,rfl⟩:∃ r x,l=r++[x]:=⟨l.dropLast,l.getLast hne,(List.dropLast_concat_getLast hne).symm⟩
  rw [List.length_append,List.length_singleton] at hl;have ih:=LD n r (by omega) (λy hy=>h y (List.mem_append_left _ hy)) (λy hy=>hv y (List.mem_append_left _ hy));have hx:=h x (by simp);have R2:=hv x (by simp);rw [xX];exact (ih.put hx R2.1 R2.2).congr (λk _=>(CZ r x k).symm)
end Tr
end
section
namespace Tr
open Rf Rl Ni No
def zN:T->List T
 | .ext _ t=>[t]
 | .br ks=>(fD ks).map ks
 | _=>[]
theorem GL {t:T} (g:Good t L) (hL:L<=64) (f:Fine t):(ref t).size≠0↔t ≠ .nil:=by
 constructor
 .rintro h rfl; exact h rfl
 .intro h; exact (iM t L g hL f h).2.2
theorem qY (f:Fin 16->aM) (i:Fin 16):(iJ f).getD i.val eB=f i:=by
 have hi:=i.isLt;unfold iJ;rw [List.getD_eq_getElem?_getD,List.getElem?_map,List.getElem?_eq_getElem (by simp)];simp
end Tr
end
section
namespace Tr
open Rf Rl Ni No
end Tr
end
section
namespace Tr
open Rf Rl Ni No
abbrev pX:=Option (Option aM) × Nat
def onward (n:Nd) (p:Pa):aM × Pa :=
 if n.kd=2/\n.p<+:p then (n.ks.getD 0 eB,p.drop n.p.length)
 else if n.kd=3 then (match p with
  | []=>(eB,[])
  | c::r=>(n.ks.getD c.toNat eB,r))
 else (eB,p)
def jc (l:List aM):Nat->aM->Pa->Nat->Bool->pX
 | 0,_,_,_,_=>(none,0)
 | s+1,enc,p,used,ext =>
  match fE enc.data.toList with
  | none=>(none,used)
  | some n =>
   if ext=true/\n.kd≠3 then (none,used) else
   if (onward n p).1.size=0 then (if used≠l.length then none else some (if n.kd=1/\n.p=(onward n p).2 then some n.v else none),used) else
   if (onward n p).1.size<32 then jc l s (onward n p).1 (onward n p).2 used (decide (n.kd=2)) else
   if used<l.length/\(l.getD used eB).size≠0/\ofP (l.getD used eB)=(onward n p).1 then jc l s (l.getD used eB) (onward n p).2 (used+1) (decide (n.kd=2)) else (none,used)
theorem Dh (h:(ofP x).size<32):ofP x=x:=by
 by_cases hs:x.size<32
 .unfold ofP; rw [if_pos hs]
 .unfold ofP at h;rw [if_neg hs] at h;have:(⟨(mK x).toArray⟩:aM).size=(mK x).length:=by show (mK x).toArray.size=_; simp
  rw [this,mQ] at h;omega
theorem UK (h:¬ (ofP x).size<32):32<=x.size/\ofP x=⟨(mK x).toArray⟩:=by
 by_cases hs:x.size<32
 .exfalso;apply h;unfold ofP;rw [if_pos hs];exact hs
 .refine ⟨by omega,?_⟩;unfold ofP;rw [if_neg hs]
theorem Ak {t:T} {L:Nat} (g:Good t L) (hL:L<=64) (f:Fine t) (hn:t ≠ .nil) (hs:¬ gK t):fE (dP t).data.toList=some (bV t):=by
 have hm:=(iM t L g hL f hn).1 hs;have e:dP t=iK (bV t):=by
  cases t with
  | nil=>exact absurd rfl hn
  | stub r=>exact absurd trivial hs
  | leaf p v=>rfl
  | ext q t=>rfl
  | br ks=>rfl
 rw [e,Ct];exact No.get_put (ig t) hm
end Tr
end
section
namespace Tr
open Rf Rl Ni No
def kZ:T->Pa->List aM
 | .nil,_=>[]
 | .leaf q v,_=>[dP (.leaf q v)]
 | .ext q t,p=>dP (.ext q t)::(if q<+:p then kZ t (p.drop q.length) else [])
 | .br ks,p=>dP (.br ks)::(match p with
  | []=>[]
  | c::r=>kZ (ks (nb c)) r)
 | .stub _,_=>[]
def pI (l:List aM):List aM:=l.filter λx=>decide (32<=x.size)
def tH (t:T) (p:Pa):List aM :=
 match kZ t p with
 | []=>[]
 | x::r=>x::pI r
theorem xH {t:T} (hn:t ≠ .nil) (hs:¬ gK t) (p:Pa):∃ r,kZ t p=dP t::r:=by
 cases t with
 | nil=>exact absurd rfl hn
 | stub r=>exact absurd trivial hs
 | leaf q v=>exact ⟨_,rfl⟩
 | ext q t=>exact ⟨_,rfl⟩
 | br ks=>cases p <;> exact ⟨_,rfl⟩
theorem Ob (x:aM) (l:List aM):pI (x::l)=if 32<=x.size then x::pI l else pI l:=by
 unfold pI;by_cases h:32<=x.size
 .rw [if_pos h,List.filter_cons_of_pos (by simpa using h)]
 .rw [if_neg h,List.filter_cons_of_neg (by simpa using h)]
theorem drop_cons {α:Type} {l:List α} {n:Nat} {x : α} {r:List α} (h:l.drop n=x::r):∃ hn:n<l.length,l[n]=x/\l.drop (n+1)=r:=by
 have hn:n<l.length:=by
  rcases Nat.lt_or_ge n l.length with g | g
  .exact g
  .rw [List.drop_eq_nil_of_le g] at h; cases h
 rw [List.drop_eq_getElem_cons hn] at h;obtain ⟨h1,h2⟩:=List.cons.inj h;exact ⟨hn,h1,h2⟩
theorem drop_nil {α:Type} {l:List α} {n:Nat} (h:l.drop n=[]) (hn:n<=l.length):n=l.length:=by
 have:=List.drop_eq_nil_iff.1 h;omega
theorem La (l:List aM) (s:Nat) (k:T) (r:Pa) (used:Nat) (e:Bool) (hn:k ≠ .nil) (hst:¬ gK k) (hd:l.drop used=pI (kZ k r)) (hu:used<=l.length)
  (ih:∀ u,u<=l.length->l.drop u=pI ((kZ k r).drop 1)->∃ a,get k r=some a/\jc l s (dP k) r u e=(some a,l.length)) :
  ∃ a,get k r=some a/\(if (ofP (dP k)).size<32 then jc l s (ofP (dP k)) r used e else
   if used<l.length/\(l.getD used eB).size≠0/\ofP (l.getD used eB)=ofP (dP k) then jc l s (l.getD used eB) r (used+1) e else (none,used))=(some a,l.length):=by
 obtain ⟨w,hw⟩:=xH hn hst r;rw [hw] at hd ih;rw [Ob] at hd;rw [List.drop_succ_cons,List.drop_zero] at ih;by_cases h32:(ofP (dP k)).size<32
 .rw [if_pos h32,Dh h32];rw [Dh h32] at h32;rw [if_neg (by omega)] at hd;exact ih used hu hd
 .rw [if_neg h32];have hb:=(UK h32).1;rw [if_pos hb] at hd;obtain ⟨h1,h2,h3⟩:=drop_cons hd;have e1:l.getD used eB=dP k:=by rw [List.getD_eq_getElem?_getD,List.getElem?_eq_getElem h1]; exact h2
  rw [e1,if_pos ⟨h1,by omega,rfl⟩];exact ih (used+1) h1 h3
theorem wE (l:List aM):∀ (t:T) (L s:Nat) (p:Pa) (used:Nat) (ext:Bool),Good t L->L<=64->Full t->Fine t->t ≠ .nil->p.length=L->Nib p->L<s->(ext=true->Nu t)->used<=l.length->l.drop used=pI ((kZ t p).drop 1)->
  ∃ a,get t p=some a/\jc l s (dP t) p used ext=(some a,l.length)
 | t,L,0,p,used,ext,_,_,_,_,_,_,_,hs,_,_,_=>absurd hs (Nat.not_lt_zero _)
 | .nil,_,_+1,_,_,_,_,_,_,_,hn,_,_,_,_,_,_=>absurd rfl hn
 | .stub _,_,_+1,_,_,_,_,_,hf,_,_,_,_,_,_,_,_=>absurd hf id
 | .leaf q v,L,s+1,p,used,ext,g,hL,hf,f,hn,hp,hnp,hs,he,hu,hd=>by
  have ho:onward (bV (.leaf q v)) p=(eB,p):=by
   unfold onward;rw [if_neg (λe=>absurd (show (1:Int)=2 from e.1) (by decide)),if_neg (show ¬ (bV (.leaf q v)).kd=3 from λe=>absurd (show (1:Int)=3 from e) (by decide))]
  have s6:used=l.length:=drop_nil hd hu;have hext:¬ (ext=true/\(bV (.leaf q v)).kd≠3):=λe=>he e.1;refine ⟨if q=p then some v else none,rfl,?_⟩;unfold jc;rw [Ak g hL f hn (lS hf)];dsimp only;rw [if_neg hext,ho,if_pos (show eB.size=0 from rfl),if_neg (λe=>e s6),s6];by_cases e:q=p
  .rw [if_pos e,if_pos (show (bV (.leaf q v)).kd=1/\(bV (.leaf q v)).p=p from ⟨rfl,e⟩)]; rfl
  .rw [if_neg e,if_neg (show ¬ ((bV (.leaf q v)).kd=1/\(bV (.leaf q v)).p=p) from λk=>e k.2)]
 | .ext q t,L,s+1,p,used,ext,g,hL,hf,f,hn,hp,hnp,hs,he,hu,hd=>by
  have hgt:=Ak g hL f hn (lS hf);obtain ⟨g1,g2,g3,g4,g5⟩:=g;have hnt:=qy g4;have hst:¬ gK t:=lS hf;have href:=(iM t _ g5 (by omega) f hnt).2;have hext:¬ (ext=true/\(bV (.ext q t)).kd≠3):=λe=>he e.1;have hq:=List.length_pos_iff.2 g1;unfold jc;rw [hgt];dsimp only;rw [if_neg hext];by_cases e:q<+:p
  .have ho:onward (bV (.ext q t)) p=(ref t,p.drop q.length):=by
    unfold onward;rw [if_pos ⟨rfl,e⟩];rfl
   obtain ⟨p1,rfl⟩:=e;rw [List.length_append] at hp;have hd2:l.drop used=pI (kZ t p1):=by
    rw [hd];show pI (if q<+:q++p1 then kZ t ((q++p1).drop q.length) else [])=_;rw [if_pos (List.prefix_append _ _),List.drop_left]
   rw [ho,List.drop_left,qp];dsimp only;rw [if_neg href.2,yK hst];exact La l s t p1 used _ hnt hst hd2 hu (λu h1 h2=>wE l t _ s p1 u _ g5 (by omega) hf f hnt (by omega) hnp.right (by omega) (λ_=>g4) h1 h2)
  .have ho:onward (bV (.ext q t)) p=(eB,p):=by
    unfold onward;rw [if_neg (λk=>e k.2),if_neg (show ¬ (bV (.ext q t)).kd=3 from λe=>absurd (show (2:Int)=3 from e) (by decide))]
   have hd2:l.drop used=[]:=by
    rw [hd];show pI (if q<+:p then kZ t (p.drop q.length) else [])=_;rw [if_neg e];rfl
   have s6:used=l.length:=drop_nil hd2 hu;refine ⟨none,mU _ e,?_⟩;rw [ho,if_pos (show eB.size=0 from rfl),if_neg (λe=>e s6),s6,if_neg (show ¬ ((bV (.ext q t)).kd=1/\(bV (.ext q t)).p=p) from λk=>absurd (show (2:Int)=1 from k.1) (by decide))]
 | .br ks,L,s+1,p,used,ext,g,hL,hf,f,hn,hp,hnp,hs,he,hu,hd=>by
  have hgt:=Ak g hL f hn (lS hf);have h0:=g.1;have hext:¬ (ext=true/\(bV (.br ks)).kd≠3):=λe=>e.2 rfl;unfold jc;rw [hgt];dsimp only;rw [if_neg hext];cases p with
  | nil=>simp at hp; omega
  | cons c r =>
   rw [List.length_cons] at hp;have hcl:=hnp.head;have ho:onward (bV (.br ks)) (c::r)=(ref (ks (nb c)),r):=by
    unfold onward;rw [if_neg (λe=>absurd (show (3:Int)=2 from e.1) (by decide)),if_pos (show (bV (.br ks)).kd=3 from rfl)];have:=qY (λi=>ref (ks i)) (nb c);have e:(nb c).val=c.toNat:=Nat.mod_eq_of_lt hcl;rw [e] at this;show ((iJ λi=>ref (ks i)).getD c.toNat eB,r)=_;rw [this]
   have hd2:l.drop used=pI (kZ (ks (nb c)) r):=hd;rw [ho];dsimp only;show ∃ a,get (ks (nb c)) r=some a/\_;by_cases hz:ks (nb c) = .nil
   .rw [hz] at hd2 ⊢;have s6:used=l.length:=drop_nil hd2 hu;refine ⟨none,rfl,?_⟩;rw [if_pos (show (ref .nil).size=0 from rfl),if_neg (λe=>e s6),s6,if_neg (show ¬ ((bV (.br ks)).kd=1/\(bV (.br ks)).p=r) from λk=>absurd (show (3:Int)=1 from k.1) (by decide))]
   .have hst:¬ gK (ks (nb c)):=lS (hf _);have href:=(iM (ks (nb c)) _ (g.2.2 _) (by omega) (f _) hz).2;rw [if_neg href.2,yK hst];exact La l s (ks (nb c)) r used _ hz hst hd2 hu (λu h1 h2=>wE l (ks (nb c)) _ s r u _ (g.2.2 _) (by omega) (hf _) (f _) hz (by omega) hnp.tail (by omega) (λe=>absurd (show (3:Int)=2 from of_decide_eq_true e) (by decide)) h1 h2)
end Tr
end
section
namespace Tr
open Rf Rl Ni No
def bM:T->Pa->List Nd
 | .nil,_=>[]
 | .leaf p v,_=>[bV (.leaf p v)]
 | .ext q t,w=>bV (.ext q t)::if q<+:w then bM t (w.drop q.length) else []
 | .br ks,[]=>[bV (.br ks)]
 | .br ks,c::w=>bV (.br ks)::bM (ks (nb c)) w
 | .stub _,_=>[]
end Tr
end
section
open Go.RowKit
namespace Tm
open Tr
structure Mp where
 at_:Nat->Option T
 ft:Nat->Prop
def IsT (M:Mp) (p:aL) (t:T):Prop:=match p with
 | none=>t = .nil
 | some ad=>∃ b,ad=⟨b,0,none⟩/\M.at_ b=some t/\t ≠ .nil
def fI:T->Int
 | .nil=>0
 | .leaf _ _=>1
 | .ext _ _=>2
 | .br _=>3
 | .stub _ => -1
def dA:T->Pa
 | .leaf p _=>p
 | .ext q _=>q
 | _=>[]
def Si:T->aM
 | .leaf _ v=>v
 | _=>eB
def jr:T->List T
 | .ext _ t=>[t]
 | .br ks=>(List.finRange 16).map ks
 | _=>[]
def Ti:T->aM
 | .stub r=>r
 | _=>eB
def Bs (M:Mp) (w:World) (a:aL) (n c:Nat) (l:aN):Prop:=bf w a n c l/\∀ ad,a=some ad->0<n->M.ft ad.block
def Ks (M:Mp) (w:World) (a:aL) (n c:Nat) (l:List T):Prop :=
 n<=c/\c<=maxLen/\l.length=n/\(a=none->c=0)/\∀ j,j<n->∃ b off p,a=some ⟨b,off,none⟩/\b<w.heap.size/\M.ft b/\w.cell? ⟨b,off+j,none⟩=some (.pointer p)/\IsT M p (l.getD j .nil)
def kV (t:T) (a:aL) (n c:Nat) (ka:aL) (kn kc:Nat) (d:Int) (r:aM):aO :=
 #[.int .i64 (fI t),.slice a n c,.string (Si t),.slice ka kn kc,.int .u32 d,.int .i32 0,.int .u32 0,.string r]
def qA (M:Mp) (w:World) (b:Nat) (t:T):Prop :=
 ∃ a n c ka kn kc d r,w.heap[b]? = some (.cells (kV t a n c ka kn kc d r) 150 (0,0))/\Bs M w a n c (dA t)/\Ks M w ka kn kc (jr t)/\(d=0/\r=Ti t\/d=1/\¬ gK t/\r=ref t)
structure Inv (M:Mp) (w:World):Prop where
 lt_:∀ k,M.ft k->k<w.heap.size
 part_:∀ b t,M.at_ b=some t->t ≠ .nil/\M.ft b/\qA M w b t
def jh (w:World) (k:Nat):Prop:=∃ j x,w.cell? ⟨k,j,none⟩=some (.int .u8 x)
structure Fr (M M':Mp) (w w':World):Prop where
 os:w'.os=w.os
 tape:w'.tape=w.tape
 output:w'.output=w.output
 size:w.heap.size<=w'.heap.size
 block:∀ k,k<w.heap.size->M.at_ k=none->w'.heap[k]? = w.heap[k]?
 mono:∀ k t,M.at_ k=some t->M'.at_ k=some t
 fresh:∀ k,k<w.heap.size->M.at_ k=none->M'.at_ k=none
 grow:∀ k,M.ft k->M'.ft k
 foot:∀ k,M'.ft k->M.ft k\/w.heap.size<=k\/jh w k
def M0:Mp:=⟨λ_=>none,λ_=>False⟩
theorem IsT.mono {M M':Mp} {p:aL} {t:T} (h:IsT M p t) (hm:∀ k t,M.at_ k=some t->M'.at_ k=some t):IsT M' p t:=by
 cases p with
 | none=>exact h
 | some ad =>
  obtain ⟨b,e,h1,h2⟩:=h;exact ⟨b,e,hm _ _ h1,h2⟩
theorem IsT.vG {M:Mp} {p:aL} {t:T} (h:IsT M p t):p=none↔t = .nil:=by
 cases p with
 | none=>exact ⟨λ_=>h,λ_=>rfl⟩
 | some ad =>
  obtain ⟨b,_,_,hn⟩:=h;exact ⟨λe=>(by cases e),λe=>absurd e hn⟩
theorem IsT.at_ {M:Mp} {p:aL} {t:T} (h:IsT M p t) (hn:t ≠ .nil):∃ b,p=some ⟨b,0,none⟩/\M.at_ b=some t:=by
 cases p with
 | none=>exact absurd h hn
 | some ad =>
  obtain ⟨b,e,hm,_⟩:=h;exact ⟨b,by rw [e],hm⟩
theorem Ks.nil (M:Mp) (w:World):Ks M w none 0 0 []:=⟨aH,Nat.zero_le _,rfl,λ_=>rfl,λ_ h=>absurd h (Nat.not_lt_zero _)⟩
theorem Ks.len {M:Mp} {a:aL} {n c:Nat} {l:List T} (h:Ks M w a n c l):l.length=n:=h.2.2.1
theorem Ks.at' {M:Mp} {a:aL} {n c:Nat} {l:List T} (h:Ks M w a n c l) (j:Nat) (hj:j<n):∃ b off p,a=some ⟨b,off,none⟩/\b<w.heap.size/\M.ft b/\w.cell? ⟨b,off+j,none⟩=some (.pointer p)/\IsT M p (l.getD j .nil):=h.2.2.2.2 j hj
theorem Inv.part {M:Mp} (h:Inv M w) {b:Nat} {t:T} (hm:M.at_ b=some t):qA M w b t:=(h.part_ b t hm).2.2
theorem Inv.lt {M:Mp} (h:Inv M w) {b:Nat} {t:T} (hm:M.at_ b=some t):b<w.heap.size:=h.lt_ b (h.part_ b t hm).2.1
theorem Inv.zero (w:World):Inv M0 w:=⟨λ_ h=>h.elim,λ_ _ h=>by cases h⟩
theorem DR {t:T} {a:aL} {n c:Nat} {ka:aL} {kn kc:Nat} {d:Int} {r:aM} {j:Nat} {v:Value} (h:(kV t a n c ka kn kc d r)[j]? = some v):(∀ x,v ≠ .int .u8 x)/\∀ p,v ≠ .pointer p:=by
 unfold kV at h
 match j,h with
 | 0,h | 1,h | 2,h | 3,h | 4,h | 5,h | 6,h | 7,h =>
  simp at h;subst h;exact ⟨λx e=>(by cases e),λp e=>(by cases e)⟩
 | j+8,h=>simp at h
theorem pJ {b:Nat} {cs:aO} {t:TypeId} {f:Nat × Nat} (h:w.heap[b]? = some (.cells cs t f)) (hc:w.cell? ⟨b,j,none⟩=some v):cs[j]? = some v:=by
 rw [World.cell?,h] at hc;simpa using hc
theorem Inv.gP {M:Mp} {w:World} (hi:Inv M w) {b j:Nat} {x:Int} (hc:w.cell? ⟨b,j,none⟩=some (.int .u8 x)):M.at_ b=none:=by
 cases hm:M.at_ b with
 | none=>rfl
 | some t =>
  obtain ⟨_,_,_,_,_,_,_,_,hb,_⟩:=hi.part hm;exact absurd rfl ((DR (pJ hb hc)).1 x)
theorem Inv.qw {M:Mp} {w:World} (hi:Inv M w) {b j:Nat} {p:aL} (hc:w.cell? ⟨b,j,none⟩=some (.pointer p)):M.at_ b=none:=by
 cases hm:M.at_ b with
 | none=>rfl
 | some t =>
  obtain ⟨_,_,_,_,_,_,_,_,hb,_⟩:=hi.part hm;exact absurd rfl ((DR (pJ hb hc)).2 p)
theorem Fr.refl (M:Mp) (w:World):Fr M M w w:=⟨rfl,rfl,rfl,aH,λ_ _ _=>rfl,λ_ _ h=>h,λ_ _ h=>h,λ_ h=>h,λ_ h=>Or.inl h⟩
theorem jh.back {M M':Mp} {k:Nat} (h:jh w' k) (f:Fr M M' w w') (hk:k<w.heap.size) (hm:M.at_ k=none):jh w k:=by
 obtain ⟨j,x,hc⟩:=h;exact ⟨j,x,by rw [<-hc]; exact (World.cell?_of_block (w:=w) (f.block k hk hm)).symm⟩
theorem Fr.trans {M M1 M2:Mp} {w w1 w2:World} (hi:Inv M w) (h:Fr M M1 w w1) (g:Fr M1 M2 w1 w2):Fr M M2 w w2 :=
 ⟨g.os.trans h.os,g.tape.trans h.tape,g.output.trans h.output,Nat.le_trans h.size g.size,
  λk hk hm=>(g.block k (aJ hk h.size) (h.fresh k hk hm)).trans (h.block k hk hm),λk t hm=>g.mono k t (h.mono k t hm),λk hk hm=>g.fresh k (aJ hk h.size) (h.fresh k hk hm),
  λk hk=>g.grow k (h.grow k hk),λk hk=>by
  rcases g.foot k hk with h1 | h1 | h1
  .exact h.foot k h1
  .exact Or.inr (Or.inl (Nat.le_trans h.size h1))
  .by_cases hlt:k<w.heap.size
   .cases hm:M.at_ k with
    | none=>exact Or.inr (Or.inr (h1.back h hlt hm))
    | some t=>exact Or.inl (hi.part_ k t hm).2.1
   .exact Or.inr (Or.inl (by omega))⟩
theorem Fr.below (M:Mp) (hb:Below w.heap.size w w'):Fr M M w w':=⟨hb.os,hb.tape,hb.output,hb.size,λk hk _=>hb.block k hk,λ_ _ h=>h,λ_ _ h=>h,λ_ h=>h,λ_ h=>Or.inl h⟩
theorem Fr.all {M':Mp} (h:Fr M0 M' w w'):Below w.heap.size w w':=⟨h.os,h.tape,h.output,h.size,λk hk=>h.block k hk rfl⟩
theorem Fr.cell {M M':Mp} (h:Fr M M' w w') {b o:Nat} (hb:b<w.heap.size) (hm:M.at_ b=none):w'.cell? ⟨b,o,none⟩=w.cell? ⟨b,o,none⟩:=World.cell?_of_block (w:=w) (h.block b hb hm)
theorem Bs.fr {M M':Mp} {a:aL} {n c:Nat} {l:aN} (hi:Inv M w) (h:Bs M w a n c l) (f:Fr M M' w w'):Bs M' w' a n c l:=by
 refine ⟨⟨h.1.1,h.1.2.1,h.1.2.2.1,h.1.2.2.2.1,λj hj=>?_⟩,λad e hn=>f.grow _ (h.2 ad e hn)⟩;obtain ⟨b,off,e,hlt,hc⟩:=h.1.2.2.2.2 j hj;exact ⟨b,off,e,aJ hlt f.size,by rw [f.cell hlt (hi.gP hc)]; exact hc⟩
theorem rW {M M':Mp} {a:aL} {n c:Nat} {l:aN} (hi:Inv M w) (h:bf w a n c l) (f:Fr M M' w w'):bf w' a n c l:=by
 refine ⟨h.1,h.2.1,h.2.2.1,h.2.2.2.1,λj hj=>?_⟩;obtain ⟨b,off,e,hlt,hc⟩:=h.2.2.2.2 j hj;exact ⟨b,off,e,aJ hlt f.size,by rw [f.cell hlt (hi.gP hc)]; exact hc⟩
theorem Ks.fr {M M':Mp} {a:aL} {n c:Nat} {l:List T} (hi:Inv M w) (h:Ks M w a n c l) (f:Fr M M' w w'):Ks M' w' a n c l:=by
 refine ⟨h.1,h.2.1,h.2.2.1,h.2.2.2.1,λj hj=>?_⟩;obtain ⟨b,off,p,e,hlt,hm,hc,ht⟩:=h.at' j hj;exact ⟨b,off,p,e,aJ hlt f.size,f.grow b hm,by rw [f.cell hlt (hi.qw hc)]; exact hc,ht.mono f.mono⟩
theorem Inv.below {M:Mp} {w w':World} (h:Inv M w) (hb:Below w.heap.size w w'):Inv M w':=by
 refine ⟨λk hk=>aJ (h.lt_ k hk) hb.size,λb t hm=>?_⟩;have hlt:=h.lt hm;refine ⟨(h.part_ b t hm).1,(h.part_ b t hm).2.1,?_⟩;obtain ⟨a,n,c,ka,kn,kc,d,r,h1,h2,h3,h4⟩:=h.part hm;exact ⟨a,n,c,ka,kn,kc,d,r,(hb.block b hlt).trans h1,h2.fr h (Fr.below M hb),h3.fr h (Fr.below M hb),h4⟩
theorem Inv.out {M:Mp} {w:World} (h:Inv M w) {b:Nat} (hb:w.heap.size<=b):M.at_ b=none:=by
 cases hm:M.at_ b with
 | none=>rfl
 | some t=>exact absurd (h.lt hm) (by omega)
theorem Inv.upd {M:Mp} (h:Inv M w) (hu:Rg.Upd w g w') (hg:¬ M.ft g):Inv M w':=by
 refine ⟨λk hk=>by rw [hu.size]; exact h.lt_ k hk,λb t hm=>?_⟩;obtain ⟨h1,h2,h3⟩:=h.part_ b t hm;refine ⟨h1,h2,?_⟩;obtain ⟨a,n,c,ka,kn,kc,d,r,hb,hB,hK,hd⟩:=h3;have hne:∀ k,M.ft k->k≠g:=λk hk e=>hg (by rw [<-e]; exact hk);refine ⟨a,n,c,ka,kn,kc,d,r,(hu.block b (hne b h2)).trans hb,⟨⟨hB.1.1,hB.1.2.1,hB.1.2.2.1,hB.1.2.2.2.1,λj hj=>?_⟩,hB.2⟩,⟨hK.1,hK.2.1,hK.2.2.1,hK.2.2.2.1,λj hj=>?_⟩,hd⟩
 .obtain ⟨b',off,e,hlt,hc⟩:=hB.1.2.2.2.2 j hj;exact ⟨b',off,e,by rw [hu.size]; exact hlt,by rw [World.cell?_of_block (hu.block b' (hne b' (hB.2 _ e (by omega))))]; exact hc⟩
 .obtain ⟨b',off,p,e,hlt,hf,hc,ht⟩:=hK.at' j hj;exact ⟨b',off,p,e,by rw [hu.size]; exact hlt,hf,by rw [World.cell?_of_block (hu.block b' (hne b' hf))]; exact hc,ht⟩
theorem Fr.box {M M':Mp} (f:Fr M M' w w') (hg:¬ M.ft g) (hlt:g<w.heap.size) (hb:¬ jh w g):¬ M'.ft g:=λh=>by
 rcases f.foot g h with h1 | h1 | h1
 .exact hg h1
 .omega
 .exact hb h1
theorem Inv.free {M:Mp} (h:Inv M w) (hg:w.heap.size<=g):¬ M.ft g:=λe=>by
 have:=h.lt_ g e;omega
theorem jK (p:aL):∀ (j:Nat) (x:Int),(#[Value.pointer p]:aO)[j]? ≠ some (Value.int .u8 x):=λj x h=>by
 match j,h with
 | 0,h=>simp at h
 | j+1,h=>simp at h
theorem gP {cs:aO} {t:TypeId} (hO:Rg.Own w g cs t) (hne:∀ (j:Nat) (x:Int),cs[j]? ≠ some (Value.int .u8 x)):¬ jh w g:=λ⟨_,_,hc⟩=>hne _ _ (pJ hO.2 hc)
theorem uO {a:aL} {n c:Nat} {l:aN} (h:bf w a n c l) (hg:¬ jh w g) (hu:Rg.Upd w g w'):bf w' a n c l:=by
 refine ⟨h.1,h.2.1,h.2.2.1,h.2.2.2.1,λj hj=>?_⟩;obtain ⟨b,off,e,hlt,hc⟩:=h.2.2.2.2 j hj;have hbg:b≠g:=by
  rintro rfl;exact hg ⟨_,_,hc⟩
 exact ⟨b,off,e,by rw [hu.size]; exact hlt,by rw [World.cell?_of_block (hu.block b hbg)]; exact hc⟩
def plus (M:Mp) (S:Nat->Prop):Mp:=⟨M.at_,λk=>M.ft k\/S k⟩
theorem Inv.plus {M:Mp} (h:Inv M w) (hS:∀ k,S k->k<w.heap.size):Inv (Tm.plus M S) w:=by
 refine ⟨λk hk=>hk.elim (h.lt_ k) (hS k),λb t hm=>?_⟩;obtain ⟨h1,h2,a,n,c,ka,kn,kc,d,r,hb,hB,hK,hd⟩:=h.part_ b t hm;exact ⟨h1,Or.inl h2,a,n,c,ka,kn,kc,d,r,hb,⟨hB.1,λad e hn=>Or.inl (hB.2 ad e hn)⟩,⟨hK.1,hK.2.1,hK.2.2.1,hK.2.2.2.1,λj hj=>by
  obtain ⟨b',off,p,e,hlt,hf,hc,ht⟩:=hK.at' j hj;exact ⟨b',off,p,e,hlt,Or.inl hf,hc,ht.mono λ_ _ h=>h⟩⟩,hd⟩
theorem zW {M:Mp} {t:T} (h:IsT M p t):IsT (plus M S) p t:=h.mono λ_ _ h=>h
theorem Fr.plus {M M':Mp} (f:Fr M M' w w') (hS:∀ k,S k->w.heap.size<=k\/jh w k):Fr M (Tm.plus M' S) w w' :=
 ⟨f.os,f.tape,f.output,f.size,f.block,f.mono,f.fresh,λk hk=>Or.inl (f.grow k hk),λk hk=>hk.elim (f.foot k) (λh=>Or.inr (hS k h))⟩
def inS (a:aL) (n:Nat) (k:Nat):Prop:=∃ ad,a=some ad/\0<n/\ad.block=k
theorem uK {a:aL} {n c:Nat} {l:aN} (h:bf w a n c l) {k:Nat} (hk:inS a n k):jh w k/\k<w.heap.size:=by
 obtain ⟨ad,e,hn,hb⟩:=hk;obtain ⟨b,off,e',hlt,hc⟩:=h.at' 0 hn;rw [e] at e';obtain rfl:=Option.some.inj e';obtain rfl:b=k:=hb;exact ⟨⟨_,_,hc⟩,hlt⟩
theorem jh.below {k:Nat} (h:jh w' k) (hb:Below w.heap.size w w'):w.heap.size<=k\/jh w k:=by
 by_cases hlt:k<w.heap.size
 .obtain ⟨j,x,hc⟩:=h;exact Or.inr ⟨j,x,by rw [<-hc]; exact (World.cell?_of_block (w:=w) (hb.block k hlt)).symm⟩
 .exact Or.inl (by omega)
theorem Bs.in_ {M:Mp} {a:aL} {n c:Nat} {l:aN} (h:bf w a n c l):Bs (plus M (inS a n)) w a n c l:=⟨h,λad e hn=>Or.inr ⟨ad,e,hn,rfl⟩⟩
def dQ (M:Mp) (w:World) (t:T) (e:Ending) (w':World):Prop:=∃ p M',e = .returned (.agg #[.pointer p])/\IsT M' p t/\Fr M M' w w'/\Inv M' w'/\Below w.heap.size w w'
def more (M:Mp) (b:Nat) (t:T) (lo hi:Nat):Mp:=⟨λk=>if k=b then some t else M.at_ k,λk=>M.ft k\/lo<=k/\k<hi⟩
theorem Lc (M:Mp) (b:Nat) (t:T) (lo hi:Nat):(more M b t lo hi).at_ b=some t:=if_pos rfl
theorem zJ {M:Mp} {b:Nat} {t:T} {hi k:Nat} (h:k≠b):(more M b t lo hi).at_ k=M.at_ k:=if_neg h
theorem Fr.more {M:Mp} (hi:Inv M w) (hb:Below w.heap.size w w') (b:Nat) (t:T) (hB:w.heap.size<=b):Fr M (more M b t w.heap.size w'.heap.size) w w':=by
 refine ⟨hb.os,hb.tape,hb.output,hb.size,λk hk _=>hb.block k hk,λk u hm=>?_,λk hk hm=>?_,λk hk=>Or.inl hk,λk hk=>hk.elim Or.inl (λh=>Or.inr (Or.inl h.1))⟩
 .have:=hi.lt hm;rw [zJ (by omega)]; exact hm
 .rw [zJ (by omega)]; exact hm
def Ks0 (M:Mp) (lo:Nat) (w:World) (a:aL) (n c:Nat) (l:List T):Prop :=
 n<=c/\c<=maxLen/\l.length=n/\(a=none->c=0)/\∀ j,j<n->∃ b off p,a=some ⟨b,off,none⟩/\b<w.heap.size/\(M.ft b\/lo<=b)/\w.cell? ⟨b,off+j,none⟩=some (.pointer p)/\IsT M p (l.getD j .nil)
theorem Ks.weak {M:Mp} {a:aL} {n c:Nat} {l:List T} (h:Ks M w a n c l):Ks0 M lo w a n c l :=
 ⟨h.1,h.2.1,h.2.2.1,h.2.2.2.1,λj hj=>by
  obtain ⟨b,off,p,e,hlt,hf,hc,ht⟩:=h.at' j hj;exact ⟨b,off,p,e,hlt,Or.inl hf,hc,ht⟩⟩
theorem zi {M:Mp} {b:Nat} {t:T} {a:aL} {n c:Nat} {ka:aL} {kc:Nat} (hi:Inv M w) (hb:Below w.heap.size w w') (hB:w.heap.size<=b) (hn:t ≠ .nil)
  (hc:w'.heap[b]? = some (.cells (kV t a n c ka kn kc 0 (Ti t)) 150 (0,0))) (hp:bf w' a n c (dA t)) (hf:∀ ad,a=some ad->0<n->M.ft ad.block\/w.heap.size<=ad.block) (hk:Ks0 M w.heap.size w' ka kn kc (jr t)) :
  dQ M w t (.returned (.agg #[.pointer (some ⟨b,0,none⟩)])) w':=by
 have f:=Fr.more hi hb b t hB;have hlt:b<w'.heap.size:=(Array.getElem?_eq_some_iff.1 hc).1;refine ⟨_,Tm.more M b t w.heap.size w'.heap.size,rfl,⟨b,rfl,Lc _ _ _ _ _,hn⟩,f,⟨λk hk=>hk.elim (λh=>aJ (hi.lt_ k h) hb.size) (λh=>h.2),λk u hm=>?_⟩,hb⟩;by_cases e:k=b
 .subst e;rw [Lc] at hm;obtain rfl:=Option.some.inj hm;refine ⟨hn,Or.inr ⟨hB,hlt⟩,a,n,c,ka,kn,kc,0,_,hc,⟨hp,λad e hn=>?_⟩,⟨hk.1,hk.2.1,hk.2.2.1,hk.2.2.2.1,λj hj=>?_⟩,Or.inl ⟨rfl,rfl⟩⟩
  .obtain ⟨b',off,e',hlt',_⟩:=hp.at' 0 hn;rcases hf ad e hn with h | h
   .exact Or.inl h
   .rw [e] at e';obtain rfl:=Option.some.inj e';exact Or.inr ⟨h,hlt'⟩
  .obtain ⟨b',off,p,e,hlt',hm,hcb,ht⟩:=hk.2.2.2.2 j hj;exact ⟨b',off,p,e,hlt',hm.elim Or.inl (λh=>Or.inr ⟨h,hlt'⟩),hcb,ht.mono f.mono⟩
 .rw [zJ e] at hm;have hlt:=hi.lt hm;obtain ⟨h1,h2,a,n,c,ka,kn,kc,d,r,g1,g2,g3,g4⟩:=hi.part_ k u hm;exact ⟨h1,Or.inl h2,a,n,c,ka,kn,kc,d,r,(hb.block k hlt).trans g1,g2.fr hi f,g3.fr hi f,g4⟩
theorem UY {M:Mp} {t:T} (hi:Inv M w) (ht:IsT M p t) (hb:Below w.heap.size w w'):dQ M w t (.returned (.agg #[.pointer p])) w' :=
 ⟨p,M,rfl,ht,Fr.below M hb,hi.below hb,hb⟩
def uF (ps:List (aL)):aO:=(ps.map Value.pointer).toArray
theorem Ks0.row {M:Mp} {b:Nat} {ps:List (aL)} {t:TypeId} {l:List T} (hlo:lo<=b) (h:Rg.Own w b (uF ps) t) (hl:ps.length=l.length) (hm:ps.length<=maxLen) (ht:∀ j,j<ps.length->IsT M (ps.getD j none) (l.getD j .nil)):Ks0 M lo w (some ⟨b,0,none⟩) ps.length ps.length l:=by
 refine ⟨aH,hm,hl.symm,λe=>(by cases e),λj hj=>?_⟩;have hc:w.cell? ⟨b,j,none⟩=some (.pointer (ps.getD j none)):=by
  rw [cell_of_row w b _ _ _ _ h.2];simp [uF,List.getD,hj]
 exact ⟨b,0,_,rfl,h.1,Or.inr hlo,by rw [Nat.zero_add]; exact hc,ht j hj⟩
abbrev tv (p:aL):Value:=.agg #[.pointer p]
theorem fU (w:World) (p:aL):(w.alloc (.cells #[.pointer p] 46)).cell? ⟨w.heap.size,0,none⟩=some (.pointer p):=by
 rw [World.cell?_alloc_mark]; rfl
theorem aX {w1 w2:World} (hb:Below w1.heap.size w1 w2) {b o:Nat} (hc:w1.cell? ⟨b,o,none⟩=some v):w2.cell? ⟨b,o,none⟩=some v :=
 (hb.cell (p:=⟨b,o,none⟩) (World.block_lt_of_cell? w1 _ hc)).trans hc
theorem Ls {b o:Nat} (hc:w.cell? ⟨b,o,none⟩=some v):(w.alloc o').cell? ⟨b,o,none⟩=some v:=aX (al1 _ _) hc
theorem mh (p:aL) (w:World):Calls prog 124 #[.agg #[.pointer p]] w λe w'=>e = .returned (.bool p.isNone)/\Below w.heap.size w w':=by
 have h0:=fU w p;cases p with
 | none =>
  go_enter func124,ntmps124;go_wp2;go_ret;exact ⟨rfl,al1 _ _⟩
 | some ad =>
  go_enter func124,ntmps124;go_wp2;go_ret;exact ⟨rfl,al1 _ _⟩
theorem jU {b:Nat} {t:T} {a:aL} {n c:Nat} {ka:aL} {kc:Nat} (h:w.heap[b]? = some (.cells (kV t a n c ka kn kc d r) 150 (0,0))) :
  (w.cell? ⟨b,0,none⟩=some (.int .i64 (fI t))/\w.cell? ⟨b,1,none⟩=some (.slice a n c)/\w.cell? ⟨b,2,none⟩=some (.string (Si t))/\w.cell? ⟨b,3,none⟩=some (.slice ka kn kc))/\
  w.cell? ⟨b,4,none⟩=some (.int .u32 d)/\w.cell? ⟨b,5,none⟩=some (.int .i32 0)/\w.cell? ⟨b,6,none⟩=some (.int .u32 0)/\w.cell? ⟨b,7,none⟩=some (.string r):=by
 refine ⟨⟨?_,?_,?_,?_⟩,?_,?_,?_,?_⟩;all_goals
  rw [cell_of_row w b _ _ _ _ h];rfl
theorem Inv.kind {M:Mp} (hi:Inv M w) {b:Nat} {t:T} (hm:M.at_ b=some t):w.cell? ⟨b,0,none⟩=some (.int .i64 (fI t)):=by
 obtain ⟨a,n,c,ka,kn,kc,d,r,hb,_⟩:=hi.part hm;exact (jU hb).1.1
theorem eZ (M:Mp) (p:aL) (t:T) (w:World) (hi:Inv M w) (ht:IsT M p t) :
  Calls prog 83 #[.agg #[.pointer p]] w λe w'=>e = .returned (.int .i64 (fI t))/\Below w.heap.size w w':=by
 have h0:=fU w p;have HE:=hid (mh p (w.alloc (.cells #[.pointer p] 46)));cases p with
 | none =>
  obtain rfl:t = .nil:=ht;go_enter func83,ntmps83;go_wp2_with fail
  refine HE.out.mono ?_;rintro e w2 ⟨rfl,hb⟩;go_wp2;go_ret;exact ⟨rfl,bst (al1 _ _) hb⟩
 | some ad =>
  obtain ⟨b,rfl,hm,_⟩:=ht;have hk:=Ls (o':=.cells #[.pointer (some ⟨b,0,none⟩)] 46) (hi.kind hm);go_enter func83,ntmps83;go_wp2_with fail
  refine HE.out.mono ?_;rintro e w2 ⟨rfl,hb⟩;have h1:=aX hb h0;have h2:=aX hb hk;clear h0 hk;go_wp2;go_ret;exact ⟨rfl,bst (al1 _ _) hb⟩
def eX (a:aL) (c i:Nat):aL:=if c=i then a else a.map (·.add i)
theorem iD (w:World):(sizeOf (prog.elem 35)).run prog w = .ok 1 w:=by kernel_rfl
theorem CF (w:World):(sizeOf (prog.elem 136)).run prog w = .ok 1 w:=by kernel_rfl
theorem fV:prog.underlying 35=some (.slice (prog.elem 35)):=by kernel_rfl
theorem oL:prog.underlying 136=some (.slice (prog.elem 136)):=by kernel_rfl
section
variable {P:Program} {t:TypeId} {a:aL} {n c:Nat}
theorem Sw (ht:P.underlying t=some (.slice (P.elem t))) (hs:∀ w,(sizeOf (P.elem t)).run P w = .ok 1 w) (i:Nat) (hi:i<=n) (w:World) :
  (Instr.sliceAt t (.slice a n c) (some (.int .i64 i)) none none).run P w = .ok (.slice (eX a c i) (n-i) (c-i)) w:=by
 rw [run_sliceAt_slice (h:=ht),run_slice_l w t a n c ht .i64 i (by omega) (by omega),hs];simp [Result.andThen,sliced,eX]
theorem Qh (ht:P.underlying t=some (.slice (P.elem t))) (hs:∀ w,(sizeOf (P.elem t)).run P w = .ok 1 w) (j:Nat) (hj:j<=c) (w:World) :
  (Instr.sliceAt t (.slice a n c) none (some (.int .i64 j)) none).run P w = .ok (.slice a j c) w:=by
 rw [run_sliceAt_slice (h:=ht),run_slice_h w t a n c ht .i64 j (by omega) (by omega),hs];have:a.map (λx=>x.add 0)=a:=by cases a <;> simp [Addr.add]
 simp [Result.andThen,sliced,this]
end
theorem jk {P:Program} {t:TypeId} {a:aL} {n c:Nat} {w:World} (ht:P.underlying t=some (.slice (P.elem t))) (hs:∀ w,(sizeOf (P.elem t)).run P w = .ok 1 w) (hi:i<=n)
  (ho:∃ x lo,o.op = .slice t x (some lo) none none/\ev x = .slice a n c/\ev lo = .int .i64 i):(execOp ev o).run P w = .ok (.value (.slice (eX a c i) (n-i) (c-i))) w:=by
 obtain ⟨x,lo,ho,hx,hl⟩:=ho;unfold execOp;simp only [ho,hx,hl,Option.map_some,Option.map_none,Sem.run_bind,Sem.run_pure,Result.andThen_ok,Sw ht hs i hi]
theorem yS {P:Program} {t:TypeId} {a:aL} {n c:Nat} {w:World} (ht:P.underlying t=some (.slice (P.elem t))) (hs:∀ w,(sizeOf (P.elem t)).run P w = .ok 1 w) (hj:j<=c)
  (ho:∃ x hi,o.op = .slice t x none (some hi) none/\ev x = .slice a n c/\ev hi = .int .i64 j):(execOp ev o).run P w = .ok (.value (.slice a j c)) w:=by
 obtain ⟨x,lo,ho,hx,hl⟩:=ho;unfold execOp;simp only [ho,hx,hl,Option.map_some,Option.map_none,Sem.run_bind,Sem.run_pure,Result.andThen_ok,Qh ht hs j hj]
theorem sJ {a:aL} {n c:Nat} {l:aN} (h:bf w a n c l) (i:Nat) (hi:i<=n):bf w (eX a c i) (n-i) (c-i) (l.drop i):=by
 have h1:=h.1;have h2:=h.2.1;refine ⟨by omega,by omega,by rw [List.length_drop,h.len],λe=>?_,λj hj=>?_⟩
 .unfold eX at e;split at e
  .omega
  .have:a=none:=by simpa using e
   have:=h.2.2.2.1 this;omega
 .obtain ⟨b,off,e,hlt,hc⟩:=h.at' (i+j) (by omega);refine ⟨b,off+i,?_,hlt,?_⟩
  .unfold eX;rw [if_neg (by omega),e];simp [Addr.add_mid]
  .rw [Nat.add_assoc,hc];simp [List.getD]
theorem EZ {a:aL} {c i:Nat} {ad:Addr} (h:eX a c i=some ad):∃ FS,a=some FS/\FS.block=ad.block:=by
 unfold eX at h;split at h
 .exact ⟨ad,h,rfl⟩
 .cases a with
  | none=>cases h
  | some x =>
   refine ⟨x,rfl,?_⟩;have:x.add i=ad:=by simpa using h
   rw [<-this];unfold Addr.add;split <;> rfl
theorem Bs.from' {M:Mp} {a:aL} {n c:Nat} {l:aN} (h:Bs M w a n c l) (i:Nat) (hi:i<=n):Bs M w (eX a c i) (n-i) (c-i) (l.drop i) :=
 ⟨sJ h.1 i hi,λad e hn=>by
  obtain ⟨FS,e',hb⟩:=EZ e;rw [<-hb];exact h.2 FS e' (by omega)⟩
theorem Bs.upto {M:Mp} {a:aL} {n c:Nat} {l:aN} (h:Bs M w a n c l) (j:Nat) (hj:j<=n):Bs M w a j c (l.take j):=by
 have h1:=h.1.1;refine ⟨⟨by omega,h.1.2.1,by rw [List.length_take,h.1.len]; omega,h.1.2.2.2.1,λi hi=>?_⟩,λad e hn=>h.2 ad e (by omega)⟩;obtain ⟨b,off,e,hlt,hc⟩:=h.1.at' i (by omega);refine ⟨b,off,e,hlt,?_⟩;rw [hc];simp [List.getD,hi]
theorem CG:(prog.info? 46).map (·.size)=some 1:=by kernel_rfl
theorem vS {w:World} {b o:Nat} {p:aL} (hc:w.cell? ⟨b,o,none⟩=some (.pointer p)):(loadVar 46 ⟨b,o,none⟩).run prog w = .ok (tv p) w :=
 run_loadVar_mid w b o 46 [.pointer p] _ (λj v hv=>by
  cases j with
  | zero=>simp at hv; subst hv; exact hc
  | succ j=>simp at hv) underlying46 rfl (by rw [CG]; rfl)
theorem aW {b:Nat} (hc:w.cell? ⟨b,off,none⟩=some (.pointer p)) (ho:∃ x,o.op = .load 46 x/\ev x = .pointer (some ⟨b,off,none⟩)) :
  (execOp ev o).run prog w = .ok (.value (tv p)) w:=by
 obtain ⟨x,ho,hx⟩:=ho;unfold execOp;simp only [ho,hx,Instr.loadAt,Instr.sureAddr,Sem.run_bind,Sem.run_pure,Result.andThen_ok,vS hc]
theorem bQ (w:World) (b o:Nat) (v:Value):Rg.Upd w b (w.setCell ⟨b,o,none⟩ v):=⟨rfl,rfl,rfl,by simp,λk hk=>Below.heap_setCell w _ v k hk⟩
theorem cO {b o:Nat} {cs:aO} {t:TypeId} (h:Rg.Own w b cs t) (v:Value):Rg.Own (w.setCell ⟨b,o,none⟩ v) b (cs.setIfInBounds o v) t:=by
 refine ⟨by simp; exact h.1,?_⟩;have hb:=h.2;simp only [World.setCell,Array.getElem?_modify,hb];simp
theorem aV {b:Nat} {cs:aO} {t:TypeId} (h:Rg.Own w b cs t) (hv:cs[j]? = some v):w.cell? ⟨b,j,none⟩=some v:=by
 rw [cell_of_row w b _ _ _ _ h.2]; exact hv
theorem zV {b o:Nat} {cs:aO} {t:TypeId} (h:Rg.Own w b cs t) (ho:o<cs.size) (p:aL) :
  (Instr.storeAt 46 (.pointer (some ⟨b,o,none⟩)) (tv p)).run prog w = .ok () (w.setCell ⟨b,o,none⟩ (.pointer p)):=by
 have hc:w.cell? ⟨b,o,none⟩=some cs[o]:=aV h (Array.getElem?_eq_getElem ho);exact run_storeAt_mid w b o 46 #[.pointer p] (λj hj=>by
  obtain rfl:j=0:=by simp at hj; exact hj
  exact ⟨by rw [Nat.add_zero,hc]; rfl,fB h⟩) (by rw [CG]; rfl) (by simp [Value.oneCell'])
theorem bU {rest:List Oper} {b:Nat} {cs:aO} {t:TypeId} (h:Rg.Own w b cs t) (hof:off<cs.size) (p:aL)
  (hgd:o.guard=none) (x y:Operand) (ho:o.op = .store 46 x y) (hx:act.eval x = .pointer (some ⟨b,off,none⟩)) (hy:act.eval y=tv p)
  (hQ:∀ w',Rg.Own w' b (cs.setIfInBounds off (.pointer p)) t->Rg.Upd w b w'->wpList prog ops Q rest (act.put o.dst undef) w'):wpList prog ops Q (o::rest) act w :=
 wpList_plain hgd λK hK=>by
  unfold Oper.wp execOp;simp only [ho,hx,hy,Sem.run_bind,Sem.run_pure,Result.andThen_ok,zV h hof p];exact hK _ _ (hQ _ (cO h _) (bQ _ _ _ _))
theorem iX {a:Act} (hw:Region.wanted o (yielded ops a.tmps)=true) {b:Nat} {cs:aO} {t:TypeId} (hg:Rg.Own w b cs t) (hof:off<cs.size) (p:aL)
  (ho:∃ x y,o.op = .store 46 x y/\a.eval x = .pointer (some ⟨b,off,none⟩)/\a.eval y=tv p)
  (h:∀ w',Rg.Own w' b (cs.setIfInBounds off (.pointer p)) t->Rg.Upd w b w'->K (a.put o.dst undef) w'):if Region.wanted o (yielded ops a.tmps)=true then Oper.wp prog o a w K Q else K (a.put o.dst undef) w:=by
 obtain ⟨x,y,ho,hx,hy⟩:=ho;refine Rg.want hw ?_;unfold Oper.wp execOp;simp only [ho,hx,hy,Sem.run_bind,Sem.run_pure,Result.andThen_ok,zV hg hof p];exact h _ (cO hg _) (bQ _ _ _ _)
theorem gL {fn:Func} {q:Tmp} (hf:fn.results = #[.cell q 46]) (tmps:aO) {b:Nat} (hp:tmps.getD q undef = .pointer (some ⟨b,0,none⟩)) (h:Rg.Own w b #[.pointer p] 46) :
  (results fn tmps).run prog w = .ok (tv p) w:=by
 have hp':tmps[q]?.getD undef = .pointer (some ⟨b,0,none⟩):=by simpa using hp
 simp [results,hf,hp',asAddr,vS (aV (j:=0) h rfl)]
theorem Nv {fn:Func} {q u:Tmp} (hf:fn.results = #[.cell q 46,.tmp u]) (tmps:aO) {b:Nat} (hp:tmps.getD q undef = .pointer (some ⟨b,0,none⟩)) (h:Rg.Own w b #[.pointer p] 46) :
  (results fn tmps).run prog w = .ok (.tuple #[tv p,tmps.getD u undef]) w:=by
 have hp':tmps[q]?.getD undef = .pointer (some ⟨b,0,none⟩):=by simpa using hp
 simp [results,hf,hp',asAddr,vS (aV (j:=0) h rfl)]
theorem bD (ev:Operand->Value) (o:Oper) (w:World) (b:Nat) (hb:b=w.heap.size) (ho:o.op = .alloc 46) :
  (execOp ev o).run prog w = .ok (.value (.pointer (some ⟨b,0,none⟩))) (w.alloc (.cells #[.pointer none] 46)):=by
 subst hb;unfold execOp;rw [ho];kernel_rfl
theorem qH (a:aL) (n c:Nat) (p:Pa) (v:aM):prog.built 150 [(0,.int .i64 1),(1,.slice a n c),(2,.string v)]=some (kV (.leaf p v) a n c none 0 0 0 eB):=by kernel_rfl
theorem wI (a:aL) (n c:Nat) (ka:aL) (kn kc:Nat) (q:Pa) (t:T):prog.built 150 [(0,.int .i64 2),(1,.slice a n c),(3,.slice ka kn kc)]=some (kV (.ext q t) a n c ka kn kc 0 eB):=by kernel_rfl
theorem RJ (ka:aL) (kn kc:Nat) (ks:Fin 16->T):prog.built 150 [(0,.int .i64 3),(3,.slice ka kn kc)]=some (kV (.br ks) none 0 0 ka kn kc 0 eB):=by kernel_rfl
theorem rT {t:T} {a:aL} {n c:Nat} {ka:aL} {kc:Nat} (ho:∃ x,o.op = .box 150 x/\ev x = .agg (kV t a n c ka kn kc d r)) :
  (execOp ev o).run prog w = .ok (.value (.pointer (some ⟨w.heap.size,0,none⟩))) (w.alloc (.cells (kV t a n c ka kn kc d r) 150)):=by
 obtain ⟨x,ho,hx⟩:=ho;unfold execOp;simp only [ho,hx];rfl
theorem Et {b:Nat} {cs:aO} {t:TypeId} (h:Rg.Own w b cs t) (hu:Rg.Upd w g w') (hne:b≠g):w'.heap[b]? = some (.cells cs t (0,0)):=(h.upd hu hne).2
theorem nV (M:Mp) (a:aL) (n c:Nat) (q:Pa) (v:aM) (w:World) (hi:Inv M w) (hB:Bs M w a n c q) :
  Calls prog 87 #[.slice a n c,.string v] w (dQ M w (.leaf q v)):=by
 obtain ⟨w1,hw1⟩:=ay (w.alloc (.cells #[.pointer none] 46))
 have hR:Rg.Own w1 w.heap.size #[.pointer none] 46:=by rw [hw1]; exact Rg.Own.new _ _ _
 have hb1:Below w.heap.size w w1:=by rw [hw1]; exact al1 _ _
 have hs1:w1.heap.size=w.heap.size+1:=by rw [hw1]; simp
 obtain ⟨w2,hw2⟩:=ay (w1.alloc (.cells (kV (.leaf q v) a n c none 0 0 0 eB) 150))
 have hP:Rg.Own w2 w1.heap.size (kV (.leaf q v) a n c none 0 0 0 eB) 150:=by rw [hw2]; exact Rg.Own.new _ _ _
 have hb2:Below w1.heap.size w1 w2:=by rw [hw2]; exact al1 _ _
 have HR:=hid (hR.below hb2);have HE:Hid (∀ w3,Rg.Upd w2 w.heap.size w3->dQ M w (.leaf q v) (.returned (tv (some ⟨w1.heap.size,0,none⟩))) w3):=hid (λw3 hu =>
  have hb:=hu.below (hb1.trans (hb2.mono hb1.size)) aH
  zi hi hb hb1.size (λe=>by cases e) (Et hP hu (by omega)) (hB.1.below hb) (λad e hn=>Or.inl (hB.2 ad e hn)) (Ks.nil _ _).weak)
 clear hR hb1 hb2 hP hi hB;subst hw2;subst hw1;go_enter func87,ntmps87;go_wp2_with (first
  | (refine aB (bD _ _ _ _ rfl rfl) ?_)
  | (refine aB (bC (qH a n c q v) ⟨_,rfl,rfl⟩) ?_)
  | (refine aB (rT ⟨_,rfl,rfl⟩) ?_)
  | (refine bU HR.out (by decide) (some ⟨w.heap.size+1,0,none⟩) rfl _ _ rfl rfl rfl ?_; intro w3 hO3 hu3; have ce:=hid hO3; have zb:=hid hu3; clear hO3 hu3))
 have:=HE.out w3 zb.out;rw [hs1] at this;exact bodyPost_ret (gL rfl _ rfl ce.out) rfl this
theorem UN (b:Nat) (hb:b=w.heap.size) (ho:∃ x,o.op = .buildSlice 136 1 #[(0,x)]/\ev x=tv p) :
  (execOp ev o).run prog w = .ok (.value (.slice (some ⟨b,0,none⟩) 1 1)) (w.alloc (.cells (uF [p]) 46)):=by
 obtain ⟨x,ho,hx⟩:=ho;subst hb;unfold execOp;simp only [ho,List.map_toArray,List.map_cons,List.map_nil,hx];kernel_rfl
theorem mY (w:World) (p:aL):∃ w2,w2=(w.alloc (.cells #[.pointer p] 46)).alloc (.cells #[.pointer none] 46)/\Rg.Own w2 w.heap.size #[.pointer p] 46/\Rg.Own w2 (w.heap.size+1) #[.pointer none] 46/\Below w.heap.size w w2/\w2.heap.size=w.heap.size+2:=by
 refine ⟨_,rfl,(Rg.Own.new _ _ _).below (al1 _ _),?_,al2 _ _ _,by simp⟩;have:=Rg.Own.new (w.alloc (.cells #[.pointer p] 46)) #[.pointer none] 46;simpa using this
theorem kE (M:Mp) (ka:aL) (kn kc:Nat) (ks:Fin 16->T) (w:World) (hi:Inv M w) (hK:Ks M w ka kn kc (jr (.br ks))) :
  Calls prog 126 #[.slice ka kn kc] w (dQ M w (.br ks)):=by
 obtain ⟨w1,hw1⟩:=ay (w.alloc (.cells #[.pointer none] 46))
 have hR:Rg.Own w1 w.heap.size #[.pointer none] 46:=by rw [hw1]; exact Rg.Own.new _ _ _
 have hb1:Below w.heap.size w w1:=by rw [hw1]; exact al1 _ _
 have hs1:w1.heap.size=w.heap.size+1:=by rw [hw1]; simp
 obtain ⟨w2,hw2⟩:=ay (w1.alloc (.cells (kV (.br ks) none 0 0 ka kn kc 0 eB) 150))
 have hP:Rg.Own w2 w1.heap.size (kV (.br ks) none 0 0 ka kn kc 0 eB) 150:=by rw [hw2]; exact Rg.Own.new _ _ _
 have hb2:Below w1.heap.size w1 w2:=by rw [hw2]; exact al1 _ _
 have HR:=hid (hR.below hb2);have HE:Hid (∀ w3,Rg.Upd w2 w.heap.size w3->dQ M w (.br ks) (.returned (tv (some ⟨w1.heap.size,0,none⟩))) w3):=hid (λw3 hu =>
  have hb:=hu.below (hb1.trans (hb2.mono hb1.size)) aH
  zi hi hb hb1.size (λe=>by cases e) (Et hP hu (by omega)) (bf.nil _) (λ_ e=>by cases e) (hK.fr hi (Fr.below M hb)).weak)
 clear hR hb1 hb2 hP hi hK;subst hw2;subst hw1;go_enter func126,ntmps126;go_wp2_with (first
  | (refine aB (bD _ _ _ _ rfl rfl) ?_)
  | (refine aB (bC (RJ ka kn kc ks) ⟨_,rfl,rfl⟩) ?_)
  | (refine aB (rT ⟨_,rfl,rfl⟩) ?_)
  | (refine bU HR.out (by decide) (some ⟨w.heap.size+1,0,none⟩) rfl _ _ rfl rfl rfl ?_; intro w3 hO3 hu3; have ce:=hid hO3; have zb:=hid hu3; clear hO3 hu3))
 have:=HE.out w3 zb.out;rw [hs1] at this;exact bodyPost_ret (gL rfl _ rfl ce.out) rfl this
theorem uE (M:Mp) (a:aL) (n c:Nat) (q:Pa) (p:aL) (t:T) (w:World) (hi:Inv M w) (hB:Bs M w a n c q) (ht:IsT M p t) :
  Calls prog 129 #[.slice a n c,.agg #[.pointer p]] w (dQ M w (wrap q t)):=by
 obtain ⟨w2,hw2,aE,bc,hb2,hs2⟩:=mY w p;have hl:=hB.1.len;have hlc:=hB.1.1;have hmx:=hB.1.2.1;unfold maxLen at hmx;have H0:=hid aE;by_cases hn:n=0
 .subst hn;obtain rfl:q=[]:=List.eq_nil_of_length_eq_zero hl;have H1:=hid bc;have HE:Hid (∀ w3,Rg.Upd w2 (w.heap.size+1) w3->dQ M w (wrap [] t) (.returned (tv p)) w3):=hid (λw3 hu=>UY hi ht (hu.below hb2 (by omega)));clear aE bc hb2 hs2 hB hi ht hl;subst hw2;go_enter func129,ntmps129;go_wp2_with (first
   | (refine aB (bD _ _ _ (w.heap.size+1) (by simp) rfl) ?_)
   | (refine aB (aW (aV (j:=0) H0.out rfl) ⟨_,rfl,rfl⟩) ?_)
   | (refine bU H1.out (by decide) p rfl _ _ rfl rfl rfl ?_; intro w3 hO3 hu3; have ce:=hid hO3; have zb:=hid hu3; clear hO3 hu3))
  exact bodyPost_ret (gL rfl _ rfl ce.out) rfl (HE.out w3 zb.out)
 .have hq:q≠[]:=λe=>hn (by rw [<-hl,e]; rfl);have hwr:wrap q t = .ext q t:=if_neg hq;rw [hwr];have hnz:((n:Int)==0)=false:=by simp; omega
  obtain ⟨w3,hw3⟩:=ay (w2.alloc (.cells (uF [p]) 46))
  have hK:Rg.Own w3 w2.heap.size (uF [p]) 46:=by rw [hw3]; exact Rg.Own.new _ _ _
  have hb3:Below w2.heap.size w2 w3:=by rw [hw3]; exact al1 _ _
  have hs3:w3.heap.size=w.heap.size+3:=by rw [hw3]; simp [hs2]
  obtain ⟨w4,hw4⟩:=ay (w3.alloc (.cells (kV (.ext q t) a n c (some ⟨w2.heap.size,0,none⟩) 1 1 0 eB) 150))
  have hP:Rg.Own w4 w3.heap.size (kV (.ext q t) a n c (some ⟨w2.heap.size,0,none⟩) 1 1 0 eB) 150:=by rw [hw4]; exact Rg.Own.new _ _ _
  have hb4:Below w3.heap.size w3 w4:=by rw [hw4]; exact al1 _ _
  have gR:Below w2.heap.size w2 w4:=hb3.trans (hb4.mono hb3.size);have H1:=hid (bc.below gR);have H2:=hid (bc);have HE:Hid (∀ w5,Rg.Upd w4 (w.heap.size+1) w5->dQ M w (.ext q t) (.returned (tv (some ⟨w3.heap.size,0,none⟩))) w5):=hid (λw5 hu=>by
   have hb:=hu.below (hb2.trans (gR.mono hb2.size)) (show w.heap.size<=w.heap.size+1 by omega);refine zi hi hb (by omega) (λe=>by cases e) (Et hP hu (by omega)) (hB.1.below hb) (λad e hn=>Or.inl (hB.2 ad e hn)) ?_;exact Ks0.row (ps:=[p]) (b:=w2.heap.size) (by omega) ((hK.below hb4).upd hu (by omega)) rfl (by unfold maxLen; simp) (λj hj=>by
    obtain rfl:j=0:=by simp at hj; exact hj
    exact ht))
  rw [hs3] at HE;rw [hs2] at hw4;clear aE bc hb2 hb3 hb4 gR hP hK hB hi ht hwr hs3;subst hw4;subst hw3;subst hw2;clear hs2;go_enter func129,ntmps129;go_wp2_with (first
   | (refine aB (bD _ _ _ (w.heap.size+1) (by simp) rfl) ?_)
   | (refine aB (aW (aV (j:=0) H0.out rfl) ⟨_,rfl,rfl⟩) ?_)
   | (refine aB (UN (p:=p) (w.heap.size+2) (by simp) ⟨_,rfl,rfl⟩) ?_)
   | (refine aB (bC (wI a n c (some ⟨w.heap.size+2,0,none⟩) 1 1 q t) ⟨_,rfl,rfl⟩) ?_)
   | (refine aB (rT ⟨_,rfl,rfl⟩) ?_)
   | (refine bU H1.out (by decide) (some ⟨w.heap.size+3,0,none⟩) rfl _ _ rfl rfl rfl ?_; intro w5 c8 cq; have cf:=hid c8; have pP:=hid cq; clear c8 cq))
  exact bodyPost_ret (gL rfl _ rfl cf.out) rfl (HE.out w5 pP.out)
def yA (w:World) (a:aL) (n c:Nat) (ps:List (aL)):Prop :=
 n<=c/\c<=maxLen/\ps.length=n/\(a=none->c=0)/\∀ j,j<n->∃ b off,a=some ⟨b,off,none⟩/\b<w.heap.size/\w.cell? ⟨b,off+j,none⟩=some (.pointer (ps.getD j none))
def Are (M:Mp) (ps:List (aL)) (l:List T):Prop:=ps.length=l.length/\∀ j,j<ps.length->IsT M (ps.getD j none) (l.getD j .nil)
theorem Ks.ptrs {M:Mp} {a:aL} {n c:Nat} {l:List T} (h:Ks M w a n c l):∃ ps,yA w a n c ps/\Are M ps l:=by
 have hp:∀ j,∃ p,j<n->∃ b off,a=some ⟨b,off,none⟩/\b<w.heap.size/\w.cell? ⟨b,off+j,none⟩=some (.pointer p)/\IsT M p (l.getD j .nil):=λj=>by
  by_cases hj:j<n
  .obtain ⟨b,off,p,e,hlt,_,hc,ht⟩:=h.at' j hj;exact ⟨p,λ_=>⟨b,off,e,hlt,hc,ht⟩⟩
  .exact ⟨none,λh=>absurd h hj⟩
 obtain ⟨F,hF⟩:∃ F:Nat->aL,∀ j,j<n->∃ b off,a=some ⟨b,off,none⟩/\b<w.heap.size/\w.cell? ⟨b,off+j,none⟩=some (.pointer (F j))/\IsT M (F j) (l.getD j .nil):=⟨λj=>Classical.choose (hp j),λj=>Classical.choose_spec (hp j)⟩
 have e:∀ j,j<n->((List.range n).map F).getD j none=F j:=λj hj=>by simp [List.getD,hj]
 refine ⟨(List.range n).map F,⟨h.1,h.2.1,by simp,h.2.2.2.1,λj hj=>?_⟩,by simp [h.len],λj hj=>?_⟩
 .obtain ⟨b,off,e1,hlt,hc,_⟩:=hF j hj;exact ⟨b,off,e1,hlt,by rw [e j hj]; exact hc⟩
 .have hj':j<n:=by simpa using hj
  obtain ⟨_,_,_,_,_,ht⟩:=hF j hj';rw [e j hj']; exact ht
theorem yA.ks {M:Mp} {a:aL} {n c:Nat} {ps:List (aL)} {l:List T} (h:yA w a n c ps) (ha:Are M ps l) (hf:∀ ad,a=some ad->0<n->M.ft ad.block):Ks M w a n c l:=by
 have hl:=h.2.2.1;refine ⟨h.1,h.2.1,by rw [<-ha.1]; exact hl,h.2.2.2.1,λj hj=>?_⟩;obtain ⟨b,off,e,hlt,hc⟩:=h.2.2.2.2 j hj;exact ⟨b,off,_,e,hlt,hf _ e (by omega),hc,ha.2 j (by omega)⟩
theorem Are.mono {M M':Mp} {ps:List (aL)} {l:List T} (h:Are M ps l) (hm:∀ k t,M.at_ k=some t->M'.at_ k=some t):Are M' ps l:=⟨h.1,λj hj=>(h.2 j hj).mono hm⟩
theorem Are.set {M:Mp} {ps:List (aL)} {l:List T} (h:Are M ps l) (i:Nat) {t:T} (ht:IsT M p t):Are M (ps.set i p) (l.set i t):=by
 refine ⟨by simp [h.1],λj hj=>?_⟩;have hj':j<ps.length:=by simpa using hj
 have hjl:j<l.length:=by rw [<-h.1]; exact hj'
 by_cases e:i=j
 .subst e;rw [List.getD_eq_getElem?_getD,List.getD_eq_getElem?_getD,List.getElem?_set_self hj',List.getElem?_set_self hjl];exact ht
 .rw [List.getD_eq_getElem?_getD,List.getD_eq_getElem?_getD,List.getElem?_set_ne e,List.getElem?_set_ne e,<-List.getD_eq_getElem?_getD,<-List.getD_eq_getElem?_getD];exact h.2 j hj'
def RowK (w:World) (g cap:Nat) (ps:List (aL)):Prop :=
 ∃ cur,Rg.Own w g cur 46/\cur.size=cap/\ps.length<=cap/\cap<=maxLen/\∀ j,j<ps.length->cur[j]? = some (.pointer (ps.getD j none))
theorem RowK.lt {ps:List (aL)} (h:RowK w g cap ps):g<w.heap.size:=by
 obtain ⟨cur,hO,_⟩:=h;exact hO.1
theorem RowK.below {w w':World} {g cap:Nat} {ps:List (aL)} (h:RowK w g cap ps) (hb:Below w.heap.size w w'):RowK w' g cap ps:=by
 obtain ⟨cur,hO,h1⟩:=h;exact ⟨cur,hO.below hb,h1⟩
theorem RowK.upd {w w':World} {g b cap:Nat} {ps:List (aL)} (h:RowK w g cap ps) (hu:Rg.Upd w b w') (hne:g≠b):RowK w' g cap ps:=by
 obtain ⟨cur,hO,h1⟩:=h;exact ⟨cur,hO.upd hu hne,h1⟩
theorem RowK.ptrs {ps:List (aL)} (h:RowK w g cap ps):yA w (some ⟨g,0,none⟩) ps.length cap ps:=by
 obtain ⟨cur,hO,hs,hl,hm,hc⟩:=h;exact ⟨hl,hm,rfl,λe=>(by cases e),λj hj=>⟨g,0,rfl,hO.1,by rw [Nat.zero_add,cell_of_row w g _ _ _ _ hO.2]; exact hc j hj⟩⟩
theorem MG {ps:List (aL)} (hc:∀ j,j<ps.length->cur[j]? = some (.pointer (ps.getD j none))) (i:Nat) (p:aL) (hi:i<cur.size):∀ j,j<(ps.set i p).length->(cur.setIfInBounds i (.pointer p))[j]? = some (.pointer ((ps.set i p).getD j none)):=λj hj=>by
 have hj':j<ps.length:=by simpa using hj
 by_cases e:i=j
 .subst e;rw [List.getD_eq_getElem?_getD,List.getElem?_set_self hj'];simp [hi]
 .rw [List.getD_eq_getElem?_getD,List.getElem?_set_ne e,<-List.getD_eq_getElem?_getD,Array.getElem?_setIfInBounds_ne e];exact hc j hj'
theorem sQ {rest:List Oper} {ps:List (aL)} (h:RowK w g cap ps) (hof:i<ps.length) (p:aL)
  (hgd:o.guard=none) (x y:Operand) (ho:o.op = .store 46 x y) (hx:act.eval x = .pointer (some ⟨g,i,none⟩)) (hy:act.eval y=tv p)
  (hQ:∀ w',RowK w' g cap (ps.set i p)->Rg.Upd w g w'->wpList prog ops Q rest (act.put o.dst undef) w'):wpList prog ops Q (o::rest) act w:=by
 obtain ⟨cur,hO,hs,hl,hm,hc⟩:=h;refine bU hO (off:=i) (by omega) p hgd x y ho hx hy (λw' zc hu=>hQ w' ⟨_,zc,by simp [hs],by simpa using hl,hm,MG hc i p (by omega)⟩ hu)
theorem KD:(prog.info? 46).map (λi=>(i.size,i.bytes))=some (1,8):=by kernel_rfl
theorem Bd:((prog.info? 46).bind (·.zero)).map (·.cells)=some #[.pointer none]:=by kernel_rfl
theorem yx:∃ i z,prog.info? 46=some i/\i.zero=some z/\i.size=1/\i.bytes=8/\z.cells.size=1:=by
 have h1:=KD;have h2:=Bd;cases hi:prog.info? 46 with
 | none=>rw [hi] at h1; simp at h1
 | some i =>
  rw [hi] at h1 h2;simp at h1 h2;cases hz:i.zero with
  | none=>rw [hz] at h2; simp at h2
  | some z =>
   rw [hz] at h2;simp at h2;exact ⟨i,z,rfl,hz,h1.1,h1.2,by rw [h2]; rfl⟩
theorem Eo (w:World):(binOp .eql 136 (.slice none 0 0) (.slice none 0 0)).run prog w = .ok (.bool true) w:=by kernel_rfl
theorem zG (a:Addr) (n cap:Nat) (w:World):(binOp .eql 136 (.slice (some a) n cap) (.slice none 0 0)).run prog w = .ok (.bool false) w:=by kernel_rfl
theorem JI (w:World):Calls prog 125 #[.slice none 0 0] w λe w'=>e = .returned (.slice none 0 0)/\w=w':=by
 have hnil:=Eo;go_enter func125,ntmps125;go_wp2;go_ret;exact ⟨rfl,rfl⟩
def rF (w:World) (ps:List (aL)) (e:Ending) (w':World):Prop:=∃ g cap,e = .returned (.slice (some ⟨g,0,none⟩) ps.length cap)/\w.heap.size<=g/\RowK w' g cap ps/\Below w.heap.size w w'
theorem rJ {ps:List (aL)} {n:Nat} (ho:w'.ownsRow w.heap.size 46 1 v n (ps.map Value.pointer)) (hl:ps.length=n) (hne:v ≠ .slice none 0 0) (hb:Below w.heap.size w w'):rF w ps (.returned v) w':=by
 rcases ho.2 with ⟨rfl,hz⟩ | ⟨g,cap,cur,rfl,hbg,hg,hnc,hcm,hcs,htake⟩
 .exact absurd rfl hne
 .subst hl;refine ⟨g,cap,rfl,hbg,⟨cur,⟨(Array.getElem?_eq_some_iff.1 hg).1,hg⟩,by omega,hnc,hcm,λj hj=>?_⟩,hb⟩;have h1:(ps.map Value.pointer)[j]? = some (.pointer (ps.getD j none)):=by simp [List.getD,hj]
  rw [<-htake,List.getElem?_take,if_pos (by omega)] at h1;simpa using h1
theorem zm (ad:Addr) (n cap:Nat) (ps:List (aL)) (w:World) (h:yA w (some ad) n cap ps) (hn:n<=1000000) :
  Calls prog 125 #[.slice (some ad) n cap] w (rF w ps):=by
 obtain ⟨i0,z0,hi,hz,hs,hby,hzc⟩:=yx;have HI:Hid (_/\_/\_/\_/\_):=hid ⟨hi,hz,hs,hby,hzc⟩;have hl:=h.2.2.1;have hcell:∀ j u,(ps.map Value.pointer)[j]? = some u->(ad.add j).block<w.heap.size/\w.cell? (ad.add j)=some u:=λj u hu=>by
  have hj:j<n:=by rw [<-hl]; have:=(List.getElem?_eq_some_iff.1 hu).1; simpa using this
  obtain ⟨b,off,e,hlt,hc⟩:=h.2.2.2.2 j hj;obtain rfl:=Option.some.inj e;have hx:u = .pointer (ps.getD j none):=by
   have hj':j<ps.length:=by omega
   simp [hj'] at hu;simp [List.getD,hj',hu]
  rw [Addr.add_mid,hx];exact ⟨hlt,hc⟩
 have HC:=hid hcell;have HL:=hid hl;have hnil:=zG ad n cap;clear hi hz hs hby hzc h hcell hl;go_enter func125,ntmps125;have HO:Hid ((w.alloc (.cells #[] 46)).ownsRow w.heap.size 46 1 (.slice (some ⟨w.heap.size,0,none⟩) 0 0) 0 []):=hid (World.ownsRow_made w #[] 0 aH (Nat.zero_le _) (by simp))
 go_wp2_with (at_builtin; refine wpList_append_own _ rfl _ _ 136 rfl w.heap.size 46 i0 z0 1 8 underlying136 HI.out.1 HI.out.2.1 HI.out.2.2.1 HI.out.2.2.2.1 HI.out.2.2.2.2 (by decide) _ _ _ rfl HO.out ad n cap (ps.map Value.pointer) rfl (by simp [HL.out]) ?c2 ?c6 ?c3 ?c4 ?c5 ?_)
 case c2 =>
  intro j u hu;rw [(al1 w _).cell (HC.out j u hu).1];exact (HC.out j u hu).2
 case c6 =>
  intro u hu;simp at hu;obtain ⟨x,_,rfl⟩:=hu;rfl
 case c3=>unfold maxLen; omega
 case c4=>omega
 case c5=>simp
 intro v' w2 hown2 hgrow hnil';have HG:Hid (rF w ps (.returned v') w2):=hid (rJ (by simpa using hown2) HL.out hnil' ((al1 w _).grown hgrow (by simp) (λk hk=>by simp [Value.ownBlock] at hk; omega)));clear hown2 hgrow hnil';go_wp2;go_ret;exact HG.out
open Ni
open Pk
theorem sD:∀ x y:aN,iV x y=cp x y
 | [],_=>rfl
 | _::_,[]=>rfl
 | a::xs,b::ys=>by
  unfold iV cp;rw [sD xs ys]
theorem Aa:∀ {q p:Pa},q<+:p->cp q p=q.length
 | [],_,_=>rfl
 | a::q,[],h=>by simp at h
 | a::q,b::p,h=>by
  obtain ⟨rfl,h2⟩:=List.cons_prefix_cons.1 h;unfold cp;rw [if_pos rfl,Aa h2]; rfl
theorem zZ:∀ {q p:Pa},¬ q<+:p->cp q p<q.length
 | [],_,h=>absurd List.nil_prefix h
 | a::q,[],_=>by simp [cp]
 | a::q,b::p,h=>by
  unfold cp;by_cases e:a=b
  .subst e;rw [if_pos rfl];have:=zZ (q:=q) (p:=p) (λg=>h (List.cons_prefix_cons.2 ⟨rfl,g⟩));simp; omega
  .rw [if_neg e]; simp
theorem xM (w:World) (q:Nat):Below w.heap.size w (w.drewN q):=below_drewN aI q
theorem qh (a b:aL) (n m c d:Nat) (x y:Pa) (hn:n<=1000000) (hm:m<=1000000) (hle:n<=m) (w:World) (ha:bf w a n c x) (hb:bf w b m d y) :
  Calls prog 127 #[.slice a n c,.slice b m d] w λe w'=>e = .returned (.int .i64 (cp x y:Nat))/\Below w.heap.size w w':=by
 have HC:=hid (Jp a b n m c d x y hn hm w ha hb);have hx:=ha.len;have hl:cp x y<=n:=by rw [<-hx]; exact Qa x y
 rw [sD] at HC;obtain ⟨k,hk⟩:=aA (cp x y)
 rw [hk] at HC hl ⊢;clear hk ha hb hx;by_cases h:k=m
 .subst h;have h2:decide ((k:Int)<(n:Int))=false:=by simp; omega
  have h1:((k:Int)==(k:Int))=true:=by simp
  go_enter func127,ntmps127;go_wp2_with fail
  refine HC.out.mono ?_;rintro e w1 ⟨rfl,q,rfl⟩;go_wp2;go_ret;exact ⟨rfl,xM _ _⟩
 .have h1:((k:Int)==(m:Int))=false:=by simp; omega
  go_enter func127,ntmps127;go_wp2_with fail
  refine HC.out.mono ?_;rintro e w1 ⟨rfl,q,rfl⟩;go_wp2;go_ret;exact ⟨rfl,xM _ _⟩
theorem Inv.path {M:Mp} (hi:Inv M w) {b:Nat} {t:T} (hm:M.at_ b=some t):∃ a n c,w.cell? ⟨b,1,none⟩=some (.slice a n c)/\Bs M w a n c (dA t):=by
 obtain ⟨a,n,c,ka,kn,kc,d,r,hb,hB,_⟩:=hi.part hm;exact ⟨a,n,c,(jU hb).1.2.1,hB⟩
theorem Inv.val {M:Mp} (hi:Inv M w) {b:Nat} {t:T} (hm:M.at_ b=some t):w.cell? ⟨b,2,none⟩=some (.string (Si t)):=by
 obtain ⟨a,n,c,ka,kn,kc,d,r,hb,_⟩:=hi.part hm;exact (jU hb).1.2.2.1
theorem Inv.kids {M:Mp} (hi:Inv M w) {b:Nat} {t:T} (hm:M.at_ b=some t):∃ a n c,w.cell? ⟨b,3,none⟩=some (.slice a n c)/\Ks M w a n c (jr t):=by
 obtain ⟨a,n,c,ka,kn,kc,d,r,hb,_,hk,_⟩:=hi.part hm;exact ⟨ka,kn,kc,(jU hb).1.2.2.2,hk⟩
theorem zD (M:Mp) (b:Nat) (t:T) (hm:M.at_ b=some t) (a:aL) (n c:Nat) (way:Pa) (w:World) (hi:Inv M w) (hB:bf w a n c way) (hle:(dA t).length<=n) (hn:n<=1000) :
  Calls prog 88 #[.agg #[.pointer (some ⟨b,0,none⟩)],.slice a n c] w λe w' =>
   e=(if dA t<+:way then .returned (.slice (eX a c (dA t).length) (n-(dA t).length) (c-(dA t).length)) else .panicked [fT 7])/\Below w.heap.size w w':=by
 have hi1:=hi.below (al1 w (.cells #[.pointer (some ⟨b,0,none⟩)] 46));obtain ⟨pa,pn,pc,c1,hP,_⟩:=hi1.path hm;have h0:=fU w (some ⟨b,0,none⟩);have hl:=hP.len;have hcap:=hB.1;have hmx:=hB.2.1;unfold maxLen at hmx;have HA:=hid (qh pa a pn n pc c (dA t) way (by omega) (by omega) (by omega) _ hP (hB.alloc (.cells #[.pointer (some ⟨b,0,none⟩)] 46)));rw [hl] at hle ⊢;have ya:Hid (∀ X Y:Ending,(if dA t<+:way then X else Y)=if cp (dA t) way=pn then X else Y):=hid (λX Y=>by
  by_cases h:dA t<+:way
  .rw [if_pos h,if_pos ((Aa h).trans hl)]
  .rw [if_neg h,if_neg (by have:=zZ h; omega)])
 rw [ya.out];have hkl:cp (dA t) way<=pn:=by rw [<-hl]; exact Qa _ _
 obtain ⟨k,hk⟩:=aA (cp (dA t) way)
 rw [hk] at HA hkl ⊢;clear ya hk hP hB hi hi1 hl hm;by_cases h:k=pn
 .subst h;rw [if_pos rfl];have h2:decide ((k:Int)<(k:Int))=false:=by simp
  go_enter func88,ntmps88;go_wp2_with fail
  refine HA.out.mono ?_;rintro e w1 ⟨rfl,hb1⟩;have h0':=aX hb1 h0;have c1':=aX hb1 c1;have HB:=hid (bst (al1 _ _) hb1);clear h0 c1 hb1;go_wp2_with (refine aB (jk fV iD hle ⟨_,_,rfl,rfl,rfl⟩) ?_)
  go_ret;exact ⟨rfl,HB.out⟩
 .rw [if_neg h];have h2:decide ((k:Int)<(pn:Int))=true:=by simp; omega
  go_enter func88,ntmps88;go_wp2_with fail
  refine HA.out.mono ?_;rintro e w1 ⟨rfl,hb1⟩;have h0':=aX hb1 h0;have c1':=aX hb1 c1;have HB:=hid (bst (al1 _ _) hb1);clear h0 c1 hb1;go_wp2;simp [bodyPost,fT];exact HB.out
theorem Ev (M:Mp) (b:Nat) (t:T) (hm:M.at_ b=some t) (a:aL) (n c:Nat) (way:Pa) (w:World) (hi:Inv M w) (hB:bf w a n c way) (hle:(dA t).length=n) (hn:n<=1000) :
  Calls prog 89 #[.agg #[.pointer (some ⟨b,0,none⟩)],.slice a n c] w λe w' =>
   e=(if dA t=way then .returned (.tuple #[]) else .panicked [fT 7])/\Below w.heap.size w w':=by
 have h0:=fU w (some ⟨b,0,none⟩);have HP:=hid (zD M b t hm a n c way (w.alloc (.cells #[.pointer (some ⟨b,0,none⟩)] 46)) (hi.below (al1 _ _)) (hB.alloc _) (by omega) hn);have ya:Hid (dA t<+:way↔dA t=way):=hid ⟨λh=>h.eq_of_length (by rw [hle,hB.len]),λh=>by rw [h]; exact List.prefix_rfl⟩;have HX:Hid (∀ X Y:Ending,(if dA t<+:way then X else Y)=if dA t=way then X else Y):=hid (λX Y=>by
  by_cases h:dA t=way
  .rw [if_pos h,if_pos (ya.out.2 h)]
  .rw [if_neg h,if_neg (λg=>h (ya.out.1 g))])
 rw [HX.out,hle] at HP;clear hi hB HX ya hm;by_cases h:dA t=way
 .rw [if_pos h] at HP ⊢;have h2:decide (0<((n-n:Nat):Int))=false:=by simp
  clear h;go_enter func89,ntmps89;go_wp2_with (refine aB (aW h0 ⟨_,rfl,rfl⟩) ?_)
  refine HP.out.mono ?_;rintro e w1 ⟨rfl,hb1⟩;have HB:=hid (bst (al1 _ _) hb1);clear h0 hb1;go_wp2;go_end0;exact ⟨rfl,HB.out⟩
 .rw [if_neg h] at HP ⊢;clear h;go_enter func89,ntmps89;go_wp2_with (refine aB (aW h0 ⟨_,rfl,rfl⟩) ?_)
  refine HP.out.mono ?_;rintro e w1 ⟨rfl,hb1⟩;have HB:=hid (bst (al1 _ _) hb1);clear h0 hb1;go_wp2;simp [bodyPost];exact HB.out
theorem lC (a:aL) (n c:Nat) (way:Pa) (hn:1<=n) (w:World) (hB:bf w a n c way) :
  Calls prog 84 #[.slice a n c] w λe w'=>e = .returned (.tuple #[.int .u8 (way.getD 0 0).toNat,.slice (eX a c 1) (n-1) (c-1)])/\Below w.heap.size w w':=by
 obtain ⟨b,off,rfl,hlt,hc⟩:=hB.at' 0 (by omega);rw [Nat.add_zero] at hc;have hcap:=hB.1;have hmx:=hB.2.1;unfold maxLen at hmx;obtain ⟨x,hx⟩:=aA ((way.getD 0 0).toNat)
 rw [hx] at hc ⊢;have hnz:((n:Int)==0)=false:=by simp; omega
 have hn0:0<n:=hn;clear hB hx;go_enter func84,ntmps84;go_wp2_with fail
 refine aD (S:=λw'=>Below w.heap.size w w') (aI.drew) λhld=>?_;refine aj 0 ?_;try simp only [Act.put,au]
 refine aj 1 ?_;try simp only [Act.put,au]
 refine aF 2 (λwz hSw=>(hSw.cell (p:=⟨b,off,none⟩) hlt).trans hc) ?_;try simp only [Act.put,au]
 refine aj 3 ?_;try simp only [Act.put,au]
 refine aj 4 ?_ (hy:=by intro wz hSw; (refine jk (a:=some ⟨b,off,none⟩) (n:=n) (c:=c) (i:=1) fV iD hn ?_; exact ⟨_,_,rfl,rfl,rfl⟩));try simp only [Act.put,au]
 refine aj 5 ?_;try simp only [Act.put,au]
 refine aj 6 ?_;try simp only [Act.put,au]
 refine aC ?_;go_wp2;exact bodyPost_ret (results_tmp2 rfl _ _ _) rfl ⟨rfl,hld⟩
end Tm
end
end Go.Proofs.YtokaiemgjngcoaaGreatDoor
