/-
 The contract of node.Get, of any bytes that are not far too many.
-/
import Derived.Test.YtokaiemgjngcoaaGreatDoorVs9
open Go.Lib (hid)
open Go.Proofs.Tryz
set_option linter.unusedSimpArgs false
set_option linter.unusedVariables false
set_option maxHeartbeats 40000000
set_option maxRecDepth 100000
namespace Go.Proofs.YtokaiemgjngcoaaGreatDoor
variable {k r x:aM} {v:Value} {L cap g i j kn lo off:Nat} {w w':World} {o:Oper} {S:Nat->Prop} {p:aL} {o':Obj} {d:Int} {ev:Operand->Value} {ops:Array Oper} {act:Act} {Q:Exit->Act->World->Prop} {K:Act->World->Prop} {cur:aO}
section
open Go.RowKit
namespace No
open Rl Ni
theorem Wi {s:aN} {x:It} (hs:s.length<=1000000) (h:iw s = .ok x):∀ y∈x.xs,Good y:=by
 obtain ⟨g1,g2,g3⟩:=jS (by omega) h;intro y hy;have h1:=sM g2 (by rw [g1]; omega) hy;rw [g1] at h1;have h2:=Qk y (EX g2 hy) (Nat.zero_le _);obtain ⟨i,hi⟩:=List.getElem?_of_mem hy;have h3:=Cu x.xs i y hi;have h4:x.size=1+(x.xs.map It.size).sum:=by cases x; exact It.size_mk _ _ _
 have h5:=mI y;have h6:y.s.size<=y.inner.length:=by
  unfold It.inner;rw [List.length_append,iC];omega
 exact ⟨h2,by omega,by omega,by omega⟩
theorem Cb {s:aN} {c:Int} (h:iw s = .error c):c≠0:=by
 unfold iw at h;split at h
 .rename_i c' hr;cases h;have:=(codes s.length).1 _ _ _ _ aH hr;omega
 .split at h
  .cases h; decide
  .cases h
theorem Vr {xs:List It} {N:Nd} (hG:∀ x∈xs,Good x) (h:eD xs=some N):N.v.size<=1000000:=by
 unfold eD at h;by_cases h2:xs.length=2
 .rw [if_pos h2] at h;have h1:=hG _ (kQ (xs:=xs) (i:=1) (by omega));unfold ig at h;split at h
  .cases h
  .split at h
   .obtain rfl:=Option.some.inj h;exact h1.2.2.2
   .obtain ⟨k,hk,rfl⟩:=Option.map_eq_some_iff.1 h;exact Nat.zero_le _
 .rw [if_neg h2] at h;split at h
  .unfold dA at h;split at h
   .cases h
   .split at h
    .obtain rfl:=Option.some.inj h;exact Nat.zero_le _
    .cases h
  .cases h
theorem Ui (s:aM) (hs:s.size<=1000000) (ih:∀ k:aM,k.size<32->k.size<s.size->OI k):OI s:=by
 intro w;have hsl:=iC s;obtain ⟨w2,hw2⟩:=ay (w.alloc (.cells (ndC nd0 none 0 0) 67))
 have hO:dZ w2 w.heap.size nd0 none 0 0:=by rw [hw2]; exact Rg.Own.new _ _ _
 have hB2:Below w.heap.size w w2:=by rw [hw2]; exact al1 _ _
 have HO:=hid hO;have HB2:=hid hB2;have hW:=DI s (by omega) w2;have hgt:=FH s.data.toList (by omega);cases hr:iw s.data.toList with
 | error c =>
  rw [hr] at hW hgt;have HW:Hid (Calls prog 75 #[.string s] w2 λe w'=>e = .returned (.tuple #[itV it0 none 0 0,.int .i64 c])/\Below w2.heap.size w2 w'):=hid hW;unfold itV at HW;dsimp only [it0,It.l,It.s] at HW;have hne:(c != 0)=true:=by simp; exact Cb hr
  have HC:=hid (Cb hr);have HG:Hid (kW s.data.toList=none):=hid hgt;rw [HG.out];clear hO hB2 hr hgt ih hW;subst hw2;go_enter func43,ntmps43;go_wp2_with (refine aB (aY _ _ _ w.heap.size rfl rfl) ?_)
  with_reducible refine HW.out.mono ?_
  rintro e w3 ⟨rfl,hb3⟩;have ce:=hid ((HO.out.below hb3).below (al1 w3 (.cells #[.bool false,.string ⟨#[]⟩,.slice none 0 0] 96)));have HB3:=hid (bst (bst HB2.out hb3) (al1 w3 (.cells #[.bool false,.string ⟨#[]⟩,.slice none 0 0] 96)));clear hb3 HW;go_wp2_with (first
   | (refine aB (bQ qG ?_) ?_; · exact ⟨_,rfl,rfl⟩)
   | (refine bN ce.out rfl nd0 none 0 0 rfl rfl _ _ rfl rfl rfl rfl ?_))
  exact bodyPost_ret (fF rfl _ rfl (dO ce.out) rfl) rfl ⟨nd0,none,0,0,c,rfl,.inr ⟨HC.out,rfl,rfl⟩,BsF.nil _ _,rfl,cO HB3.out aH _⟩
 | ok x =>
  have hG:=Wi (by omega) hr;rw [hr] at hW hgt;dsimp only at hgt;have HW:Hid (Calls prog 75 #[.string s] w2 λe w'=>∃ a nn cap,e = .returned (.tuple #[itV x a nn cap,.int .i64 0])/\bO w2.heap.size w' x.xs a nn cap/\Below w2.heap.size w2 w'):=hid hW;unfold itV at HW;have kz:=hid (λw a n cap h=>RO x.xs a n cap w h hG);have lO:=hid hgt;have gt:Hid (∀ N,eD x.xs=some N->N.v.size<=maxLen/\∀ k∈N.ks,mZ k):=hid (λN hN=>by
   have h1:=Vr hG hN;obtain ⟨_,h2⟩:=Ar (by omega) hr hN;refine ⟨Nat.le_trans h1 (by unfold maxLen; omega),λk hk=>?_⟩;have hs0:0<s.size:=by
    have hb:=jS (by omega) hr;have:=pG hb.2.1 (by rw [hb.1]; omega);rw [hb.1] at this;have:=List.length_pos_iff.2 this;omega
   rcases h2 k hk with hp | ⟨h3,h4⟩
   .have hp:=of_decide_eq_true hp;exact KG k (by omega) (λh=>ih k h (by omega))
   .exact KG k (by omega) (λh=>ih k h (by omega)))
  obtain ⟨r,hrr⟩:=aA (eD x.xs)
  obtain ⟨G,IH⟩:=aA (kW s.data.toList)
  rw [hrr] at lO kz gt;rw [IH] at lO;rw [IH];clear hO hB2 hr hgt ih hW hG hrr IH;subst hw2;go_enter func43,ntmps43;go_wp2_with (refine aB (aY _ _ _ w.heap.size rfl rfl) ?_)
  with_reducible refine HW.out.mono ?_
  rintro e w3 ⟨a3,n3,c3,rfl,yW,hb3⟩;obtain ⟨w4,hw4⟩:=ay (w3.alloc (.cells #[.bool x.l,.string x.s,.slice a3 n3 c3] 96))
  have hb4:Below w3.heap.size w3 w4:=by rw [hw4]; exact al1 _ _
  have hO4:=(HO.out.below hb3).below hb4;have hB4:=bst (bst HB2.out hb3) hb4;have HR4:=hid (kz.out w4 a3 n3 c3 (bO.weak (yW.stays hb4) (Nat.zero_le _)));have cC:=hid hO4;have aq:=hid hB4;clear hb3 hb4 yW hO4 hB4 HW kz;subst hw4;go_wp2_with fail
  with_reducible refine HR4.out.mono ?_
  rintro e w5 ⟨N,a5,n5,c5,b5,rfl,YM,hx5,hl5,hb5⟩;have YN:=hb5.size;have bo:=cC.out.below hb5;have eh:=bst aq.out hb5;obtain ⟨w6,eS⟩:=ay (w5.alloc (.cells (ndC N a5 n5 c5) 67))
  have js:Hid (dZ (w5.alloc (.cells (ndC nd0 none 0 0) 67)) w5.heap.size nd0 none 0 0):=hid (Rg.Own.new _ _ _);have cz:Hid (dZ ((w5.alloc (.cells (ndC nd0 none 0 0) 67)).setRow w5.heap.size (ndC N a5 n5 c5)) w5.heap.size N a5 n5 c5):=hid (dO js.out);have cG:Below w5.heap.size w5 ((w5.alloc (.cells (ndC nd0 none 0 0) 67)).setRow w5.heap.size (ndC N a5 n5 c5)):=cO (al1 _ _) aH _;have cF:=hid (bo.below cG);have ax:=hid (bst eh cG);have z7:=hid (hx5.below cG);have rp:=hid hl5;have hw0:=cC.out.1
  clear bo eh hx5 hl5 hb5 cG HR4 cC aq eS w6;rcases YM with ⟨rfl,rfl⟩ | ⟨rfl,rfl⟩
  .have hck:=sZ N a5 n5 c5 rp.out ((w5.alloc (.cells (ndC nd0 none 0 0) 67)).setRow w5.heap.size (ndC N a5 n5 c5)) z7.out.1 (gt.out N rfl).1 (gt.out N rfl).2;obtain ⟨M,hM⟩:=aA (fC bV N)
   have HG:Hid (G=if M=true then some N else none):=hid (by rw [lO.out,<-hM]);rw [hM] at hck;have HC:=hid hck;clear hM lO gt hck;go_wp2_with (first
    | (refine aB (aY _ _ _ w5.heap.size rfl rfl) ?_)
    | (refine bN js.out rfl N a5 n5 c5 rp.out rfl _ _ rfl rfl rfl rfl ?_)
    | (refine Rg.runW (by rfl) _ _ (bU cz.out rp.out ?_) ?_; · exact ⟨_,rfl,rfl⟩))
   refine HC.out.mono ?_;rintro e w7 ⟨rfl,cQ⟩;have hs7:=cQ.size;have YO:=hid (cz.out.below cQ);have eK:=hid (cF.out.below cQ);have cA:=hid (bst ax.out cQ);have xp:=hid (z7.out.below cQ);clear cQ HC cF ax z7;cases M with
   | true =>
    go_wp2_with (first
     | (refine aB (bU YO.out rp.out ?_) ?_; · exact ⟨_,rfl,rfl⟩)
     | (refine bN eK.out rfl N a5 n5 c5 rp.out rfl _ _ rfl rfl rfl rfl ?_))
    exact bodyPost_ret (fF rfl _ rfl (dO eK.out) rp.out) rfl ⟨N,a5,n5,c5,0,rfl,.inl ⟨rfl,HG.out⟩,(xp.out.row (by omega) _).weak (by omega),rp.out,cO cA.out aH _⟩
   | false =>
    go_wp2_with (first
     | (refine aB (bQ qG ?_) ?_; · exact ⟨_,rfl,rfl⟩)
     | (refine bN eK.out rfl nd0 none 0 0 rfl rfl _ _ rfl rfl rfl rfl ?_))
    exact bodyPost_ret (fF rfl _ rfl (dO eK.out) rfl) rfl ⟨nd0,none,0,0,6,rfl,.inr ⟨by decide,rfl,HG.out⟩,BsF.nil _ _,rfl,cO cA.out aH _⟩
  .have HG:Hid (G=none):=lO;go_wp2_with (first
    | (refine aB (aY _ _ _ w5.heap.size rfl rfl) ?_)
    | (refine bN js.out rfl N a5 n5 c5 rp.out rfl _ _ rfl rfl rfl rfl ?_)
    | (refine aB (bQ qG ?_) ?_; · exact ⟨_,rfl,rfl⟩)
    | (refine bN cF.out rfl nd0 none 0 0 rfl rfl _ _ rfl rfl rfl rfl ?_))
   exact bodyPost_ret (fF rfl _ rfl (dO cF.out) rfl) rfl ⟨nd0,none,0,0,6,rfl,.inr ⟨by decide,rfl,HG.out⟩,BsF.nil _ _,rfl,cO ax.out aH _⟩
theorem SN (N:Nat) (hN:N<=1000000):∀ s:aM,s.size<=N->OI s:=by
 induction N using Nat.strongRecOn with
 | ind N ih=>exact λs hs=>Ui s (by omega) (λk _ hk=>ih k.size (by omega) (by omega) k aH)
theorem Ic (s:aM) (hs:s.size<=1000000):OI s:=SN s.size hs s aH
theorem oQ (k:aM) (hk:k.size<=9223372036854775807):mZ k:=KG k hk (λh=>Ic k (by omega))
end No
end
section
open Go.RowKit
namespace Rf
open Rl Ni No
open Sh
open Sm
theorem Tq (w:World) (v:Value) (t:TypeId):(w.alloc (.cells #[v] t)).cell? ⟨w.heap.size,0,none⟩=some v:=by
 have:=Bu.cell_one_new' w v t (0,0) 0 v rfl;rwa [Addr.add_mid] at this
def ofP (s:aM):aM:=if s.size<32 then s else ⟨(gG s).toArray⟩
theorem KO (s:aM) (hs:s.size<=900000) (w:World) (hT:Tab w):Calls prog 62 #[.string s] w λe w'=>e = .returned (.agg (kc (gG s)))/\Below w.heap.size w w':=Sm.FK s hs w hT
theorem ML (s:aM) (hs:s.size<=900000) (w:World) (hT:Tab w) :
  Calls prog 153 #[.string s] w λe w'=>e = .returned (.string (ofP s))/\Below w.heap.size w w':=by
 by_cases h:s.size<32
 .have HF:Hid (ofP s=s):=hid (by unfold ofP; rw [if_pos h]);have hd:decide ((s.size:Int)<32)=true:=by simp; omega
  rw [HF.out];clear hT HF;go_enter func153,ntmps153;go_wp2;go_ret;exact ⟨rfl,aI⟩
 .have HF:Hid (ofP s=⟨(gG s).toArray⟩):=hid (by unfold ofP; rw [if_neg h]);have hd:decide ((s.size:Int)<32)=false:=by simp; omega
  have de:=hid (KO s hs w hT);have IM:=hid (λW=>Sm.kZ (gG s) (mR s) W);rw [HF.out];obtain ⟨K,hK⟩:=aA (gG s)
  rw [hK] at de IM;rw [hK];obtain ⟨T,rq⟩:=aA (⟨K.toArray⟩:aM)
  rw [rq] at IM;rw [rq];clear hT HF hK rq;go_enter func153,ntmps153;go_wp2_with fail
  refine de.out.mono ?_;rintro e w1 ⟨rfl,hb1⟩;go_wp2_with fail
  refine (IM.out _).mono ?_;rintro e w2 ⟨rfl,hb2⟩;go_wp2;go_ret;exact ⟨rfl,bst hb1 hb2⟩
def eG (s:aM):aN:=if s.size=0 then gG ⟨#[128]⟩ else gG s
theorem jE (s:aM):(eG s).length=32:=by unfold eG; split <;> exact mR _
theorem Aq (s:aM) (hs:s.size<=900000) (w:World) (hT:Tab w) :
  Calls prog 33 #[.string s] w λe w'=>e = .returned (.agg (kc (eG s)))/\Below w.heap.size w w':=by
 have h0:=hT.pos;have HT:=hid hT;have co:=hid (jE s);by_cases h:s.size=0
 .obtain rfl:=dI h;have de:=hid (λW (h:Tab W)=>KO ⟨#[128]⟩ (by decide) W h);have hR:eG eB=gG ⟨#[128]⟩:=rfl;rw [<-hR] at de;obtain ⟨K,hK⟩:=aA (eG eB)
  rw [hK] at de co;rw [hK];clear hT hK hR h;go_enter func33,ntmps33;go_wp2_with (refine fV rfl _ _ (jK _ _ rfl _ _ rfl) ?_)
  refine (de.out _ (HT.out.below (al1 _ _) h0)).mono ?_;rintro e w1 ⟨rfl,hb1⟩;have io:=hid ((Rg.Own.new w (kc zk) 23).below hb1);have HB2:Hid (Below w.heap.size w w1):=hid (bst (al1 _ _) hb1);clear hb1;go_wp2_with (refine wpList_store_rowTo rfl 23 _ _ rfl rfl _ (kc K) rfl rfl 23 (kc zk) io.out.2 (jR K co.out) (by rw [jy,jy,co.out]; rfl) (FL _) ?_)
  exact bodyPost_ret (results_cell_row rfl _ _ w.heap.size 23 (kc K) (0,0) _ rfl (setRow_heap _ _ _ _ _ _ io.out.2) underlying23 rfl (jR K co.out)) rfl ⟨rfl,Sm.eU HB2.out aH _⟩
 .have hne:=Ni.dJ (s:=s) (by omega);have de:=hid (λW (h:Tab W)=>KO s hs W h);have hR:eG s=gG s:=by unfold eG; rw [if_neg h]
  rw [<-hR] at de;obtain ⟨K,hK⟩:=aA (eG s)
  rw [hK] at de co;rw [hK];clear hT hK hR h;go_enter func33,ntmps33;go_wp2_with (refine fV rfl _ _ (jK _ _ rfl _ _ rfl) ?_)
  refine (de.out _ (HT.out.below (al1 _ _) h0)).mono ?_;rintro e w1 ⟨rfl,hb1⟩;have io:=hid ((Rg.Own.new w (kc zk) 23).below hb1);have HB2:Hid (Below w.heap.size w w1):=hid (bst (al1 _ _) hb1);clear hb1;go_wp2_with (refine wpList_store_rowTo rfl 23 _ _ rfl rfl _ (kc K) rfl rfl 23 (kc zk) io.out.2 (jR K co.out) (by rw [jy,jy,co.out]; rfl) (FL _) ?_)
  exact bodyPost_ret (results_cell_row rfl _ _ w.heap.size 23 (kc K) (0,0) _ rfl (setRow_heap _ _ _ _ _ _ io.out.2) underlying23 rfl (jR K co.out)) rfl ⟨rfl,Sm.eU HB2.out aH _⟩
theorem IV (r:aM) (w:World) :
  Calls prog 119 #[.string r] w λe w'=>e = .returned (.func (Fn.func 154) #[] #[.pointer (some ⟨w.heap.size,0,none⟩)])/\w'=w.alloc (.cells #[.string r] 9):=by
 go_enter func119,ntmps119;go_wp2;go_ret;exact ⟨rfl,rfl⟩
def rQ (r s:aM):Bool:=decide (s.size≠0)&&decide (ofP s=r)
theorem JD (c:Nat) (r s:aM) (hs:s.size<=900000) (w:World) (hT:Tab w) (hc:w.cell? ⟨c,0,none⟩=some (.string r)) :
  Calls prog 154 #[.string s,.pointer (some ⟨c,0,none⟩)] w λe w'=>e = .returned (.bool (rQ r s))/\Below w.heap.size w w':=by
 have h0:=hT.pos;have HT:=hid hT;have tm:=World.block_lt_of_cell? w _ hc;by_cases h:s.size=0
 .obtain rfl:=dI h;have HF:Hid (rQ r eB=false):=hid rfl;rw [HF.out];clear HT hT h HF hs;go_enter func154,ntmps154;go_wp2;go_quiet (fail)
  go_wp2;go_ret;exact ⟨rfl,below_drewN aI _⟩
 have hne:=Ni.dJ (s:=s) (by omega);have de:=hid (λW (h:Tab W)=>ML s hs W h);have HF:Hid (rQ r s=decide (ofP s=r)):=hid (by unfold rQ; simp [h]);obtain ⟨T,rq⟩:=aA (ofP s)
 rw [rq] at de HF;clear rq hT h;go_enter func154,ntmps154;go_wp2_with fail
 refine aD (S:=λw'=>Below w.heap.size w w') (aI.drew) λhld=>?_;refine aj 0 ?_;try simp only [Act.put,au]
 refine aj 1 ?_;try simp only [Act.put,au]
 refine aj 2 ?_;try simp only [Act.put,au]
 refine aj 3 ?_;try simp only [Act.put,au]
 refine aF 5 (λwz hSw=>(hSw.cell (p:=⟨c,0,none⟩) tm).trans hc) ?_;try simp only [Act.put,au]
 refine ak 4 λK hK=>?_;go_simp;go_at_call 153
 (with_reducible refine (de.out _ (HT.out.below hld h0)).mono ?_)
 rintro e bc ⟨rfl,hbx⟩;refine hK.out _ _ (Below.trans hld (hbx.mono hld.size)) λhld=>?_;clear hK K;try simp only [Act.put,au]
 refine aj 6 ?_;try simp only [Act.put,au]
 refine aj 7 ?_;try simp only [Act.put,au]
 refine aj 8 ?_;try simp only [Act.put,au]
 refine aC ?_;go_wp2;go_ret;exact ⟨by rw [HF.out,<-str_eq]; rfl,hld⟩
theorem JE (r s:aM) (hs:s.size<=900000) (w:World) (hT:Tab w) :
  Calls prog 73 #[.string r,.string s] w λe w'=>e = .returned (.bool (rQ r s))/\Below w.heap.size w w':=by
 have h0:=hT.pos;have HM:=hid (IV r w);have H1:=hid (JD w.heap.size r s hs (w.alloc (.cells #[.string r] 9)) (hT.below (al1 _ _) h0) (Tq _ _ _));obtain ⟨F,hF⟩:=aA (rQ r s)
 rw [hF] at H1 ⊢;clear hF hT hs;go_enter func73,ntmps73;go_wp2_with fail
 refine HM.out.mono ?_;rintro e w1 ⟨rfl,rfl⟩;go_wp2_with fail
 refine H1.out.mono ?_;rintro e w2 ⟨rfl,hb2⟩;go_wp2;go_ret;exact ⟨rfl,bst (al1 _ _) hb2⟩
end Rf
end
section
open Go.RowKit
namespace No
open Rl Ni
def dS (k:aM):It:=if dB k then .mk false k [] else match iw k.data.toList with
 | .ok x=>x
 | .error _=>it0
abbrev pJ (n:Nd):It:=.mk false ⟨(gY n.p (decide (n.kd=1))).toArray⟩ []
def bX (n:Nd):List It:=if n.kd=3 then n.ks.map dS++[it0] else if n.kd=1 then [pJ n,.mk false n.v []] else [pJ n,dS (n.ks.getD 0 eB)]
def gX (n:Nd):It:=.mk true ⟨#[]⟩ (bX n)
def jM (n:Nd):aN:=(gX n).bytes
theorem Ik (x:It):∀ {d e:Nat},Fits d x->e+x.bytes.length<=65->Fits e x:=by
 induction x using It.ind with
 | h l s xs ih =>
  intro d e h he;have hb:=pG h (by omega);have hb1:=List.length_pos_iff.2 hb;have hless:∀ y∈xs,y.bytes.length<(It.mk l s xs).bytes.length:=λy hy=>sM h (by omega) hy;cases h with
  | mk ha hs hx hy=>exact .mk (by omega) hs hx (λy hm=>ih y hm (hy y hm) (by have:=hless y hm; omega))
theorem TA (xs:List It) (h:∀ y∈xs,y.size<=y.bytes.length):(xs.map It.size).sum<=((xs.map It.bytes).flatten).length:=by
 induction xs with
 | nil=>exact aH
 | cons y ys ih =>
  rw [List.map_cons,List.sum_cons,List.map_cons,List.flatten_cons,List.length_append];have h1:=h y (List.mem_cons_self ..);have h2:=ih (λz hz=>h z (List.mem_cons_of_mem _ hz));omega
theorem tO (x:It):∀ {d:Nat},Fits d x->x.bytes.length<=4294967296->x.size<=x.bytes.length:=by
 induction x using It.ind with
 | h l s xs ih =>
  intro d h hb;have hp:=List.length_pos_iff.2 (pG h hb);have hless:∀ y∈xs,y.bytes.length<(It.mk l s xs).bytes.length:=λy hy=>sM h hb hy;have hle:=TA xs (λy hy=>ih y hy (EX h hy) (by have:=hless y hy; omega));rw [It.size_mk];cases l with
  | true =>
   have h1:=xW h hb rfl;have h2:=iN (((It.mk true s xs).xs.map It.bytes).flatten).length true;simp only [It.xs] at h1 h2;omega
  | false =>
   cases h with
   | mk ha hs hx hy =>
    rw [hx rfl] at hp ⊢;rw [List.map_nil,List.sum_nil];exact hp
theorem Ig {x:It} (h:Fits 0 x) (hb:x.bytes.length<=4294967296) (hk:x.size<=4096):iw x.bytes = .ok x:=by
 have:=forth x 0 0 [] h hb (by omega);rw [List.append_nil] at this;unfold iw;rw [this];dsimp only;rw [if_neg (by omega)]
theorem pR (d:Nat) (hd:d<=64) (s:aM):Fits d (.mk false s []):=.mk hd (λe=>by cases e) (λ_=>rfl) (λy hy=>by cases hy)
theorem rE (s:aM) (h:s.size<=4294967296):(It.mk false s []).bytes.length<=9+s.size:=by
 rw [kE s h,List.length_append,iC];have:=mM s.size false (by omega);split
 .simp
 .omega
theorem rA (hp:dB k=false) (h:bV k=true):∃ x n,iw k.data.toList = .ok x/\dS k=x/\x.l=true/\eD x.xs=some n/\k.size<32/\x.bytes=k.data.toList/\Fits 0 x/\fC bV n=true:=by
 unfold bV at h;rw [hp,Bool.false_or,Bool.and_eq_true] at h;have h32:k.size<32:=of_decide_eq_true h.1;obtain ⟨n,hn⟩:=Option.isSome_iff_exists.1 h.2;have hsl:=iC k;obtain ⟨x,hw,hr,hm⟩:=pK (by omega) hn;obtain ⟨g1,g2,g3⟩:=jS (by omega) hw;refine ⟨x,n,hw,?_,?_,hr,h32,g1,g2,hm⟩
 .unfold dS;rw [hp,hw];rfl
 .refine Bc g2 (λe=>?_);rw [e] at hr;cases hr
theorem nU (hp:dB k=true):dS k = .mk false k []:=by
 unfold dS;rw [hp];rfl
theorem jW (hp:dB k=true):k.size=0\/k.size=32:=of_decide_eq_true hp
theorem mg {k:aM} (h:bV k=true):Fits 1 (dS k)/\(dS k).bytes.length<=41:=by
 cases hp:dB k with
 | true =>
  rw [nU hp];have:=jW hp;have h2:=rE k (by omega);exact ⟨pR 1 (by omega) k,by omega⟩
 | false =>
  obtain ⟨x,n,hw,e,hl,hr,h32,hb,hf,_⟩:=rA hp h;have hsl:=iC k;rw [e];exact ⟨Ik x hf (by rw [hb]; omega),by rw [hb]; omega⟩
theorem Ej {k:aM} (h:bV k=true):lJ (dS k)=some k:=by
 cases hp:dB k with
 | true =>
  rw [nU hp];show (if dB k then some k else none)=some k;rw [hp];rfl
 | false =>
  obtain ⟨x,n,hw,e,hl,hr,h32,hb,hf,_⟩:=rA hp h;have hsl:=iC k;rw [e];unfold lJ;rw [hl,if_pos rfl,if_pos (by rw [hb]; omega),hb]
theorem zI (xs:List It) (m:Nat) (h:∀ y∈xs,y.bytes.length<=m):((xs.map It.bytes).flatten).length<=xs.length*m:=by
 induction xs with
 | nil=>simp
 | cons y ys ih =>
  rw [List.map_cons,List.flatten_cons,List.length_append,List.length_cons,Nat.succ_mul];have h1:=h y (List.mem_cons_self ..);have h2:=ih (λz hz=>h z (List.mem_cons_of_mem _ hz));omega
theorem jD {n:Nd} (h:fC bV n=true):n.p.length<=64/\dh n.p=true/\lH bV n=true:=by
 unfold fC at h;rw [Bool.and_eq_true,Bool.and_eq_true] at h;exact ⟨of_decide_eq_true h.1.1,h.1.2,h.2⟩
theorem Uq {ks:List aM} (h:(dF ks).all bV=true):∀ k∈ks,bV k=true:=by
 intro k hk;by_cases hz:k.size=0
 .unfold bV dB;simp [hz]
 .exact List.all_eq_true.1 h k (List.mem_filter.2 ⟨hk,by simp; intro e; rw [e] at hz; exact hz rfl⟩)
theorem iD {n:Nd} (_hl:n.ks.length=16) (h:fC bV n=true) :
  n.kd=1/\n.v.size≠0/\n.v.size<=65552/\(dF n.ks).length=0\/n.kd=2/\0<n.p.length/\n.v.size=0/\(dF n.ks).length=1/\(n.ks.getD 0 eB).size≠0/\bV (n.ks.getD 0 eB)=true\/n.kd=3/\n.p=[]/\n.v.size=0/\2<=(dF n.ks).length/\∀ k∈n.ks,bV k=true:=by
 obtain ⟨_,_,h⟩:=jD h;unfold lH at h;by_cases h1:n.kd=1
 .rw [if_pos h1] at h;simp only [Bool.and_eq_true,decide_eq_true_eq] at h;exact .inl ⟨h1,h.1.1,h.1.2,h.2⟩
 .rw [if_neg h1] at h;by_cases h2:n.kd=2
  .rw [if_pos h2] at h;simp only [Bool.and_eq_true,decide_eq_true_eq] at h;exact .inr (.inl ⟨h2,h.1.1.1.1,h.1.1.1.2,h.1.1.2,h.1.2,h.2⟩)
  .rw [if_neg h2] at h;by_cases h3:n.kd=3
   .rw [if_pos h3] at h;simp only [Bool.and_eq_true,decide_eq_true_eq] at h;exact .inr (.inr ⟨h3,List.eq_nil_of_length_eq_zero h.1.1.1,h.1.1.2,h.1.2,Uq h.2⟩)
   .rw [if_neg h3] at h; cases h
theorem uz {n:Nd} (hl:n.ks.length=16) (h:fC bV n=true):∀ y∈bX n,Fits 1 y/\y.bytes.length<=65561:=by
 obtain ⟨g1,g2,g3⟩:=jD h;have hpk:Fits 1 (pJ n)/\(pJ n).bytes.length<=65561:=by
  have:=ou n.p (decide (n.kd=1));have h2:=rE ⟨(gY n.p (decide (n.kd=1))).toArray⟩ (by omega);exact ⟨pR 1 (by omega) _,Nat.le_trans h2 (by omega)⟩
 rcases iD hl h with ⟨k1,v1,v2,_⟩ | ⟨k1,_,_,_,_,hr⟩ | ⟨k1,_,_,_,hr⟩
 .unfold bX;rw [if_neg (by omega),if_pos k1];intro y hy;rcases List.mem_cons.1 hy with rfl | hy
  .exact hpk
  .rcases List.mem_cons.1 hy with rfl | hy
   .have h2:=rE n.v (by omega);exact ⟨pR 1 (by omega) _,by omega⟩
   .cases hy
 .unfold bX;rw [if_neg (by omega),if_neg (by omega)];intro y hy;rcases List.mem_cons.1 hy with rfl | hy
  .exact hpk
  .rcases List.mem_cons.1 hy with rfl | hy
   .have:=mg hr;exact ⟨this.1,by omega⟩
   .cases hy
 .unfold bX;rw [if_pos k1];intro y hy;rcases List.mem_append.1 hy with hy | hy
  .obtain ⟨k,hk,rfl⟩:=List.mem_map.1 hy;have:=mg (hr k hk);exact ⟨this.1,by omega⟩
  .rcases List.mem_cons.1 hy with rfl | hy
   .have h2:=rE eB (by decide);refine ⟨pR 1 (by omega) _,?_⟩;have:eB.size=0:=rfl;show (It.mk false eB []).bytes.length<=_;omega
   .cases hy
theorem wM {n:Nd} (hl:n.ks.length=16):(bX n).length<=17:=by
 unfold bX;split
 .simp [hl]
 .split <;> simp
theorem DU {n:Nd} (hl:n.ks.length=16) (h:fC bV n=true):Fits 0 (gX n)/\(gX n).bytes.length<=1200000/\(gX n).size<=4096/\(jM n).length=(gX n).bytes.length:=by
 have hg:=uz hl h;have hf:Fits 0 (gX n):=.mk (by omega) (λ_=>rfl) (λe=>by cases e) (λy hy=>(hg y hy).1);have cS:=wM hl;have hlen:=zI (bX n) 65561 (λy hy=>(hg y hy).2);have hm:(bX n).length*65561<=17*65561:=Nat.mul_le_mul_right _ cS;have hb:(gX n).bytes.length<=1200000:=by
  unfold gX;rw [jg _ (by omega),List.length_append];have:=mM ((bX n).map It.bytes).flatten.length true (by omega);omega
 refine ⟨hf,hb,?_,rfl⟩;unfold gX;rw [It.size_mk];have:∀ y∈bX n,y.size<=200:=by
  obtain ⟨g1,g2,g3⟩:=jD h;rcases iD hl h with ⟨k1,v1,v2,_⟩ | ⟨k1,_,_,_,_,hr⟩ | ⟨k1,_,_,_,hr⟩
  .unfold bX;rw [if_neg (by omega),if_pos k1];intro y hy;rcases List.mem_cons.1 hy with rfl | hy
   .rw [It.size_mk]; simp
   .rcases List.mem_cons.1 hy with rfl | hy
    .rw [It.size_mk]; simp
    .cases hy
  .unfold bX;rw [if_neg (by omega),if_neg (by omega)];intro y hy;rcases List.mem_cons.1 hy with rfl | hy
   .rw [It.size_mk]; simp
   .rcases List.mem_cons.1 hy with rfl | hy
    .have:=mg hr;have:=tO _ this.1 (by omega);omega
    .cases hy
  .unfold bX;rw [if_pos k1];intro y hy;rcases List.mem_append.1 hy with hy | hy
   .obtain ⟨k,hk,rfl⟩:=List.mem_map.1 hy;have:=mg (hr k hk);have:=tO _ this.1 (by omega);omega
   .rcases List.mem_cons.1 hy with rfl | hy
    .unfold it0; rw [It.size_mk]; simp
    .cases hy
 have hs:((bX n).map It.size).sum<=(bX n).length*200:=by
  generalize bX n=l at this
  induction l with
  | nil=>simp
  | cons y ys ih =>
   rw [List.map_cons,List.sum_cons,List.length_cons,Nat.succ_mul];have h1:=this y (List.mem_cons_self ..);have h2:=ih (λz hz=>this z (List.mem_cons_of_mem _ hz));omega
 have:(bX n).length*200<=17*200:=Nat.mul_le_mul_right _ cS;omega
theorem En {ks:List aM} (h:(dF ks).length=0):ks=List.replicate ks.length eB:=by
 induction ks with
 | nil=>rfl
 | cons k ks ih =>
  unfold dF at h;rw [List.filter_cons] at h;split at h
  .cases h
  .rename_i hz;simp at hz;rw [List.length_cons,List.replicate_succ,<-ih h];congr 1
theorem Tj {ks:List aM} (hl:ks.length=16) (h:(dF ks).length=1) (h0:(ks.getD 0 eB).size≠0):ks=iJ (ks.getD 0 eB):=by
 cases ks with
 | nil=>cases hl
 | cons k ks =>
  have h0':k.size≠0:=h0;unfold dF at h;rw [List.filter_cons,if_pos (by simp; intro e; rw [e] at h0'; exact h0' rfl),List.length_cons] at h;have:=En (ks:=ks) (by unfold dF; omega);unfold iJ;rw [List.length_cons] at hl;rw [show ks.length=15 by omega] at this;rw [this];rfl
theorem Tt {ks:List aM} (h:∀ k∈ks,bV k=true):om (ks.map dS)=some ks:=by
 induction ks with
 | nil=>rfl
 | cons k ks ih =>
  rw [List.map_cons];unfold om;rw [Ej (h k (List.mem_cons_self ..)),ih (λz hz=>h z (List.mem_cons_of_mem _ hz))]
theorem Ku {n:Nd} (hl:n.ks.length=16) (h:fC bV n=true):eD (bX n)=some n:=by
 obtain ⟨g1,g2,g3⟩:=jD h;have hsz:=ou n.p (decide (n.kd=1));have hgood:=Ox n.p (decide (n.kd=1)) g2 g1;have lP:=Pz n.p (decide (n.kd=1)) g2;have lR:=PY n.p (decide (n.kd=1)) g2;obtain ⟨S,hS⟩:=aA (⟨(gY n.p (decide (n.kd=1))).toArray⟩:aM)
 have hpi:pJ n = .mk false S []:=by unfold pJ; rw [hS]
 rw [hS] at hsz hgood lP lR;rcases iD hl h with ⟨k1,v1,v2,hk⟩ | ⟨k1,hp0,hv,hk,hk0,hr⟩ | ⟨k1,hp,hv,hk,hr⟩
 .have hI:bX n=[.mk false S [],.mk false n.v []]:=by unfold bX; rw [if_neg (by omega),if_pos k1,hpi]
  rw [hI];unfold eD;rw [if_pos (by rfl)];show ig (.mk false S []) (.mk false n.v [])=some n;unfold ig;rw [if_neg (by
   rintro (e | e)
   .have e':S.size=0:=e;omega
   .exact hgood e)]
  show (if ql S=true then some (⟨1,ng S,n.v,zks⟩:Nd) else _)=some n;rw [lP,lR,k1,if_pos (by decide)];have:=En hk;rw [hl] at this;cases n;simp only at k1 this ⊢;rw [k1,this];rfl
 .have hI:bX n=[.mk false S [],dS (n.ks.getD 0 eB)]:=by unfold bX; rw [if_neg (by omega),if_neg (by omega),hpi]
  rw [hI];unfold eD;rw [if_pos (by rfl)];show ig (.mk false S []) (dS (n.ks.getD 0 eB))=some n;unfold ig;rw [if_neg (by
   rintro (e | e)
   .have e':S.size=0:=e;omega
   .exact hgood e)]
  show (if ql S=true then _ else (lJ (dS (n.ks.getD 0 eB))).map λk=>(⟨2,ng S,eB,iJ k⟩:Nd))=some n;rw [lP,lR,k1,if_neg (by decide),Ej hr,Option.map_some,<-Tj hl hk hk0];have m3:=dI hv;cases n;simp only at k1 m3 ⊢;rw [k1,m3]
 .have hI:bX n=n.ks.map dS++[it0]:=by unfold bX; rw [if_pos k1]
  rw [hI];unfold eD;have hlen:(n.ks.map dS++[it0]).length=17:=by simp [hl]
  rw [if_neg (by omega),if_pos hlen];unfold dA;rw [List.take_append_of_le_length (by simp [hl]),List.take_of_length_le (by simp [hl]),Tt hr];have e16:(n.ks.map dS++[it0]).getD 16 it0=it0:=by
   rw [List.getD_eq_getElem?_getD,List.getElem?_append_right (by simp [hl])];simp [hl]
  rw [e16];dsimp only;rw [if_pos ⟨rfl,rfl⟩];have m3:=dI hv;cases n;simp only at k1 m3 hp ⊢;rw [k1,m3,hp]
theorem get_put {n:Nd} (hl:n.ks.length=16) (h:fC bV n=true):kW (jM n)=some n:=by
 obtain ⟨f1,f2,f3,_⟩:=DU hl h;unfold jM;rw [FH _ (by omega),Ig f1 (by omega) f3];dsimp only;rw [show (gX n).xs=bX n from rfl,Ku hl h];dsimp only;rw [h];rfl
end No
end
section
namespace Tr
open Rf Rl Ni No
def gH (n:Nd):aM:=⟨(jM n).toArray⟩
def gq (f:Fin 16->aM):List aM:=(List.finRange 16).map f
def ref:T->aM
 | .nil=>eB
 | .leaf p v=>ofP (gH ⟨1,p,v,zks⟩)
 | .ext q t=>ofP (gH ⟨2,q,eB,iJ (ref t)⟩)
 | .br ks=>ofP (gH ⟨3,[],eB,gq λi=>ref (ks i)⟩)
 | .stub r=>r
def bg:T->Nd
 | .nil=>nd0
 | .leaf p v=>⟨1,p,v,zks⟩
 | .ext q t=>⟨2,q,eB,iJ (ref t)⟩
 | .br ks=>⟨3,[],eB,gq λi=>ref (ks i)⟩
 | .stub _=>nd0
def bP:T->aM
 | .nil=>eB
 | .stub _=>eB
 | t=>gH (bg t)
def eY:T->Prop
 | .stub _=>True
 | _=>False
theorem qp {t:T} (h:¬ eY t):ref t=ofP (bP t):=by
 cases t with
 | stub r=>exact absurd trivial h
 | nil=>rfl
 | leaf p v=>rfl
 | ext q t=>rfl
 | br ks=>rfl
theorem dK {t:T} (h:Full t):¬ eY t:=by
 cases t with
 | stub r=>exact h.elim
 | _=>exact id
theorem mG (f:Fin 16->aM):(gq f).length=16:=by simp [gq]
theorem dY (t:T):(bg t).ks.length=16:=by
 cases t with
 | nil=>rfl
 | leaf p v=>rfl
 | ext q t=>exact fP _
 | br ks=>exact mG _
 | stub r=>rfl
theorem vK {p:Pa} (h:Nib p):dh p=true:=by
 unfold dh;rw [List.all_eq_true];intro c hc;have:=h c hc;exact aK (by omega)
def Fine:T->Prop
 | .nil=>True
 | .leaf _ v=>v.size≠0/\v.size<=65552
 | .ext _ t=>Fine t
 | .br ks=>∀ i,Fine (ks i)
 | .stub r=>bV r=true/\r.size≠0
theorem wZ (n:Nd):(gH n).size=(jM n).length:=by
 show (jM n).toArray.size=_;simp
theorem DV (n:Nd):(gH n).data.toList=jM n:=by
 show (jM n).toArray.toList=_;simp
theorem put_pos {n:Nd} (hl:n.ks.length=16) (h:fC bV n=true):0<(jM n).length:=by
 have:=No.get_put hl h;rcases Nat.eq_zero_or_pos (jM n).length with h0 | h0
 .have:=MS (s:=jM n) (by omega) this;omega
 .exact h0
theorem Fz {n:Nd} (hl:n.ks.length=16) (h:fC bV n=true):bV (ofP (gH n))=true/\(ofP (gH n)).size≠0:=by
 have hp:=put_pos hl h;have hs:=wZ n;unfold ofP;by_cases h32:(gH n).size<32
 .rw [if_pos h32];refine ⟨?_,by omega⟩;unfold bV;rw [DV,No.get_put hl h,aK h32];simp
 .rw [if_neg h32];have hz:(⟨(gG (gH n)).toArray⟩:aM).size=32:=by
   have:(⟨(gG (gH n)).toArray⟩:aM).size=(gG (gH n)).length:=by show (gG (gH n)).toArray.size=_; simp
   rw [this,mR]
  refine ⟨?_,by omega⟩;unfold bV;rw [show dB _=true from aK (.inr hz)];rfl
theorem Ql:(dF zks).length=0:=by decide +kernel
theorem PN (h:k.size≠0):dF (iJ k)=[k]:=by
 have hz:dF (List.replicate 15 eB)=[]:=by decide +kernel
 have:dF (k::List.replicate 15 eB)=k::dF (List.replicate 15 eB):=by
  unfold dF;rw [List.filter_cons_of_pos (by simpa using h)]
 show dF (k::List.replicate 15 eB)=_;rw [this,hz]
theorem Qf {f:Fin 16->aM} {i j:Fin 16} (hij:i≠j) (hi:(f i).size≠0) (hj:(f j).size≠0):2<=(dF (gq f)).length:=by
 unfold dF gq;rw [List.filter_map,List.length_map];have hnd:((List.finRange 16).filter ((λk:aM=>decide (k.size≠0)) ∘ f)).Nodup:=(List.nodup_finRange 16).filter _;have mi:i∈(List.finRange 16).filter ((λk:aM=>decide (k.size≠0)) ∘ f):=List.mem_filter.2 ⟨List.mem_finRange i,aK hi⟩;have mj:j∈(List.finRange 16).filter ((λk:aM=>decide (k.size≠0)) ∘ f):=List.mem_filter.2 ⟨List.mem_finRange j,aK hj⟩
 match hk:(List.finRange 16).filter ((λk:aM=>decide (k.size≠0)) ∘ f) with
 | []=>rw [hk] at mi; cases mi
 | [a] =>
  rw [hk] at mi mj;exact absurd ((List.mem_singleton.1 mi).trans (List.mem_singleton.1 mj).symm) hij
 | a::b::l=>simp
theorem Pn {f:Fin 16->aM} {R:aM->Bool} (h:∀ i,(f i).size≠0->R (f i)=true):(dF (gq f)).all R=true:=by
 rw [List.all_eq_true];intro k hk;obtain ⟨h1,h2⟩:=List.mem_filter.1 hk;obtain ⟨i,_,rfl⟩:=List.mem_map.1 h1;exact h i (of_decide_eq_true h2)
theorem eT:∀ (t:T) (L:Nat),Good t L->L<=64->Fine t->t ≠ .nil->(¬ eY t->fC bV (bg t)=true)/\bV (ref t)=true/\(ref t).size≠0
 | .nil,_,_,_,_,h=>absurd rfl h
 | .leaf p v,L,g,hL,hf,_=>by
  have hm:fC bV ⟨1,p,v,zks⟩=true:=by
   unfold fC lH;rw [aK (show (⟨1,p,v,zks⟩:Nd).p.length<=64 from by show p.length<=64; rw [g.1]; exact hL),vK (show Nib (⟨1,p,v,zks⟩:Nd).p from g.2),if_pos rfl,
    aK (show (⟨1,p,v,zks⟩:Nd).v.size≠0 from hf.1),aK (show (⟨1,p,v,zks⟩:Nd).v.size<=65552 from hf.2),aK (show (dF (⟨1,p,v,zks⟩:Nd).ks).length=0 from Ql)]
   rfl
  exact ⟨λ_=>hm,Fz rfl hm⟩
 | .ext q t,L,g,hL,hf,_=>by
  obtain ⟨g1,g2,g3,g4,g5⟩:=g;obtain ⟨_,h2,h3⟩:=eT t _ g5 (by omega) hf (mE g4);have hm:fC bV ⟨2,q,eB,iJ (ref t)⟩=true:=by
   unfold fC lH;rw [aK (show (⟨2,q,eB,iJ (ref t)⟩:Nd).p.length<=64 from by show q.length<=64; omega),vK (show Nib (⟨2,q,eB,iJ (ref t)⟩:Nd).p from g2),if_neg (show ¬ (⟨2,q,eB,iJ (ref t)⟩:Nd).kd=1 by show ¬ ((2:Int)=1); decide),if_pos rfl,
    aK (show 0<(⟨2,q,eB,iJ (ref t)⟩:Nd).p.length from List.length_pos_iff.2 g1),aK (show (⟨2,q,eB,iJ (ref t)⟩:Nd).v.size=0 from rfl),
    aK (show (dF (⟨2,q,eB,iJ (ref t)⟩:Nd).ks).length=1 from by show (dF (iJ (ref t))).length=1; rw [PN h3]; rfl),
    aK (show ((⟨2,q,eB,iJ (ref t)⟩:Nd).ks.getD 0 eB).size≠0 from h3),show bV ((⟨2,q,eB,iJ (ref t)⟩:Nd).ks.getD 0 eB)=true from h2]
   rfl
  exact ⟨λ_=>hm,Fz (fP _) hm⟩
 | .br ks,L,g,hL,hf,_=>by
  obtain ⟨g1,⟨i,j,hij,hi,hj⟩,g3⟩:=g;have hk:∀ i,(ref (ks i)).size≠0->bV (ref (ks i))=true:=λi h=>by
   refine (eT (ks i) _ (g3 i) (by omega) (hf i) (λe=>h ?_)).2.1;rw [e]; rfl
  have hm:fC bV ⟨3,[],eB,gq λi=>ref (ks i)⟩=true:=by
   unfold fC lH;rw [aK (show (⟨3,[],eB,gq λi=>ref (ks i)⟩:Nd).p.length<=64 from Nat.zero_le _),vK (show Nib (⟨3,[],eB,gq λi=>ref (ks i)⟩:Nd).p from .nil),if_neg (show ¬ (⟨3,[],eB,gq λi=>ref (ks i)⟩:Nd).kd=1 by show ¬ ((3:Int)=1); decide),if_neg (show ¬ (⟨3,[],eB,gq λi=>ref (ks i)⟩:Nd).kd=2 by show ¬ ((3:Int)=2); decide),if_pos rfl,
    aK (show (⟨3,[],eB,gq λi=>ref (ks i)⟩:Nd).p.length=0 from rfl),aK (show (⟨3,[],eB,gq λi=>ref (ks i)⟩:Nd).v.size=0 from rfl),
    aK (show 2<=(dF (⟨3,[],eB,gq λi=>ref (ks i)⟩:Nd).ks).length from Qf (f:=λi=>ref (ks i)) hij (eT (ks i) _ (g3 i) (by omega) (hf i) hi).2.2 (eT (ks j) _ (g3 j) (by omega) (hf j) hj).2.2),
    show (dF (⟨3,[],eB,gq λi=>ref (ks i)⟩:Nd).ks).all bV=true from Pn hk]
   rfl
  exact ⟨λ_=>hm,Fz (mG _) hm⟩
 | .stub r,_,_,_,hf,_=>⟨λh=>absurd trivial h,hf⟩
theorem wL {s:Pa} {t:T} (h:Fine t):Fine (wrap s t):=by
 unfold wrap;split
 .exact h
 .exact h
theorem FX {i j:Fin 16} {a b:T} (ha:Fine a) (hb:Fine b):Fine (two i j a b):=λk=>by
 dsimp only;split
 .exact ha
 .split
  .exact hb
  .trivial
theorem Bb:∀ (t:T),Fine t->∀ (p:Pa) (v:aM),v.size≠0->v.size<=65552->Fine (put t p v)
 | .nil,_,_,v,h1,h2=>⟨h1,h2⟩
 | .leaf q u,f,p,v,h1,h2=>by
  unfold put;split
  .exact ⟨h1,h2⟩
  .unfold fork; exact wL (FX f ⟨h1,h2⟩)
 | .ext q t,f,p,v,h1,h2=>by
  unfold put;split
  .exact Bb t f _ v h1 h2
  .unfold fork; exact wL (FX (wL f) ⟨h1,h2⟩)
 | .br ks,f,p,v,h1,h2=>by
  cases p with
  | nil=>exact f
  | cons c r =>
   intro k;dsimp only;split
   .exact Bb (ks k) (f k) r v h1 h2
   .exact f k
 | .stub _,f,_,_,_,_=>f
theorem qF:∀ (L:Nat) (l:List In),(∀ x∈l,x.2.size≠0/\x.2.size<=65552)->Fine (build L l):=by
 intro L
 induction L using Nat.strongRecOn with
 | ind L ih =>
  intro l h;have hr:∀ (m:List In) (n:Nat),(∀ x∈m,x.2.size≠0/\x.2.size<=65552)->∀ x∈bR m n,x.2.size≠0/\x.2.size<=65552:=λm n hm x hx=>by
   obtain ⟨y,hy,rfl⟩:=List.mem_map.1 hx;exact hm y hy
  match l with
  | []=>rw [build]; trivial
  | [x]=>rw [build]; exact h x (by simp)
  | x::y::r =>
   rw [build];split
   .exact ih _ (by omega) _ (hr _ _ h)
   .split
    .exact λc=>ih _ (by omega) _ (hr _ _ (λz hz=>h z (lX.1 hz).1))
    .trivial
end Tr
end
section
namespace Tr
open Rf Rl Ni No
abbrev Key:=aN
abbrev Pair:=Key × aM
def path (k:Key):Pa:=gW ⟨k.toArray⟩
theorem iH (k:Key):(path k).length=2*k.length:=by
 unfold path;rw [gK];rfl
theorem Fb {p:Pa} (h:dh p=true):Nib p:=λc hc=>by
 unfold dh at h;have:=of_decide_eq_true (List.all_eq_true.1 h c hc);omega
theorem mU (k:Key):Nib (path k):=Fb (sG _)
theorem zV {k k':Key} (hl:k.length=k'.length) (h:path k=path k'):k=k':=by
 have h1:=Ck ⟨k.toArray⟩;have h2:=Ck ⟨k'.toArray⟩;have e1:(⟨k.toArray⟩:aM).size=k.length:=by show k.toArray.size=_; simp
 have e2:(⟨k'.toArray⟩:aM).size=k'.length:=by show k'.toArray.size=_; simp
 rw [e1] at h1;rw [e2] at h2;unfold path at h;rw [h,hl,h2] at h1;simpa using h1.symm
theorem SX {p:Pa} (hp:p.length=64) (hn:Nib p):∃ k:Key,k.length=32/\path k=p:=by
 refine ⟨gI p 32,mH _ _,?_⟩;exact Cn p (vK hn) 32 (by omega)
structure Has (t:T) (m:Key->Option aM):Prop where
 good:Good t 64
 full:Full t
 fine:Fine t
 get:∀ k:Key,k.length=32->get t (path k)=some (m k)
theorem Has.nil:Has .nil (λ_=>none):=⟨trivial,trivial,trivial,λ_ _=>rfl⟩
theorem Has.put {t:T} {m:Key->Option aM} (h:Has t m) {k:Key} (hk:k.length=32) {v:aM} (h1:v.size≠0) (h2:v.size<=65552):Has (put t (path k) v) (λx=>if x=k then some v else m x):=by
 have hl:(path k).length=64:=by rw [iH]; omega
 refine ⟨Bd t 64 h.good _ v hl (mU k),Ci t h.full _ v,Bb t h.fine _ v h1 h2,λx hx=>?_⟩;rw [Tr.get_put t 64 h.good _ v hl (mU k) (by rw [h.get k hk]; intro e; cases e) (path x) (by rw [iH]; omega) (mU x),h.get x hx];by_cases e:x=k
 .subst e; rw [if_pos rfl,if_pos rfl]
 .rw [if_neg e,if_neg (λh=>e (zV (by omega) h))]
theorem Has.congr {t:T} {m m':Key->Option aM} (h:Has t m) (e:∀ k:Key,k.length=32->m k=m' k):Has t m':=⟨h.good,h.full,h.fine,λk hk=>by rw [h.get k hk,e k hk]⟩
theorem Has.one {t t':T} {m:Key->Option aM} (h:Has t m) (g:Has t' m):t=t' :=
 uniq t t' 64 h.good h.full g.good g.full (λp h1 h2=>by
  obtain ⟨k,hk,rfl⟩:=SX h1 h2;rw [h.get k hk,g.get k hk])
def kV:List Pair->List In
 | []=>[]
 | x::r=>if r.any (λy=>decide (y.1=x.1)) then kV r else (path x.1,x.2)::kV r
def dQ:List Pair->Key->Option aM
 | [],_=>none
 | x::r,k=>match dQ r k with
  | some v=>some v
  | none=>if x.1=k then some x.2 else none
theorem kI:∀ {l:List Pair} {k:Key},dQ l k=none↔∀ x∈l,x.1≠k
 | [],_=>by simp [dQ]
 | x::r,k=>by
  unfold dQ;cases h:dQ r k with
  | some v =>
   have h2:¬ ∀ x∈r,x.1≠k:=λg=>by rw [kI.2 g] at h; cases h
   constructor
   .intro e; cases e
   .intro g; exact absurd (λy hy=>g y (List.mem_cons_of_mem _ hy)) h2
  | none =>
   have h2:=kI.1 h;constructor
   .intro g y hy;rcases List.mem_cons.1 hy with rfl | hy
    .intro e; simp [e] at g
    .exact h2 y hy
   .intro g;have:=g x List.mem_cons_self;simp [this]
theorem zJ:∀ {l:List Pair} {y:In},y∈kV l->∃ x∈l,y=(path x.1,x.2)
 | [],_,h=>by cases h
 | x::r,y,h=>by
  unfold kV at h;split at h
  .obtain ⟨z,hz,e⟩:=zJ h;exact ⟨z,List.mem_cons_of_mem _ hz,e⟩
  .rcases List.mem_cons.1 h with rfl | h
   .exact ⟨x,List.mem_cons_self,rfl⟩
   .obtain ⟨z,hz,e⟩:=zJ h;exact ⟨z,List.mem_cons_of_mem _ hz,e⟩
theorem wQ:∀ {l:List Pair},(∀ x∈l,x.1.length=32)->Ok 64 (kV l)
 | [],_=>⟨λ_ h=>(by cases h),List.Pairwise.nil⟩
 | x::r,h=>by
  have ih:=wQ (l:=r) (λy hy=>h y (List.mem_cons_of_mem _ hy));have hx:=h x List.mem_cons_self;unfold kV;split
  .exact ih
  .rename_i hn;refine ⟨λy hy=>?_,List.pairwise_cons.2 ⟨λy hy=>?_,ih.2⟩⟩
   .rcases List.mem_cons.1 hy with rfl | hy
    .exact ⟨by rw [iH]; omega,mU _⟩
    .exact ih.1 y hy
   .obtain ⟨z,hz,rfl⟩:=zJ hy;intro e;have:=zV (by rw [hx,h z (List.mem_cons_of_mem _ hz)]) e;apply hn;rw [List.any_eq_true];exact ⟨z,hz,by simpa using this.symm⟩
theorem Hg:∀ {l:List Pair},(∀ x∈l,x.1.length=32)->∀ k:Key,k.length=32->oU (kV l) (path k)=dQ l k
 | [],_,k,_=>rfl
 | x::r,h,k,hk=>by
  have hr:∀ y∈r,y.1.length=32:=λy hy=>h y (List.mem_cons_of_mem _ hy);have ih:=Hg hr k hk;have hx:=h x List.mem_cons_self;unfold kV dQ;by_cases e:x.1=k
  .by_cases hn:r.any (λy=>decide (y.1=x.1))=true
   .rw [if_pos hn,ih];cases hl:dQ r k with
    | some v=>rfl
    | none =>
     exfalso;obtain ⟨z,hz,ez⟩:=List.any_eq_true.1 hn;exact kI.1 hl z hz (by rw [<-e]; simpa using ez)
   .rw [if_neg hn];have hl:dQ r k=none:=kI.2 (λy hy e2=>hn (List.any_eq_true.2 ⟨y,hy,by simp [e2,e]⟩));rw [hl];simp [oU,e]
  .have hp:¬ path x.1=path k:=λh=>e (zV (by omega) h);have hs:(match dQ r k with | some v=>some v | none=>if x.1=k then some x.2 else none)=dQ r k:=by
    cases dQ r k with
    | some v=>rfl
    | none=>simp [e]
   rw [hs,<-ih];split
   .rfl
   .simp [oU,hp]
theorem IU {l:List Pair} (h:∀ x∈l,x.2.size≠0/\x.2.size<=65552):∀ x∈kV l,x.2.size≠0/\x.2.size<=65552:=λy hy=>by
 obtain ⟨x,hx,rfl⟩:=zJ hy;exact h x hx
theorem Nn {l:List Pair} (h:∀ x∈l,x.1.length=32) (hv:∀ x∈l,x.2.size≠0/\x.2.size<=65552):Has (build 64 (kV l)) (dQ l) :=
 ⟨qB 64 _ (wQ h),ow 64 _,qF 64 _ (IU hv),λk hk=>by
  rw [PS 64 _ (wQ h) (path k) (by rw [iH]; omega) (mU k),Hg h k hk]⟩
theorem Has.built {t:T} {l:List Pair} (g:Has t (dQ l)) (h:∀ x∈l,x.1.length=32) (hv:∀ x∈l,x.2.size≠0/\x.2.size<=65552):t=build 64 (kV l):=g.one (Nn h hv)
theorem xg:∀ (l:List Pair) (x:Pair) (k:Key),dQ (l++[x]) k=if k=x.1 then some x.2 else dQ l k
 | [],x,k=>by
  by_cases e:k=x.1
  .simp [dQ,e]
  .have:¬ x.1=k:=λh=>e h.symm;simp [dQ,e,this]
 | y::l,x,k=>by
  show dQ (y::(l++[x])) k=_;have e1:dQ (y::(l++[x])) k=match dQ (l++[x]) k with
   | some v=>some v
   | none=>if y.1=k then some y.2 else none:=rfl
  rw [e1,xg l x k];by_cases e:k=x.1
  .rw [if_pos e,if_pos e]
  .rw [if_neg e,if_neg e];rfl
def bW (t:T) (l:List Pair):T:=l.foldl (λt x=>put t (path x.1) x.2) t
theorem yX (t:T) (l:List Pair) (x:Pair):bW t (l++[x])=put (bW t l) (path x.1) x.2:=by
 unfold bW;rw [List.foldl_append];rfl
theorem MH:∀ (n:Nat) (l:List Pair),l.length=n->(∀ x∈l,x.1.length=32)->(∀ x∈l,x.2.size≠0/\x.2.size<=65552)->Has (bW .nil l) (dQ l)
 | 0,l,hl,_,_=>by
  obtain rfl:=List.eq_nil_of_length_eq_zero hl;exact Has.nil
 | n+1,l,hl,h,hv=>by
  have hne:l≠[]:=λe=>by rw [e] at hl; cases hl
  obtain ⟨r,x,rfl⟩:∃ r x,l=r++[x]:=⟨l.dropLast,l.getLast hne,(List.dropLast_concat_getLast hne).symm⟩
  rw [List.length_append,List.length_singleton] at hl;have ih:=MH n r (by omega) (λy hy=>h y (List.mem_append_left _ hy)) (λy hy=>hv y (List.mem_append_left _ hy));have hx:=h x (by simp);have R8:=hv x (by simp);rw [yX];exact (ih.put hx R8.1 R8.2).congr (λk _=>(xg r x k).symm)
def dD:List Pair->Key->Option aM
 | [],_=>none
 | x::r,k=>if x.1=k then some x.2 else dD r k
def Apart (l:List Pair):Prop:=l.Pairwise (λx y=>x.1≠y.1)
theorem BU:∀ {l:List Pair},Apart l->∀ k,dD l k=dQ l k
 | [],_,_=>rfl
 | x::r,h,k=>by
  obtain ⟨h1,h2⟩:=List.pairwise_cons.1 h;have ih:=BU h2 k;have e3:dQ (x::r) k=match dQ r k with
   | some v=>some v
   | none=>if x.1=k then some x.2 else none:=rfl
  have e4:dD (x::r) k=if x.1=k then some x.2 else dD r k:=rfl
  rw [e3,e4];by_cases e:x.1=k
  .have:dQ r k=none:=kI.2 (λy hy e2=>h1 y hy (e.trans e2.symm));rw [this,if_pos e];simp [e]
  .rw [if_neg e,ih];cases dQ r k with
   | some v=>rfl
   | none=>simp [e]
end Tr
end
section
namespace Tr
open Rf Rl Ni No
def qV:T->List T
 | .ext _ t=>[t]
 | .br ks=>(dx ks).map ks
 | _=>[]
theorem IQ {t:T} (g:Good t L) (hL:L<=64) (f:Fine t):(ref t).size≠0↔t ≠ .nil:=by
 constructor
 .rintro h rfl; exact h rfl
 .intro h; exact (eT t L g hL f h).2.2
theorem mJ (f:Fin 16->aM) (i:Fin 16):(gq f).getD i.val eB=f i:=by
 have hi:=i.isLt;unfold gq;rw [List.getD_eq_getElem?_getD,List.getElem?_map,List.getElem?_eq_getElem (by simp)];simp
end Tr
end
section
namespace Tr
open Rf Rl Ni No
def cu:T->List aM
 | .nil=>[]
 | .leaf p v=>[bP (.leaf p v)]
 | .ext q t=>bP (.ext q t)::cu t
 | .br ks=>bP (.br ks)::((List.finRange 16).map λi=>cu (ks i)).flatten
 | .stub _=>[]
def ltP:aN->aN->Bool
 | a::p,b::q=>if a=b then ltP p q else decide (a.toNat<b.toNat)
 | _,_=>false
theorem lS:∀ p:aN,ltP p p=false
 | []=>rfl
 | a::p=>by simp [ltP,lS p]
theorem xD:∀ {p q r:aN},ltP p q=true->ltP q r=true->ltP p r=true
 | [],_,_,h,_=>by simp [ltP] at h
 | _::_,[],_,h,_=>by simp [ltP] at h
 | _::_,_::_,[],_,h=>by simp [ltP] at h
 | a::p,b::q,c::r,h,g=>by
  unfold ltP at h g ⊢;by_cases e1:a=b
  .subst e1;rw [if_pos rfl] at h;by_cases e2:a=c
   .subst e2;rw [if_pos rfl] at g ⊢;exact xD h g
   .rw [if_neg e2] at g ⊢;exact g
  .rw [if_neg e1] at h;have h1:=of_decide_eq_true h;by_cases e2:b=c
   .subst e2;rw [if_neg e1];exact h
   .rw [if_neg e2] at g;have h2:=of_decide_eq_true g;have:a≠c:=by rintro rfl; omega
    rw [if_neg this];exact aK (by omega)
theorem xu:∀ {p q:aN},p.length=q.length->p≠q->ltP p q=true\/ltP q p=true
 | [],[],_,h=>absurd rfl h
 | [],_::_,hl,_=>by simp at hl
 | _::_,[],hl,_=>by simp at hl
 | a::p,b::q,hl,h=>by
  unfold ltP;by_cases e:a=b
  .subst e;rw [if_pos rfl,if_pos rfl];exact xu (by simpa using hl) (λk=>h (by rw [k]))
  .rw [if_neg e,if_neg (λk=>e k.symm)];have:a.toNat≠b.toNat:=λk=>e (UInt8.toNat_inj.1 k);rcases Nat.lt_or_ge a.toNat b.toNat with h1 | h1
   .exact .inl (aK h1)
   .exact .inr (aK (by omega))
theorem BN:∀ (a p q:aN),ltP (a++p) (a++q)=ltP p q
 | [],_,_=>rfl
 | c::a,p,q=>by simp [ltP,BN a p q]
def wN {α:Type} (l:List (aN × α)):Prop:=l.Pairwise λx y=>ltP x.1 y.1=true
end Tr
end
section
namespace Tr
open Rf Rl Ni No
abbrev qN:=Option (Option aM) × Nat
def onward (n:Nd) (p:Pa):aM × Pa :=
 if n.kd=2/\n.p<+:p then (n.ks.getD 0 eB,p.drop n.p.length)
 else if n.kd=3 then (match p with
  | []=>(eB,[])
  | c::r=>(n.ks.getD c.toNat eB,r))
 else (eB,p)
def jA (l:List aM):Nat->aM->Pa->Nat->Bool->qN
 | 0,_,_,_,_=>(none,0)
 | s+1,enc,p,used,ext =>
  match kW enc.data.toList with
  | none=>(none,used)
  | some n =>
   if ext=true/\n.kd≠3 then (none,used) else
   if (onward n p).1.size=0 then (if used≠l.length then none else some (if n.kd=1/\n.p=(onward n p).2 then some n.v else none),used) else
   if (onward n p).1.size<32 then jA l s (onward n p).1 (onward n p).2 used (decide (n.kd=2)) else
   if used<l.length/\(l.getD used eB).size≠0/\ofP (l.getD used eB)=(onward n p).1 then jA l s (l.getD used eB) (onward n p).2 (used+1) (decide (n.kd=2)) else (none,used)
theorem tu (h:(ofP x).size<32):ofP x=x:=by
 by_cases hs:x.size<32
 .unfold ofP; rw [if_pos hs]
 .unfold ofP at h;rw [if_neg hs] at h;have:(⟨(gG x).toArray⟩:aM).size=(gG x).length:=by show (gG x).toArray.size=_; simp
  rw [this,mR] at h;omega
theorem FC (h:¬ (ofP x).size<32):32<=x.size/\ofP x=⟨(gG x).toArray⟩:=by
 by_cases hs:x.size<32
 .exfalso;apply h;unfold ofP;rw [if_pos hs];exact hs
 .refine ⟨by omega,?_⟩;unfold ofP;rw [if_neg hs]
theorem Ad {y:aM} (h:ofP x=ofP y) (hb:¬ (ofP y).size<32):gG x=gG y:=by
 have h1:=(FC hb).2;have h2:=(FC (x:=x) (by rw [h]; exact hb)).2;rw [h1,h2] at h;have:=congrArg (λz=>ByteArray.data z) h;exact congrArg Array.toList this
theorem nS {t:T} {L:Nat} (g:Good t L) (hL:L<=64) (f:Fine t) (hn:t ≠ .nil) (hs:¬ eY t):kW (bP t).data.toList=some (bg t):=by
 have hm:=(eT t L g hL f hn).1 hs;have e:bP t=gH (bg t):=by
  cases t with
  | nil=>exact absurd rfl hn
  | stub r=>exact absurd trivial hs
  | leaf p v=>rfl
  | ext q t=>rfl
  | br ks=>rfl
 rw [e,DV];exact No.get_put (dY t) hm
theorem xY {t:T} (hn:t ≠ .nil) (hs:¬ eY t):bP t∈cu t:=by
 cases t with
 | nil=>exact absurd rfl hn
 | stub r=>exact absurd trivial hs
 | leaf p v=>exact List.mem_singleton.2 rfl
 | ext q t=>exact List.mem_cons_self
 | br ks=>exact List.mem_cons_self
theorem qb (l:List aM):∀ (t:T) (L s:Nat) (p:Pa) (used:Nat) (ext:Bool),Good t L->L<=64->Full t->Fine t->t ≠ .nil->p.length=L->Nib p->(∀ x∈cu t,∀ y∈l,gG y=gG x->y=x)->
  ∀ (a:Option aM) (u:Nat),jA l s (bP t) p used ext=(some a,u)->get t p=some a
 | t,L,0,p,used,ext,_,_,_,_,_,_,_,_,a,u,h=>by cases h
 | .nil,_,_+1,_,_,_,_,_,_,_,hn,_,_,_,_,_,_=>absurd rfl hn
 | .stub _,_,_+1,_,_,_,_,_,hf,_,_,_,_,_,_,_,_=>absurd hf id
 | .leaf q v,L,s+1,p,used,ext,g,hL,hf,f,hn,hp,hnp,hc,a,u,h=>by
  unfold jA at h;rw [nS g hL f hn (dK hf)] at h;dsimp only at h;have ho:onward (bg (.leaf q v)) p=(eB,p):=by
   unfold onward;rw [if_neg (λe=>absurd (show (1:Int)=2 from e.1) (by decide)),if_neg (show ¬ (bg (.leaf q v)).kd=3 from λe=>absurd (show (1:Int)=3 from e) (by decide))]
  rw [ho] at h;split at h
  .cases h
  .rw [if_pos (show eB.size=0 from rfl)] at h;split at h
   .cases h
   .have h1:(some (if (bg (.leaf q v)).kd=1/\(bg (.leaf q v)).p=p then some (bg (.leaf q v)).v else none):Option (Option aM))=some a:=(Prod.mk.inj h).1;have h2:=Option.some.inj h1;rw [<-h2];by_cases e:q=p
    .rw [if_pos ⟨rfl,e⟩]; simp only [get,if_pos e]; rfl
    .rw [if_neg (λk=>e k.2)]; simp only [get,if_neg e]
 | .ext q t,L,s+1,p,used,ext,g,hL,hf,f,hn,hp,hnp,hc,a,u,h=>by
  have hgt:=nS g hL f hn (dK hf);obtain ⟨g1,g2,g3,g4,g5⟩:=g;have hnt:=mE g4;have hst:¬ eY t:=dK hf;have href:=(eT t _ g5 (by omega) f hnt).2;unfold jA at h;rw [hgt] at h;dsimp only at h;split at h
  .cases h
  .by_cases e:q<+:p
   .have ho:onward (bg (.ext q t)) p=(ref t,p.drop q.length):=by
     unfold onward;rw [if_pos ⟨rfl,e⟩];rfl
    have eV:∀ x∈cu t,∀ y∈l,gG y=gG x->y=x:=λx hx=>hc x (List.mem_cons_of_mem _ hx);obtain ⟨p1,rfl⟩:=e;rw [List.length_append] at hp;rw [ho,List.drop_left] at h;dsimp only at h;rw [if_neg href.2,qp hst] at h;rw [jd];by_cases h32:(ofP (bP t)).size<32
    .rw [if_pos h32,tu h32] at h;exact qb l t _ s p1 _ _ g5 (by omega) hf f hnt (by omega) hnp.right eV a u h
    .rw [if_neg h32] at h;split at h
     .rename_i hy;have hmem:l.getD used eB∈l:=by
       rw [List.getD_eq_getElem?_getD,List.getElem?_eq_getElem hy.1];exact List.getElem_mem _
      have:=eV _ (xY hnt hst) _ hmem (Ad hy.2.2 h32);rw [this] at h;exact qb l t _ s p1 _ _ g5 (by omega) hf f hnt (by omega) hnp.right eV a u h
     .cases h
   .have ho:onward (bg (.ext q t)) p=(eB,p):=by
     unfold onward;rw [if_neg (λk=>e k.2),if_neg (show ¬ (bg (.ext q t)).kd=3 from λe=>absurd (show (2:Int)=3 from e) (by decide))]
    rw [ho] at h;rw [if_pos (show eB.size=0 from rfl)] at h;split at h
    .cases h
    .have h1:(some (if (bg (.ext q t)).kd=1/\(bg (.ext q t)).p=p then some (bg (.ext q t)).v else none):Option (Option aM))=some a:=(Prod.mk.inj h).1;have h2:=Option.some.inj h1;rw [if_neg (show ¬ ((bg (.ext q t)).kd=1/\(bg (.ext q t)).p=p) from λk=>absurd (show (2:Int)=1 from k.1) (by decide))] at h2;rw [<-h2,gP _ e]
 | .br ks,L,s+1,p,used,ext,g,hL,hf,f,hn,hp,hnp,hc,a,u,h=>by
  have hgt:=nS g hL f hn (dK hf);have h0:=g.1;unfold jA at h;rw [hgt] at h;dsimp only at h;split at h
  .cases h
  .cases p with
   | nil=>simp at hp; omega
   | cons c r =>
    rw [List.length_cons] at hp;have hcl:=hnp.head;have ho:onward (bg (.br ks)) (c::r)=(ref (ks (nb c)),r):=by
     unfold onward;rw [if_neg (λe=>absurd (show (3:Int)=2 from e.1) (by decide)),if_pos (show (bg (.br ks)).kd=3 from rfl)];have:=mJ (λi=>ref (ks i)) (nb c);have e:(nb c).val=c.toNat:=Nat.mod_eq_of_lt hcl;rw [e] at this;show ((gq λi=>ref (ks i)).getD c.toNat eB,r)=_;rw [this]
    rw [ho] at h;dsimp only at h;show get (ks (nb c)) r=some a;by_cases hz:ks (nb c) = .nil
    .rw [hz] at h ⊢;rw [if_pos (show (ref .nil).size=0 from rfl)] at h;split at h
     .cases h
     .have h1:=Option.some.inj (Prod.mk.inj h).1;rw [if_neg (show ¬ ((bg (.br ks)).kd=1/\(bg (.br ks)).p=r) from λk=>absurd (show (3:Int)=1 from k.1) (by decide))] at h1;rw [<-h1];rfl
    .have hst:¬ eY (ks (nb c)):=dK (hf _);have href:=(eT (ks (nb c)) _ (g.2.2 _) (by omega) (f _) hz).2;have eV:∀ x∈cu (ks (nb c)),∀ y∈l,gG y=gG x->y=x:=λx hx=>hc x (List.mem_cons_of_mem _ (List.mem_flatten.2 ⟨_,List.mem_map.2 ⟨nb c,List.mem_finRange _,rfl⟩,hx⟩));rw [if_neg href.2,qp hst] at h;by_cases h32:(ofP (bP (ks (nb c)))).size<32
     .rw [if_pos h32,tu h32] at h;exact qb l (ks (nb c)) _ s r _ _ (g.2.2 _) (by omega) (hf _) (f _) hz (by omega) hnp.tail eV a u h
     .rw [if_neg h32] at h;split at h
      .rename_i hy;have hmem:l.getD used eB∈l:=by
        rw [List.getD_eq_getElem?_getD,List.getElem?_eq_getElem hy.1];exact List.getElem_mem _
       have:=eV _ (xY hz hst) _ hmem (Ad hy.2.2 h32);rw [this] at h;exact qb l (ks (nb c)) _ s r _ _ (g.2.2 _) (by omega) (hf _) (f _) hz (by omega) hnp.tail eV a u h
      .cases h
end Tr
end
section
namespace Tr
open Rf Rl Ni No
def kX:T->Pa->List aM
 | .nil,_=>[]
 | .leaf q v,_=>[bP (.leaf q v)]
 | .ext q t,p=>bP (.ext q t)::(if q<+:p then kX t (p.drop q.length) else [])
 | .br ks,p=>bP (.br ks)::(match p with
  | []=>[]
  | c::r=>kX (ks (nb c)) r)
 | .stub _,_=>[]
def pF (l:List aM):List aM:=l.filter λx=>decide (32<=x.size)
def uQ (t:T) (p:Pa):List aM :=
 match kX t p with
 | []=>[]
 | x::r=>x::pF r
theorem yD {t:T} (hn:t ≠ .nil) (hs:¬ eY t) (p:Pa):∃ r,kX t p=bP t::r:=by
 cases t with
 | nil=>exact absurd rfl hn
 | stub r=>exact absurd trivial hs
 | leaf q v=>exact ⟨_,rfl⟩
 | ext q t=>exact ⟨_,rfl⟩
 | br ks=>cases p <;> exact ⟨_,rfl⟩
theorem Qu (x:aM) (l:List aM):pF (x::l)=if 32<=x.size then x::pF l else pF l:=by
 unfold pF;by_cases h:32<=x.size
 .rw [if_pos h,List.filter_cons_of_pos (by simpa using h)]
 .rw [if_neg h,List.filter_cons_of_neg (by simpa using h)]
theorem drop_cons {α:Type} {l:List α} {n:Nat} {x : α} {r:List α} (h:l.drop n=x::r):∃ hn:n<l.length,l[n]=x/\l.drop (n+1)=r:=by
 have hn:n<l.length:=by
  rcases Nat.lt_or_ge n l.length with g | g
  .exact g
  .rw [List.drop_eq_nil_of_le g] at h; cases h
 rw [List.drop_eq_getElem_cons hn] at h;obtain ⟨h1,h2⟩:=List.cons.inj h;exact ⟨hn,h1,h2⟩
theorem drop_nil {α:Type} {l:List α} {n:Nat} (h:l.drop n=[]) (hn:n<=l.length):n=l.length:=by
 have:=List.drop_eq_nil_iff.1 h;omega
theorem MW (l:List aM) (s:Nat) (k:T) (r:Pa) (used:Nat) (e:Bool) (hn:k ≠ .nil) (hst:¬ eY k) (hd:l.drop used=pF (kX k r)) (hu:used<=l.length)
  (ih:∀ u,u<=l.length->l.drop u=pF ((kX k r).drop 1)->∃ a,get k r=some a/\jA l s (bP k) r u e=(some a,l.length)) :
  ∃ a,get k r=some a/\(if (ofP (bP k)).size<32 then jA l s (ofP (bP k)) r used e else
   if used<l.length/\(l.getD used eB).size≠0/\ofP (l.getD used eB)=ofP (bP k) then jA l s (l.getD used eB) r (used+1) e else (none,used))=(some a,l.length):=by
 obtain ⟨w,hw⟩:=yD hn hst r;rw [hw] at hd ih;rw [Qu] at hd;rw [List.drop_succ_cons,List.drop_zero] at ih;by_cases h32:(ofP (bP k)).size<32
 .rw [if_pos h32,tu h32];rw [tu h32] at h32;rw [if_neg (by omega)] at hd;exact ih used hu hd
 .rw [if_neg h32];have hb:=(FC h32).1;rw [if_pos hb] at hd;obtain ⟨h1,h2,h3⟩:=drop_cons hd;have e1:l.getD used eB=bP k:=by rw [List.getD_eq_getElem?_getD,List.getElem?_eq_getElem h1]; exact h2
  rw [e1,if_pos ⟨h1,by omega,rfl⟩];exact ih (used+1) h1 h3
theorem xV (l:List aM):∀ (t:T) (L s:Nat) (p:Pa) (used:Nat) (ext:Bool),Good t L->L<=64->Full t->Fine t->t ≠ .nil->p.length=L->Nib p->L<s->(ext=true->KY t)->used<=l.length->l.drop used=pF ((kX t p).drop 1)->
  ∃ a,get t p=some a/\jA l s (bP t) p used ext=(some a,l.length)
 | t,L,0,p,used,ext,_,_,_,_,_,_,_,hs,_,_,_=>absurd hs (Nat.not_lt_zero _)
 | .nil,_,_+1,_,_,_,_,_,_,_,hn,_,_,_,_,_,_=>absurd rfl hn
 | .stub _,_,_+1,_,_,_,_,_,hf,_,_,_,_,_,_,_,_=>absurd hf id
 | .leaf q v,L,s+1,p,used,ext,g,hL,hf,f,hn,hp,hnp,hs,he,hu,hd=>by
  have ho:onward (bg (.leaf q v)) p=(eB,p):=by
   unfold onward;rw [if_neg (λe=>absurd (show (1:Int)=2 from e.1) (by decide)),if_neg (show ¬ (bg (.leaf q v)).kd=3 from λe=>absurd (show (1:Int)=3 from e) (by decide))]
  have rr:used=l.length:=drop_nil hd hu;have hext:¬ (ext=true/\(bg (.leaf q v)).kd≠3):=λe=>he e.1;refine ⟨if q=p then some v else none,rfl,?_⟩;unfold jA;rw [nS g hL f hn (dK hf)];dsimp only;rw [if_neg hext,ho,if_pos (show eB.size=0 from rfl),if_neg (λe=>e rr),rr];by_cases e:q=p
  .rw [if_pos e,if_pos (show (bg (.leaf q v)).kd=1/\(bg (.leaf q v)).p=p from ⟨rfl,e⟩)]; rfl
  .rw [if_neg e,if_neg (show ¬ ((bg (.leaf q v)).kd=1/\(bg (.leaf q v)).p=p) from λk=>e k.2)]
 | .ext q t,L,s+1,p,used,ext,g,hL,hf,f,hn,hp,hnp,hs,he,hu,hd=>by
  have hgt:=nS g hL f hn (dK hf);obtain ⟨g1,g2,g3,g4,g5⟩:=g;have hnt:=mE g4;have hst:¬ eY t:=dK hf;have href:=(eT t _ g5 (by omega) f hnt).2;have hext:¬ (ext=true/\(bg (.ext q t)).kd≠3):=λe=>he e.1;have hq:=List.length_pos_iff.2 g1;unfold jA;rw [hgt];dsimp only;rw [if_neg hext];by_cases e:q<+:p
  .have ho:onward (bg (.ext q t)) p=(ref t,p.drop q.length):=by
    unfold onward;rw [if_pos ⟨rfl,e⟩];rfl
   obtain ⟨p1,rfl⟩:=e;rw [List.length_append] at hp;have hd2:l.drop used=pF (kX t p1):=by
    rw [hd];show pF (if q<+:q++p1 then kX t ((q++p1).drop q.length) else [])=_;rw [if_pos (List.prefix_append _ _),List.drop_left]
   rw [ho,List.drop_left,jd];dsimp only;rw [if_neg href.2,qp hst];exact MW l s t p1 used _ hnt hst hd2 hu (λu h1 h2=>xV l t _ s p1 u _ g5 (by omega) hf f hnt (by omega) hnp.right (by omega) (λ_=>g4) h1 h2)
  .have ho:onward (bg (.ext q t)) p=(eB,p):=by
    unfold onward;rw [if_neg (λk=>e k.2),if_neg (show ¬ (bg (.ext q t)).kd=3 from λe=>absurd (show (2:Int)=3 from e) (by decide))]
   have hd2:l.drop used=[]:=by
    rw [hd];show pF (if q<+:p then kX t (p.drop q.length) else [])=_;rw [if_neg e];rfl
   have rr:used=l.length:=drop_nil hd2 hu;refine ⟨none,gP _ e,?_⟩;rw [ho,if_pos (show eB.size=0 from rfl),if_neg (λe=>e rr),rr,if_neg (show ¬ ((bg (.ext q t)).kd=1/\(bg (.ext q t)).p=p) from λk=>absurd (show (2:Int)=1 from k.1) (by decide))]
 | .br ks,L,s+1,p,used,ext,g,hL,hf,f,hn,hp,hnp,hs,he,hu,hd=>by
  have hgt:=nS g hL f hn (dK hf);have h0:=g.1;have hext:¬ (ext=true/\(bg (.br ks)).kd≠3):=λe=>e.2 rfl;unfold jA;rw [hgt];dsimp only;rw [if_neg hext];cases p with
  | nil=>simp at hp; omega
  | cons c r =>
   rw [List.length_cons] at hp;have hcl:=hnp.head;have ho:onward (bg (.br ks)) (c::r)=(ref (ks (nb c)),r):=by
    unfold onward;rw [if_neg (λe=>absurd (show (3:Int)=2 from e.1) (by decide)),if_pos (show (bg (.br ks)).kd=3 from rfl)];have:=mJ (λi=>ref (ks i)) (nb c);have e:(nb c).val=c.toNat:=Nat.mod_eq_of_lt hcl;rw [e] at this;show ((gq λi=>ref (ks i)).getD c.toNat eB,r)=_;rw [this]
   have hd2:l.drop used=pF (kX (ks (nb c)) r):=hd;rw [ho];dsimp only;show ∃ a,get (ks (nb c)) r=some a/\_;by_cases hz:ks (nb c) = .nil
   .rw [hz] at hd2 ⊢;have rr:used=l.length:=drop_nil hd2 hu;refine ⟨none,rfl,?_⟩;rw [if_pos (show (ref .nil).size=0 from rfl),if_neg (λe=>e rr),rr,if_neg (show ¬ ((bg (.br ks)).kd=1/\(bg (.br ks)).p=r) from λk=>absurd (show (3:Int)=1 from k.1) (by decide))]
   .have hst:¬ eY (ks (nb c)):=dK (hf _);have href:=(eT (ks (nb c)) _ (g.2.2 _) (by omega) (f _) hz).2;rw [if_neg href.2,qp hst];exact MW l s (ks (nb c)) r used _ hz hst hd2 hu (λu h1 h2=>xV l (ks (nb c)) _ s r u _ (g.2.2 _) (by omega) (hf _) (f _) hz (by omega) hnp.tail (by omega) (λe=>absurd (show (3:Int)=2 from of_decide_eq_true e) (by decide)) h1 h2)
end Tr
end
section
namespace Tr
open Rf Rl Ni No
def bD:T->Pa->List Nd
 | .nil,_=>[]
 | .leaf p v,_=>[bg (.leaf p v)]
 | .ext q t,w=>bg (.ext q t)::if q<+:w then bD t (w.drop q.length) else []
 | .br ks,[]=>[bg (.br ks)]
 | .br ks,c::w=>bg (.br ks)::bD (ks (nb c)) w
 | .stub _,_=>[]
end Tr
end
section
open Go.RowKit
namespace Tm
open Tr
structure Mp where
 at_:Nat->Option T
 ft:Nat->Prop
def IsT (M:Mp) (p:aL) (t:T):Prop:=match p with
 | none=>t = .nil
 | some ad=>∃ b,ad=⟨b,0,none⟩/\M.at_ b=some t/\t ≠ .nil
def fB:T->Int
 | .nil=>0
 | .leaf _ _=>1
 | .ext _ _=>2
 | .br _=>3
 | .stub _ => -1
def bY:T->Pa
 | .leaf p _=>p
 | .ext q _=>q
 | _=>[]
def RP:T->aM
 | .leaf _ v=>v
 | _=>eB
def ji:T->List T
 | .ext _ t=>[t]
 | .br ks=>(List.finRange 16).map ks
 | _=>[]
def QL:T->aM
 | .stub r=>r
 | _=>eB
def Bs (M:Mp) (w:World) (a:aL) (n c:Nat) (l:aN):Prop:=bf w a n c l/\∀ ad,a=some ad->0<n->M.ft ad.block
def Ks (M:Mp) (w:World) (a:aL) (n c:Nat) (l:List T):Prop :=
 n<=c/\c<=maxLen/\l.length=n/\(a=none->c=0)/\∀ j,j<n->∃ b off p,a=some ⟨b,off,none⟩/\b<w.heap.size/\M.ft b/\w.cell? ⟨b,off+j,none⟩=some (.pointer p)/\IsT M p (l.getD j .nil)
def lq (t:T) (a:aL) (n c:Nat) (ka:aL) (kn kc:Nat) (d:Int) (r:aM):aO :=
 #[.int .i64 (fB t),.slice a n c,.string (RP t),.slice ka kn kc,.int .u32 d,.int .i32 0,.int .u32 0,.string r]
def qK (M:Mp) (w:World) (b:Nat) (t:T):Prop :=
 ∃ a n c ka kn kc d r,w.heap[b]? = some (.cells (lq t a n c ka kn kc d r) 150 (0,0))/\Bs M w a n c (bY t)/\Ks M w ka kn kc (ji t)/\(d=0/\r=QL t\/d=1/\¬ eY t/\r=ref t)
structure Inv (M:Mp) (w:World):Prop where
 lt_:∀ k,M.ft k->k<w.heap.size
 part_:∀ b t,M.at_ b=some t->t ≠ .nil/\M.ft b/\qK M w b t
def iX (w:World) (k:Nat):Prop:=∃ j x,w.cell? ⟨k,j,none⟩=some (.int .u8 x)
structure Fr (M M':Mp) (w w':World):Prop where
 os:w'.os=w.os
 tape:w'.tape=w.tape
 output:w'.output=w.output
 size:w.heap.size<=w'.heap.size
 block:∀ k,k<w.heap.size->M.at_ k=none->w'.heap[k]? = w.heap[k]?
 mono:∀ k t,M.at_ k=some t->M'.at_ k=some t
 fresh:∀ k,k<w.heap.size->M.at_ k=none->M'.at_ k=none
 grow:∀ k,M.ft k->M'.ft k
 foot:∀ k,M'.ft k->M.ft k\/w.heap.size<=k\/iX w k
def M0:Mp:=⟨λ_=>none,λ_=>False⟩
theorem IsT.mono {M M':Mp} {p:aL} {t:T} (h:IsT M p t) (hm:∀ k t,M.at_ k=some t->M'.at_ k=some t):IsT M' p t:=by
 cases p with
 | none=>exact h
 | some ad =>
  obtain ⟨b,e,h1,h2⟩:=h;exact ⟨b,e,hm _ _ h1,h2⟩
theorem IsT.vS {M:Mp} {p:aL} {t:T} (h:IsT M p t):p=none↔t = .nil:=by
 cases p with
 | none=>exact ⟨λ_=>h,λ_=>rfl⟩
 | some ad =>
  obtain ⟨b,_,_,hn⟩:=h;exact ⟨λe=>(by cases e),λe=>absurd e hn⟩
theorem IsT.at_ {M:Mp} {p:aL} {t:T} (h:IsT M p t) (hn:t ≠ .nil):∃ b,p=some ⟨b,0,none⟩/\M.at_ b=some t:=by
 cases p with
 | none=>exact absurd h hn
 | some ad =>
  obtain ⟨b,e,hm,_⟩:=h;exact ⟨b,by rw [e],hm⟩
theorem Ks.nil (M:Mp) (w:World):Ks M w none 0 0 []:=⟨aH,Nat.zero_le _,rfl,λ_=>rfl,λ_ h=>absurd h (Nat.not_lt_zero _)⟩
theorem Ks.len {M:Mp} {a:aL} {n c:Nat} {l:List T} (h:Ks M w a n c l):l.length=n:=h.2.2.1
theorem Ks.at' {M:Mp} {a:aL} {n c:Nat} {l:List T} (h:Ks M w a n c l) (j:Nat) (hj:j<n):∃ b off p,a=some ⟨b,off,none⟩/\b<w.heap.size/\M.ft b/\w.cell? ⟨b,off+j,none⟩=some (.pointer p)/\IsT M p (l.getD j .nil):=h.2.2.2.2 j hj
theorem Inv.part {M:Mp} (h:Inv M w) {b:Nat} {t:T} (hm:M.at_ b=some t):qK M w b t:=(h.part_ b t hm).2.2
theorem Inv.lt {M:Mp} (h:Inv M w) {b:Nat} {t:T} (hm:M.at_ b=some t):b<w.heap.size:=h.lt_ b (h.part_ b t hm).2.1
theorem Inv.zero (w:World):Inv M0 w:=⟨λ_ h=>h.elim,λ_ _ h=>by cases h⟩
theorem Fw {t:T} {a:aL} {n c:Nat} {ka:aL} {kn kc:Nat} {d:Int} {r:aM} {j:Nat} {v:Value} (h:(lq t a n c ka kn kc d r)[j]? = some v):(∀ x,v ≠ .int .u8 x)/\∀ p,v ≠ .pointer p:=by
 unfold lq at h
 match j,h with
 | 0,h | 1,h | 2,h | 3,h | 4,h | 5,h | 6,h | 7,h =>
  simp at h;subst h;exact ⟨λx e=>(by cases e),λp e=>(by cases e)⟩
 | j+8,h=>simp at h
theorem pI {b:Nat} {cs:aO} {t:TypeId} {f:Nat × Nat} (h:w.heap[b]? = some (.cells cs t f)) (hc:w.cell? ⟨b,j,none⟩=some v):cs[j]? = some v:=by
 rw [World.cell?,h] at hc;simpa using hc
theorem Inv.fO {M:Mp} {w:World} (hi:Inv M w) {b j:Nat} {x:Int} (hc:w.cell? ⟨b,j,none⟩=some (.int .u8 x)):M.at_ b=none:=by
 cases hm:M.at_ b with
 | none=>rfl
 | some t =>
  obtain ⟨_,_,_,_,_,_,_,_,hb,_⟩:=hi.part hm;exact absurd rfl ((Fw (pI hb hc)).1 x)
theorem Inv.qy {M:Mp} {w:World} (hi:Inv M w) {b j:Nat} {p:aL} (hc:w.cell? ⟨b,j,none⟩=some (.pointer p)):M.at_ b=none:=by
 cases hm:M.at_ b with
 | none=>rfl
 | some t =>
  obtain ⟨_,_,_,_,_,_,_,_,hb,_⟩:=hi.part hm;exact absurd rfl ((Fw (pI hb hc)).2 p)
theorem Fr.refl (M:Mp) (w:World):Fr M M w w:=⟨rfl,rfl,rfl,aH,λ_ _ _=>rfl,λ_ _ h=>h,λ_ _ h=>h,λ_ h=>h,λ_ h=>Or.inl h⟩
theorem iX.back {M M':Mp} {k:Nat} (h:iX w' k) (f:Fr M M' w w') (hk:k<w.heap.size) (hm:M.at_ k=none):iX w k:=by
 obtain ⟨j,x,hc⟩:=h;exact ⟨j,x,by rw [<-hc]; exact (World.cell?_of_block (w:=w) (f.block k hk hm)).symm⟩
theorem Fr.trans {M M1 M2:Mp} {w w1 w2:World} (hi:Inv M w) (h:Fr M M1 w w1) (g:Fr M1 M2 w1 w2):Fr M M2 w w2 :=
 ⟨g.os.trans h.os,g.tape.trans h.tape,g.output.trans h.output,Nat.le_trans h.size g.size,
  λk hk hm=>(g.block k (aJ hk h.size) (h.fresh k hk hm)).trans (h.block k hk hm),λk t hm=>g.mono k t (h.mono k t hm),λk hk hm=>g.fresh k (aJ hk h.size) (h.fresh k hk hm),
  λk hk=>g.grow k (h.grow k hk),λk hk=>by
  rcases g.foot k hk with h1 | h1 | h1
  .exact h.foot k h1
  .exact Or.inr (Or.inl (Nat.le_trans h.size h1))
  .by_cases hlt:k<w.heap.size
   .cases hm:M.at_ k with
    | none=>exact Or.inr (Or.inr (h1.back h hlt hm))
    | some t=>exact Or.inl (hi.part_ k t hm).2.1
   .exact Or.inr (Or.inl (by omega))⟩
theorem Fr.below (M:Mp) (hb:Below w.heap.size w w'):Fr M M w w':=⟨hb.os,hb.tape,hb.output,hb.size,λk hk _=>hb.block k hk,λ_ _ h=>h,λ_ _ h=>h,λ_ h=>h,λ_ h=>Or.inl h⟩
theorem Fr.all {M':Mp} (h:Fr M0 M' w w'):Below w.heap.size w w':=⟨h.os,h.tape,h.output,h.size,λk hk=>h.block k hk rfl⟩
theorem Fr.cell {M M':Mp} (h:Fr M M' w w') {b o:Nat} (hb:b<w.heap.size) (hm:M.at_ b=none):w'.cell? ⟨b,o,none⟩=w.cell? ⟨b,o,none⟩:=World.cell?_of_block (w:=w) (h.block b hb hm)
theorem Bs.fr {M M':Mp} {a:aL} {n c:Nat} {l:aN} (hi:Inv M w) (h:Bs M w a n c l) (f:Fr M M' w w'):Bs M' w' a n c l:=by
 refine ⟨⟨h.1.1,h.1.2.1,h.1.2.2.1,h.1.2.2.2.1,λj hj=>?_⟩,λad e hn=>f.grow _ (h.2 ad e hn)⟩;obtain ⟨b,off,e,hlt,hc⟩:=h.1.2.2.2.2 j hj;exact ⟨b,off,e,aJ hlt f.size,by rw [f.cell hlt (hi.fO hc)]; exact hc⟩
theorem sS {M M':Mp} {a:aL} {n c:Nat} {l:aN} (hi:Inv M w) (h:bf w a n c l) (f:Fr M M' w w'):bf w' a n c l:=by
 refine ⟨h.1,h.2.1,h.2.2.1,h.2.2.2.1,λj hj=>?_⟩;obtain ⟨b,off,e,hlt,hc⟩:=h.2.2.2.2 j hj;exact ⟨b,off,e,aJ hlt f.size,by rw [f.cell hlt (hi.fO hc)]; exact hc⟩
theorem Ks.fr {M M':Mp} {a:aL} {n c:Nat} {l:List T} (hi:Inv M w) (h:Ks M w a n c l) (f:Fr M M' w w'):Ks M' w' a n c l:=by
 refine ⟨h.1,h.2.1,h.2.2.1,h.2.2.2.1,λj hj=>?_⟩;obtain ⟨b,off,p,e,hlt,hm,hc,ht⟩:=h.at' j hj;exact ⟨b,off,p,e,aJ hlt f.size,f.grow b hm,by rw [f.cell hlt (hi.qy hc)]; exact hc,ht.mono f.mono⟩
theorem Inv.below {M:Mp} {w w':World} (h:Inv M w) (hb:Below w.heap.size w w'):Inv M w':=by
 refine ⟨λk hk=>aJ (h.lt_ k hk) hb.size,λb t hm=>?_⟩;have hlt:=h.lt hm;refine ⟨(h.part_ b t hm).1,(h.part_ b t hm).2.1,?_⟩;obtain ⟨a,n,c,ka,kn,kc,d,r,h1,h2,h3,h4⟩:=h.part hm;exact ⟨a,n,c,ka,kn,kc,d,r,(hb.block b hlt).trans h1,h2.fr h (Fr.below M hb),h3.fr h (Fr.below M hb),h4⟩
theorem Inv.out {M:Mp} {w:World} (h:Inv M w) {b:Nat} (hb:w.heap.size<=b):M.at_ b=none:=by
 cases hm:M.at_ b with
 | none=>rfl
 | some t=>exact absurd (h.lt hm) (by omega)
theorem Inv.upd {M:Mp} (h:Inv M w) (hu:Rg.Upd w g w') (hg:¬ M.ft g):Inv M w':=by
 refine ⟨λk hk=>by rw [hu.size]; exact h.lt_ k hk,λb t hm=>?_⟩;obtain ⟨h1,h2,h3⟩:=h.part_ b t hm;refine ⟨h1,h2,?_⟩;obtain ⟨a,n,c,ka,kn,kc,d,r,hb,hB,hK,hd⟩:=h3;have hne:∀ k,M.ft k->k≠g:=λk hk e=>hg (by rw [<-e]; exact hk);refine ⟨a,n,c,ka,kn,kc,d,r,(hu.block b (hne b h2)).trans hb,⟨⟨hB.1.1,hB.1.2.1,hB.1.2.2.1,hB.1.2.2.2.1,λj hj=>?_⟩,hB.2⟩,⟨hK.1,hK.2.1,hK.2.2.1,hK.2.2.2.1,λj hj=>?_⟩,hd⟩
 .obtain ⟨b',off,e,hlt,hc⟩:=hB.1.2.2.2.2 j hj;exact ⟨b',off,e,by rw [hu.size]; exact hlt,by rw [World.cell?_of_block (hu.block b' (hne b' (hB.2 _ e (by omega))))]; exact hc⟩
 .obtain ⟨b',off,p,e,hlt,hf,hc,ht⟩:=hK.at' j hj;exact ⟨b',off,p,e,by rw [hu.size]; exact hlt,hf,by rw [World.cell?_of_block (hu.block b' (hne b' hf))]; exact hc,ht⟩
theorem Fr.box {M M':Mp} (f:Fr M M' w w') (hg:¬ M.ft g) (hlt:g<w.heap.size) (hb:¬ iX w g):¬ M'.ft g:=λh=>by
 rcases f.foot g h with h1 | h1 | h1
 .exact hg h1
 .omega
 .exact hb h1
theorem Inv.free {M:Mp} (h:Inv M w) (hg:w.heap.size<=g):¬ M.ft g:=λe=>by
 have:=h.lt_ g e;omega
theorem jv (p:aL):∀ (j:Nat) (x:Int),(#[Value.pointer p]:aO)[j]? ≠ some (Value.int .u8 x):=λj x h=>by
 match j,h with
 | 0,h=>simp at h
 | j+1,h=>simp at h
theorem fO {cs:aO} {t:TypeId} (hO:Rg.Own w g cs t) (hne:∀ (j:Nat) (x:Int),cs[j]? ≠ some (Value.int .u8 x)):¬ iX w g:=λ⟨_,_,hc⟩=>hne _ _ (pI hO.2 hc)
theorem wH {a:aL} {n c:Nat} {l:aN} (h:bf w a n c l) (hg:¬ iX w g) (hu:Rg.Upd w g w'):bf w' a n c l:=by
 refine ⟨h.1,h.2.1,h.2.2.1,h.2.2.2.1,λj hj=>?_⟩;obtain ⟨b,off,e,hlt,hc⟩:=h.2.2.2.2 j hj;have hbg:b≠g:=by
  rintro rfl;exact hg ⟨_,_,hc⟩
 exact ⟨b,off,e,by rw [hu.size]; exact hlt,by rw [World.cell?_of_block (hu.block b hbg)]; exact hc⟩
def plus (M:Mp) (S:Nat->Prop):Mp:=⟨M.at_,λk=>M.ft k\/S k⟩
theorem Inv.plus {M:Mp} (h:Inv M w) (hS:∀ k,S k->k<w.heap.size):Inv (Tm.plus M S) w:=by
 refine ⟨λk hk=>hk.elim (h.lt_ k) (hS k),λb t hm=>?_⟩;obtain ⟨h1,h2,a,n,c,ka,kn,kc,d,r,hb,hB,hK,hd⟩:=h.part_ b t hm;exact ⟨h1,Or.inl h2,a,n,c,ka,kn,kc,d,r,hb,⟨hB.1,λad e hn=>Or.inl (hB.2 ad e hn)⟩,⟨hK.1,hK.2.1,hK.2.2.1,hK.2.2.2.1,λj hj=>by
  obtain ⟨b',off,p,e,hlt,hf,hc,ht⟩:=hK.at' j hj;exact ⟨b',off,p,e,hlt,Or.inl hf,hc,ht.mono λ_ _ h=>h⟩⟩,hd⟩
theorem Ba {M:Mp} {t:T} (h:IsT M p t):IsT (plus M S) p t:=h.mono λ_ _ h=>h
theorem Fr.plus {M M':Mp} (f:Fr M M' w w') (hS:∀ k,S k->w.heap.size<=k\/iX w k):Fr M (Tm.plus M' S) w w' :=
 ⟨f.os,f.tape,f.output,f.size,f.block,f.mono,f.fresh,λk hk=>Or.inl (f.grow k hk),λk hk=>hk.elim (f.foot k) (λh=>Or.inr (hS k h))⟩
def inS (a:aL) (n:Nat) (k:Nat):Prop:=∃ ad,a=some ad/\0<n/\ad.block=k
theorem wE {a:aL} {n c:Nat} {l:aN} (h:bf w a n c l) {k:Nat} (hk:inS a n k):iX w k/\k<w.heap.size:=by
 obtain ⟨ad,e,hn,hb⟩:=hk;obtain ⟨b,off,e',hlt,hc⟩:=h.at' 0 hn;rw [e] at e';obtain rfl:=Option.some.inj e';obtain rfl:b=k:=hb;exact ⟨⟨_,_,hc⟩,hlt⟩
theorem iX.below {k:Nat} (h:iX w' k) (hb:Below w.heap.size w w'):w.heap.size<=k\/iX w k:=by
 by_cases hlt:k<w.heap.size
 .obtain ⟨j,x,hc⟩:=h;exact Or.inr ⟨j,x,by rw [<-hc]; exact (World.cell?_of_block (w:=w) (hb.block k hlt)).symm⟩
 .exact Or.inl (by omega)
theorem Bs.in_ {M:Mp} {a:aL} {n c:Nat} {l:aN} (h:bf w a n c l):Bs (plus M (inS a n)) w a n c l:=⟨h,λad e hn=>Or.inr ⟨ad,e,hn,rfl⟩⟩
def dz (M:Mp) (w:World) (t:T) (e:Ending) (w':World):Prop:=∃ p M',e = .returned (.agg #[.pointer p])/\IsT M' p t/\Fr M M' w w'/\Inv M' w'/\Below w.heap.size w w'
def more (M:Mp) (b:Nat) (t:T) (lo hi:Nat):Mp:=⟨λk=>if k=b then some t else M.at_ k,λk=>M.ft k\/lo<=k/\k<hi⟩
theorem LB (M:Mp) (b:Nat) (t:T) (lo hi:Nat):(more M b t lo hi).at_ b=some t:=if_pos rfl
theorem zY {M:Mp} {b:Nat} {t:T} {hi k:Nat} (h:k≠b):(more M b t lo hi).at_ k=M.at_ k:=if_neg h
theorem Fr.more {M:Mp} (hi:Inv M w) (hb:Below w.heap.size w w') (b:Nat) (t:T) (hB:w.heap.size<=b):Fr M (more M b t w.heap.size w'.heap.size) w w':=by
 refine ⟨hb.os,hb.tape,hb.output,hb.size,λk hk _=>hb.block k hk,λk u hm=>?_,λk hk hm=>?_,λk hk=>Or.inl hk,λk hk=>hk.elim Or.inl (λh=>Or.inr (Or.inl h.1))⟩
 .have:=hi.lt hm;rw [zY (by omega)]; exact hm
 .rw [zY (by omega)]; exact hm
def Ks0 (M:Mp) (lo:Nat) (w:World) (a:aL) (n c:Nat) (l:List T):Prop :=
 n<=c/\c<=maxLen/\l.length=n/\(a=none->c=0)/\∀ j,j<n->∃ b off p,a=some ⟨b,off,none⟩/\b<w.heap.size/\(M.ft b\/lo<=b)/\w.cell? ⟨b,off+j,none⟩=some (.pointer p)/\IsT M p (l.getD j .nil)
theorem Ks.weak {M:Mp} {a:aL} {n c:Nat} {l:List T} (h:Ks M w a n c l):Ks0 M lo w a n c l :=
 ⟨h.1,h.2.1,h.2.2.1,h.2.2.2.1,λj hj=>by
  obtain ⟨b,off,p,e,hlt,hf,hc,ht⟩:=h.at' j hj;exact ⟨b,off,p,e,hlt,Or.inl hf,hc,ht⟩⟩
theorem Az {M:Mp} {b:Nat} {t:T} {a:aL} {n c:Nat} {ka:aL} {kc:Nat} (hi:Inv M w) (hb:Below w.heap.size w w') (hB:w.heap.size<=b) (hn:t ≠ .nil)
  (hc:w'.heap[b]? = some (.cells (lq t a n c ka kn kc 0 (QL t)) 150 (0,0))) (hp:bf w' a n c (bY t)) (hf:∀ ad,a=some ad->0<n->M.ft ad.block\/w.heap.size<=ad.block) (hk:Ks0 M w.heap.size w' ka kn kc (ji t)) :
  dz M w t (.returned (.agg #[.pointer (some ⟨b,0,none⟩)])) w':=by
 have f:=Fr.more hi hb b t hB;have hlt:b<w'.heap.size:=(Array.getElem?_eq_some_iff.1 hc).1;refine ⟨_,Tm.more M b t w.heap.size w'.heap.size,rfl,⟨b,rfl,LB _ _ _ _ _,hn⟩,f,⟨λk hk=>hk.elim (λh=>aJ (hi.lt_ k h) hb.size) (λh=>h.2),λk u hm=>?_⟩,hb⟩;by_cases e:k=b
 .subst e;rw [LB] at hm;obtain rfl:=Option.some.inj hm;refine ⟨hn,Or.inr ⟨hB,hlt⟩,a,n,c,ka,kn,kc,0,_,hc,⟨hp,λad e hn=>?_⟩,⟨hk.1,hk.2.1,hk.2.2.1,hk.2.2.2.1,λj hj=>?_⟩,Or.inl ⟨rfl,rfl⟩⟩
  .obtain ⟨b',off,e',hlt',_⟩:=hp.at' 0 hn;rcases hf ad e hn with h | h
   .exact Or.inl h
   .rw [e] at e';obtain rfl:=Option.some.inj e';exact Or.inr ⟨h,hlt'⟩
  .obtain ⟨b',off,p,e,hlt',hm,hcb,ht⟩:=hk.2.2.2.2 j hj;exact ⟨b',off,p,e,hlt',hm.elim Or.inl (λh=>Or.inr ⟨h,hlt'⟩),hcb,ht.mono f.mono⟩
 .rw [zY e] at hm;have hlt:=hi.lt hm;obtain ⟨h1,h2,a,n,c,ka,kn,kc,d,r,g1,g2,g3,g4⟩:=hi.part_ k u hm;exact ⟨h1,Or.inl h2,a,n,c,ka,kn,kc,d,r,(hb.block k hlt).trans g1,g2.fr hi f,g3.fr hi f,g4⟩
theorem Wu {M:Mp} {t:T} (hi:Inv M w) (ht:IsT M p t) (hb:Below w.heap.size w w'):dz M w t (.returned (.agg #[.pointer p])) w' :=
 ⟨p,M,rfl,ht,Fr.below M hb,hi.below hb,hb⟩
def uJ (ps:List (aL)):aO:=(ps.map Value.pointer).toArray
theorem Ks0.row {M:Mp} {b:Nat} {ps:List (aL)} {t:TypeId} {l:List T} (hlo:lo<=b) (h:Rg.Own w b (uJ ps) t) (hl:ps.length=l.length) (hm:ps.length<=maxLen) (ht:∀ j,j<ps.length->IsT M (ps.getD j none) (l.getD j .nil)):Ks0 M lo w (some ⟨b,0,none⟩) ps.length ps.length l:=by
 refine ⟨aH,hm,hl.symm,λe=>(by cases e),λj hj=>?_⟩;have hc:w.cell? ⟨b,j,none⟩=some (.pointer (ps.getD j none)):=by
  rw [cell_of_row w b _ _ _ _ h.2];simp [uJ,List.getD,hj]
 exact ⟨b,0,_,rfl,h.1,Or.inr hlo,by rw [Nat.zero_add]; exact hc,ht j hj⟩
abbrev tv (p:aL):Value:=.agg #[.pointer p]
theorem fK (w:World) (p:aL):(w.alloc (.cells #[.pointer p] 46)).cell? ⟨w.heap.size,0,none⟩=some (.pointer p):=by
 rw [World.cell?_alloc_mark]; rfl
theorem aX {w1 w2:World} (hb:Below w1.heap.size w1 w2) {b o:Nat} (hc:w1.cell? ⟨b,o,none⟩=some v):w2.cell? ⟨b,o,none⟩=some v :=
 (hb.cell (p:=⟨b,o,none⟩) (World.block_lt_of_cell? w1 _ hc)).trans hc
theorem Ng {b o:Nat} (hc:w.cell? ⟨b,o,none⟩=some v):(w.alloc o').cell? ⟨b,o,none⟩=some v:=aX (al1 _ _) hc
theorem lQ (p:aL) (w:World):Calls prog 124 #[.agg #[.pointer p]] w λe w'=>e = .returned (.bool p.isNone)/\Below w.heap.size w w':=by
 have h0:=fK w p;cases p with
 | none =>
  go_enter func124,ntmps124;go_wp2;go_ret;exact ⟨rfl,al1 _ _⟩
 | some ad =>
  go_enter func124,ntmps124;go_wp2;go_ret;exact ⟨rfl,al1 _ _⟩
theorem jY {b:Nat} {t:T} {a:aL} {n c:Nat} {ka:aL} {kc:Nat} (h:w.heap[b]? = some (.cells (lq t a n c ka kn kc d r) 150 (0,0))) :
  (w.cell? ⟨b,0,none⟩=some (.int .i64 (fB t))/\w.cell? ⟨b,1,none⟩=some (.slice a n c)/\w.cell? ⟨b,2,none⟩=some (.string (RP t))/\w.cell? ⟨b,3,none⟩=some (.slice ka kn kc))/\
  w.cell? ⟨b,4,none⟩=some (.int .u32 d)/\w.cell? ⟨b,5,none⟩=some (.int .i32 0)/\w.cell? ⟨b,6,none⟩=some (.int .u32 0)/\w.cell? ⟨b,7,none⟩=some (.string r):=by
 refine ⟨⟨?_,?_,?_,?_⟩,?_,?_,?_,?_⟩;all_goals
  rw [cell_of_row w b _ _ _ _ h];rfl
theorem Inv.kind {M:Mp} (hi:Inv M w) {b:Nat} {t:T} (hm:M.at_ b=some t):w.cell? ⟨b,0,none⟩=some (.int .i64 (fB t)):=by
 obtain ⟨a,n,c,ka,kn,kc,d,r,hb,_⟩:=hi.part hm;exact (jY hb).1.1
theorem dV (M:Mp) (p:aL) (t:T) (w:World) (hi:Inv M w) (ht:IsT M p t) :
  Calls prog 83 #[.agg #[.pointer p]] w λe w'=>e = .returned (.int .i64 (fB t))/\Below w.heap.size w w':=by
 have h0:=fK w p;have HE:=hid (lQ p (w.alloc (.cells #[.pointer p] 46)));cases p with
 | none =>
  obtain rfl:t = .nil:=ht;go_enter func83,ntmps83;go_wp2_with fail
  refine HE.out.mono ?_;rintro e w2 ⟨rfl,hb⟩;go_wp2;go_ret;exact ⟨rfl,bst (al1 _ _) hb⟩
 | some ad =>
  obtain ⟨b,rfl,hm,_⟩:=ht;have hk:=Ng (o':=.cells #[.pointer (some ⟨b,0,none⟩)] 46) (hi.kind hm);go_enter func83,ntmps83;go_wp2_with fail
  refine HE.out.mono ?_;rintro e w2 ⟨rfl,hb⟩;have h1:=aX hb h0;have h2:=aX hb hk;clear h0 hk;go_wp2;go_ret;exact ⟨rfl,bst (al1 _ _) hb⟩
def eP (a:aL) (c i:Nat):aL:=if c=i then a else a.map (·.add i)
theorem iL (w:World):(sizeOf (prog.elem 35)).run prog w = .ok 1 w:=by kernel_rfl
theorem Dp (w:World):(sizeOf (prog.elem 136)).run prog w = .ok 1 w:=by kernel_rfl
theorem fZ:prog.underlying 35=some (.slice (prog.elem 35)):=by kernel_rfl
theorem oL:prog.underlying 136=some (.slice (prog.elem 136)):=by kernel_rfl
section
variable {P:Program} {t:TypeId} {a:aL} {n c:Nat}
theorem Sl (ht:P.underlying t=some (.slice (P.elem t))) (hs:∀ w,(sizeOf (P.elem t)).run P w = .ok 1 w) (i:Nat) (hi:i<=n) (w:World) :
  (Instr.sliceAt t (.slice a n c) (some (.int .i64 i)) none none).run P w = .ok (.slice (eP a c i) (n-i) (c-i)) w:=by
 rw [run_sliceAt_slice (h:=ht),run_slice_l w t a n c ht .i64 i (by omega) (by omega),hs];simp [Result.andThen,sliced,eP]
theorem Tg (ht:P.underlying t=some (.slice (P.elem t))) (hs:∀ w,(sizeOf (P.elem t)).run P w = .ok 1 w) (j:Nat) (hj:j<=c) (w:World) :
  (Instr.sliceAt t (.slice a n c) none (some (.int .i64 j)) none).run P w = .ok (.slice a j c) w:=by
 rw [run_sliceAt_slice (h:=ht),run_slice_h w t a n c ht .i64 j (by omega) (by omega),hs];have:a.map (λx=>x.add 0)=a:=by cases a <;> simp [Addr.add]
 simp [Result.andThen,sliced,this]
end
theorem jP {P:Program} {t:TypeId} {a:aL} {n c:Nat} {w:World} (ht:P.underlying t=some (.slice (P.elem t))) (hs:∀ w,(sizeOf (P.elem t)).run P w = .ok 1 w) (hi:i<=n)
  (ho:∃ x lo,o.op = .slice t x (some lo) none none/\ev x = .slice a n c/\ev lo = .int .i64 i):(execOp ev o).run P w = .ok (.value (.slice (eP a c i) (n-i) (c-i))) w:=by
 obtain ⟨x,lo,ho,hx,hl⟩:=ho;unfold execOp;simp only [ho,hx,hl,Option.map_some,Option.map_none,Sem.run_bind,Sem.run_pure,Result.andThen_ok,Sl ht hs i hi]
theorem vT {P:Program} {t:TypeId} {a:aL} {n c:Nat} {w:World} (ht:P.underlying t=some (.slice (P.elem t))) (hs:∀ w,(sizeOf (P.elem t)).run P w = .ok 1 w) (hj:j<=c)
  (ho:∃ x hi,o.op = .slice t x none (some hi) none/\ev x = .slice a n c/\ev hi = .int .i64 j):(execOp ev o).run P w = .ok (.value (.slice a j c)) w:=by
 obtain ⟨x,lo,ho,hx,hl⟩:=ho;unfold execOp;simp only [ho,hx,hl,Option.map_some,Option.map_none,Sem.run_bind,Sem.run_pure,Result.andThen_ok,Tg ht hs j hj]
theorem wm {a:aL} {n c:Nat} {l:aN} (h:bf w a n c l) (i:Nat) (hi:i<=n):bf w (eP a c i) (n-i) (c-i) (l.drop i):=by
 have h1:=h.1;have h2:=h.2.1;refine ⟨by omega,by omega,by rw [List.length_drop,h.len],λe=>?_,λj hj=>?_⟩
 .unfold eP at e;split at e
  .omega
  .have:a=none:=by simpa using e
   have:=h.2.2.2.1 this;omega
 .obtain ⟨b,off,e,hlt,hc⟩:=h.at' (i+j) (by omega);refine ⟨b,off+i,?_,hlt,?_⟩
  .unfold eP;rw [if_neg (by omega),e];simp [Addr.add_mid]
  .rw [Nat.add_assoc,hc];simp [List.getD]
theorem GR {a:aL} {c i:Nat} {ad:Addr} (h:eP a c i=some ad):∃ G0,a=some G0/\G0.block=ad.block:=by
 unfold eP at h;split at h
 .exact ⟨ad,h,rfl⟩
 .cases a with
  | none=>cases h
  | some x =>
   refine ⟨x,rfl,?_⟩;have:x.add i=ad:=by simpa using h
   rw [<-this];unfold Addr.add;split <;> rfl
theorem Bs.from' {M:Mp} {a:aL} {n c:Nat} {l:aN} (h:Bs M w a n c l) (i:Nat) (hi:i<=n):Bs M w (eP a c i) (n-i) (c-i) (l.drop i) :=
 ⟨wm h.1 i hi,λad e hn=>by
  obtain ⟨G0,e',hb⟩:=GR e;rw [<-hb];exact h.2 G0 e' (by omega)⟩
theorem Bs.upto {M:Mp} {a:aL} {n c:Nat} {l:aN} (h:Bs M w a n c l) (j:Nat) (hj:j<=n):Bs M w a j c (l.take j):=by
 have h1:=h.1.1;refine ⟨⟨by omega,h.1.2.1,by rw [List.length_take,h.1.len]; omega,h.1.2.2.2.1,λi hi=>?_⟩,λad e hn=>h.2 ad e (by omega)⟩;obtain ⟨b,off,e,hlt,hc⟩:=h.1.at' i (by omega);refine ⟨b,off,e,hlt,?_⟩;rw [hc];simp [List.getD,hi]
theorem Et:(prog.info? 46).map (·.size)=some 1:=by kernel_rfl
theorem xq {w:World} {b o:Nat} {p:aL} (hc:w.cell? ⟨b,o,none⟩=some (.pointer p)):(loadVar 46 ⟨b,o,none⟩).run prog w = .ok (tv p) w :=
 run_loadVar_mid w b o 46 [.pointer p] _ (λj v hv=>by
  cases j with
  | zero=>simp at hv; subst hv; exact hc
  | succ j=>simp at hv) underlying46 rfl (by rw [Et]; rfl)
theorem aW {b:Nat} (hc:w.cell? ⟨b,off,none⟩=some (.pointer p)) (ho:∃ x,o.op = .load 46 x/\ev x = .pointer (some ⟨b,off,none⟩)) :
  (execOp ev o).run prog w = .ok (.value (tv p)) w:=by
 obtain ⟨x,ho,hx⟩:=ho;unfold execOp;simp only [ho,hx,Instr.loadAt,Instr.sureAddr,Sem.run_bind,Sem.run_pure,Result.andThen_ok,xq hc]
theorem bM (w:World) (b o:Nat) (v:Value):Rg.Upd w b (w.setCell ⟨b,o,none⟩ v):=⟨rfl,rfl,rfl,by simp,λk hk=>Below.heap_setCell w _ v k hk⟩
theorem bZ {b o:Nat} {cs:aO} {t:TypeId} (h:Rg.Own w b cs t) (v:Value):Rg.Own (w.setCell ⟨b,o,none⟩ v) b (cs.setIfInBounds o v) t:=by
 refine ⟨by simp; exact h.1,?_⟩;have hb:=h.2;simp only [World.setCell,Array.getElem?_modify,hb];simp
theorem aV {b:Nat} {cs:aO} {t:TypeId} (h:Rg.Own w b cs t) (hv:cs[j]? = some v):w.cell? ⟨b,j,none⟩=some v:=by
 rw [cell_of_row w b _ _ _ _ h.2]; exact hv
theorem Bf {b o:Nat} {cs:aO} {t:TypeId} (h:Rg.Own w b cs t) (ho:o<cs.size) (p:aL) :
  (Instr.storeAt 46 (.pointer (some ⟨b,o,none⟩)) (tv p)).run prog w = .ok () (w.setCell ⟨b,o,none⟩ (.pointer p)):=by
 have hc:w.cell? ⟨b,o,none⟩=some cs[o]:=aV h (Array.getElem?_eq_getElem ho);exact run_storeAt_mid w b o 46 #[.pointer p] (λj hj=>by
  obtain rfl:j=0:=by simp at hj; exact hj
  exact ⟨by rw [Nat.add_zero,hc]; rfl,fJ h⟩) (by rw [Et]; rfl) (by simp [Value.oneCell'])
theorem bL {rest:List Oper} {b:Nat} {cs:aO} {t:TypeId} (h:Rg.Own w b cs t) (hof:off<cs.size) (p:aL)
  (hgd:o.guard=none) (x y:Operand) (ho:o.op = .store 46 x y) (hx:act.eval x = .pointer (some ⟨b,off,none⟩)) (hy:act.eval y=tv p)
  (hQ:∀ w',Rg.Own w' b (cs.setIfInBounds off (.pointer p)) t->Rg.Upd w b w'->wpList prog ops Q rest (act.put o.dst undef) w'):wpList prog ops Q (o::rest) act w :=
 wpList_plain hgd λK hK=>by
  unfold Oper.wp execOp;simp only [ho,hx,hy,Sem.run_bind,Sem.run_pure,Result.andThen_ok,Bf h hof p];exact hK _ _ (hQ _ (bZ h _) (bM _ _ _ _))
theorem iO {a:Act} (hw:Region.wanted o (yielded ops a.tmps)=true) {b:Nat} {cs:aO} {t:TypeId} (hg:Rg.Own w b cs t) (hof:off<cs.size) (p:aL)
  (ho:∃ x y,o.op = .store 46 x y/\a.eval x = .pointer (some ⟨b,off,none⟩)/\a.eval y=tv p)
  (h:∀ w',Rg.Own w' b (cs.setIfInBounds off (.pointer p)) t->Rg.Upd w b w'->K (a.put o.dst undef) w'):if Region.wanted o (yielded ops a.tmps)=true then Oper.wp prog o a w K Q else K (a.put o.dst undef) w:=by
 obtain ⟨x,y,ho,hx,hy⟩:=ho;refine Rg.want hw ?_;unfold Oper.wp execOp;simp only [ho,hx,hy,Sem.run_bind,Sem.run_pure,Result.andThen_ok,Bf hg hof p];exact h _ (bZ hg _) (bM _ _ _ _)
theorem gB {fn:Func} {q:Tmp} (hf:fn.results = #[.cell q 46]) (tmps:aO) {b:Nat} (hp:tmps.getD q undef = .pointer (some ⟨b,0,none⟩)) (h:Rg.Own w b #[.pointer p] 46) :
  (results fn tmps).run prog w = .ok (tv p) w:=by
 have hp':tmps[q]?.getD undef = .pointer (some ⟨b,0,none⟩):=by simpa using hp
 simp [results,hf,hp',asAddr,xq (aV (j:=0) h rfl)]
theorem Oe {fn:Func} {q u:Tmp} (hf:fn.results = #[.cell q 46,.tmp u]) (tmps:aO) {b:Nat} (hp:tmps.getD q undef = .pointer (some ⟨b,0,none⟩)) (h:Rg.Own w b #[.pointer p] 46) :
  (results fn tmps).run prog w = .ok (.tuple #[tv p,tmps.getD u undef]) w:=by
 have hp':tmps[q]?.getD undef = .pointer (some ⟨b,0,none⟩):=by simpa using hp
 simp [results,hf,hp',asAddr,xq (aV (j:=0) h rfl)]
theorem bA (ev:Operand->Value) (o:Oper) (w:World) (b:Nat) (hb:b=w.heap.size) (ho:o.op = .alloc 46) :
  (execOp ev o).run prog w = .ok (.value (.pointer (some ⟨b,0,none⟩))) (w.alloc (.cells #[.pointer none] 46)):=by
 subst hb;unfold execOp;rw [ho];kernel_rfl
theorem qJ (a:aL) (n c:Nat) (p:Pa) (v:aM):prog.built 150 [(0,.int .i64 1),(1,.slice a n c),(2,.string v)]=some (lq (.leaf p v) a n c none 0 0 0 eB):=by kernel_rfl
theorem wR (a:aL) (n c:Nat) (ka:aL) (kn kc:Nat) (q:Pa) (t:T):prog.built 150 [(0,.int .i64 2),(1,.slice a n c),(3,.slice ka kn kc)]=some (lq (.ext q t) a n c ka kn kc 0 eB):=by kernel_rfl
theorem TS (ka:aL) (kn kc:Nat) (ks:Fin 16->T):prog.built 150 [(0,.int .i64 3),(3,.slice ka kn kc)]=some (lq (.br ks) none 0 0 ka kn kc 0 eB):=by kernel_rfl
theorem sw {t:T} {a:aL} {n c:Nat} {ka:aL} {kc:Nat} (ho:∃ x,o.op = .box 150 x/\ev x = .agg (lq t a n c ka kn kc d r)) :
  (execOp ev o).run prog w = .ok (.value (.pointer (some ⟨w.heap.size,0,none⟩))) (w.alloc (.cells (lq t a n c ka kn kc d r) 150)):=by
 obtain ⟨x,ho,hx⟩:=ho;unfold execOp;simp only [ho,hx];rfl
theorem EM {b:Nat} {cs:aO} {t:TypeId} (h:Rg.Own w b cs t) (hu:Rg.Upd w g w') (hne:b≠g):w'.heap[b]? = some (.cells cs t (0,0)):=(h.upd hu hne).2
theorem nQ (M:Mp) (a:aL) (n c:Nat) (q:Pa) (v:aM) (w:World) (hi:Inv M w) (hB:Bs M w a n c q) :
  Calls prog 87 #[.slice a n c,.string v] w (dz M w (.leaf q v)):=by
 obtain ⟨w1,hw1⟩:=ay (w.alloc (.cells #[.pointer none] 46))
 have hR:Rg.Own w1 w.heap.size #[.pointer none] 46:=by rw [hw1]; exact Rg.Own.new _ _ _
 have hb1:Below w.heap.size w w1:=by rw [hw1]; exact al1 _ _
 have hs1:w1.heap.size=w.heap.size+1:=by rw [hw1]; simp
 obtain ⟨w2,hw2⟩:=ay (w1.alloc (.cells (lq (.leaf q v) a n c none 0 0 0 eB) 150))
 have hP:Rg.Own w2 w1.heap.size (lq (.leaf q v) a n c none 0 0 0 eB) 150:=by rw [hw2]; exact Rg.Own.new _ _ _
 have hb2:Below w1.heap.size w1 w2:=by rw [hw2]; exact al1 _ _
 have HR:=hid (hR.below hb2);have HE:Hid (∀ w3,Rg.Upd w2 w.heap.size w3->dz M w (.leaf q v) (.returned (tv (some ⟨w1.heap.size,0,none⟩))) w3):=hid (λw3 hu =>
  have hb:=hu.below (hb1.trans (hb2.mono hb1.size)) aH
  Az hi hb hb1.size (λe=>by cases e) (EM hP hu (by omega)) (hB.1.below hb) (λad e hn=>Or.inl (hB.2 ad e hn)) (Ks.nil _ _).weak)
 clear hR hb1 hb2 hP hi hB;subst hw2;subst hw1;go_enter func87,ntmps87;go_wp2_with (first
  | (refine aB (bA _ _ _ _ rfl rfl) ?_)
  | (refine aB (bQ (qJ a n c q v) ⟨_,rfl,rfl⟩) ?_)
  | (refine aB (sw ⟨_,rfl,rfl⟩) ?_)
  | (refine bL HR.out (by decide) (some ⟨w.heap.size+1,0,none⟩) rfl _ _ rfl rfl rfl ?_; intro w3 hO3 hu3; have ce:=hid hO3; have jt:=hid hu3; clear hO3 hu3))
 have:=HE.out w3 jt.out;rw [hs1] at this;exact bodyPost_ret (gB rfl _ rfl ce.out) rfl this
theorem Vp (b:Nat) (hb:b=w.heap.size) (ho:∃ x,o.op = .buildSlice 136 1 #[(0,x)]/\ev x=tv p) :
  (execOp ev o).run prog w = .ok (.value (.slice (some ⟨b,0,none⟩) 1 1)) (w.alloc (.cells (uJ [p]) 46)):=by
 obtain ⟨x,ho,hx⟩:=ho;subst hb;unfold execOp;simp only [ho,List.map_toArray,List.map_cons,List.map_nil,hx];kernel_rfl
theorem mV (w:World) (p:aL):∃ w2,w2=(w.alloc (.cells #[.pointer p] 46)).alloc (.cells #[.pointer none] 46)/\Rg.Own w2 w.heap.size #[.pointer p] 46/\Rg.Own w2 (w.heap.size+1) #[.pointer none] 46/\Below w.heap.size w w2/\w2.heap.size=w.heap.size+2:=by
 refine ⟨_,rfl,(Rg.Own.new _ _ _).below (al1 _ _),?_,al2 _ _ _,by simp⟩;have:=Rg.Own.new (w.alloc (.cells #[.pointer p] 46)) #[.pointer none] 46;simpa using this
theorem jT (M:Mp) (ka:aL) (kn kc:Nat) (ks:Fin 16->T) (w:World) (hi:Inv M w) (hK:Ks M w ka kn kc (ji (.br ks))) :
  Calls prog 126 #[.slice ka kn kc] w (dz M w (.br ks)):=by
 obtain ⟨w1,hw1⟩:=ay (w.alloc (.cells #[.pointer none] 46))
 have hR:Rg.Own w1 w.heap.size #[.pointer none] 46:=by rw [hw1]; exact Rg.Own.new _ _ _
 have hb1:Below w.heap.size w w1:=by rw [hw1]; exact al1 _ _
 have hs1:w1.heap.size=w.heap.size+1:=by rw [hw1]; simp
 obtain ⟨w2,hw2⟩:=ay (w1.alloc (.cells (lq (.br ks) none 0 0 ka kn kc 0 eB) 150))
 have hP:Rg.Own w2 w1.heap.size (lq (.br ks) none 0 0 ka kn kc 0 eB) 150:=by rw [hw2]; exact Rg.Own.new _ _ _
 have hb2:Below w1.heap.size w1 w2:=by rw [hw2]; exact al1 _ _
 have HR:=hid (hR.below hb2);have HE:Hid (∀ w3,Rg.Upd w2 w.heap.size w3->dz M w (.br ks) (.returned (tv (some ⟨w1.heap.size,0,none⟩))) w3):=hid (λw3 hu =>
  have hb:=hu.below (hb1.trans (hb2.mono hb1.size)) aH
  Az hi hb hb1.size (λe=>by cases e) (EM hP hu (by omega)) (bf.nil _) (λ_ e=>by cases e) (hK.fr hi (Fr.below M hb)).weak)
 clear hR hb1 hb2 hP hi hK;subst hw2;subst hw1;go_enter func126,ntmps126;go_wp2_with (first
  | (refine aB (bA _ _ _ _ rfl rfl) ?_)
  | (refine aB (bQ (TS ka kn kc ks) ⟨_,rfl,rfl⟩) ?_)
  | (refine aB (sw ⟨_,rfl,rfl⟩) ?_)
  | (refine bL HR.out (by decide) (some ⟨w.heap.size+1,0,none⟩) rfl _ _ rfl rfl rfl ?_; intro w3 hO3 hu3; have ce:=hid hO3; have jt:=hid hu3; clear hO3 hu3))
 have:=HE.out w3 jt.out;rw [hs1] at this;exact bodyPost_ret (gB rfl _ rfl ce.out) rfl this
theorem uG (M:Mp) (a:aL) (n c:Nat) (q:Pa) (p:aL) (t:T) (w:World) (hi:Inv M w) (hB:Bs M w a n c q) (ht:IsT M p t) :
  Calls prog 129 #[.slice a n c,.agg #[.pointer p]] w (dz M w (wrap q t)):=by
 obtain ⟨w2,hw2,ap,am,hb2,hs2⟩:=mV w p;have hl:=hB.1.len;have hlc:=hB.1.1;have hmx:=hB.1.2.1;unfold maxLen at hmx;have H0:=hid ap;by_cases hn:n=0
 .subst hn;obtain rfl:q=[]:=List.eq_nil_of_length_eq_zero hl;have H1:=hid am;have HE:Hid (∀ w3,Rg.Upd w2 (w.heap.size+1) w3->dz M w (wrap [] t) (.returned (tv p)) w3):=hid (λw3 hu=>Wu hi ht (hu.below hb2 (by omega)));clear ap am hb2 hs2 hB hi ht hl;subst hw2;go_enter func129,ntmps129;go_wp2_with (first
   | (refine aB (bA _ _ _ (w.heap.size+1) (by simp) rfl) ?_)
   | (refine aB (aW (aV (j:=0) H0.out rfl) ⟨_,rfl,rfl⟩) ?_)
   | (refine bL H1.out (by decide) p rfl _ _ rfl rfl rfl ?_; intro w3 hO3 hu3; have ce:=hid hO3; have jt:=hid hu3; clear hO3 hu3))
  exact bodyPost_ret (gB rfl _ rfl ce.out) rfl (HE.out w3 jt.out)
 .have hq:q≠[]:=λe=>hn (by rw [<-hl,e]; rfl);have hwr:wrap q t = .ext q t:=if_neg hq;rw [hwr];have hnz:((n:Int)==0)=false:=by simp; omega
  obtain ⟨w3,hw3⟩:=ay (w2.alloc (.cells (uJ [p]) 46))
  have hK:Rg.Own w3 w2.heap.size (uJ [p]) 46:=by rw [hw3]; exact Rg.Own.new _ _ _
  have hb3:Below w2.heap.size w2 w3:=by rw [hw3]; exact al1 _ _
  have hs3:w3.heap.size=w.heap.size+3:=by rw [hw3]; simp [hs2]
  obtain ⟨w4,hw4⟩:=ay (w3.alloc (.cells (lq (.ext q t) a n c (some ⟨w2.heap.size,0,none⟩) 1 1 0 eB) 150))
  have hP:Rg.Own w4 w3.heap.size (lq (.ext q t) a n c (some ⟨w2.heap.size,0,none⟩) 1 1 0 eB) 150:=by rw [hw4]; exact Rg.Own.new _ _ _
  have hb4:Below w3.heap.size w3 w4:=by rw [hw4]; exact al1 _ _
  have fN:Below w2.heap.size w2 w4:=hb3.trans (hb4.mono hb3.size);have H1:=hid (am.below fN);have H2:=hid (am);have HE:Hid (∀ w5,Rg.Upd w4 (w.heap.size+1) w5->dz M w (.ext q t) (.returned (tv (some ⟨w3.heap.size,0,none⟩))) w5):=hid (λw5 hu=>by
   have hb:=hu.below (hb2.trans (fN.mono hb2.size)) (show w.heap.size<=w.heap.size+1 by omega);refine Az hi hb (by omega) (λe=>by cases e) (EM hP hu (by omega)) (hB.1.below hb) (λad e hn=>Or.inl (hB.2 ad e hn)) ?_;exact Ks0.row (ps:=[p]) (b:=w2.heap.size) (by omega) ((hK.below hb4).upd hu (by omega)) rfl (by unfold maxLen; simp) (λj hj=>by
    obtain rfl:j=0:=by simp at hj; exact hj
    exact ht))
  rw [hs3] at HE;rw [hs2] at hw4;clear ap am hb2 hb3 hb4 fN hP hK hB hi ht hwr hs3;subst hw4;subst hw3;subst hw2;clear hs2;go_enter func129,ntmps129;go_wp2_with (first
   | (refine aB (bA _ _ _ (w.heap.size+1) (by simp) rfl) ?_)
   | (refine aB (aW (aV (j:=0) H0.out rfl) ⟨_,rfl,rfl⟩) ?_)
   | (refine aB (Vp (p:=p) (w.heap.size+2) (by simp) ⟨_,rfl,rfl⟩) ?_)
   | (refine aB (bQ (wR a n c (some ⟨w.heap.size+2,0,none⟩) 1 1 q t) ⟨_,rfl,rfl⟩) ?_)
   | (refine aB (sw ⟨_,rfl,rfl⟩) ?_)
   | (refine bL H1.out (by decide) (some ⟨w.heap.size+3,0,none⟩) rfl _ _ rfl rfl rfl ?_; intro w5 bo bd; have cf:=hid bo; have px:=hid bd; clear bo bd))
  exact bodyPost_ret (gB rfl _ rfl cf.out) rfl (HE.out w5 px.out)
def ze (w:World) (a:aL) (n c:Nat) (ps:List (aL)):Prop :=
 n<=c/\c<=maxLen/\ps.length=n/\(a=none->c=0)/\∀ j,j<n->∃ b off,a=some ⟨b,off,none⟩/\b<w.heap.size/\w.cell? ⟨b,off+j,none⟩=some (.pointer (ps.getD j none))
def Are (M:Mp) (ps:List (aL)) (l:List T):Prop:=ps.length=l.length/\∀ j,j<ps.length->IsT M (ps.getD j none) (l.getD j .nil)
theorem Ks.ptrs {M:Mp} {a:aL} {n c:Nat} {l:List T} (h:Ks M w a n c l):∃ ps,ze w a n c ps/\Are M ps l:=by
 have hp:∀ j,∃ p,j<n->∃ b off,a=some ⟨b,off,none⟩/\b<w.heap.size/\w.cell? ⟨b,off+j,none⟩=some (.pointer p)/\IsT M p (l.getD j .nil):=λj=>by
  by_cases hj:j<n
  .obtain ⟨b,off,p,e,hlt,_,hc,ht⟩:=h.at' j hj;exact ⟨p,λ_=>⟨b,off,e,hlt,hc,ht⟩⟩
  .exact ⟨none,λh=>absurd h hj⟩
 obtain ⟨F,hF⟩:∃ F:Nat->aL,∀ j,j<n->∃ b off,a=some ⟨b,off,none⟩/\b<w.heap.size/\w.cell? ⟨b,off+j,none⟩=some (.pointer (F j))/\IsT M (F j) (l.getD j .nil):=⟨λj=>Classical.choose (hp j),λj=>Classical.choose_spec (hp j)⟩
 have e:∀ j,j<n->((List.range n).map F).getD j none=F j:=λj hj=>by simp [List.getD,hj]
 refine ⟨(List.range n).map F,⟨h.1,h.2.1,by simp,h.2.2.2.1,λj hj=>?_⟩,by simp [h.len],λj hj=>?_⟩
 .obtain ⟨b,off,e1,hlt,hc,_⟩:=hF j hj;exact ⟨b,off,e1,hlt,by rw [e j hj]; exact hc⟩
 .have hj':j<n:=by simpa using hj
  obtain ⟨_,_,_,_,_,ht⟩:=hF j hj';rw [e j hj']; exact ht
theorem ze.ks {M:Mp} {a:aL} {n c:Nat} {ps:List (aL)} {l:List T} (h:ze w a n c ps) (ha:Are M ps l) (hf:∀ ad,a=some ad->0<n->M.ft ad.block):Ks M w a n c l:=by
 have hl:=h.2.2.1;refine ⟨h.1,h.2.1,by rw [<-ha.1]; exact hl,h.2.2.2.1,λj hj=>?_⟩;obtain ⟨b,off,e,hlt,hc⟩:=h.2.2.2.2 j hj;exact ⟨b,off,_,e,hlt,hf _ e (by omega),hc,ha.2 j (by omega)⟩
theorem Are.mono {M M':Mp} {ps:List (aL)} {l:List T} (h:Are M ps l) (hm:∀ k t,M.at_ k=some t->M'.at_ k=some t):Are M' ps l:=⟨h.1,λj hj=>(h.2 j hj).mono hm⟩
theorem Are.set {M:Mp} {ps:List (aL)} {l:List T} (h:Are M ps l) (i:Nat) {t:T} (ht:IsT M p t):Are M (ps.set i p) (l.set i t):=by
 refine ⟨by simp [h.1],λj hj=>?_⟩;have hj':j<ps.length:=by simpa using hj
 have hjl:j<l.length:=by rw [<-h.1]; exact hj'
 by_cases e:i=j
 .subst e;rw [List.getD_eq_getElem?_getD,List.getD_eq_getElem?_getD,List.getElem?_set_self hj',List.getElem?_set_self hjl];exact ht
 .rw [List.getD_eq_getElem?_getD,List.getD_eq_getElem?_getD,List.getElem?_set_ne e,List.getElem?_set_ne e,<-List.getD_eq_getElem?_getD,<-List.getD_eq_getElem?_getD];exact h.2 j hj'
def RowK (w:World) (g cap:Nat) (ps:List (aL)):Prop :=
 ∃ cur,Rg.Own w g cur 46/\cur.size=cap/\ps.length<=cap/\cap<=maxLen/\∀ j,j<ps.length->cur[j]? = some (.pointer (ps.getD j none))
theorem RowK.lt {ps:List (aL)} (h:RowK w g cap ps):g<w.heap.size:=by
 obtain ⟨cur,hO,_⟩:=h;exact hO.1
theorem RowK.below {w w':World} {g cap:Nat} {ps:List (aL)} (h:RowK w g cap ps) (hb:Below w.heap.size w w'):RowK w' g cap ps:=by
 obtain ⟨cur,hO,h1⟩:=h;exact ⟨cur,hO.below hb,h1⟩
theorem RowK.upd {w w':World} {g b cap:Nat} {ps:List (aL)} (h:RowK w g cap ps) (hu:Rg.Upd w b w') (hne:g≠b):RowK w' g cap ps:=by
 obtain ⟨cur,hO,h1⟩:=h;exact ⟨cur,hO.upd hu hne,h1⟩
theorem RowK.ptrs {ps:List (aL)} (h:RowK w g cap ps):ze w (some ⟨g,0,none⟩) ps.length cap ps:=by
 obtain ⟨cur,hO,hs,hl,hm,hc⟩:=h;exact ⟨hl,hm,rfl,λe=>(by cases e),λj hj=>⟨g,0,rfl,hO.1,by rw [Nat.zero_add,cell_of_row w g _ _ _ _ hO.2]; exact hc j hj⟩⟩
theorem QG {ps:List (aL)} (hc:∀ j,j<ps.length->cur[j]? = some (.pointer (ps.getD j none))) (i:Nat) (p:aL) (hi:i<cur.size):∀ j,j<(ps.set i p).length->(cur.setIfInBounds i (.pointer p))[j]? = some (.pointer ((ps.set i p).getD j none)):=λj hj=>by
 have hj':j<ps.length:=by simpa using hj
 by_cases e:i=j
 .subst e;rw [List.getD_eq_getElem?_getD,List.getElem?_set_self hj'];simp [hi]
 .rw [List.getD_eq_getElem?_getD,List.getElem?_set_ne e,<-List.getD_eq_getElem?_getD,Array.getElem?_setIfInBounds_ne e];exact hc j hj'
theorem tQ {rest:List Oper} {ps:List (aL)} (h:RowK w g cap ps) (hof:i<ps.length) (p:aL)
  (hgd:o.guard=none) (x y:Operand) (ho:o.op = .store 46 x y) (hx:act.eval x = .pointer (some ⟨g,i,none⟩)) (hy:act.eval y=tv p)
  (hQ:∀ w',RowK w' g cap (ps.set i p)->Rg.Upd w g w'->wpList prog ops Q rest (act.put o.dst undef) w'):wpList prog ops Q (o::rest) act w:=by
 obtain ⟨cur,hO,hs,hl,hm,hc⟩:=h;refine bL hO (off:=i) (by omega) p hgd x y ho hx hy (λw' z8 hu=>hQ w' ⟨_,z8,by simp [hs],by simpa using hl,hm,QG hc i p (by omega)⟩ hu)
theorem JX:(prog.info? 46).map (λi=>(i.size,i.bytes))=some (1,8):=by kernel_rfl
theorem zU:((prog.info? 46).bind (·.zero)).map (·.cells)=some #[.pointer none]:=by kernel_rfl
theorem zf:∃ i z,prog.info? 46=some i/\i.zero=some z/\i.size=1/\i.bytes=8/\z.cells.size=1:=by
 have h1:=JX;have h2:=zU;cases hi:prog.info? 46 with
 | none=>rw [hi] at h1; simp at h1
 | some i =>
  rw [hi] at h1 h2;simp at h1 h2;cases hz:i.zero with
  | none=>rw [hz] at h2; simp at h2
  | some z =>
   rw [hz] at h2;simp at h2;exact ⟨i,z,rfl,hz,h1.1,h1.2,by rw [h2]; rfl⟩
theorem FP (w:World):(binOp .eql 136 (.slice none 0 0) (.slice none 0 0)).run prog w = .ok (.bool true) w:=by kernel_rfl
theorem Ab (a:Addr) (n cap:Nat) (w:World):(binOp .eql 136 (.slice (some a) n cap) (.slice none 0 0)).run prog w = .ok (.bool false) w:=by kernel_rfl
theorem Ka (w:World):Calls prog 125 #[.slice none 0 0] w λe w'=>e = .returned (.slice none 0 0)/\w=w':=by
 have hnil:=FP;go_enter func125,ntmps125;go_wp2;go_ret;exact ⟨rfl,rfl⟩
def rU (w:World) (ps:List (aL)) (e:Ending) (w':World):Prop:=∃ g cap,e = .returned (.slice (some ⟨g,0,none⟩) ps.length cap)/\w.heap.size<=g/\RowK w' g cap ps/\Below w.heap.size w w'
theorem rC {ps:List (aL)} {n:Nat} (ho:w'.ownsRow w.heap.size 46 1 v n (ps.map Value.pointer)) (hl:ps.length=n) (hne:v ≠ .slice none 0 0) (hb:Below w.heap.size w w'):rU w ps (.returned v) w':=by
 rcases ho.2 with ⟨rfl,hz⟩ | ⟨g,cap,cur,rfl,hbg,hg,hnc,hcm,hcs,htake⟩
 .exact absurd rfl hne
 .subst hl;refine ⟨g,cap,rfl,hbg,⟨cur,⟨(Array.getElem?_eq_some_iff.1 hg).1,hg⟩,by omega,hnc,hcm,λj hj=>?_⟩,hb⟩;have h1:(ps.map Value.pointer)[j]? = some (.pointer (ps.getD j none)):=by simp [List.getD,hj]
  rw [<-htake,List.getElem?_take,if_pos (by omega)] at h1;simpa using h1
theorem Cg (ad:Addr) (n cap:Nat) (ps:List (aL)) (w:World) (h:ze w (some ad) n cap ps) (hn:n<=1000000) :
  Calls prog 125 #[.slice (some ad) n cap] w (rU w ps):=by
 obtain ⟨i0,z0,hi,hz,hs,hby,hzc⟩:=zf;have HI:Hid (_/\_/\_/\_/\_):=hid ⟨hi,hz,hs,hby,hzc⟩;have hl:=h.2.2.1;have hcell:∀ j u,(ps.map Value.pointer)[j]? = some u->(ad.add j).block<w.heap.size/\w.cell? (ad.add j)=some u:=λj u hu=>by
  have hj:j<n:=by rw [<-hl]; have:=(List.getElem?_eq_some_iff.1 hu).1; simpa using this
  obtain ⟨b,off,e,hlt,hc⟩:=h.2.2.2.2 j hj;obtain rfl:=Option.some.inj e;have hx:u = .pointer (ps.getD j none):=by
   have hj':j<ps.length:=by omega
   simp [hj'] at hu;simp [List.getD,hj',hu]
  rw [Addr.add_mid,hx];exact ⟨hlt,hc⟩
 have HC:=hid hcell;have HL:=hid hl;have hnil:=Ab ad n cap;clear hi hz hs hby hzc h hcell hl;go_enter func125,ntmps125;have HO:Hid ((w.alloc (.cells #[] 46)).ownsRow w.heap.size 46 1 (.slice (some ⟨w.heap.size,0,none⟩) 0 0) 0 []):=hid (World.ownsRow_made w #[] 0 aH (Nat.zero_le _) (by simp))
 go_wp2_with (at_builtin; refine wpList_append_own _ rfl _ _ 136 rfl w.heap.size 46 i0 z0 1 8 underlying136 HI.out.1 HI.out.2.1 HI.out.2.2.1 HI.out.2.2.2.1 HI.out.2.2.2.2 (by decide) _ _ _ rfl HO.out ad n cap (ps.map Value.pointer) rfl (by simp [HL.out]) ?c2 ?c6 ?c3 ?c4 ?c5 ?_)
 case c2 =>
  intro j u hu;rw [(al1 w _).cell (HC.out j u hu).1];exact (HC.out j u hu).2
 case c6 =>
  intro u hu;simp at hu;obtain ⟨x,_,rfl⟩:=hu;rfl
 case c3=>unfold maxLen; omega
 case c4=>omega
 case c5=>simp
 intro v' w2 hown2 hgrow hnil';have HG:Hid (rU w ps (.returned v') w2):=hid (rC (by simpa using hown2) HL.out hnil' ((al1 w _).grown hgrow (by simp) (λk hk=>by simp [Value.ownBlock] at hk; omega)));clear hown2 hgrow hnil';go_wp2;go_ret;exact HG.out
open Ni
open Pk
theorem xB:∀ x y:aN,jG x y=cp x y
 | [],_=>rfl
 | _::_,[]=>rfl
 | a::xs,b::ys=>by
  unfold jG cp;rw [xB xs ys]
theorem Bg:∀ {q p:Pa},q<+:p->cp q p=q.length
 | [],_,_=>rfl
 | a::q,[],h=>by simp at h
 | a::q,b::p,h=>by
  obtain ⟨rfl,h2⟩:=List.cons_prefix_cons.1 h;unfold cp;rw [if_pos rfl,Bg h2]; rfl
theorem zO:∀ {q p:Pa},¬ q<+:p->cp q p<q.length
 | [],_,h=>absurd List.nil_prefix h
 | a::q,[],_=>by simp [cp]
 | a::q,b::p,h=>by
  unfold cp;by_cases e:a=b
  .subst e;rw [if_pos rfl];have:=zO (q:=q) (p:=p) (λg=>h (List.cons_prefix_cons.2 ⟨rfl,g⟩));simp; omega
  .rw [if_neg e]; simp
theorem yU (w:World) (q:Nat):Below w.heap.size w (w.drewN q):=below_drewN aI q
theorem pQ (a b:aL) (n m c d:Nat) (x y:Pa) (hn:n<=1000000) (hm:m<=1000000) (hle:n<=m) (w:World) (ha:bf w a n c x) (hb:bf w b m d y) :
  Calls prog 127 #[.slice a n c,.slice b m d] w λe w'=>e = .returned (.int .i64 (cp x y:Nat))/\Below w.heap.size w w':=by
 have HC:=hid (qL a b n m c d x y hn hm w ha hb);have hx:=ha.len;have hl:cp x y<=n:=by rw [<-hx]; exact Sy x y
 rw [xB] at HC;obtain ⟨k,hk⟩:=aA (cp x y)
 rw [hk] at HC hl ⊢;clear hk ha hb hx;by_cases h:k=m
 .subst h;have h2:decide ((k:Int)<(n:Int))=false:=by simp; omega
  have h1:((k:Int)==(k:Int))=true:=by simp
  go_enter func127,ntmps127;go_wp2_with fail
  refine HC.out.mono ?_;rintro e w1 ⟨rfl,q,rfl⟩;go_wp2;go_ret;exact ⟨rfl,yU _ _⟩
 .have h1:((k:Int)==(m:Int))=false:=by simp; omega
  go_enter func127,ntmps127;go_wp2_with fail
  refine HC.out.mono ?_;rintro e w1 ⟨rfl,q,rfl⟩;go_wp2;go_ret;exact ⟨rfl,yU _ _⟩
theorem Inv.path {M:Mp} (hi:Inv M w) {b:Nat} {t:T} (hm:M.at_ b=some t):∃ a n c,w.cell? ⟨b,1,none⟩=some (.slice a n c)/\Bs M w a n c (bY t):=by
 obtain ⟨a,n,c,ka,kn,kc,d,r,hb,hB,_⟩:=hi.part hm;exact ⟨a,n,c,(jY hb).1.2.1,hB⟩
theorem Inv.val {M:Mp} (hi:Inv M w) {b:Nat} {t:T} (hm:M.at_ b=some t):w.cell? ⟨b,2,none⟩=some (.string (RP t)):=by
 obtain ⟨a,n,c,ka,kn,kc,d,r,hb,_⟩:=hi.part hm;exact (jY hb).1.2.2.1
theorem Inv.kids {M:Mp} (hi:Inv M w) {b:Nat} {t:T} (hm:M.at_ b=some t):∃ a n c,w.cell? ⟨b,3,none⟩=some (.slice a n c)/\Ks M w a n c (ji t):=by
 obtain ⟨a,n,c,ka,kn,kc,d,r,hb,_,hk,_⟩:=hi.part hm;exact ⟨ka,kn,kc,(jY hb).1.2.2.2,hk⟩
theorem AZ (M:Mp) (b:Nat) (t:T) (hm:M.at_ b=some t) (a:aL) (n c:Nat) (way:Pa) (w:World) (hi:Inv M w) (hB:bf w a n c way) (hle:(bY t).length<=n) (hn:n<=1000) :
  Calls prog 88 #[.agg #[.pointer (some ⟨b,0,none⟩)],.slice a n c] w λe w' =>
   e=(if bY t<+:way then .returned (.slice (eP a c (bY t).length) (n-(bY t).length) (c-(bY t).length)) else .panicked [fI 7])/\Below w.heap.size w w':=by
 have hi1:=hi.below (al1 w (.cells #[.pointer (some ⟨b,0,none⟩)] 46));obtain ⟨pa,pn,pc,c1,hP,_⟩:=hi1.path hm;have h0:=fK w (some ⟨b,0,none⟩);have hl:=hP.len;have hcap:=hB.1;have hmx:=hB.2.1;unfold maxLen at hmx;have HA:=hid (pQ pa a pn n pc c (bY t) way (by omega) (by omega) (by omega) _ hP (hB.alloc (.cells #[.pointer (some ⟨b,0,none⟩)] 46)));rw [hl] at hle ⊢;have xr:Hid (∀ X Y:Ending,(if bY t<+:way then X else Y)=if cp (bY t) way=pn then X else Y):=hid (λX Y=>by
  by_cases h:bY t<+:way
  .rw [if_pos h,if_pos ((Bg h).trans hl)]
  .rw [if_neg h,if_neg (by have:=zO h; omega)])
 rw [xr.out];have hkl:cp (bY t) way<=pn:=by rw [<-hl]; exact Sy _ _
 obtain ⟨k,hk⟩:=aA (cp (bY t) way)
 rw [hk] at HA hkl ⊢;clear xr hk hP hB hi hi1 hl hm;by_cases h:k=pn
 .subst h;rw [if_pos rfl];have h2:decide ((k:Int)<(k:Int))=false:=by simp
  go_enter func88,ntmps88;go_wp2_with fail
  refine HA.out.mono ?_;rintro e w1 ⟨rfl,hb1⟩;have h0':=aX hb1 h0;have c1':=aX hb1 c1;have HB:=hid (bst (al1 _ _) hb1);clear h0 c1 hb1;go_wp2_with (refine aB (jP fZ iL hle ⟨_,_,rfl,rfl,rfl⟩) ?_)
  go_ret;exact ⟨rfl,HB.out⟩
 .rw [if_neg h];have h2:decide ((k:Int)<(pn:Int))=true:=by simp; omega
  go_enter func88,ntmps88;go_wp2_with fail
  refine HA.out.mono ?_;rintro e w1 ⟨rfl,hb1⟩;have h0':=aX hb1 h0;have c1':=aX hb1 c1;have HB:=hid (bst (al1 _ _) hb1);clear h0 c1 hb1;go_wp2;simp [bodyPost,fI];exact HB.out
theorem FV (M:Mp) (b:Nat) (t:T) (hm:M.at_ b=some t) (a:aL) (n c:Nat) (way:Pa) (w:World) (hi:Inv M w) (hB:bf w a n c way) (hle:(bY t).length=n) (hn:n<=1000) :
  Calls prog 89 #[.agg #[.pointer (some ⟨b,0,none⟩)],.slice a n c] w λe w' =>
   e=(if bY t=way then .returned (.tuple #[]) else .panicked [fI 7])/\Below w.heap.size w w':=by
 have h0:=fK w (some ⟨b,0,none⟩);have HP:=hid (AZ M b t hm a n c way (w.alloc (.cells #[.pointer (some ⟨b,0,none⟩)] 46)) (hi.below (al1 _ _)) (hB.alloc _) (by omega) hn);have xr:Hid (bY t<+:way↔bY t=way):=hid ⟨λh=>h.eq_of_length (by rw [hle,hB.len]),λh=>by rw [h]; exact List.prefix_rfl⟩;have HX:Hid (∀ X Y:Ending,(if bY t<+:way then X else Y)=if bY t=way then X else Y):=hid (λX Y=>by
  by_cases h:bY t=way
  .rw [if_pos h,if_pos (xr.out.2 h)]
  .rw [if_neg h,if_neg (λg=>h (xr.out.1 g))])
 rw [HX.out,hle] at HP;clear hi hB HX xr hm;by_cases h:bY t=way
 .rw [if_pos h] at HP ⊢;have h2:decide (0<((n-n:Nat):Int))=false:=by simp
  clear h;go_enter func89,ntmps89;go_wp2_with (refine aB (aW h0 ⟨_,rfl,rfl⟩) ?_)
  refine HP.out.mono ?_;rintro e w1 ⟨rfl,hb1⟩;have HB:=hid (bst (al1 _ _) hb1);clear h0 hb1;go_wp2;go_end0;exact ⟨rfl,HB.out⟩
 .rw [if_neg h] at HP ⊢;clear h;go_enter func89,ntmps89;go_wp2_with (refine aB (aW h0 ⟨_,rfl,rfl⟩) ?_)
  refine HP.out.mono ?_;rintro e w1 ⟨rfl,hb1⟩;have HB:=hid (bst (al1 _ _) hb1);clear h0 hb1;go_wp2;simp [bodyPost];exact HB.out
theorem lu (a:aL) (n c:Nat) (way:Pa) (hn:1<=n) (w:World) (hB:bf w a n c way) :
  Calls prog 84 #[.slice a n c] w λe w'=>e = .returned (.tuple #[.int .u8 (way.getD 0 0).toNat,.slice (eP a c 1) (n-1) (c-1)])/\Below w.heap.size w w':=by
 obtain ⟨b,off,rfl,hlt,hc⟩:=hB.at' 0 (by omega);rw [Nat.add_zero] at hc;have hcap:=hB.1;have hmx:=hB.2.1;unfold maxLen at hmx;obtain ⟨x,hx⟩:=aA ((way.getD 0 0).toNat)
 rw [hx] at hc ⊢;have hnz:((n:Int)==0)=false:=by simp; omega
 have hn0:0<n:=hn;clear hB hx;go_enter func84,ntmps84;go_wp2_with fail
 refine aD (S:=λw'=>Below w.heap.size w w') (aI.drew) λhld=>?_;refine aj 0 ?_;try simp only [Act.put,au]
 refine aj 1 ?_;try simp only [Act.put,au]
 refine aF 2 (λwz hSw=>(hSw.cell (p:=⟨b,off,none⟩) hlt).trans hc) ?_;try simp only [Act.put,au]
 refine aj 3 ?_;try simp only [Act.put,au]
 refine aj 4 ?_ (hy:=by intro wz hSw; (refine jP (a:=some ⟨b,off,none⟩) (n:=n) (c:=c) (i:=1) fZ iL hn ?_; exact ⟨_,_,rfl,rfl,rfl⟩));try simp only [Act.put,au]
 refine aj 5 ?_;try simp only [Act.put,au]
 refine aj 6 ?_;try simp only [Act.put,au]
 refine aC ?_;go_wp2;exact bodyPost_ret (results_tmp2 rfl _ _ _) rfl ⟨rfl,hld⟩
end Tm
end
end Go.Proofs.YtokaiemgjngcoaaGreatDoor
