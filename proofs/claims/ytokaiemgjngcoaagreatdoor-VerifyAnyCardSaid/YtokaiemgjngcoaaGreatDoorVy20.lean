/-
 Layer 14: proofs that are not far too great; what the program's own calls are asked to do.
-/
import Derived.Test.YtokaiemgjngcoaaGreatDoorVy18
open Go.Lib (hid)
open Go.Proofs.Tryz
set_option linter.unusedSimpArgs false
set_option linter.unusedVariables false
set_option maxHeartbeats 40000000
set_option maxRecDepth 100000
namespace Go.Proofs.YtokaiemgjngcoaaGreatDoor
variable {w w':World} {r:aM} {B L cap g j k n:Nat} {cur cur':aO} {ops:Array Oper} {o:Oper} {a:aL} {Q:Exit->Act->World->Prop} {v:Value} {t:TypeId}
section
open Go.RowKit
namespace Tm
open Tr Ni Pk Ky No Rf Rl
open Sm (Tab)
def Bz (l:List aM):Bool:=(l.all λs=>decide (s.size<=700))&&decide (l.length<=80)
theorem Te {l:List aM} (h:Bz l=true):(∀ s∈l,s.size<=700)/\l.length<=80:=by
 unfold Bz at h;rw [Bool.and_eq_true,List.all_eq_true] at h;exact ⟨λs hs=>of_decide_eq_true (h.1 s hs),of_decide_eq_true h.2⟩
theorem Rw (l:List aM) (j:Nat) (hj:j<l.length):((l.take (j+1)).all λs=>decide (s.size<=700))=(((l.take j).all λs=>decide (s.size<=700))&&decide ((l.getD j eB).size<=700)):=by
 rw [List.take_add_one,List.getElem?_eq_getElem hj,List.all_append];simp [List.getD,hj]
theorem PK (l:List aM) (a:aL) (n c:Nat) (w:World) (h:lK w a n c l) (hx:∀ s∈l,s.size<=maxLen) :
  Calls prog 6 #[.slice a n c] w λe w'=>e = .returned (.bool (Bz l))/\Below w.heap.size w w':=by
 have hl:=h.len;have hnc:=h.1;have hcm:=h.2.1;unfold maxLen at hcm;have H:=hid h;have HL:=hid hl;have HX:=hid hx;clear hl h hx;go_enter func6,ntmps6;go_wp2;go_loopw [3] (λi wr=>∃ j:Nat,j<=n/\i = .int .i64 j/\Hid (((l.take j).all λs=>decide (s.size<=700))=true)/\Hid (Below w.heap.size w wr)) (λi _=>n-(intOf i).toNat)
 case atStart=>exact ⟨0,Nat.zero_le _,rfl,hid rfl,hid aI⟩
 case round =>
  obtain ⟨j,hj,rfl,HA,HB⟩:=hrel;by_cases hlt:j<n
  .have HS:=hid (Rw l j (by rw [HL.out]; exact hlt));have hm:=HX.out _ (Rf.gW (by rw [HL.out]; exact hlt));obtain ⟨b,off,rfl,hblt,hcell⟩:=H.out.at' j hlt;have hc0:=(Below.cell (p:=⟨b,off+j,none⟩) HB.out hblt).trans hcell;have Sf:Hid (l.getD j eB∈l):=hid (Rf.gW (by rw [HL.out]; exact hlt));obtain ⟨K,hK⟩:=aA (l.getD j eB)
   rw [hK] at HS hc0 hm Sf;unfold maxLen at hm;clear hK hcell;by_cases h7:K.size<=700
   .have q1:decide ((700:Int)<(K.size:Int))=false:=decide_eq_false (by omega);have ut:decide (700<K.size)=false:=decide_eq_false (by omega);have Bm:Hid (((l.take (j+1)).all λs=>decide (s.size<=700))=true):=hid (by rw [HS.out,HA.out,aK h7]; rfl);clear HS HA;go_wp2;go_roundw
    case rel=>exact ⟨j+1,by omega,by go_num,Bm,HB⟩
    case measure=>simp [intOf]; omega
   .have q1:decide ((700:Int)<(K.size:Int))=true:=aK (by omega);have ut:decide (700<K.size)=true:=aK (by omega);have HF:Hid (Bz l=false):=hid (by
     cases e:Bz l with
     | false=>rfl
     | true=>exact absurd ((Te e).1 K Sf.out) h7)
    clear HS HA;go_wp2;go_ret;exact ⟨by rw [HF.out]; rfl,HB.out⟩
  .obtain rfl:j=n:=by omega
   have hA:=HA.out;rw [List.take_of_length_le (by rw [HL.out]; exact aH)] at hA;by_cases h8:j<=80
   .have q1:decide ((j:Int)<=80)=true:=aK (by omega);have ut:decide (j<=80)=true:=aK h8;have HF:Hid (Bz l=true):=hid (by unfold Bz; rw [hA,HL.out,ut]; rfl);clear hA;go_wp2;go_ret;exact ⟨by rw [HF.out]; rfl,HB.out⟩
   .have q1:decide ((j:Int)<=80)=false:=decide_eq_false (by omega);have ut:decide (j<=80)=false:=decide_eq_false h8;have HF:Hid (Bz l=false):=hid (by unfold Bz; rw [HL.out,ut,Bool.and_false]);clear hA;go_wp2;go_ret;exact ⟨by rw [HF.out]; rfl,HB.out⟩
def IK:pX->Value
 | (none,_)=>.tuple #[.string eB,.bool false,.int .i64 9]
 | (some none,_)=>.tuple #[.string eB,.bool false,.int .i64 0]
 | (some (some v),_)=>.tuple #[.string v,.bool true,.int .i64 0]
def MS:pX->Value
 | (some (some v),_)=>.tuple #[.string v,.int .i64 0]
 | _=>.tuple #[.string eB,.int .i64 9]
def uw:pX->Int
 | (some none,_)=>0
 | _=>9
def UF (f:FuncId) (A:pX->Value):Prop:=∀ (l:List aM) (r k:aN) (la:aL) (ln lc:Nat) (W:World),r.length=32->k.length=32->lK W la ln lc l->(∀ s∈l,s.size<=900000)->ln<=1000->Tab W->
 Calls prog f #[.agg (Sm.kc r),.agg (kc k),.slice la ln lc] W λe w'=>e = .returned (A (eU l r (bO k)))/\Below W.heap.size W w'
end Tm
end
section
open Go.RowKit
namespace Tm
open Tr Rf Rl Ni No Pk Sm
theorem UR {t:T} (hs:¬ gK t):Ti t=eB:=by
 cases t with
 | stub r=>exact absurd trivial hs
 | _=>rfl
theorem Ov {t:T} (hs:¬ gK t) (hn:t ≠ .nil):fI t=1\/fI t=2\/fI t=3:=by
 cases t with
 | stub r=>exact absurd trivial hs
 | nil=>exact absurd rfl hn
 | leaf q v=>exact Or.inl rfl
 | ext q s=>exact Or.inr (Or.inl rfl)
 | br ks=>exact Or.inr (Or.inr rfl)
theorem Qp (b:Nat) (k:Int) (hk:k=1\/k=2\/k=3) (r:aM) (w:World) (hc:∀ wx,Below w.heap.size w wx->wx.cell? ⟨b,0,none⟩=some (.int .i64 k)) (P:World->Prop)
  (GW:∀ w3,Below w.heap.size w w3->w3.cell? ⟨w.heap.size,0,none⟩=some (.pointer (some ⟨b,0,none⟩))->Calls prog 151 #[.pointer (some ⟨b,4,none⟩),.func (.func 152) #[] #[.pointer (some ⟨w.heap.size,0,none⟩)]] w3 λe w'=>e = .returned (.tuple #[])/\w'.cell? ⟨w.heap.size,0,none⟩=some (.pointer (some ⟨b,0,none⟩))/\w'.cell? ⟨b,7,none⟩=some (.string r)/\P w') :
  Calls prog 111 #[.agg #[.pointer (some ⟨b,0,none⟩)]] w λe w'=>e = .returned (.string r)/\P w':=by
 have eK:∀ (fn:Fn) (first cap:aO) (w:World),(Instr.makeFunc fn first cap).run prog w = .ok (.func fn first cap) w:=λ_ _ _ _=>rfl;have h0:=fU w (some ⟨b,0,none⟩);have hA:=al1 w (.cells #[.pointer (some ⟨b,0,none⟩)] 46);have HK:=hid (nM b k _ (hc _ hA))
 have H3:Hid (∀ w3,Below (w.alloc (.cells #[.pointer (some ⟨b,0,none⟩)] 46)).heap.size (w.alloc (.cells #[.pointer (some ⟨b,0,none⟩)] 46)) w3->w3.cell? ⟨w.heap.size,0,none⟩=some (.pointer (some ⟨b,0,none⟩))/\Calls prog 151 #[.pointer (some ⟨b,4,none⟩),.func (.func 152) #[] #[.pointer (some ⟨w.heap.size,0,none⟩)]] w3 λe w'=>e = .returned (.tuple #[])/\w'.cell? ⟨w.heap.size,0,none⟩=some (.pointer (some ⟨b,0,none⟩))/\w'.cell? ⟨b,7,none⟩=some (.string r)/\P w'):=hid (λw3 hb3 =>
  ⟨aX hb3 h0,GW w3 (bst hA hb3) (aX hb3 h0)⟩)
 clear hc GW hA;rcases hk with rfl | rfl | rfl;all_goals
  go_enter func111,ntmps111;go_wp2_with (refine aB (aW h0 ⟨_,rfl,rfl⟩) ?_)
  refine HK.out.mono ?_;rintro e w3 ⟨rfl,hb3⟩;obtain ⟨d0,HD⟩:=H3.out w3 hb3;replace HD:=hid HD;clear hb3 H3 HK h0;go_wp2_with fail
  refine HD.out.mono ?_;rintro e w4 ⟨rfl,e0,e7,hP⟩;have HP:=hid hP;clear hP HD d0;go_wp2;go_ret;exact ⟨rfl,HP.out⟩
theorem Vn:mW .nil:=λM w p hi ht hT=>by
 obtain rfl:p=none:=ht.vG.2 rfl;have h0:=fU w none;have HE:=hid (mh none ((w.alloc (.cells #[.pointer none] 46)).alloc (.cells #[.pointer none] 46)));have hA:=al1 w (.cells #[.pointer none] 46);have HK:Hid (Calls prog 83 #[.agg #[.pointer none]] (w.alloc (.cells #[.pointer none] 46)) λe w'=>e = .returned (.int .i64 0)/\Below (w.alloc (.cells #[.pointer none] 46)).heap.size (w.alloc (.cells #[.pointer none] 46)) w'):=hid (eZ M0 none .nil _ (Inv.zero _) rfl)
 have HF:Hid (∀ w3,Below (w.alloc (.cells #[.pointer none] 46)).heap.size (w.alloc (.cells #[.pointer none] 46)) w3->FrN M (sz .nil+1) w w3/\eG M (sz .nil+1) w3):=hid (λw3 hb3=>⟨FrN.below M _ (bst hA hb3),hi.below (bst hA hb3)⟩);clear hi hT hA HE;show Calls _ _ _ _ (λe w'=>e = .returned (.string eB)/\_);go_enter func111,ntmps111;go_wp2_with (refine aB (aW h0 ⟨_,rfl,rfl⟩) ?_)
 refine HK.out.mono ?_;rintro e w3 ⟨rfl,hb3⟩;have m0:=hid (HF.out w3 hb3);clear hb3 HF HK h0;go_wp2;go_ret;exact ⟨rfl,m0.out⟩
theorem Me {M:Mp} {b:Nat} (h:qA M w b (.stub r)):w.cell? ⟨b,0,none⟩=some (.int .i64 (-1))/\w.cell? ⟨b,7,none⟩=some (.string r):=by
 obtain ⟨a,n,c,ka,kn,kc,d,r',hb,_,_,hd⟩:=h;obtain ⟨⟨c0,_⟩,_,_,_,c7⟩:=jU hb;rcases hd with ⟨_,hr⟩ | ⟨_,hs,_⟩
 .rw [hr] at c7;exact ⟨c0,c7⟩
 .exact absurd trivial hs
theorem RQ (r:aM):mW (.stub r):=λM w p hi ht hT=>by
 obtain ⟨b,rfl,hm⟩:=ht.at_ (λe=>by cases e);have hpart:=(hi.part_ b _ hm).2.2.2 (by omega);obtain ⟨k0,k7⟩:=Me hpart;have h0:=fU w (some ⟨b,0,none⟩);have hA:=al1 w (.cells #[.pointer (some ⟨b,0,none⟩)] 46);have HK:=hid (nM b (-1) _ (aX hA k0))
 have HF:Hid (∀ w3,Below (w.alloc (.cells #[.pointer (some ⟨b,0,none⟩)] 46)).heap.size (w.alloc (.cells #[.pointer (some ⟨b,0,none⟩)] 46)) w3->w3.cell? ⟨w.heap.size,0,none⟩=some (.pointer (some ⟨b,0,none⟩))/\w3.cell? ⟨b,7,none⟩=some (.string r)/\FrN M (sz (.stub r)+1) w w3/\eG M (sz (.stub r)+1) w3):=hid (λw3 hb3=>⟨aX hb3 h0,aX hb3 (aX hA k7),FrN.below M _ (bst hA hb3),hi.below (bst hA hb3)⟩);clear hi hT hA hpart k0 k7 hm;show Calls _ _ _ _ (λe w'=>e = .returned (.string r)/\_)
 go_enter func111,ntmps111;go_wp2_with (refine aB (aW h0 ⟨_,rfl,rfl⟩) ?_)
 refine HK.out.mono ?_;rintro e w3 ⟨rfl,hb3⟩;obtain ⟨d0,d7,BE⟩:=HF.out w3 hb3;have m0:=hid BE;clear hb3 HF HK h0 BE;go_wp2;go_ret;exact ⟨rfl,m0.out⟩
theorem zT (t:T) (hs:¬ gK t) (hn:t ≠ .nil) (g:Tr.Good t L) (hL:L<=64) (f:Fine t) (gm:∀ q s,t = .ext q s->mW s) (hR2:∀ ks,t = .br ks->∀ i,mW (ks i)):mW t:=λM w p hi ht hT=>by
 obtain ⟨b,rfl,hm⟩:=ht.at_ hn;have hpw:=(hi.part_ b _ hm).2.2.2 (by omega);have hlb:=hi.lt_ b (hi.part_ b _ hm).2.1;obtain ⟨a,n,c,ka,kn,kc,d,r,hb,mb,hKs,hd⟩:=hpw;have Y3:Rg.Own w b (kV t a n c ka kn kc d r) 150:=⟨hlb,hb⟩
 have hbody:Body M w b t a n c ka kn kc:=by
  obtain ⟨⟨c0,c1,c2,c3⟩,_⟩:=jU hb;exact ⟨c0,c1,c2,c3,mb.1,hKs⟩
 refine Qp b (fI t) (Ov hs hn) (ref t) w (λwx hbx=>(hbody.below hbx).c0) (λw'=>FrN M (sz t+1) w w'/\eG M (sz t+1) w') (λw3 hb3 r7=>?_);have hO3:=Y3.below hb3;have hi3:=hi.below hb3;rcases hd with ⟨rfl,hr⟩ | ⟨rfl,_,hr⟩
 .-- not yet done
  rw [UR hs] at hr;subst hr;have tx:=hT.below hb3 hT.pos;have cq:=bQ w3 b 5 (.int .i32 1);have So:Rg.Own (w3.setCell ⟨b,5,none⟩ (.int .i32 1)) b (qK t a n c ka kn kc eB) 150:=cO (o:=5) hO3 (.int .i32 1);have cl:=MQ So;have Lz:eG M (sz t) w3:=hi3.mono (Nat.le_succ _);have hil:eG M (sz t) (w3.setCell ⟨b,5,none⟩ (.int .i32 1)):=Lz.lock cq hm aH cl;have Y4:(0:Nat)≠b:=λe=>by
   have:=FX hi3 tx;rw [e,hm] at this;cases this
  have Sp:Tab (w3.setCell ⟨b,5,none⟩ (.int .i32 1)):=λi hi'=>by
   rw [<-tx i hi'];exact World.cell?_of_block (w:=w3) (cq.block 0 Y4)
  have uu:w.heap.size≠b:=by omega
  have BT:(w3.setCell ⟨b,5,none⟩ (.int .i32 1)).cell? ⟨w.heap.size,0,none⟩=some (.pointer (some ⟨b,0,none⟩)):=by
   rw [<-r7];exact World.cell?_of_block (w:=w3) (cq.block w.heap.size uu)
  have uv:Body M (w3.setCell ⟨b,5,none⟩ (.int .i32 1)) b t a n c ka kn kc:=(hbody.below hb3).upd (hi3.part_ b t hm).2.2.1 cq (λj hj=>World.cell?_setCell_other _ ⟨b,5,none⟩ ⟨b,j,none⟩ _ (λe=>by injection e with e1 e2 e3; omega));obtain ⟨h1,h2,h3,h4,h5,h6⟩:=pz g hL f hn hs;have hE:=Li M b t hm hs hn g hL f (w3.setCell ⟨b,5,none⟩ (.int .i32 1)).drew (hil.below (below_drewN aI 1)) (uv.below (below_drewN aI 1)) Sp gm hR2;have GW:=WB M b t hm h3 w.heap.size _ BT uu hil Sp So hE
  have hD:∀ wx,(callFunc 152 #[.pointer (some ⟨w.heap.size,0,none⟩)]).run prog wx = .ok (.enter 152 #[.pointer (some ⟨w.heap.size,0,none⟩)]) wx:=by intro wx; kernel_rfl
  refine (On.RG 152 _ hD b 4 w3 (λw'=>∃ w1,FrN M (sz t) (w3.setCell ⟨b,5,none⟩ (.int .i32 1)) w1/\eG M (sz t) w1/\Rg.Upd w1 b w'/\Rg.Own w' b (qK t a n c ka kn kc (ofP (dP t))) 150) (aV (j:=4) hO3 rfl) (aV (j:=5) hO3 rfl) (fB hO3) (GW.mono ?_)).mono ?_
  .rintro e w' ⟨rfl,w1,g1,g2,g3,g4⟩;exact ⟨rfl,⟨⟨aV (j:=4) g4 rfl,fB g4⟩,aV (j:=5) g4 rfl,fB g4⟩,w1,g1,g2,g3,g4⟩
  .rintro e w' ⟨rfl,w2,⟨w1,g1,g2,g3,g4⟩,rfl⟩;rw [<-yK hs] at g4;have bh:=bQ w2.drew b 4 (.int .u32 1);have cE:=bQ (w2.drew.setCell ⟨b,4,none⟩ (.int .u32 1)) b 5 (.int .i32 0);have dE:Rg.Own ((w2.drew.setCell ⟨b,4,none⟩ (.int .u32 1)).setCell ⟨b,4+1,none⟩ (.int .i32 0)) b (kV t a n c ka kn kc 1 (ref t)) 150:=cO (o:=5) (cO (o:=4) g4.drew (.int .u32 1)) (.int .i32 0);obtain ⟨w7,hw7⟩:=aA ((w2.drew.setCell ⟨b,4,none⟩ (.int .u32 1)).setCell ⟨b,4+1,none⟩ (.int .i32 0))
   rw [hw7] at dE ⊢;have mc:Rg.Upd w1 b w7:=by
    rw [<-hw7];exact ⟨g3.os,g3.tape,g3.output,by rw [cE.size,bh.size]; exact g3.size,λk hk=>((cE.block k hk).trans (bh.block k hk)).trans (g3.block k hk)⟩
   have r8:∀ k,k<w3.heap.size->k≠b->(M.at_ k=none\/∃ t',M.at_ k=some t'/\sz t<=sz t')->w7.heap[k]? = w3.heap[k]? := λk hk hkb hc=>(mc.block k hkb).trans ((g1.block k (by rw [cq.size]; exact hk) hc).trans (cq.block k hkb));have oj:w3.heap.size<=w7.heap.size:=by rw [mc.size]; exact Nat.le_trans (by rw [cq.size]; exact aH) g1.size
   have hnb:M.at_ w.heap.size=none:=hi.yU aH;have cH:w7.cell? ⟨w.heap.size,0,none⟩=some (.pointer (some ⟨b,0,none⟩)):=by
    rw [<-r7];exact World.cell?_of_block (w:=w3) (r8 _ (World.block_lt_of_cell? w3 _ r7) uu (Or.inl hnb))
   have hfr:FrN M (sz t+1) w3 w7:=⟨mc.os.trans (g1.os.trans cq.os),mc.tape.trans (g1.tape.trans cq.tape),mc.output.trans (g1.output.trans cq.output),oj,λk hk hc=>by
    refine r8 k hk (λe=>?_) (hc.imp id (λ⟨t',e,hl⟩=>⟨t',e,by omega⟩));subst e;rcases hc with h | ⟨t',h,hl⟩
    .rw [hm] at h; cases h
    .rw [hm] at h;obtain rfl:=Option.some.inj h;omega⟩
   have Y5:Eb w7 b:=Dr dE.2;have LE:eG M (sz t) w7:=g2.lock mc hm aH Y5;have hbyte:∀ k j v,k<w3.heap.size->w3.cell? ⟨k,j,none⟩=some v->((∃ x,v = .int .u8 x)\/∃ p,v = .pointer p)->w7.heap[k]? = w3.heap[k]? := λk j v hk hc hv=>by
    have hat:M.at_ k=none:=by
     rcases hv with ⟨x,rfl⟩ | ⟨p,rfl⟩
     .exact hi3.gP hc
     .exact hi3.qw hc
    exact r8 k hk (λe=>by rw [e,hm] at hat; cases hat) (Or.inl hat)
   refine ⟨rfl,cH,aV (j:=7) dE rfl,(FrN.below M _ hb3).trans hfr,⟨λk hk=>aJ (hi3.lt_ k hk) oj,λb' t' hm'=>?_⟩⟩;obtain ⟨q1,q2,q3,q4⟩:=LE.part_ b' t' hm';refine ⟨q1,q2,q3,λhl=>?_⟩;by_cases hlt:sz t'<sz t
   .exact q4 hlt
   .have hp3:=(hi3.part_ b' t' hm').2.2.2 hl;by_cases e:b'=b
    .subst e;obtain rfl:t=t':=by rw [hm] at hm'; exact Option.some.inj hm'
     refine ⟨a,n,c,ka,kn,kc,1,ref t,dE.2,?_,?_,Or.inr ⟨rfl,hs,rfl⟩⟩
     .have fx:=mb;refine ⟨⟨mb.1.1,mb.1.2.1,mb.1.2.2.1,mb.1.2.2.2.1,λj hj=>?_⟩,mb.2⟩;obtain ⟨b2,off,e2,hlt2,hc2⟩:=(mb.1.below hb3).2.2.2.2 j hj;exact ⟨b2,off,e2,aJ hlt2 oj,by rw [World.cell?_of_block (hbyte b2 _ _ hlt2 hc2 (Or.inl ⟨_,rfl⟩))]; exact hc2⟩
     .refine ⟨hKs.1,hKs.2.1,hKs.2.2.1,hKs.2.2.2.1,λj hj=>?_⟩;obtain ⟨b2,off,p2,e2,hlt2,hf2,hc2,ht2⟩:=(hbody.below hb3).hk.at' j hj;exact ⟨b2,off,p2,e2,aJ hlt2 oj,hf2,by rw [World.cell?_of_block (hbyte b2 _ _ hlt2 hc2 (Or.inr ⟨_,rfl⟩))]; exact hc2,ht2⟩
    .exact hp3.keep oj (r8 b' (hi3.lt_ b' q2) e (Or.inr ⟨t',hm',by omega⟩)) hbyte
 .-- done already
  subst hr;refine (On.UH ⟨b,4,none⟩ _ w3 (aV (j:=4) hO3 rfl)).mono ?_;rintro e w' ⟨rfl,rfl⟩;exact ⟨rfl,r7,aV (j:=7) hO3 rfl,FrN.below M _ hb3,hi3⟩
theorem oI:∀ (t:T) (L:Nat),Tr.Good t L->L<=64->Fine t->mW t
 | .nil,_,_,_,_=>Vn
 | .stub r,_,_,_,_=>RQ r
 | .leaf q v,L,g,hL,f=>zT _ (λh=>h) (λe=>by cases e) g hL f (λ_ _ e=>by cases e) (λ_ e=>by cases e)
 | .ext q s,L,g,hL,f=>zT _ (λh=>h) (λe=>by cases e) g hL f (λq' s' e=>by
   injection e with _ e;subst e;exact oI s _ g.2.2.2.2 (by have:=g.2.2.1; omega) f) (λ_ e=>by cases e)
 | .br ks,L,g,hL,f=>zT _ (λh=>h) (λe=>by cases e) g hL f (λ_ _ e=>by cases e) (λks' e i=>by
   injection e with e;subst e;exact oI (ks i) _ (g.2.2 i) (by omega) (f i))
open Ky
theorem Inv.after {M:Mp} {n:Nat} {w w':World} (h:Inv M w) (f:FrN M n w w') (g:eG M n w'):Inv M w' :=
 ⟨λk hk=>aJ (h.lt_ k hk) f.size,λb t hm=>by
  have:=((h.toN (sz t+1)).after f g).part_ b t hm;exact ⟨this.1,this.2.1,this.2.2.2 (Nat.lt_succ_self _)⟩⟩
def Xo (M:Mp) (w:World) (s:aM) (e:Ending) (w':World):Prop:=e = .returned (.string s)/\Fr M M w w'/\Inv M w'/\Tab w'
theorem FM (M:Mp) (p:aL) (t:T) (L:Nat) (g:Tr.Good t L) (hL:L<=64) (f:Fine t) (w:World) (hi:Inv M w) (ht:IsT M p t) (hT:Tab w) :
  Calls prog 34 #[tv p] w (Xo M w (dP t)):=by
 by_cases hn:fI t=0\/fI t = -1
 .have he:dP t=eB:=by
   cases t with
   | nil=>rfl
   | stub r=>rfl
   | leaf q v=>rcases hn with h | h <;> exact absurd h (by show ¬ ((_:Int)=_); simp [fI])
   | ext q s=>rcases hn with h | h <;> exact absurd h (by show ¬ ((_:Int)=_); simp [fI])
   | br ks=>rcases hn with h | h <;> exact absurd h (by show ¬ ((_:Int)=_); simp [fI])
  rw [he];refine (Sg p (fI t) (by omega) (by omega) (by omega) w (λwx hbx=>eZ M p t wx (hi.below hbx) ht)).mono ?_;rintro e w' ⟨rfl,hb⟩;exact ⟨rfl,Fr.below M hb,hi.below hb,hT.below hb hT.pos⟩
 .have hs:¬ gK t:=λh=>by
   cases t with
   | stub r=>exact hn (Or.inr rfl)
   | _=>exact h.elim
  have hne:t ≠ .nil:=λe=>hn (Or.inl (by rw [e]; rfl));obtain ⟨b,rfl,hm⟩:=ht.at_ hne;obtain ⟨pa,pn,pc,ka,kn,kc,hB⟩:=(hi.part hm).body;refine (Li M b t hm hs hne g hL f w (hi.toN _) hB hT (λq s e=>by
   subst e;exact oI s _ g.2.2.2.2 (by have:=g.2.2.1; omega) f) (λks e i=>by
   subst e;exact oI (ks i) _ (g.2.2 i) (by omega) (f i))).mono ?_
  rintro e w' ⟨rfl,hf,hi'⟩;exact ⟨rfl,hf.fr,hi.after hf hi',yX (hi.toN _) hf hT⟩
theorem Bc (ps:List (aL)) (a:aL) (n cap:Nat) (w:World) (h:yA w a n cap ps) (hn:n<=1000000) :
  Calls prog 162 #[.slice a n cap,.func (Fn.func 124) #[] #[]] w λe w'=>∃ r:Int,e = .returned (.int .i64 r)/\Below w.heap.size w w'/\
   ((r = -1/\∀ p∈ps,p.isNone=false)\/∃ i:Nat,r=i/\i<n/\ps.getD i none=none/\∀ p∈ps.take i,p.isNone=false):=by
 have hm:=h.2.1;have hnc:=h.1;have hl:=h.2.2.1;unfold maxLen at hm;have H:=hid h;have HL:=hid hl;clear h hl;go_enter func162,ntmps162;go_wp2;go_loopw [8] (λi wr=>∃ j:Nat,j<=n/\i = .int .i64 j/\Hid (∀ p∈ps.take j,p.isNone=false)/\Hid (Below w.heap.size w wr)) (λi _=>n-(intOf i).toNat)
 case atStart=>exact ⟨0,Nat.zero_le _,rfl,hid (λp hp=>by simp at hp),hid aI⟩
 case round =>
  obtain ⟨j,hj,rfl,HJ,HB⟩:=hrel;by_cases hlt:j<n
  .obtain ⟨b,off,rfl,hblt,hc⟩:=H.out.2.2.2.2 j hlt;have hji:(j:Int)<n:=by omega
   have hc':=(Below.cell (p:=⟨b,off+j,none⟩) HB.out hblt).trans hc;have HS:Hid (ps.take (j+1)=ps.take j++[ps.getD j none]):=hid (by
    have hj':j<ps.length:=by rw [HL.out]; exact hlt
    have e:ps.getD j none=ps[j]:=by simp [List.getD,hj']
    rw [e,List.take_succ_eq_append_getElem hj'])
   obtain ⟨p,hp⟩:=aA (ps.getD j none)
   rw [hp] at hc' HS;have HE:=hid (mh p wr);have HP:=hid hp;clear hp hc;go_wp2_with (refine aB (aW hc' ⟨_,rfl,rfl⟩) ?_)
   refine HE.out.mono ?_;rintro e w5 ⟨rfl,hb5⟩;have al:=hid (bst HB.out hb5);clear hb5 HE HB hc';cases hf:p.isNone with
   | false =>
    have LF:Hid (∀ q∈ps.take (j+1),q.isNone=false):=hid (λq hq=>by
     rw [HS.out,List.mem_append,List.mem_singleton] at hq;rcases hq with hq | rfl
     .exact HJ.out q hq
     .exact hf)
    clear hf;go_wp2;go_roundw
    case rel=>exact ⟨j+1,by omega,by go_num,LF,al⟩
    case measure=>simp [intOf]; omega
   | true =>
    have hpn:p=none:=by simpa using hf
    clear hf;go_wp2;go_ret;exact ⟨(j:Int),rfl,al.out,Or.inr ⟨j,rfl,hlt,by rw [HP.out]; exact hpn,HJ.out⟩⟩
  .obtain rfl:j=n:=by omega
   have HF:Hid (∀ p∈ps,p.isNone=false):=hid (by have:=HJ.out; rwa [List.take_of_length_le (by rw [HL.out]; exact aH)] at this);go_wp2;go_ret;exact ⟨-1,rfl,HB.out,Or.inl ⟨rfl,HF.out⟩⟩
def lM (ps:List (aL)):List (aL):=ps.filter λp=>!p.isNone
theorem vV (l:List (aL)) (p:aL):lM (l++[p])=lM l++if p.isNone then [] else [p]:=by
 unfold lM;rw [List.filter_append];cases p <;> rfl
theorem Gn {l:List (aL)} (h:∀ p∈l,p.isNone=false):lM l=l:=List.filter_eq_self.2 λp hp=>by rw [h p hp]; rfl
theorem nJ {w1 w2:World} {b:Nat} (h:Rg.Upd w b w1) (g:Rg.Upd w1 b w2):Rg.Upd w b w2:=⟨g.os.trans h.os,g.tape.trans h.tape,g.output.trans h.output,g.size.trans h.size,λk hk=>(g.block k hk).trans (h.block k hk)⟩
theorem qN (w:World) (b:Nat):Rg.Upd w b w:=⟨rfl,rfl,rfl,rfl,λ_ _=>rfl⟩
theorem vP {b:Nat} {t:TypeId}:∀ (vs:List Value) (o:Nat) (w:World) (cs:aO),Rg.Own w b cs t->∃ cs',Rg.Own (w.setCells b o vs) b cs' t/\cs'.size=cs.size/\∀ j,j<o->cs'[j]? = cs[j]?
 | [],_,_,cs,h=>⟨cs,h,rfl,λ_ _=>rfl⟩
 | v::r,o,w,cs,h=>by
  obtain ⟨cs',h1,h2,h3⟩:=vP r (o+1) _ _ (cO (o:=o) h v);refine ⟨cs',h1,by simpa using h2,λj hj=>?_⟩;rw [h3 j (by omega),Array.getElem?_setIfInBounds_ne (by omega)]
theorem uU (b:Nat):∀ (vs:List Value) (o:Nat) (w:World),Rg.Upd w b (w.setCells b o vs)
 | [],_,w=>qN w b
 | v::r,o,w=>nJ (bQ w b o v) (uU b r (o+1) _)
theorem Ot (w:World):(zeroValue (prog.elem 136)).run prog w = .ok (.agg #[.pointer none]) w:=by kernel_rfl
theorem Kn (n:Nat):(Builtin.zeroCells #[Value.pointer none] n).toList=List.replicate n (Value.pointer none):=by
 simp [Builtin.zeroCells];apply List.ext_getElem
 .simp
 .intro i h1 h2;simp [Nat.mod_one]
theorem Bl (ty:TypeId) {i:Nat} (hO:Rg.Own w g cur 46) (hs:cur.size=cap) (hi:i<=n) (hn:n<=cap) :
  ∃ w',(Builtin.clear_ #[136] ty #[.slice (eX (some ⟨g,0,none⟩) cap i) (n-i) (cap-i)]).run prog w = .ok (.tuple #[]) w'/\Rg.Upd w g w'/\∃ cur',Rg.Own w' g cur' 46/\cur'.size=cap/\∀ j,j<i->cur'[j]? = cur[j]? := by
 by_cases hz:n-i=0
 .refine ⟨w,?_,qN w g,cur,hO,hs,λ_ _=>rfl⟩;rw [hz];cases eX (some ⟨g,0,none⟩) cap i <;> simp [Builtin.clear_,run_underlying oL]
 .have hf:eX (some ⟨g,0,none⟩) cap i=some ⟨g,i,none⟩:=by
   unfold eX;rw [if_neg (by omega)];simp [Addr.add_mid]
  obtain ⟨cs',h1,h2,h3⟩:=vP (List.replicate (n-i) (Value.pointer none)) i w cur hO;refine ⟨_,?_,uU g (List.replicate (n-i) (Value.pointer none)) i w,cs',h1,by rw [h2,hs],h3⟩;rw [hf];have hst:=run_storeCells_cells (P:=prog) g i (List.replicate (n-i) (Value.pointer none)) 0 w (λj hj=>by
   have hj':j<n-i:=by simpa using hj
   rw [Nat.add_zero,cell_of_row w g _ _ _ _ hO.2,Array.getElem?_eq_getElem (by omega)];rfl) (λj hj=>fB hO) (by intro v hv'; rw [List.eq_of_mem_replicate hv']; rfl)
  simp only [Nat.add_zero] at hst;obtain ⟨m,hm⟩:∃ m,n-i=m+1:=⟨n-i-1,by omega⟩
  rw [hm] at hst ⊢;simp [Builtin.clear_,run_underlying oL,Ot,Kn,Value.cells,hst]
theorem PE {rest:List Oper} {a:Act} {i:Nat} (hgd:o.guard=none)
  (ho:∃ s,o.op = .call { callee:=.builtin .clear,args:=#[s],argTypes:=#[136] }/\a.eval s = .slice (eX (some ⟨g,0,none⟩) cap i) (n-i) (cap-i)) (hd:o.dst=none)
  (hO:Rg.Own w g cur 46) (hs:cur.size=cap) (hi:i<=n) (hn:n<=cap)
  (H:∀ w' cur',Rg.Own w' g cur' 46->cur'.size=cap->(∀ j,j<i->cur'[j]? = cur[j]?)->Rg.Upd w g w'->wpList prog ops Q rest a w'):wpList prog ops Q (o::rest) a w:=by
 obtain ⟨s,ho,hx⟩:=ho;refine wpList_plain hgd λK hK=>?_;obtain ⟨w',hr,hu,cur',h1,h2,h3⟩:=Bl o.type hO hs hi hn;unfold Oper.wp execOp;simp only [ho,resolve,invoke,builtin,Sem.run_bind,Sem.run_pure,Result.andThen_ok,List.map_toArray,List.map_cons,List.map_nil,hx,hr];refine hK _ _ ?_;rw [show a.put o.dst (.tuple #[])=a by rw [hd]; rfl];exact H w' cur' h1 h2 h3 hu
theorem RowK.cell {qs:List (aL)} (h:RowK w g cap qs) (hj:j<qs.length):w.cell? ⟨g,j,none⟩=some (.pointer (qs.getD j none)):=by
 obtain ⟨cur,hO,hs,hl,hm,hc⟩:=h;rw [cell_of_row w g _ _ _ _ hO.2];exact hc j hj
theorem RowK.cut {qs:List (aL)} (h:RowK w g cap qs) (hO:Rg.Own w g cur 46) (hk:k<=qs.length) (zc:Rg.Own w' g cur' 46) (hs:cur'.size=cap) (he:∀ j,j<k->cur'[j]? = cur[j]?):RowK w' g cap (qs.take k):=by
 obtain ⟨ra,aE,hs0,hl,hm,hc⟩:=h;have e:ra=cur:=by
  have:=aE.2.symm.trans hO.2;injection this with this;injection this
 subst e;refine ⟨cur',zc,hs,by rw [List.length_take]; omega,hm,λj hj=>?_⟩;have hjk:j<k:=by rw [List.length_take] at hj; omega
 have hjq:j<qs.length:=by omega
 rw [he j hjk,hc j hjq];simp [List.getD,hjk]
theorem RowK.own {qs:List (aL)} (h:RowK w g cap qs):∃ cur,Rg.Own w g cur 46/\cur.size=cap/\qs.length<=cap/\cap<=maxLen:=by
 obtain ⟨ra,aE,hs0,hl,hm,hc⟩:=h;exact ⟨ra,aE,hs0,hl,hm⟩
theorem Ph {qs ps:List (aL)} (h:qs.drop j=ps.drop j):qs.getD j none=ps.getD j none/\qs.drop (j+1)=ps.drop (j+1):=by
 constructor
 .have:=congrArg (λl=>l[0]?) h;simp only [List.getElem?_drop,Nat.add_zero] at this;rw [List.getD_eq_getElem?_getD,List.getD_eq_getElem?_getD,this]
 .have:=congrArg (λl=>l.drop 1) h;simpa [List.drop_drop] using this
theorem BU {qs:List (aL)} (hk:k<qs.length) (p:aL):(qs.set k p).take (k+1)=qs.take k++[p]:=by
 rw [List.take_succ_eq_append_getElem (by simpa using hk),List.getElem_set_self,List.take_set_of_le (Nat.le_refl k)]
theorem Cq {ps:List (aL)} (h:j<ps.length):ps.take (j+1)=ps.take j++[ps.getD j none]:=by
 have e:ps.getD j none=ps[j]:=by simp [List.getD,h]
 rw [e,List.take_succ_eq_append_getElem h]
def Xv (w:World) (g cap:Nat) (ps:List (aL)) (e:Ending) (w':World):Prop:=e = .returned (.slice (some ⟨g,0,none⟩) (lM ps).length cap)/\RowK w' g cap (lM ps)/\Bo g w w'
theorem Gm (ps:List (aL)) (g cap:Nat) (w:World) (h:RowK w g cap ps) (hn:ps.length<=1000000) :
  Calls prog 130 #[.slice (some ⟨g,0,none⟩) ps.length cap,.func (Fn.func 124) #[] #[]] w (Xv w g cap ps):=by
 obtain ⟨ra,aE,hs0,hlc,hm⟩:=h.own;unfold maxLen at hm;obtain ⟨n,hnl⟩:=aA ps.length
 rw [hnl] at hn hlc;have HL:=hid hnl;have HX:=hid (Bc ps (some ⟨g,0,none⟩) ps.length cap w h.ptrs (by omega));rw [hnl] at HX ⊢;have HR:=hid h;have hgl:=h.lt;clear h aE hs0 hnl;go_enter func130,ntmps130;go_wp2_with fail
 refine HX.out.mono ?_;rintro e w1 ⟨r,rfl,hb1,hr⟩;have HB1:Hid (Bo g w w1):=hid (Bo.of hb1);have HR1:=hid (HR.out.below hb1);clear hb1 HX HR;rcases hr with ⟨rfl,hall⟩ | ⟨i,rfl,hi,hnone,hall⟩
 .have HK:=hid (Gn hall);clear hall;go_wp2;go_ret;exact ⟨by rw [HK.out,HL.out]; rfl,(by rw [HK.out]; exact HR1.out),HB1.out⟩
 .have hne:decide ((i:Int) = -1)=false:=decide_eq_false (by omega);have hne2:((i:Int) == -1)=false:=by simp
  have HK:Hid (ps.take i=lM (ps.take (i+1))):=hid (by
   rw [Cq (by rw [HL.out]; exact hi),hnone,vV,Gn hall];exact (List.append_nil _).symm)
  clear hall hnone;go_wp2_with fail
  go_loopw [5,6] (λvi vj wr=>∃ (k j:Nat) (qs:List (aL)),vi = .int .i64 k/\vj = .int .i64 j/\k<=j/\j<=n/\qs.length=n/\Hid (RowK wr g cap qs)/\Hid (qs.take k=lM (ps.take j))/\Hid (qs.drop j=ps.drop j)/\Hid (Bo g w wr)) (λ_ vj _=>n-(intOf vj).toNat)
  case atStart=>exact ⟨i,i+1,ps,rfl,by go_num,by omega,by omega,HL.out,HR1,HK,hid rfl,HB1⟩
  case round =>
   obtain ⟨k,j,qs,rfl,rfl,hkj,hj,GB,yl,un,Sq,HB⟩:=hrel;clear HK HR1 HB1;have hgr:g<wr.heap.size:=yl.out.lt;by_cases hlt:j<n
   .have hji:(j:Int)<n:=by omega
    have hki:(k:Int)<n:=by omega
    have hdd:=Ph Sq.out;have hc:=yl.out.cell (j:=j) (by omega);rw [hdd.1] at hc;have FG:=hid hdd.2;have HS:=hid (Cq (ps:=ps) (j:=j) (by rw [HL.out]; exact hlt));obtain ⟨p,hp⟩:=aA (ps.getD j none)
    rw [hp] at hc HS;have hNew:=Rg.Own.new wr #[.pointer none] 46;have HN:=hid hNew;clear hdd hp hNew;go_wp2_with (first
     | (refine aB (aW hc ⟨_,rfl,rfl⟩) ?_)
     | (refine aB (bD _ _ _ wr.heap.size rfl rfl) ?_)
     | (refine bU HN.out (by decide) p rfl _ _ rfl rfl rfl ?_; intro w5 c8 cq; have cf:=hid c8; have al:Hid (Below wr.heap.size wr w5):=hid (cq.below (al1 _ _) aH); clear c8 cq)
     | (refine aB (aW (aV (j:=0) cf.out rfl) ⟨_,rfl,rfl⟩) ?_))
    refine (mh p w5).mono ?_;rintro e w6 ⟨rfl,hb6⟩;have bd:Hid (Below wr.heap.size wr w6):=hid (bst al.out hb6);have cG:=hid (cf.out.below hb6);have mw:=hid (yl.out.below bd.out);have BV:Hid (Bo g w w6):=hid (HB.out.then bd.out);clear hb6 al cf hc HN;cases hf:p.isNone with
    | true =>
     have BW:Hid (qs.take k=lM (ps.take (j+1))):=hid (by rw [HS.out,vV,hf,un.out]; simp);clear hf;go_wp2_with fail
     go_roundw
     case rel=>exact ⟨k,j+1,qs,rfl,by go_num,by omega,by omega,GB,mw,BW,FG,BV⟩
     case measure=>simp [intOf]; omega
    | false =>
     have BW:Hid ((qs.set k p).take (k+1)=lM (ps.take (j+1))):=hid (by rw [HS.out,vV,hf,BU (by omega),un.out]; simp);have HD2:Hid ((qs.set k p).drop (j+1)=ps.drop (j+1)):=hid (by rw [List.drop_set_of_lt (by omega)]; exact FG.out);clear hf;go_wp2_with (first
      | (refine aB (aW (aV (j:=0) cG.out rfl) ⟨_,rfl,rfl⟩) ?_)
      | (refine sQ mw.out (i:=k) (by omega) p rfl _ _ rfl rfl rfl ?_; intro w7 sm cE; have BY:=hid sm; have LI:Hid (Bo g w w7):=hid (BV.out.upd cE); clear sm cE))
     go_roundw
     case rel=>exact ⟨k+1,j+1,qs.set k p,by go_num,by go_num,by omega,by omega,by simpa using GB,BY,BW,HD2,LI⟩
     case measure=>simp [intOf]; omega
   .obtain rfl:j=n:=by omega
    have hT:=un.out;rw [List.take_of_length_le (l:=ps) (by rw [HL.out]; exact aH)] at hT;have hkl:(lM ps).length=k:=by rw [<-hT,List.length_take]; omega
    have HE:=hid hT;have bj:=hid hkl;obtain ⟨cur,hO,hs,_,_⟩:=yl.out.own;have HO:=hid hO;have Y6:=hid (λ(w':World) (cur':aO) (h1:Rg.Own w' g cur' 46) (h2:cur'.size=cap) (h3:∀ j,j<k->cur'[j]? = cur[j]?)=>yl.out.cut hO (by omega) h1 h2 h3);clear hT hkl hO un Sq yl;go_wp2_with (first
     | (refine aB (jk (a:=some ⟨g,0,none⟩) (n:=j) (c:=cap) (i:=k) oL CF hkj ⟨_,_,rfl,rfl,rfl⟩) ?_)
     | (refine aB (yS (a:=some ⟨g,0,none⟩) (n:=j) (c:=cap) (j:=k) oL CF (by omega) ⟨_,_,rfl,rfl,rfl⟩) ?_)
     | (refine PE (i:=k) (n:=j) rfl ⟨_,rfl,rfl⟩ rfl HO.out hs hkj hlc ?_; intro w8 LL ll C3 Ss j3; have Y7:=hid (Y6.out w8 LL ll C3 Ss); have LN:Hid (Bo g w w8):=hid (HB.out.upd j3); clear ll C3 Ss j3))
    go_ret;exact ⟨by rw [bj.out]; rfl,(by rw [<-HE.out]; exact Y7.out),LN.out⟩
def uY (B:Nat) (w:World) (v:Value) (ps:List (aL)):Prop:=(v = .slice none 0 0/\ps=[])\/∃ g cap,v = .slice (some ⟨g,0,none⟩) ps.length cap/\B<=g/\RowK w g cap ps
theorem uY.ptrs {B:Nat} {w:World} {v:Value} {ps:List (aL)} (h:uY B w v ps):∃ a c,v = .slice a ps.length c/\yA w a ps.length c ps/\∀ ad,a=some ad->B<=ad.block:=by
 rcases h with ⟨rfl,rfl⟩ | ⟨g,cap,rfl,hB,hR⟩
 .exact ⟨none,0,rfl,⟨aH,Nat.zero_le _,rfl,λ_=>rfl,λ_ h=>absurd h (Nat.not_lt_zero _)⟩,λ_ e=>by cases e⟩
 .exact ⟨_,cap,rfl,hR.ptrs,λad e=>by cases e; exact hB⟩
theorem wN (a:aL) (n cap:Nat) (ps:List (aL)) (w:World) (h:yA w a n cap ps) (hn:n<=1000000) :
  Calls prog 125 #[.slice a n cap] w λe w'=>∃ v,e = .returned v/\uY w.heap.size w' v ps/\Below w.heap.size w w':=by
 cases a with
 | none =>
  have hc:cap=0:=h.2.2.2.1 rfl;have h1:=h.1;obtain rfl:n=0:=by omega
  subst hc;have hp:ps=[]:=List.eq_nil_of_length_eq_zero h.2.2.1;refine (JI w).mono ?_;rintro e w' ⟨rfl,rfl⟩;exact ⟨_,rfl,Or.inl ⟨rfl,hp⟩,aI⟩
 | some ad =>
  refine (zm ad n cap ps w h hn).mono ?_;rintro e w' ⟨g,c,rfl,hg,hR,hb⟩;exact ⟨_,rfl,Or.inr ⟨g,c,rfl,hg,hR⟩,hb⟩
theorem Gc (w:World):Calls prog 130 #[.slice none 0 0,.func (Fn.func 124) #[] #[]] w λe w'=>e = .returned (.slice none 0 0)/\Below w.heap.size w w':=by
 have HX:=hid (Bc [] none 0 0 w ⟨aH,Nat.zero_le _,rfl,λ_=>rfl,λ_ h=>absurd h (Nat.not_lt_zero _)⟩ (by omega));go_enter func130,ntmps130;go_wp2_with fail
 refine HX.out.mono ?_;rintro e w1 ⟨r,rfl,hb1,hr⟩;rcases hr with ⟨rfl,_⟩ | ⟨i,rfl,hi,_⟩
 .have HB1:=hid hb1;clear hb1;go_wp2;go_ret;exact ⟨rfl,HB1.out⟩
 .omega
theorem Kh (ps:List (aL)) (v:Value) (w:World) (h:uY B w v ps) (hB:B<=w.heap.size) (hn:ps.length<=1000000) :
  Calls prog 130 #[v,.func (Fn.func 124) #[] #[]] w λe w'=>∃ v',e = .returned v'/\uY B w' v' (lM ps)/\Below B w w':=by
 rcases h with ⟨rfl,rfl⟩ | ⟨g,cap,rfl,hg,hR⟩
 .refine (Gc w).mono ?_;rintro e w' ⟨rfl,hb⟩;exact ⟨_,rfl,Or.inl ⟨rfl,rfl⟩,hb.mono hB⟩
 .refine (Gm ps g cap w hR hn).mono ?_;rintro e w' ⟨rfl,hR',Y8⟩;exact ⟨_,rfl,Or.inr ⟨g,cap,rfl,hg,hR'⟩,Y8.below aI hB hg⟩
theorem yA.upd {c:Nat} {ps:List (aL)} (h:yA w a n c ps) (hu:Rg.Upd w g w') (hne:∀ ad,a=some ad->ad.block≠g):yA w' a n c ps:=by
 refine ⟨h.1,h.2.1,h.2.2.1,h.2.2.2.1,λj hj=>?_⟩;obtain ⟨b,off,e,hlt,hc⟩:=h.2.2.2.2 j hj;exact ⟨b,off,e,by rw [hu.size]; exact hlt,by rw [World.cell?_of_block (hu.block b (hne _ e))]; exact hc⟩
theorem Are.nil (M:Mp):Are M [] []:=⟨rfl,λ_ h=>absurd h (Nat.not_lt_zero _)⟩
theorem Gu {M:Mp} {p:aL} {t:T} {ps:List (aL)} {l:List T}:Are M (p::ps) (t::l)↔IsT M p t/\Are M ps l:=by
 constructor
 .rintro ⟨h1,h2⟩;refine ⟨h2 0 (by simp),by simpa using h1,λj hj=>?_⟩;have:=h2 (j+1) (by simpa using hj);simpa using this
 .rintro ⟨h1,h2,h3⟩;refine ⟨by simp [h2],λj hj=>?_⟩;cases j with
  | zero=>exact h1
  | succ j =>
   have:=h3 j (by simpa using hj);simpa using this
theorem Are.keep {M:Mp}:∀ {ps:List (aL)} {l:List T},Are M ps l->Are M (lM ps) (l.filter λt=>!isNil t)
 | [],[],_=>Are.nil M
 | [],_::_,h=>absurd h.1 (by simp)
 | _::_,[],h=>absurd h.1 (by simp)
 | p::ps,t::l,h=>by
  obtain ⟨h1,h2⟩:=Gu.1 h;have ih:=Are.keep h2;have hn:=h1.vG;cases p with
  | none =>
   obtain rfl:t = .nil:=hn.1 rfl;exact ih
  | some ad =>
   have ht:isNil t=false:=by
    cases t with
    | nil=>exact absurd (hn.2 rfl) (by simp)
    | _=>rfl
   have e1:lM (some ad::ps)=some ad::lM ps:=rfl;rw [e1,List.filter_cons_of_pos (by rw [ht]; rfl)];exact Gu.2 ⟨h1,ih⟩
theorem Kz {t:T} {L:Nat} (g:Tr.Good t L):(jr t).filter (λt=>!isNil t)=zN t:=by
 cases t with
 | nil=>rfl
 | leaf q v=>rfl
 | stub r=>rfl
 | ext q s =>
  have hs:isNil s=false:=by
   have:=g.2.2.2.1;cases s with
   | nil=>exact absurd rfl (qy this)
   | _=>rfl
  show List.filter _ [s]=[s]
  rw [List.filter_cons_of_pos (by rw [hs]; rfl)];rfl
 | br ks =>
  show List.filter _ ((List.finRange 16).map ks)=(fD ks).map ks;rw [List.filter_map];rfl
def Gl (M:Mp) (w:World) (t:T) (e:Ending) (w':World):Prop:=∃ a n c ka kc ps,e = .returned (.tuple #[.agg (ndC (bV t) a n c),.slice ka ps.length kc])/\uY w.heap.size w' (.slice ka ps.length kc) ps/\BsF w.heap.size w' a n c (bV t).p/\yA w' ka ps.length kc ps/\Are M ps (zN t)/\
 (∀ ad,ka=some ad->w.heap.size<=ad.block)/\Fr M M w w'/\Inv M w'/\Tab w'
theorem uY.late {B':Nat} {ps:List (aL)} (h:uY B w v ps) (hB:B'<=B) (hu:Rg.Upd w g w') (hg:g<B):uY B' w' v ps:=by
 rcases h with h | ⟨k,cap,e,hk,hR⟩
 .exact .inl h
 .exact .inr ⟨k,cap,e,Nat.le_trans hB hk,hR.upd hu (by omega)⟩
theorem Qw (M:Mp) (w:World) (hi:Inv M w) (hT:Tab w):Calls prog 92 #[tv none] w (Gl M w .nil):=by
 obtain ⟨w2,hw2,aE,bc,hb2,hs2⟩:=wS w none;have HE:=hid (mh none w2);have HO:=hid aE;have dl:=hid bc;have HB:=hid hb2;have HI:=hid hi;have HT:=hid hT;clear aE bc hb2 hi hT;subst hw2;have hgo:Calls prog 92 #[.agg #[.pointer none]] w (Gl M w .nil):=by
  go_enter func92,ntmps92;go_wp2_with (first
   | (refine aB (aY _ _ _ (w.heap.size+1) (by simp) rfl) ?_)
   | (refine aB (aW (aV (j:=0) HO.out rfl) ⟨_,rfl,rfl⟩) ?_))
  refine HE.out.mono ?_;rintro e w3 ⟨rfl,hb3⟩;have HB3:=hid (bst HB.out hb3);have ce:=hid (dl.out.below hb3);clear hb3 HE;go_wp2_with (first
   | (refine aB (bC lY ?_) ?_; · exact ⟨_,rfl,rfl⟩)
   | (refine bA ce.out rfl nd0 none 0 0 rfl rfl _ _ rfl rfl rfl rfl ?_))
  have iz:=hid (bX HB3.out (show w.heap.size<=w.heap.size+1 by omega) (ndC nd0 none 0 0));exact bodyPost_ret (dU (p:=2) (u:=3) rfl _ rfl (dG ce.out) rfl) rfl ⟨none,0,0,none,0,[],rfl,.inl ⟨rfl,rfl⟩,BsF.nil _ _,⟨aH,Nat.zero_le _,rfl,λ_=>rfl,λ_ h=>absurd h (Nat.not_lt_zero _)⟩,Are.nil M,λ_ e=>(by cases e),Fr.below M iz.out,HI.out.below iz.out,HT.out.below iz.out HT.out.pos⟩
 exact hgo
theorem Uw (M:Mp) (b:Nat) (t:T) (hm:M.at_ b=some t) (hn:t ≠ .nil) {L:Nat} (g:Tr.Good t L) (hL:L<=64) (w:World) (hi:eG M (sz t) w) {pa:aL} {pn pc:Nat} {ka:aL} {kn kc:Nat} (hB:Body M w b t pa pn pc ka kn kc) (hT:Tab w)
  (gm:∀ q s,t = .ext q s->mW s) (hR2:∀ ks,t = .br ks->∀ i,mW (ks i)) :
  Calls prog 63 #[.agg #[.pointer (some ⟨b,0,none⟩)]] w (nu M t w):=by
 by_cases hs:gK t
 .obtain ⟨r,rfl⟩:∃ r,t = .stub r:=by
   cases t with
   | stub r=>exact ⟨r,rfl⟩
   | _=>exact hs.elim
  refine (Hr (some ⟨b,0,none⟩) (-1) (by decide) (by decide) (by decide) w (λwx hbx=>nM b (-1) wx (aX hbx hB.c0))).mono ?_;rintro e w' ⟨rfl,hb⟩;exact ⟨none,0,0,rfl,BsF.nil _ _,FrN.below M _ hb,hi.below hb⟩
 .exact KJ M b t hm hs hn g hL w hi hB hT gm hR2
theorem Tp (M:Mp) (p:aL) (t:T) (L:Nat) (g:Tr.Good t L) (hL:L<=64) (f:Fine t) (w:World) (hi:Inv M w) (ht:IsT M p t) (hT:Tab w) :
  Calls prog 92 #[tv p] w (Gl M w t):=by
 by_cases hne:t = .nil
 .subst hne;have:p=none:=ht.vG.2 rfl;subst this;exact Qw M w hi hT
 obtain ⟨b,rfl,hm⟩:=ht.at_ hne;obtain ⟨pa,pn,pc,ka,kn,kc,hB⟩:=(hi.part hm).body;obtain ⟨w2,hw2,aE,bc,hb2,hs2⟩:=wS w (some ⟨b,0,none⟩);have hlb:=hi.lt hm;have hB2:=hB.below hb2;have hi2:=hi.below hb2;have fR:=hT.below hb2 hT.pos;have hkn:kn<=16:=by
  rw [<-hB.hk.len];cases t with
  | br ks=>rw [show jr (.br ks)=(List.finRange 16).map ks from rfl]; simp
  | ext q s=>show 1<=16; omega
  | _=>exact Nat.zero_le _
 have HE:Hid (∀ w3,Below w2.heap.size w2 w3->(w3.cell? ⟨w.heap.size,0,none⟩=some (.pointer (some ⟨b,0,none⟩))/\w3.cell? ⟨b,3,none⟩=some (.slice ka kn kc))/\
   Calls prog 63 #[.agg #[.pointer (some ⟨b,0,none⟩)]] w3.drew (nu M t w3.drew)/\
   ∀ w6 a6 n6 c6,BsF w3.heap.size w6 a6 n6 c6 (bV t).p->FrN M (sz t) w3.drew w6->eG M (sz t) w6->(w6.cell? ⟨w.heap.size,0,none⟩=some (.pointer (some ⟨b,0,none⟩))/\w6.cell? ⟨b,3,none⟩=some (.slice ka kn kc))/\
   ∃ ps,(Calls prog 125 #[.slice ka kn kc] w6 λe w'=>∃ v,e = .returned v/\uY w6.heap.size w' v ps/\Below w6.heap.size w6 w')/\
   ∀ w7 v7,uY w6.heap.size w7 v7 ps->Below w6.heap.size w6 w7->(w7.cell? ⟨w.heap.size,0,none⟩=some (.pointer (some ⟨b,0,none⟩))/\w7.cell? ⟨b,3,none⟩=some (.slice ka kn kc))/\
   (Calls prog 130 #[v7,.func (Fn.func 124) #[] #[]] w7 λe w'=>∃ v',e = .returned v'/\uY w6.heap.size w' v' (lM ps)/\Below w6.heap.size w7 w')/\
   ∀ w8 v8,uY w6.heap.size w8 v8 (lM ps)->Below w6.heap.size w7 w8->(w8.cell? ⟨w.heap.size,0,none⟩=some (.pointer (some ⟨b,0,none⟩))/\w8.cell? ⟨b,3,none⟩=some (.slice ka kn kc))/\dL w8 (w.heap.size+1) nd0 none 0 0/\
   ∀ w9,Rg.Upd w8 (w.heap.size+1) w9->(w9.cell? ⟨w.heap.size,0,none⟩=some (.pointer (some ⟨b,0,none⟩))/\w9.cell? ⟨b,3,none⟩=some (.slice ka kn kc))/\Gl M w t (.returned (.tuple #[.agg (ndC (bV t) a6 n6 c6),v8])) w9):=hid (λw3 hb3=>by
  have fx:Below w2.heap.size w2 w3.drew:=below_drewN hb3 1;have hi3:=hi2.below fx;have hB3:=hB2.below fx;have C4:=aE.below fx;have ol:=bc.below fx;have tx:=fR.below fx fR.pos;have hg0:M.at_ w.heap.size=none:=hi.out aH;have hg1:M.at_ (w.heap.size+1)=none:=hi.out (by omega);have hs3:=fx.size;refine ⟨⟨aV (j:=0) C4 rfl,hB3.c3⟩,Uw M b t hm hne g hL w3.drew (hi3.toN _) hB3 tx (λq s e=>by
   subst e;exact oI s _ g.2.2.2.2 (by have:=g.2.2.1; omega) f) (λks e i=>by
   subst e;exact oI (ks i) _ (g.2.2 i) (by omega) (f i)),λw6 a6 n6 c6 se eL pT=>?_⟩
  have ux:=yY C4 eL hg0;have C5:=yY ol eL hg1;have d8:=hB3.frN (hi3.toN (sz t)) eL hm aH;have GS:=hi3.after eL pT;have uA:=yX (hi3.toN (sz t)) eL tx;obtain ⟨ps,hps,har⟩:=d8.hk.ptrs;have hpl:ps.length=kn:=hps.2.2.1;have hs6:=eL.size;refine ⟨⟨aV (j:=0) ux rfl,d8.c3⟩,ps,wN ka kn kc ps w6 hps (by omega),λw7 v7 hv7 cH=>?_⟩;have LO:=ux.below cH;have LR:=aX cH d8.c3;refine ⟨⟨aV (j:=0) LO rfl,LR⟩,Kh ps v7 w7 hv7 cH.size (by omega),λw8 v8 C6 ej=>?_⟩;have j6:Below w6.heap.size w6 w8:=cH.trans ej;have C7:=ux.below j6
  have C8:=C5.below j6;have hc38:=aX j6 d8.c3;refine ⟨⟨aV (j:=0) C7 rfl,hc38⟩,C8,λw9 af=>?_⟩;have hne1:w.heap.size≠w.heap.size+1:=by omega
  have Y9:=GS.below j6;have hnf:¬ M.ft (w.heap.size+1):=hi.free (by omega);have hrow:=C6;obtain ⟨k8,Ya,rfl,Yb,Su⟩:=C6.ptrs;have C3:=j6.size;have Zl:w.heap.size+1<w6.heap.size:=C5.1;have LS:=uA.below j6 uA.pos;have Yc:∀ ad,k8=some ad->ad.block≠w.heap.size+1:=λad e=>by have:=Su ad e; omega
  refine ⟨⟨aV (j:=0) (C7.upd af hne1) rfl,by rw [World.cell?_of_block (af.block b (by omega))]; exact hc38⟩,a6,n6,c6,k8,Ya,lM ps,rfl,hrow.late (by omega) af (by omega),⟨uO (se.1.below j6) (gP C8 (Lx _ _ _ _)) af,λad e=>Nat.le_trans (Nat.le_trans hb2.size hb3.size) (se.2 ad e)⟩,Yb.upd af Yc,by rw [<-Kz g]; exact har.keep,λad e=>by have:=Su ad e; omega,?_,Y9.upd af hnf,λi hi=>by rw [World.cell?_of_block (af.block 0 (by have:=hT.pos; omega))]; exact LS i hi⟩
  exact ((((Fr.below M hb2).trans hi (Fr.below M fx)).trans hi eL.fr).trans hi (Fr.below M j6)).upd af (by omega))
 have HL:=hid (ig t);obtain ⟨N,hN⟩:=aA (bV t)
 rw [hN] at HL HE;have HN:=hid hN;have zE:=hid aE;have Sx:=hid (mh (some ⟨b,0,none⟩) w2);have HW:Hid (_=_):=hid hw2;clear aE bc hb2 hB hB2 hi2 fR hi hT hm hN g f hne ht hkn hw2;have hgo:Calls prog 92 #[.agg #[.pointer (some ⟨b,0,none⟩)]] w (Gl M w t):=by
  have uB:=zE;rw [HW.out] at uB;go_enter func92,ntmps92;go_wp2_with (first
   | (refine aB (aY _ _ _ (w.heap.size+1) (by simp) rfl) ?_)
   | (refine aB (aW (aV (j:=0) uB.out rfl) ⟨_,rfl,rfl⟩) ?_))
  rw [<-HW.out];refine Sx.out.mono ?_;rintro e w3 ⟨rfl,hb3⟩;obtain ⟨hS0,uC,HF⟩:=HE.out w3 hb3;replace uC:=hid uC;replace HF:=hid HF;clear hb3 HE HW zE uB Sx;go_wp2_with fail
  refine aD (S:=λw'=>w'.cell? ⟨w.heap.size,0,none⟩=some (.pointer (some ⟨b,0,none⟩))/\w'.cell? ⟨b,3,none⟩=some (.slice ka kn kc)) (hS0) λhld=>?_;refine aj 0 ?_ (hy:=by intro wz hSw; (refine aW hSw.1 ?_; exact ⟨_,rfl,rfl⟩));try simp only [Act.put,au]
  refine aj 2 ?_;try simp only [Act.put,au]
  refine aj 3 ?_ (hy:=by intro wz hSw; (obtain ⟨hcc,hcd⟩:=hSw; go_simp <;> with_reducible rfl));try simp only [Act.put,au]
  refine aj 4 ?_;try simp only [Act.put,au]
  refine aj 5 ?_;try simp only [Act.put,au]
  refine aj 6 ?_ (hy:=by intro wz hSw; (obtain ⟨hcc,hcd⟩:=hSw; go_simp <;> with_reducible rfl));try simp only [Act.put,au]
  refine ak 1 λK hK=>?_;go_simp;go_at_call 63
  (with_reducible refine uC.out.mono ?_)
  rintro e w6 ⟨a6,n6,c6,rfl,se,eL,pT⟩;rw [HN.out] at se ⊢;obtain ⟨ke,hH6⟩:=HF.out w6 a6 n6 c6 se eL pT;have H6:=hid hH6;clear se eL pT hH6;refine hK.out _ _ (ke) λhld=>?_;clear hK K;try simp only [Act.put,au]
  refine ak 7 λK hK=>?_;go_simp;go_at_call 125
  obtain ⟨ps,SD,hD7⟩:=H6.out;have HD7:=hid hD7
  (with_reducible refine SD.mono ?_)
  rintro e w7 ⟨v7,rfl,hv7,cH⟩;obtain ⟨C9,Cd,SJ⟩:=HD7.out w7 v7 hv7 cH;have H7:=hid SJ;have Yd:=hid Cd;clear hv7 cH Cd SJ hD7 SD;refine hK.out _ _ (C9) λhld=>?_;clear hK K;try simp only [Act.put,au]
  refine ak 8 λK hK=>?_;go_simp;go_at_call 130
  (with_reducible refine Yd.out.mono ?_)
  rintro e w8 ⟨v8,rfl,C6,ej⟩;obtain ⟨rc,ll,ot⟩:=H7.out w8 v8 C6 ej;have H8:=hid ot;have cU:=hid ll;clear C6 ej ot ll;refine hK.out _ _ (rc) λhld=>?_;clear hK K;try simp only [Act.put,au]
  refine ak 9 λK hK=>?_;refine Rg.meetStore (by rfl) cU.out 67 (ndC N a6 n6 c6) ⟨_,_,rfl,rfl,rfl⟩ (gH _ _ _ _ HL.out) (by rw [dD _ _ _ _ bK,dD _ _ _ _ HL.out]) (jf _ _ _ _) ?_;intro w9 ae af;have b8:=hid ae;obtain ⟨pB,SM⟩:=H8.out w9 af;have H9:=hid SM;clear ae af SM;refine hK.out _ _ (pB) λhld=>?_;clear hK K;try simp only [Act.put,au]
  refine aj 10 ?_;try simp only [Act.put,au]
  refine aC ?_;go_wp2;exact bodyPost_ret (dU (p:=2) (u:=3) rfl _ rfl b8.out HL.out) rfl H9.out
 exact hgo
end Tm
end
section
open Go.RowKit
namespace Tm
open Tr Ni Pk
theorem Mx (M:Mp) (b:Nat) (t:T) (hm:M.at_ b=some t) (k:Nat) (A:T) (hkl:k<(dA t).length) (me:(dA t).length<=1000) (hn:Nib (dA t)) (w:World) (hi:Inv M w)
  (hcut:∀ wx M',Inv M' wx->M'.at_ b=some t->Calls prog 161 #[.agg #[.pointer (some ⟨b,0,none⟩)],.int .i64 (k+1:Nat)] wx (dQ M' wx A))
  (wa:aL) (wn wc:Nat) (way:Pa) (v:aM) (hW:Bs M w wa wn wc way) (SO:k<way.length) (hwn:Nib way) (hw64:way.length<=1000) (hne:(dA t).getD k 0≠way.getD k 0) :
  Calls prog 128 #[.agg #[.pointer (some ⟨b,0,none⟩)],.int .i64 k,.slice wa wn wc,.string v] w (dQ M w (wrap (way.take k) (two (nb ((dA t).getD k 0)) (nb (way.getD k 0)) A (.leaf (way.drop (k+1)) v)))):=by
 obtain ⟨w2,hw2,aE,bc,hb2,hs2⟩:=mY w (some ⟨b,0,none⟩);have hi2:=hi.below hb2;have hS2:St M w M w2:=⟨Fr.below M hb2,hi2,hb2,hi⟩
 have hX2:Bx M w2 (w.heap.size+1) #[.pointer none] 46:=⟨bc,hi.free (by omega),jK _⟩
 obtain ⟨pa,pn,pc,c1,hP⟩:=hi2.path hm;have hpn:(dA t).length=pn:=hP.1.len;have hwl:way.length=wn:=hW.1.len;rw [hpn] at hkl me;rw [hwl] at SO hw64;obtain ⟨pb,po,rfl,_,cx⟩:=hP.1.at' k hkl;have hW2:=hW.fr hi (Fr.below M hb2);obtain ⟨wb,wo,rfl,_,cy⟩:=hW2.1.at' k SO;have hx:((dA t).getD k 0).toNat<16:=by
  have:=hn ((dA t).getD k 0) (by rw [List.getD_eq_getElem?_getD,List.getElem?_eq_getElem (by omega)]; exact List.getElem_mem _);exact this
 have hy:(way.getD k 0).toNat<16:=by
  have:=hwn (way.getD k 0) (by rw [List.getD_eq_getElem?_getD,List.getElem?_eq_getElem (by omega)]; exact List.getElem_mem _);exact this
 have hnx:((nb ((dA t).getD k 0)).val:Nat)=((dA t).getD k 0).toNat:=Nat.mod_eq_of_lt hx;have hny:((nb (way.getD k 0)).val:Nat)=(way.getD k 0).toNat:=Nat.mod_eq_of_lt hy;have hnn:nb ((dA t).getD k 0)≠nb (way.getD k 0):=λe=>hne (uo hx hy e);obtain ⟨X,hX⟩:=aA (nb ((dA t).getD k 0))
 obtain ⟨Y,hY⟩:=aA (nb (way.getD k 0))
 rw [hX] at hnx hnn ⊢;rw [hY] at hny hnn ⊢;obtain ⟨x,hxe⟩:=aA (((dA t).getD k 0).toNat)
 obtain ⟨y,hye⟩:=aA ((way.getD k 0).toNat)
 rw [hxe] at hx cx hnx;rw [hye] at hy cy hny;obtain ⟨w3,hw3⟩:=ay (w2.alloc (.cells (uF vY) 46))
 have hb3:Below w2.heap.size w2 w3:=by rw [hw3]; exact al1 _ _
 have ym:Rx M w3 w2.heap.size vY:=⟨by rw [hw3]; exact Rg.Own.new _ _ _,hi2.free aH,by rw [oU]; simp [maxLen]⟩
 have hxi:(x:Int)<16:=by omega
 have hyi:(y:Int)<16:=by omega
 have lm:=hP.1.1;have hpm:=hP.1.2.1;have lr:=hW.1.1;have rd:=hW.1.2.1;unfold maxLen at hpm rd;have HAdd:Hid (IntKind.i64.wrap ((k:Int)+1)=((k+1:Nat):Int)):=hid (by simp only [IntKind.wrap_i64,wrap64]; omega);have LT:Hid (∀ wx,Below w2.heap.size w2 wx->Calls prog 161 #[.agg #[.pointer (some ⟨b,0,none⟩)],.int .i64 ((k:Int)+1)] wx (dQ M wx A)):=hid (λwx hb=>hcut wx M (hi2.below hb) hm);obtain ⟨g,hg⟩:=aA w2.heap.size
 rw [hg] at ym;have Cf:Hid (∀ wx e w4,Below w3.heap.size w3 wx->Below w2.heap.size w2 wx->dQ M wx A e w4->∃ p4 M4,e = .returned (tv p4)/\Below w2.heap.size w2 w4/\Rx M4 w4 g vY/\
   ∀ w5,Rx M4 w5 g (vY.set x p4)->Rg.Upd w4 g w5->Below w2.heap.size w2 w5/\Calls prog 87 #[.slice (eX (some ⟨wb,wo,none⟩) wc (k+1)) (wn-(k+1)) (wc-(k+1)),.string v] w5.drew (dQ M4 w5.drew (.leaf (way.drop (k+1)) v))/\
   ∀ e w6,dQ M4 w5.drew (.leaf (way.drop (k+1)) v) e w6->∃ p6 M6,e = .returned (tv p6)/\Below w2.heap.size w2 w6/\Rx M6 w6 g (vY.set x p4)/\
   ∀ w7,Rx M6 w7 g ((vY.set x p4).set y p6)->Rg.Upd w6 g w7->∃ M7,Below w2.heap.size w2 w7/\Calls prog 126 #[.slice (some ⟨g,0,none⟩) 16 16] w7.drew (dQ M7 w7.drew (two X Y A (.leaf (way.drop (k+1)) v)))/\
   ∀ e w8,dQ M7 w7.drew (two X Y A (.leaf (way.drop (k+1)) v)) e w8->∃ p8 M8,e = .returned (tv p8)/\Below w2.heap.size w2 w8/\Calls prog 129 #[.slice (some ⟨wb,wo,none⟩) k wc,.agg #[.pointer p8]] w8 (dQ M8 w8 (wrap (way.take k) (two X Y A (.leaf (way.drop (k+1)) v))))/\
   ∀ e w9,dQ M8 w8 (wrap (way.take k) (two X Y A (.leaf (way.drop (k+1)) v))) e w9->∃ p9,e = .returned (tv p9)/\Below w2.heap.size w2 w9/\Rg.Own w9 (w.heap.size+1) #[.pointer none] 46/\
   ∀ ai,Rg.Upd w9 (w.heap.size+1) ai->Below w.heap.size w ai/\dQ M w (wrap (way.take k) (two X Y A (.leaf (way.drop (k+1)) v))) (.returned (tv p9)) ai):=hid (by
  intro wx e w4 h3x h2x hG;have hsx:St M w M wx:=hS2.below h2x;obtain ⟨p4,M4,rfl,Ha,tM,tA,hb4⟩:=hsx.got hG;have sd:=(ym.below h3x).got tA hb4;have Ye:=(hX2.below h2x).got tA hb4;have gR:=bst h2x hb4;refine ⟨p4,M4,rfl,gR,sd,λw5 pv cq=>?_⟩;have hlo:w.heap.size<=g:=by omega
  have hS5:St M w M4 w5:=tM.upd cq hlo sd.n;have Cl:=Ye.upd cq (by omega);have Cp:=cq.below gR (by omega);have Zm:Bs M4 w5 (some ⟨wb,wo,none⟩) wn wc way:=hW.fr hi hS5.f;have vf:=hS5.below (below_drewN aI 1);refine ⟨Cp,nV M4 _ _ _ _ _ _ vf.i (hW.fr hi vf.f |>.from' (k+1) (by omega)),λe w6 Yf=>?_⟩;obtain ⟨p6,M6,rfl,uA,ke,eL,hb6⟩:=vf.got Yf;have SR:=(pv.below (below_drewN aI 1)).got eL hb6;have Yg:=(Cl.below (below_drewN aI 1)).got eL hb6;have Cs:Below w2.heap.size w2 w6:=bst (Cp.drew) hb6
  refine ⟨p6,M6,rfl,Cs,SR,λw7 sm cE=>?_⟩;have C9:St M w M6 w7:=ke.upd cE hlo SR.n;have Yh:=Yg.upd cE (by omega);have CA:=cE.below Cs (by omega);have CC:=(C9.below (below_drewN aI 1)).plus (S:=λk=>k=g) (λk hk=>⟨Or.inl (by omega),by rw [hk]; exact sm.o.1⟩);have nf:Are M6 ((vY.set x p4).set y p6) (((List.replicate 16 T.nil).set x A).set y (.leaf (way.drop (k+1)) v)):=((PZ M6).set x (Ha.mono eL.mono)).set y uA;rw [<-hnx,<-hny,VB X Y _ _ hnn] at nf;have yn:=(sm.below (below_drewN aI 1)).ks (by rw [<-hnx,<-hny]; exact nf)
  have hlen:((vY.set x p4).set y p6).length=16:=by simp [oU]
  rw [hlen] at yn;have M3:=(Yh.below (below_drewN (Below.refl w7.heap.size w7) 1)).plus (S:=λk=>k=g) (by omega);refine ⟨_,CA,kE _ _ _ _ _ _ CC.i yn,λe w8 Yi=>?_⟩;obtain ⟨p8,M8,rfl,LS,rc,Yj,ej⟩:=CC.got Yi;have Yk:=M3.got Yj ej;have CD:Below w2.heap.size w2 w8:=bst (CA.drew) ej;refine ⟨p8,M8,rfl,CD,uE M8 _ _ _ _ _ _ w8 rc.i ((hW.fr hi rc.f).upto k (by omega)) LS,λe w9 CE=>?_⟩;obtain ⟨p9,M9,rfl,CH,pB,CI,cg⟩:=rc.got CE;have sn:=Yk.got CI cg;refine ⟨p9,rfl,bst CD cg,sn.o,λai hu=>?_⟩;have df:=pB.upd hu (by omega) sn.n
  exact ⟨df.b,p9,M9,rfl,CH,df.f,df.i,df.b⟩)
 have h0:=aV (j:=0) aE rfl;have hkp:k<pn:=hkl;have hkc:k<=wc:=by omega
 have Mb:k+1<=wn:=by omega
 have HB3:=hid hb3;obtain ⟨RR,hRR⟩:=aA (wrap (way.take k) (two X Y A (.leaf (way.drop (k+1)) v)))
 rw [hRR] at Cf ⊢;have J2:w2.heap.size=w.heap.size+2:=hs2;have CL:=aE;clear aE bc hb2 hs2 hi hi2 hP hW hW2 hS2 hX2 hcut hm hn hwn hne hnx hny hnn hX hY hxe hye ym hb3 hRR hpn hwl;obtain rfl:g=w.heap.size+2:=by omega
 have Mm:=hid (λe w4 (h:Below w2.heap.size w2 w3.drew)=>Cf.out w3.drew e w4 (below_drewN aI 1) h);have HW2:Hid (_=_):=hid hw2;have HW3:Hid (_=_):=hid hw3;have el:Hid (Rg.Own w2 w.heap.size #[.pointer (some ⟨b,0,none⟩)] 46):=hid CL;clear Cf hw2 hw3 CL;go_enter func128,ntmps128;go_wp2_with (first
  | (refine aB (bD _ _ _ (w.heap.size+1) (by simp) rfl) ?_)
  | (refine aB (MH (w.heap.size+2) (by simp) ⟨_,_,rfl,rfl,rfl⟩) ?_))
 rw [<-HW2.out,<-HW3.out];refine aD (S:=λw'=>Below w2.heap.size w2 w') (HB3.out.drew) λhld=>?_;refine aj 0 ?_;try simp only [Act.put,au]
 refine aj 1 ?_;try simp only [Act.put,au]
 refine aF 2 (λwz hSw=>aX hSw h0) ?_;try simp only [Act.put,au]
 refine aj 3 ?_;try simp only [Act.put,au]
 refine aj 4 ?_;try simp only [Act.put,au]
 refine aF 5 (λwz hSw=>aX hSw c1) ?_;try simp only [Act.put,au]
 refine aj 6 ?_;try simp only [Act.put,au]
 refine aj 7 ?_;try simp only [Act.put,au]
 refine aF 8 (λwz hSw=>aX hSw cx) ?_;try simp only [Act.put,au]
 refine aj 9 ?_ (hy:=by intro wz hSw; (refine aW (aX hSw h0) ?_; exact ⟨_,rfl,rfl⟩));try simp only [Act.put,au]
 refine aj 10 ?_;try simp only [Act.put,au]
 refine aj 11 ?_ (hy:=by intro wz hSw; (have q0:=HAdd.out; go_simp <;> with_reducible rfl));try simp only [Act.put,au]
 refine ak 12 λK hK=>?_;go_simp;go_at_call 161
 (with_reducible refine (LT.out _ hld).mono ?_)
 intro e w4 hG;obtain ⟨p4,M4,rfl,H4⟩:=Mm.out e w4 hld hG;replace H4:=hid H4;clear hG;have hB4:=H4.out.1;refine hK.out _ _ (hB4) λhld=>?_;clear hK K;try simp only [Act.put,au]
 refine aj 13 ?_;try simp only [Act.put,au]
 refine ak 14 λK hK=>?_;refine sO (by rfl) H4.out.2.1 (i:=x) (by simpa [oU] using hx) p4 ⟨_,_,rfl,rfl,rfl⟩ ?_;intro w5 pv cq;have H5:=hid (H4.out.2.2 w5 pv cq);clear pv cq;refine hK.out _ _ (H5.out.1) λhld=>?_;clear hK K;try simp only [Act.put,au]
 refine aC ?_;go_wp2_with fail
 refine aD (S:=λw'=>Below w2.heap.size w2 w') (H5.out.1.drew) λhld=>?_;refine aj 0 ?_;try simp only [Act.put,au]
 refine aj 1 ?_;try simp only [Act.put,au]
 refine aj 2 ?_;try simp only [Act.put,au]
 refine aj 3 ?_;try simp only [Act.put,au]
 refine aF 4 (λwz hSw=>aX hSw cy) ?_;try simp only [Act.put,au]
 refine aj 5 ?_;try simp only [Act.put,au]
 refine aj 6 ?_;try simp only [Act.put,au]
 refine aj 7 ?_ (hy:=by intro wz hSw; (have q0:=HAdd.out; go_simp <;> with_reducible rfl));try simp only [Act.put,au]
 refine aj 8 ?_ (hy:=by intro wz hSw; (refine jk (a:=some ⟨wb,wo,none⟩) (n:=wn) (c:=wc) (i:=k+1) fV iD Mb ?_; exact ⟨_,_,rfl,rfl,rfl⟩));try simp only [Act.put,au]
 refine aj 9 ?_;try simp only [Act.put,au]
 refine ak 10 λK hK=>?_;go_simp;go_at_call 87
 (with_reducible refine (H5.out.2.1).mono ?_)
 intro e w6 hG;obtain ⟨p6,M6,rfl,H6⟩:=H5.out.2.2 e w6 hG;replace H6:=hid H6;clear hG;have d8:=H6.out.1;refine hK.out _ _ (d8) λhld=>?_;clear hK K;try simp only [Act.put,au]
 refine aj 11 ?_;try simp only [Act.put,au]
 refine ak 12 λK hK=>?_;refine sO (by rfl) H6.out.2.1 (i:=y) (by simpa [oU] using hy) p6 ⟨_,_,rfl,rfl,rfl⟩ ?_;intro w7 sm cE;obtain ⟨M7,H7⟩:=H6.out.2.2 w7 sm cE;replace H7:=hid H7;clear sm cE;refine hK.out _ _ (H7.out.1) λhld=>?_;clear hK K;try simp only [Act.put,au]
 refine aC ?_;go_wp2_with fail
 refine aD (S:=λ_=>True) (trivial) λhld=>?_;refine aj 0 ?_;try simp only [Act.put,au]
 refine aj 1 ?_;try simp only [Act.put,au]
 refine aj 2 ?_ (hy:=by intro wz hSw; (refine yS (a:=some ⟨wb,wo,none⟩) (n:=wn) (c:=wc) (j:=k) fV iD hkc ?_; exact ⟨_,_,rfl,rfl,rfl⟩));try simp only [Act.put,au]
 refine aj 3 ?_;try simp only [Act.put,au]
 refine ak 4 λK hK=>?_;go_simp;go_at_call 126
 (with_reducible refine (H7.out.2.1).mono ?_)
 intro e w8 hG;obtain ⟨p8,M8,rfl,H8⟩:=H7.out.2.2 e w8 hG;replace H8:=hid H8;clear hG;have Zn:=H8.out.1;refine hK.out _ _ ?_ (λhld=>?_)
 .trivial
 clear hK K;try simp only [Act.put,au]
 refine ak 5 λK hK=>?_;go_simp;go_at_call 129
 (with_reducible refine (H8.out.2.1).mono ?_)
 intro e w9 hG;obtain ⟨p9,rfl,H9⟩:=H8.out.2.2 e w9 hG;replace H9:=hid H9;clear hG;have yo:=H9.out.1;refine hK.out _ _ ?_ (λhld=>?_)
 .trivial
 clear hK K;try simp only [Act.put,au]
 refine ak 6 λK hK=>?_;refine iX (by rfl) H9.out.2.1 (off:=0) (by decide) p9 ⟨_,_,rfl,rfl,rfl⟩ ?_;intro ai aw ax;have cP:=hid aw;have iS:=hid (H9.out.2.2 ai ax);clear aw ax;refine hK.out _ _ ?_ (λhld=>?_)
 .trivial
 clear hK K;try simp only [Act.put,au]
 refine aC ?_;go_wp2;exact bodyPost_ret (gL rfl _ rfl cP.out) rfl iS.out.2
theorem parted {q p:Pa} (hl:q.length<=p.length) (h:¬ q<+:p):cp q p<q.length/\q.getD (cp q p) 0≠p.getD (cp q p) 0:=by
 refine ⟨zZ h,?_⟩;have h2:¬ p<+:q:=λg=>h (by rw [g.eq_of_length (Nat.le_antisymm g.length_le hl)]; exact List.prefix_rfl);obtain ⟨s,a,b,q',p',e1,e2,hab,hc⟩:=pK q p h h2;rw [hc,e1,e2];have hg:∀ (x:UInt8) (r:Pa),(s++x::r).getD s.length 0=x:=λx r=>by simp [List.getD]
 rw [hg,hg];exact hab
structure Ahead (M:Mp) (w w2:World) (b:Nat) (t:T) (pa:aL) (pn pc:Nat):Prop where
 b2:Below w.heap.size w w2
 i2:Inv M w2
 x2:Bx M w2 (w.heap.size+1) #[.pointer none] 46
 c0:w2.cell? ⟨w.heap.size,0,none⟩=some (.pointer (some ⟨b,0,none⟩))
 c1:w2.cell? ⟨b,1,none⟩=some (.slice pa pn pc)
 p:Bs M w2 pa pn pc (dA t)
theorem ahead (M:Mp) (b:Nat) (t:T) (hm:M.at_ b=some t) (w:World) (hi:Inv M w):∃ w2 pa pn pc,w2=(w.alloc (.cells #[.pointer (some ⟨b,0,none⟩)] 46)).alloc (.cells #[.pointer none] 46)/\Ahead M w w2 b t pa pn pc/\w2.heap.size=w.heap.size+2:=by
 obtain ⟨w2,hw2,aE,bc,hb2,hs2⟩:=mY w (some ⟨b,0,none⟩);have hi2:=hi.below hb2;obtain ⟨pa,pn,pc,c1,hP⟩:=hi2.path hm;exact ⟨w2,pa,pn,pc,hw2,⟨hb2,hi2,⟨bc,hi.free (by omega),jK _⟩,aV (j:=0) aE rfl,c1,hP⟩,hs2⟩
theorem xJ (M:Mp) (b:Nat) (t:T) (hm:M.at_ b=some (t)) (w:World) (hi:Inv M w) (wa:aL) (wn wc:Nat) (way:Pa) (v:aM) (hW:Bs M w wa wn wc way) (hw64:way.length<=64) (hle:(dA (t)).length<=way.length) (h:¬ dA t<+:way) (hn:Nib (dA t)) (hwn:Nib way) (A:T)
  (hcut:∀ wx M',Inv M' wx->M'.at_ b=some t->Calls prog 161 #[.agg #[.pointer (some ⟨b,0,none⟩)],.int .i64 (cp (dA t) way+1:Nat)] wx (dQ M' wx A)) :
  Calls prog 86 #[.agg #[.pointer (some ⟨b,0,none⟩)],.slice wa wn wc,.string v] w (dQ M w (wrap (way.take (cp (dA t) way)) (two (nb ((dA t).getD (cp (dA t) way) 0)) (nb (way.getD (cp (dA t) way) 0)) A (.leaf (way.drop (cp (dA t) way+1)) v)))):=by
 obtain ⟨w2,pa,pn,pc,hw2,hA,hs2⟩:=ahead M b _ hm w hi;have hpn:=hA.p.1.len;have hwl:way.length=wn:=hW.1.len;have lm:=hA.p.1.1;have hpm:=hA.p.1.2.1;have lr:=hW.1.1;have rd:=hW.1.2.1;unfold maxLen at hpm rd;obtain ⟨hk1,hk2⟩:=parted hle h;have ec:=hid (qh pa wa pn wn pc wc (dA t) way (by omega) (by omega) (by omega) w2 hA.p.1 (rW hi hW.1 (Fr.below M hA.b2)));obtain ⟨R,hR⟩:=aA (wrap (way.take (cp (dA t) way)) (two (nb ((dA t).getD (cp (dA t) way) 0)) (nb (way.getD (cp (dA t) way) 0)) A (.leaf (way.drop (cp (dA t) way+1)) v)))
 rw [hR];have HS:Hid (∀ w3,Below w2.heap.size w2 w3->w3.cell? ⟨w.heap.size,0,none⟩=some (.pointer (some ⟨b,0,none⟩))/\Calls prog 128 #[.agg #[.pointer (some ⟨b,0,none⟩)],.int .i64 (cp (dA t) way:Nat),.slice wa wn wc,.string v] w3 (dQ M w3 R)/\
   ∀ e w9,dQ M w3 R e w9->∃ p,e = .returned (tv p)/\Rg.Own w9 (w.heap.size+1) #[.pointer none] 46/\∀ ai,Rg.Upd w9 (w.heap.size+1) ai->dQ M w R (.returned (tv p)) ai):=hid (λw3 hb3 =>
  ⟨aX hb3 hA.c0,by rw [<-hR]; exact Mx M b t hm (cp (dA t) way) A hk1 (by omega) hn w3 (hA.i2.below hb3) hcut wa wn wc way v (hW.fr hi (Fr.below M (bst hA.b2 hb3))) (by omega) hwn (by omega) hk2,
   λe w9 hG=>finish hi (Fr.below M (bst hA.b2 hb3)) (bst hA.b2 hb3) hG (hA.x2.o.below hb3) (jK _) (by omega) hA.x2.n⟩)
 have hlt:decide (((cp (dA t) way:Nat):Int)<(pn:Int))=true:=by simp; omega
 obtain ⟨k,hk⟩:=aA (cp (dA t) way)
 rw [hk] at ec HS hlt;have hlt2:(k:Int)<(pn:Int):=by have:=of_decide_eq_true hlt; exact this
 have hlt3:k<pn:=by omega
 have h0:=hA.c0;have c1:=hA.c1;clear hR hk hA hW hi hm hle h hn hwn hcut hk1 hk2 hpn hwl;subst hw2;go_enter func86,ntmps86;go_wp2_with (refine aB (bD _ _ _ (w.heap.size+1) (by simp) rfl) ?_)
 refine ec.out.mono ?_;rintro e w3 ⟨rfl,hb3⟩;obtain ⟨d0,HC,HF⟩:=HS.out w3 hb3;replace HC:=hid HC;replace HF:=hid HF;clear hb3 HS ec h0 c1;go_wp2_with (refine aB (aW d0 ⟨_,rfl,rfl⟩) ?_)
 refine HC.out.mono ?_;intro e w9 hG;obtain ⟨p9,rfl,ae,hE⟩:=HF.out e w9 hG;have b8:=hid ae;have HE:=hid hE;clear hG ae hE;go_wp2_with (refine bU b8.out (by decide) p9 rfl _ _ rfl rfl rfl ?_; intro ai aw ax; have cP:=hid aw; have f9:=hid ax; clear aw ax)
 exact bodyPost_ret (gL rfl _ rfl cP.out) rfl (HE.out ai f9.out)
theorem JB (M:Mp) (b:Nat) (u:aM) (q:Pa) (hm:M.at_ b=some (.leaf q u)) (w:World) (hi:Inv M w) (wa:aL) (wn wc:Nat) (way:Pa) (v:aM) (hW:Bs M w wa wn wc way) (hw64:way.length<=64) (hle:(dA (.leaf q u)).length<=way.length) (h:q=way) :
  Calls prog 86 #[.agg #[.pointer (some ⟨b,0,none⟩)],.slice wa wn wc,.string v] w (dQ M w (.leaf q v)):=by
 obtain ⟨w2,pa,pn,pc,hw2,hA,hs2⟩:=ahead M b _ hm w hi;have hpn:=hA.p.1.len;have hwl:way.length=wn:=hW.1.len;have lm:=hA.p.1.1;have hpm:=hA.p.1.2.1;have lr:=hW.1.1;have rd:=hW.1.2.1;unfold maxLen at hpm rd;have eC:q.length=pn:=hpn;subst h;obtain rfl:pn=wn:=by omega
 have ec:=hid (qh pa wa pn pn pc wc q q (by omega) (by omega) (by omega) w2 hA.p.1 (rW hi hW.1 (Fr.below M hA.b2)));rw [Aa (List.prefix_rfl),eC] at ec;have HS:Hid (∀ w3,Below w2.heap.size w2 w3->w3.cell? ⟨w.heap.size,0,none⟩=some (.pointer (some ⟨b,0,none⟩))/\Calls prog 83 #[.agg #[.pointer (some ⟨b,0,none⟩)]] w3 (λe w'=>e = .returned (.int .i64 1)/\Below w3.heap.size w3 w')/\
   ∀ w4,Below w3.heap.size w3 w4->Calls prog 87 #[.slice pa pn pc,.string v] w4 (dQ M w4 (.leaf q v))/\
   ∀ e w9,dQ M w4 (.leaf q v) e w9->∃ p,e = .returned (tv p)/\Rg.Own w9 (w.heap.size+1) #[.pointer none] 46/\∀ ai,Rg.Upd w9 (w.heap.size+1) ai->dQ M w (.leaf q v) (.returned (tv p)) ai):=hid (λw3 hb3 =>
  ⟨aX hb3 hA.c0,eZ M _ _ w3 (hA.i2.below hb3) (jZ (hA.i2.below hb3) hm),λw4 hb4=>⟨nV M _ _ _ _ _ w4 (hA.i2.below (bst hb3 hb4)) (hA.p.fr hA.i2 (Fr.below M (bst hb3 hb4))),
   λe w9 hG=>finish hi (Fr.below M (bst hA.b2 (bst hb3 hb4))) (bst hA.b2 (bst hb3 hb4)) hG (hA.x2.o.below (bst hb3 hb4)) (jK _) (by omega) hA.x2.n⟩⟩)
 have hlt:decide ((pn:Int)<(pn:Int))=false:=by simp
 have h0:=hA.c0;have c1:=hA.c1;clear hA hW hi hm hle hpn eC hwl;subst hw2;go_enter func86,ntmps86;go_wp2_with (refine aB (bD _ _ _ (w.heap.size+1) (by simp) rfl) ?_)
 refine ec.out.mono ?_;rintro e w3 ⟨rfl,hb3⟩;obtain ⟨d0,HK,H4⟩:=HS.out w3 hb3;replace HK:=hid HK;replace H4:=hid H4;clear hb3 HS ec h0 c1;go_wp2_with (refine aB (aW d0 ⟨_,rfl,rfl⟩) ?_)
 refine HK.out.mono ?_;rintro e w4 ⟨rfl,hb4⟩;obtain ⟨HC,HF⟩:=H4.out w4 hb4;replace HC:=hid HC;replace HF:=hid HF;clear hb4 H4 HK;go_wp2_with fail
 refine HC.out.mono ?_;intro e w9 hG;obtain ⟨p9,rfl,ae,hE⟩:=HF.out e w9 hG;have b8:=hid ae;have HE:=hid hE;clear hG ae hE;go_wp2_with (refine bU b8.out (by decide) p9 rfl _ _ rfl rfl rfl ?_; intro ai aw ax; have cP:=hid aw; have f9:=hid ax; clear aw ax)
 exact bodyPost_ret (gL rfl _ rfl cP.out) rfl (HE.out ai f9.out)
theorem OX (M:Mp) (b:Nat) (q:Pa) (s:T) (hm:M.at_ b=some (.ext q s)) (w:World) (hi:Inv M w) (wa:aL) (wn wc:Nat) (way:Pa) (v:aM) (hW:Bs M w wa wn wc way) (hw64:way.length<=64) (hle:(dA (.ext q s)).length<=way.length) (h:q<+:way) (hq:q≠[]) (hg:Tr.get s (way.drop q.length)≠none)
  (hS:∀ M' w' p a n c,Inv M' w'->IsT M' p s->Bs M' w' a n c (way.drop q.length)->Calls prog 53 #[.agg #[.pointer p],.slice a n c,.string v] w' (dQ M' w' (put s (way.drop q.length) v))) :
  Calls prog 86 #[.agg #[.pointer (some ⟨b,0,none⟩)],.slice wa wn wc,.string v] w (dQ M w (.ext q (put s (way.drop q.length) v))):=by
 obtain ⟨w2,pa,pn,pc,hw2,hA,hs2⟩:=ahead M b _ hm w hi;have hpn:=hA.p.1.len;have hwl:way.length=wn:=hW.1.len;have lm:=hA.p.1.1;have hpm:=hA.p.1.2.1;have lr:=hW.1.1;have rd:=hW.1.2.1;unfold maxLen at hpm rd;have eC:q.length=pn:=hpn;have ec:=hid (qh pa wa pn wn pc wc q way (by omega) (by omega) (by omega) w2 hA.p.1 (rW hi hW.1 (Fr.below M hA.b2)));rw [Aa h,eC] at ec;have hpw:pn<=wn:=by rw [<-eC,<-hwl]; exact hle
 rw [eC] at hS ⊢;obtain ⟨ka,kn,kc,c3,hK⟩:=hA.i2.kids hm;obtain ⟨kb,ko,p0,rfl,eW,ix,hk0,hT0⟩:=hK.at' 0 (by rw [<-hK.len]; exact Nat.one_pos);have hkn:kn=1:=hK.len.symm;have hkc:=hK.1;have hkm:=hK.2.1;unfold maxLen at hkm;rw [Nat.add_zero] at hk0;have cz:IsT M p0 s:=hT0;have hbl:=hi.lt hm;have nh:=hi.lt_ kb ix
 have HS:Hid (∀ w3,Below w2.heap.size w2 w3->w3.cell? ⟨w.heap.size,0,none⟩=some (.pointer (some ⟨b,0,none⟩))/\Calls prog 83 #[.agg #[.pointer (some ⟨b,0,none⟩)]] w3 (λe w'=>e = .returned (.int .i64 2)/\Below w3.heap.size w3 w')/\
   ∀ w4,Below w3.heap.size w3 w4->(w4.cell? ⟨w.heap.size,0,none⟩=some (.pointer (some ⟨b,0,none⟩))/\w4.cell? ⟨b,3,none⟩=some (.slice (some ⟨kb,ko,none⟩) kn kc)/\w4.cell? ⟨kb,ko,none⟩=some (.pointer p0))/\
   (∀ wx,Below w4.heap.size w4 wx->Calls prog 53 #[.agg #[.pointer p0],.slice (eX wa wc pn) (wn-pn) (wc-pn),.string v] wx (dQ M wx (put s (way.drop pn) v)))/\∀ wx,Below w4.heap.size w4 wx->∀ e w5,dQ M wx (put s (way.drop pn) v) e w5->∃ p5 M5,e = .returned (tv p5)/\Below w4.heap.size w4 w5/\Calls prog 129 #[.slice pa pn pc,.agg #[.pointer p5]] w5 (dQ M5 w5 (.ext q (put s (way.drop pn) v)))/\
    ∀ e w9,dQ M5 w5 (.ext q (put s (way.drop pn) v)) e w9->∃ p9,e = .returned (tv p9)/\Below w4.heap.size w4 w9/\Rg.Own w9 (w.heap.size+1) #[.pointer none] 46/\∀ ai,Rg.Upd w9 (w.heap.size+1) ai->True/\dQ M w (.ext q (put s (way.drop pn) v)) (.returned (tv p9)) ai):=hid (λw3 hb3 =>
  ⟨aX hb3 hA.c0,eZ M _ _ w3 (hA.i2.below hb3) (jZ (hA.i2.below hb3) hm),λw4 hb4=>⟨⟨aX hb4 (aX hb3 hA.c0),aX hb4 (aX hb3 c3),aX hb4 (aX hb3 hk0)⟩,λwx hbx=>by
   have hB:=bst hA.b2 (bst (bst hb3 hb4) hbx);refine hS M wx p0 _ _ _ (hi.below hB) cz ?_;have:=(hW.fr hi (Fr.below M hB)).from' pn hpw;exact this,λwx hbx e w5 hG=>by
   have hB:=bst (bst hb3 hb4) hbx;have vh:St M w M wx:=⟨Fr.below M (bst hA.b2 hB),hi.below (bst hA.b2 hB),bst hA.b2 hB,hi⟩
   obtain ⟨p5,M5,rfl,ju,hS5,em,hb5⟩:=vh.got hG;have Cl:=(hA.x2.below hB).got em hb5;have hwr:wrap q (put s (way.drop pn) v) = .ext q (put s (way.drop pn) v):=if_neg hq;have hbe:=uE M5 pa pn pc q p5 (put s (way.drop pn) v) w5 hS5.i ((hA.p.fr hA.i2 (Fr.below M hB)).fr (hA.i2.below hB) em) ju;rw [hwr] at hbe;refine ⟨p5,M5,rfl,bst hbx hb5,hbe,λe w9 CE=>?_⟩;obtain ⟨p9,M9,rfl,CH,pB,CI,cg⟩:=hS5.got CE;have sn:=Cl.got CI cg;refine ⟨p9,rfl,bst (bst hbx hb5) cg,sn.o,λai hu=>?_⟩;have df:=pB.upd hu (by omega) sn.n
   exact ⟨trivial,p9,M9,rfl,CH,df.f,df.i,df.b⟩⟩⟩)
 have hlt:decide ((pn:Int)<(pn:Int))=false:=by simp
 have h0:=hA.c0;have c1:=hA.c1;clear hA hW hi hm hle hpn eC hwl hK hT0 cz c3 hk0 hS;subst hw2;go_enter func86,ntmps86;go_wp2_with (refine aB (bD _ _ _ (w.heap.size+1) (by simp) rfl) ?_)
 refine ec.out.mono ?_;rintro e w3 ⟨rfl,hb3⟩;obtain ⟨d0',HK,H4⟩:=HS.out w3 hb3;replace HK:=hid HK;replace H4:=hid H4;clear hb3 HS ec h0 c1;go_wp2_with (refine aB (aW d0' ⟨_,rfl,rfl⟩) ?_)
 refine HK.out.mono ?_;rintro e w4 ⟨rfl,hb4⟩;obtain ⟨⟨d0,d3,dk⟩,HC,HF⟩:=H4.out w4 hb4;replace HC:=hid HC;replace HF:=hid HF;clear hb4 H4 HK d0';go_wp2_with fail
 refine aD (S:=λw'=>Bo (w.heap.size+1) w4 w') (Bo.of (below_drewN aI 1)) λhld=>?_;refine aj 0 ?_;try simp only [Act.put,au]
 refine aj 1 ?_;try simp only [Act.put,au]
 refine aF 2 (λwz hSw=>gQ hSw (by omega) d0) ?_;try simp only [Act.put,au]
 refine aj 3 ?_;try simp only [Act.put,au]
 refine aj 4 ?_;try simp only [Act.put,au]
 refine aF 5 (λwz hSw=>gQ hSw (by omega) d3) ?_;try simp only [Act.put,au]
 refine aj 6 ?_;try simp only [Act.put,au]
 refine aj 7 ?_ (hy:=by intro wz hSw; (refine aW (gQ hSw (by omega) dk) ?_; exact ⟨_,rfl,rfl⟩));try simp only [Act.put,au]
 refine aj 8 ?_;try simp only [Act.put,au]
 refine aj 9 ?_;try simp only [Act.put,au]
 refine aj 10 ?_ (hy:=by intro wz hSw; (refine jk (a:=wa) (n:=wn) (c:=wc) (i:=pn) fV iD hpw ?_; exact ⟨_,_,rfl,rfl,rfl⟩));try simp only [Act.put,au]
 refine aj 11 ?_;try simp only [Act.put,au]
 refine ak 12 λK hK=>?_;go_simp;go_at_call 53
 (with_reducible refine (HC.out w4.drew (below_drewN aI 1)).mono ?_)
 intro e w5 hG;obtain ⟨p5,M5,rfl,eV,H5⟩:=HF.out w4.drew (below_drewN aI 1) e w5 hG;replace H5:=hid H5;clear hG;refine hK.out _ _ (Bo.of eV) λhld=>?_;clear hK K;try simp only [Act.put,au]
 refine ak 13 λK hK=>?_;go_simp;go_at_call 129
 (with_reducible refine (H5.out.1).mono ?_)
 intro e w9 hG;obtain ⟨p9,rfl,yo,H9⟩:=H5.out.2 e w9 hG;replace H9:=hid H9;clear hG;refine hK.out _ _ (Bo.of yo) λhld=>?_;clear hK K;try simp only [Act.put,au]
 refine ak 14 λK hK=>?_;refine iX (by rfl) H9.out.1 (off:=0) (by decide) p9 ⟨_,_,rfl,rfl,rfl⟩ ?_;intro ai aw ax;have cP:=hid aw;have iS:=hid (H9.out.2 ai ax);clear aw;refine hK.out _ _ ((Bo.of yo).upd ax) λhld=>?_;clear hK K;try simp only [Act.put,au]
 refine aC ?_;go_wp2;exact bodyPost_ret (gL rfl _ rfl cP.out) rfl iS.out.2
theorem JW (M:Mp) (b:Nat) (q:Pa) (s:T) (hm:M.at_ b=some (.ext q s)) (w:World) (hi:Inv M w) (wa:aL) (wn wc:Nat) (way:Pa) (v:aM) (hW:Bs M w wa wn wc way) (hw64:way.length<=64) (hle:(dA (.ext q s)).length<=way.length) (h:q<+:way)
  (hS:∀ M' w' p a n c,Inv M' w'->IsT M' p s->Bs M' w' a n c (way.drop q.length)->Calls prog 53 #[.agg #[.pointer p],.slice a n c,.string v] w' λe w''=>e = .panicked [fT 8]/\Below w'.heap.size w' w'') :
  Calls prog 86 #[.agg #[.pointer (some ⟨b,0,none⟩)],.slice wa wn wc,.string v] w (λe w'=>e = .panicked [fT 8]/\Below w.heap.size w w'):=by
 obtain ⟨w2,pa,pn,pc,hw2,hA,hs2⟩:=ahead M b _ hm w hi;have hpn:=hA.p.1.len;have hwl:way.length=wn:=hW.1.len;have lm:=hA.p.1.1;have hpm:=hA.p.1.2.1;have lr:=hW.1.1;have rd:=hW.1.2.1;unfold maxLen at hpm rd;have eC:q.length=pn:=hpn;have ec:=hid (qh pa wa pn wn pc wc q way (by omega) (by omega) (by omega) w2 hA.p.1 (rW hi hW.1 (Fr.below M hA.b2)));rw [Aa h,eC] at ec;have hpw:pn<=wn:=by rw [<-eC,<-hwl]; exact hle
 rw [eC] at hS ;obtain ⟨ka,kn,kc,c3,hK⟩:=hA.i2.kids hm;obtain ⟨kb,ko,p0,rfl,eW,ix,hk0,hT0⟩:=hK.at' 0 (by rw [<-hK.len]; exact Nat.one_pos);have hkn:kn=1:=hK.len.symm;have hkc:=hK.1;have hkm:=hK.2.1;unfold maxLen at hkm;rw [Nat.add_zero] at hk0;have cz:IsT M p0 s:=hT0;have hbl:=hi.lt hm;have nh:=hi.lt_ kb ix
 have HS:Hid (∀ w3,Below w2.heap.size w2 w3->w3.cell? ⟨w.heap.size,0,none⟩=some (.pointer (some ⟨b,0,none⟩))/\Calls prog 83 #[.agg #[.pointer (some ⟨b,0,none⟩)]] w3 (λe w'=>e = .returned (.int .i64 2)/\Below w3.heap.size w3 w')/\
   ∀ w4,Below w3.heap.size w3 w4->(w4.cell? ⟨w.heap.size,0,none⟩=some (.pointer (some ⟨b,0,none⟩))/\w4.cell? ⟨b,3,none⟩=some (.slice (some ⟨kb,ko,none⟩) kn kc)/\w4.cell? ⟨kb,ko,none⟩=some (.pointer p0))/\
   (∀ wx,Below w4.heap.size w4 wx->Calls prog 53 #[.agg #[.pointer p0],.slice (eX wa wc pn) (wn-pn) (wc-pn),.string v] wx (λe w''=>e = .panicked [fT 8]/\Below wx.heap.size wx w''))/\∀ wx,Below w4.heap.size w4 wx->Below w.heap.size w wx):=hid (λw3 hb3 =>
  ⟨aX hb3 hA.c0,eZ M _ _ w3 (hA.i2.below hb3) (jZ (hA.i2.below hb3) hm),λw4 hb4=>⟨⟨aX hb4 (aX hb3 hA.c0),aX hb4 (aX hb3 c3),aX hb4 (aX hb3 hk0)⟩,λwx hbx=>by
   have hB:=bst hA.b2 (bst (bst hb3 hb4) hbx);refine hS M wx p0 _ _ _ (hi.below hB) cz ?_;have:=(hW.fr hi (Fr.below M hB)).from' pn hpw;exact this,λwx hbx=>bst hA.b2 (bst (bst hb3 hb4) hbx)⟩⟩)
 have hlt:decide ((pn:Int)<(pn:Int))=false:=by simp
 have h0:=hA.c0;have c1:=hA.c1;clear hA hW hi hm hle hpn eC hwl hK hT0 cz c3 hk0 hS;subst hw2;go_enter func86,ntmps86;go_wp2_with (refine aB (bD _ _ _ (w.heap.size+1) (by simp) rfl) ?_)
 refine ec.out.mono ?_;rintro e w3 ⟨rfl,hb3⟩;obtain ⟨d0',HK,H4⟩:=HS.out w3 hb3;replace HK:=hid HK;replace H4:=hid H4;clear hb3 HS ec h0 c1;go_wp2_with (refine aB (aW d0' ⟨_,rfl,rfl⟩) ?_)
 refine HK.out.mono ?_;rintro e w4 ⟨rfl,hb4⟩;obtain ⟨⟨d0,d3,dk⟩,HC,HF⟩:=H4.out w4 hb4;replace HC:=hid HC;replace HF:=hid HF;clear hb4 H4 HK d0';go_wp2_with fail
 refine wp_region_held_drew (S:=λw'=>Bo (w.heap.size+1) w4 w') (by kernel_rfl) (Bo.of (below_drewN aI 1)) (λhld=>?_);refine aj 0 ?_;try simp only [Act.put,au]
 refine aj 1 ?_;try simp only [Act.put,au]
 refine aF 2 (λwz hSw=>gQ hSw (by omega) d0) ?_;try simp only [Act.put,au]
 refine aj 3 ?_;try simp only [Act.put,au]
 refine aj 4 ?_;try simp only [Act.put,au]
 refine aF 5 (λwz hSw=>gQ hSw (by omega) d3) ?_;try simp only [Act.put,au]
 refine aj 6 ?_;try simp only [Act.put,au]
 refine aj 7 ?_ (hy:=by intro wz hSw; (refine aW (gQ hSw (by omega) dk) ?_; exact ⟨_,rfl,rfl⟩));try simp only [Act.put,au]
 refine aj 8 ?_;try simp only [Act.put,au]
 refine aj 9 ?_;try simp only [Act.put,au]
 refine aj 10 ?_ (hy:=by intro wz hSw; (refine jk (a:=wa) (n:=wn) (c:=wc) (i:=pn) fV iD hpw ?_; exact ⟨_,_,rfl,rfl,rfl⟩));try simp only [Act.put,au]
 refine aj 11 ?_;try simp only [Act.put,au]
 refine ak 12 λK hK=>?_;go_simp;go_at_call 53
 (with_reducible refine (HC.out w4.drew (below_drewN aI 1)).mono ?_)
 rintro e w5 ⟨rfl,hb5⟩;simp +zetaDelta [bodyPost,Exit.then];exact bst (HF.out w4.drew (below_drewN aI 1)) hb5
theorem VL (ks:Fin 16->T) (M:Mp) (b:Nat) (hm:M.at_ b=some (.br ks)) (w:World) (hi:Inv M w) (wa:aL) (wn wc:Nat) (c0:UInt8) (r:Pa) (v:aM) (hW:Bs M w wa wn wc (c0::r)) (hc0:c0.toNat<16) (hlen:(c0::r).length<=64)
  (ih:∀ M' w' p a n c,Inv M' w'->IsT M' p (ks (nb c0))->Bs M' w' a n c r->Calls prog 53 #[.agg #[.pointer p],.slice a n c,.string v] w' (dQ M' w' (put (ks (nb c0)) r v))) :
  Calls prog 53 #[.agg #[.pointer (some ⟨b,0,none⟩)],.slice wa wn wc,.string v] w (dQ M w (.br λj=>if j=nb c0 then put (ks (nb c0)) r v else ks j)):=by
  obtain ⟨w2,hw2,aE,bc,hb2,hs2⟩:=mY w (some ⟨b,0,none⟩);have hi2:=hi.below hb2;have hX2:Bx M w2 (w.heap.size+1) #[.pointer none] 46:=⟨bc,hi.free (by omega),jK _⟩
  have hwl:(c0::r).length=wn:=hW.1.len;have AR:r.length+1=wn:=by rw [<-hwl]; rfl
  have h0:=aV (j:=0) aE rfl;have HK:=hid (eZ M _ _ w2 hi2 (jZ hi2 hm));obtain ⟨ka,kn,kc,c3,hKs⟩:=hi2.kids hm;have hkn:kn=16:=by rw [<-hKs.len]; exact gD ks
  subst hkn;have hnx:((nb c0).val:Nat)=c0.toNat:=Nat.mod_eq_of_lt hc0;obtain ⟨kb,ko,p0,rfl,eW,ix,hk0,hT0⟩:=hKs.at' c0.toNat hc0;have cz:IsT M p0 (ks (nb c0)):=by
   rw [<-hnx,kM] at hT0;exact hT0
  have hbl:=hi.lt hm;have nh:=hi.lt_ kb ix;have hkc:=hKs.1;have hkm:=hKs.2.1;unfold maxLen at hkm;have hx16:c0.toNat<16:=hc0;have hxi:((c0.toNat:Nat):Int)<16:=by omega
  have HT:Hid (∀ w3,Below w2.heap.size w2 w3->w3.cell? ⟨w.heap.size,0,none⟩=some (.pointer (some ⟨b,0,none⟩))/\Calls prog 84 #[.slice wa wn wc] w3 (λe w'=>e = .returned (.tuple #[.int .u8 c0.toNat,.slice (eX wa wc 1) (wn-1) (wc-1)])/\Below w3.heap.size w3 w')/\
    ∀ w4,Below w3.heap.size w3 w4->(w4.cell? ⟨w.heap.size,0,none⟩=some (.pointer (some ⟨b,0,none⟩))/\w4.cell? ⟨b,3,none⟩=some (.slice (some ⟨kb,ko,none⟩) 16 kc)/\w4.cell? ⟨kb,ko+c0.toNat,none⟩=some (.pointer p0))/\
    (∀ wx,Below w4.heap.size w4 wx->Calls prog 53 #[.agg #[.pointer p0],.slice (eX wa wc 1) (wn-1) (wc-1),.string v] wx (dQ M wx (put (ks (nb c0)) r v)))/\∀ wx,Below w4.heap.size w4 wx->∀ e w5,dQ M wx (put (ks (nb c0)) r v) e w5->∃ p5 M5,e = .returned (tv p5)/\Below w4.heap.size w4 w5/\Calls prog 85 #[.agg #[.pointer (some ⟨b,0,none⟩)],.int .u8 c0.toNat,.agg #[.pointer p5]] w5 (dQ M5 w5 (.br λj=>if j=nb c0 then put (ks (nb c0)) r v else ks j))/\
     ∀ e w9,dQ M5 w5 (.br λj=>if j=nb c0 then put (ks (nb c0)) r v else ks j) e w9->∃ p9,e = .returned (tv p9)/\Below w4.heap.size w4 w9/\Rg.Own w9 (w.heap.size+1) #[.pointer none] 46/\∀ ai,Rg.Upd w9 (w.heap.size+1) ai->dQ M w (.br λj=>if j=nb c0 then put (ks (nb c0)) r v else ks j) (.returned (tv p9)) ai):=hid (λw3 hb3 =>
   ⟨aX hb3 h0,lC wa wn wc (c0::r) (by omega) w3 (rW hi hW.1 (Fr.below M (bst hb2 hb3))),λw4 hb4=>⟨⟨aX hb4 (aX hb3 h0),aX hb4 (aX hb3 c3),aX hb4 (aX hb3 hk0)⟩,λwx hbx=>by
    have hB:=bst hb2 (bst (bst hb3 hb4) hbx);refine ih M wx p0 _ _ _ (hi.below hB) cz ?_;exact (hW.fr hi (Fr.below M hB)).from' 1 (by omega),λwx hbx e w5 hG=>by
    have hB:=bst (bst hb3 hb4) hbx;have vh:St M w M wx:=⟨Fr.below M (bst hb2 hB),hi.below (bst hb2 hB),bst hb2 hB,hi⟩
    obtain ⟨p5,M5,rfl,ju,hS5,em,hb5⟩:=vh.got hG;have Cl:=(hX2.below hB).got em hb5;have hbe:=Je M5 b ks (em.mono b _ hm) (nb c0) p5 _ ju w5 hS5.i;rw [hnx] at hbe;refine ⟨p5,M5,rfl,bst hbx hb5,hbe,λe w9 CE=>?_⟩;obtain ⟨p9,M9,rfl,CH,pB,CI,cg⟩:=hS5.got CE;have sn:=Cl.got CI cg;refine ⟨p9,rfl,bst (bst hbx hb5) cg,sn.o,λai hu=>?_⟩;have df:=pB.upd hu (by omega) sn.n;exact ⟨p9,M9,rfl,CH,df.f,df.i,df.b⟩⟩⟩)
  have H0:=hid aE;clear aE bc hb2 hi hi2 hm hW hX2 hwl hKs hT0 cz c3 hk0 ih h0;subst hw2;clear hs2;go_enter func53,ntmps53;go_wp2_with (first | (refine aB (bD _ _ _ (w.heap.size+1) (by simp) rfl) ?_) | (refine aB (aW (aV (j:=0) H0.out rfl) ⟨_,rfl,rfl⟩) ?_))
  refine HK.out.mono ?_;rintro e w3 ⟨rfl,hb3⟩;obtain ⟨d0',ia,H4⟩:=HT.out w3 hb3;replace ia:=hid ia;replace H4:=hid H4;clear hb3 HT HK H0 d0';unfold fI;go_wp2_with fail
  refine ia.out.mono ?_;rintro e w4 ⟨rfl,hb4⟩;obtain ⟨⟨d0,d3,dk⟩,HC,HF⟩:=H4.out w4 hb4;replace HC:=hid HC;replace HF:=hid HF;clear hb4 H4 ia;go_wp2_with fail
  refine aD (S:=λw'=>Bo (w.heap.size+1) w4 w') (Bo.of (below_drewN aI 1)) λhld=>?_;refine aj 0 ?_ (hy:=by intro wz hSw; (refine aW (gQ hSw (by omega) d0) ?_; exact ⟨_,rfl,rfl⟩));try simp only [Act.put,au]
  refine aj 1 ?_;try simp only [Act.put,au]
  refine aj 2 ?_;try simp only [Act.put,au]
  refine aF 3 (λwz hSw=>gQ hSw (by omega) d0) ?_;try simp only [Act.put,au]
  refine aj 4 ?_;try simp only [Act.put,au]
  refine aj 5 ?_;try simp only [Act.put,au]
  refine aF 6 (λwz hSw=>gQ hSw (by omega) d3) ?_;try simp only [Act.put,au]
  refine aj 7 ?_;try simp only [Act.put,au]
  refine aj 8 ?_ (hy:=by intro wz hSw; (have q0:=hxi; have q1:=hx16; go_simp <;> with_reducible rfl));try simp only [Act.put,au]
  refine aj 9 ?_ (hy:=by intro wz hSw; (refine aW (gQ hSw (by omega) dk) ?_; exact ⟨_,rfl,rfl⟩));try simp only [Act.put,au]
  refine aj 10 ?_;try simp only [Act.put,au]
  refine aj 11 ?_;try simp only [Act.put,au]
  refine ak 12 λK hK=>?_;go_simp;go_at_call 53
  (with_reducible refine (HC.out w4.drew (below_drewN aI 1)).mono ?_)
  intro e w5 hG;obtain ⟨p5,M5,rfl,eV,H5⟩:=HF.out w4.drew (below_drewN aI 1) e w5 hG;replace H5:=hid H5;clear hG;refine hK.out _ _ (Bo.of eV) λhld=>?_;clear hK K;try simp only [Act.put,au]
  refine ak 13 λK hK=>?_;go_simp;go_at_call 85
  (with_reducible refine (H5.out.1).mono ?_)
  intro e w9 hG;obtain ⟨p9,rfl,yo,H9⟩:=H5.out.2 e w9 hG;replace H9:=hid H9;clear hG;refine hK.out _ _ (Bo.of yo) λhld=>?_;clear hK K;try simp only [Act.put,au]
  refine ak 14 λK hK=>?_;refine iX (by rfl) H9.out.1 (off:=0) (by decide) p9 ⟨_,_,rfl,rfl,rfl⟩ ?_;intro ai aw ax;have cP:=hid aw;have iS:=hid (H9.out.2 ai ax);clear aw;refine hK.out _ _ ((Bo.of yo).upd ax) λhld=>?_;clear hK K;try simp only [Act.put,au]
  refine aC ?_;go_wp2;exact bodyPost_ret (gL rfl _ rfl cP.out) rfl iS.out
theorem Ef (ks:Fin 16->T) (M:Mp) (b:Nat) (hm:M.at_ b=some (.br ks)) (w:World) (hi:Inv M w) (wa:aL) (wn wc:Nat) (c0:UInt8) (r:Pa) (v:aM) (hW:Bs M w wa wn wc (c0::r)) (hc0:c0.toNat<16) (hlen:(c0::r).length<=64)
  (ih:∀ M' w' p a n c,Inv M' w'->IsT M' p (ks (nb c0))->Bs M' w' a n c r->Calls prog 53 #[.agg #[.pointer p],.slice a n c,.string v] w' (λe w''=>e = .panicked [fT 8]/\Below w'.heap.size w' w'')) :
  Calls prog 53 #[.agg #[.pointer (some ⟨b,0,none⟩)],.slice wa wn wc,.string v] w (λe w''=>e = .panicked [fT 8]/\Below w.heap.size w w''):=by
  obtain ⟨w2,hw2,aE,bc,hb2,hs2⟩:=mY w (some ⟨b,0,none⟩);have hi2:=hi.below hb2;have hX2:Bx M w2 (w.heap.size+1) #[.pointer none] 46:=⟨bc,hi.free (by omega),jK _⟩
  have hwl:(c0::r).length=wn:=hW.1.len;have AR:r.length+1=wn:=by rw [<-hwl]; rfl
  have h0:=aV (j:=0) aE rfl;have HK:=hid (eZ M _ _ w2 hi2 (jZ hi2 hm));obtain ⟨ka,kn,kc,c3,hKs⟩:=hi2.kids hm;have hkn:kn=16:=by rw [<-hKs.len]; exact gD ks
  subst hkn;have hnx:((nb c0).val:Nat)=c0.toNat:=Nat.mod_eq_of_lt hc0;obtain ⟨kb,ko,p0,rfl,eW,ix,hk0,hT0⟩:=hKs.at' c0.toNat hc0;have cz:IsT M p0 (ks (nb c0)):=by
   rw [<-hnx,kM] at hT0;exact hT0
  have hbl:=hi.lt hm;have nh:=hi.lt_ kb ix;have hkc:=hKs.1;have hkm:=hKs.2.1;unfold maxLen at hkm;have hx16:c0.toNat<16:=hc0;have hxi:((c0.toNat:Nat):Int)<16:=by omega
  have HT:Hid (∀ w3,Below w2.heap.size w2 w3->w3.cell? ⟨w.heap.size,0,none⟩=some (.pointer (some ⟨b,0,none⟩))/\Calls prog 84 #[.slice wa wn wc] w3 (λe w'=>e = .returned (.tuple #[.int .u8 c0.toNat,.slice (eX wa wc 1) (wn-1) (wc-1)])/\Below w3.heap.size w3 w')/\
    ∀ w4,Below w3.heap.size w3 w4->(w4.cell? ⟨w.heap.size,0,none⟩=some (.pointer (some ⟨b,0,none⟩))/\w4.cell? ⟨b,3,none⟩=some (.slice (some ⟨kb,ko,none⟩) 16 kc)/\w4.cell? ⟨kb,ko+c0.toNat,none⟩=some (.pointer p0))/\
    (∀ wx,Below w4.heap.size w4 wx->Calls prog 53 #[.agg #[.pointer p0],.slice (eX wa wc 1) (wn-1) (wc-1),.string v] wx (λe w''=>e = .panicked [fT 8]/\Below wx.heap.size wx w''))/\∀ wx,Below w4.heap.size w4 wx->Below w.heap.size w wx):=hid (λw3 hb3 =>
   ⟨aX hb3 h0,lC wa wn wc (c0::r) (by omega) w3 (rW hi hW.1 (Fr.below M (bst hb2 hb3))),λw4 hb4=>⟨⟨aX hb4 (aX hb3 h0),aX hb4 (aX hb3 c3),aX hb4 (aX hb3 hk0)⟩,λwx hbx=>by
    have hB:=bst hb2 (bst (bst hb3 hb4) hbx);refine ih M wx p0 _ _ _ (hi.below hB) cz ?_;exact (hW.fr hi (Fr.below M hB)).from' 1 (by omega),λwx hbx=>bst hb2 (bst (bst hb3 hb4) hbx)⟩⟩)
  have H0:=hid aE;clear aE bc hb2 hi hi2 hm hW hX2 hwl hKs hT0 cz c3 hk0 ih h0;subst hw2;clear hs2;go_enter func53,ntmps53;go_wp2_with (first | (refine aB (bD _ _ _ (w.heap.size+1) (by simp) rfl) ?_) | (refine aB (aW (aV (j:=0) H0.out rfl) ⟨_,rfl,rfl⟩) ?_))
  refine HK.out.mono ?_;rintro e w3 ⟨rfl,hb3⟩;obtain ⟨d0',ia,H4⟩:=HT.out w3 hb3;replace ia:=hid ia;replace H4:=hid H4;clear hb3 HT HK H0 d0';unfold fI;go_wp2_with fail
  refine ia.out.mono ?_;rintro e w4 ⟨rfl,hb4⟩;obtain ⟨⟨d0,d3,dk⟩,HC,HF⟩:=H4.out w4 hb4;replace HC:=hid HC;replace HF:=hid HF;clear hb4 H4 ia;go_wp2_with fail
  refine wp_region_held_drew (S:=λw'=>Bo (w.heap.size+1) w4 w') (by kernel_rfl) (Bo.of (below_drewN aI 1)) (λhld=>?_);refine aj 0 ?_ (hy:=by intro wz hSw; (refine aW (gQ hSw (by omega) d0) ?_; exact ⟨_,rfl,rfl⟩));try simp only [Act.put,au]
  refine aj 1 ?_;try simp only [Act.put,au]
  refine aj 2 ?_;try simp only [Act.put,au]
  refine aF 3 (λwz hSw=>gQ hSw (by omega) d0) ?_;try simp only [Act.put,au]
  refine aj 4 ?_;try simp only [Act.put,au]
  refine aj 5 ?_;try simp only [Act.put,au]
  refine aF 6 (λwz hSw=>gQ hSw (by omega) d3) ?_;try simp only [Act.put,au]
  refine aj 7 ?_;try simp only [Act.put,au]
  refine aj 8 ?_ (hy:=by intro wz hSw; (have q0:=hxi; have q1:=hx16; go_simp <;> with_reducible rfl));try simp only [Act.put,au]
  refine aj 9 ?_ (hy:=by intro wz hSw; (refine aW (gQ hSw (by omega) dk) ?_; exact ⟨_,rfl,rfl⟩));try simp only [Act.put,au]
  refine aj 10 ?_;try simp only [Act.put,au]
  refine aj 11 ?_;try simp only [Act.put,au]
  refine ak 12 λK hK=>?_;go_simp;go_at_call 53
  (with_reducible refine (HC.out w4.drew (below_drewN aI 1)).mono ?_)
  rintro e w5 ⟨rfl,hb5⟩;simp +zetaDelta [bodyPost,Exit.then];exact bst (HF.out w4.drew (below_drewN aI 1)) hb5
theorem Rt (M:Mp) (a:aL) (n c:Nat) (way:Pa) (v:aM) (w:World) (hi:Inv M w) (hW:Bs M w a n c way):Calls prog 53 #[.agg #[.pointer none],.slice a n c,.string v] w (dQ M w (.leaf way v)):=by
 obtain ⟨w2,hw2,aE,bc,hb2,hs2⟩:=mY w none;have hi2:=hi.below hb2;have HK:=hid (eZ M none .nil w2 hi2 rfl);have HT:Hid (∀ w3,Below w2.heap.size w2 w3->Calls prog 87 #[.slice a n c,.string v] w3 (dQ M w3 (.leaf way v))/\∀ e w9,dQ M w3 (.leaf way v) e w9->∃ p,e = .returned (tv p)/\Rg.Own w9 (w.heap.size+1) #[.pointer none] 46/\∀ ai,Rg.Upd w9 (w.heap.size+1) ai->dQ M w (.leaf way v) (.returned (tv p)) ai):=hid (λw3 hb3 =>
  ⟨nV M _ _ _ _ _ w3 (hi2.below hb3) (hW.fr hi (Fr.below M (bst hb2 hb3))),λe w9 hG=>finish hi (Fr.below M (bst hb2 hb3)) (bst hb2 hb3) hG (bc.below hb3) (jK _) (by omega) (hi.free (by omega))⟩)
 have H0:=hid aE;clear aE bc hb2 hs2 hi hi2 hW;subst hw2;go_enter func53,ntmps53;go_wp2_with (first | (refine aB (bD _ _ _ (w.heap.size+1) (by simp) rfl) ?_) | (refine aB (aW (aV (j:=0) H0.out rfl) ⟨_,rfl,rfl⟩) ?_))
 refine HK.out.mono ?_;rintro e w3 ⟨rfl,hb3⟩;obtain ⟨HC,HF⟩:=HT.out w3 hb3;replace HC:=hid HC;replace HF:=hid HF;clear hb3 HT HK H0;unfold fI;go_wp2_with fail
 refine HC.out.mono ?_;intro e w9 hG;obtain ⟨p9,rfl,ae,hE⟩:=HF.out e w9 hG;have b8:=hid ae;have HE:=hid hE;clear hG ae hE;go_wp2_with (refine bU b8.out (by decide) p9 rfl _ _ rfl rfl rfl ?_; intro ai aw ax; have cP:=hid aw; have f9:=hid ax; clear aw ax)
 exact bodyPost_ret (gL rfl _ rfl cP.out) rfl (HE.out ai f9.out)
theorem OB (M:Mp) (b:Nat) (r:aM) (hm:M.at_ b=some (.stub r)) (a:aL) (n c:Nat) (v:aM) (w:World) (hi:Inv M w):Calls prog 53 #[.agg #[.pointer (some ⟨b,0,none⟩)],.slice a n c,.string v] w (λe w'=>e = .panicked [fT 8]/\Below w.heap.size w w'):=by
 obtain ⟨w2,hw2,aE,bc,hb2,hs2⟩:=mY w (some ⟨b,0,none⟩);have hi2:=hi.below hb2;have HK:=hid (eZ M _ _ w2 hi2 (jZ hi2 hm));have H0:=hid aE;have HB:Hid (∀ w3,Below w2.heap.size w2 w3->Below w.heap.size w w3):=hid (λw3 hb3=>bst hb2 hb3);clear aE bc hb2 hs2 hi hi2 hm;subst hw2;go_enter func53,ntmps53;go_wp2_with (first | (refine aB (bD _ _ _ (w.heap.size+1) (by simp) rfl) ?_) | (refine aB (aW (aV (j:=0) H0.out rfl) ⟨_,rfl,rfl⟩) ?_))
 refine HK.out.mono ?_;rintro e w3 ⟨rfl,hb3⟩;have HB3:=hid (HB.out w3 hb3);clear hb3 HB HK H0;unfold fI;go_wp2;simp +zetaDelta [bodyPost,Exit.then,fT];exact HB3.out
theorem um (M:Mp) (b:Nat) (t:T) (hm:M.at_ b=some t) (hk:fI t=1\/fI t=2) (a:aL) (n c:Nat) (v:aM) (R:T) (w:World) (hi:Inv M w)
  (hal:∀ w3,Below w.heap.size w w3->Calls prog 86 #[.agg #[.pointer (some ⟨b,0,none⟩)],.slice a n c,.string v] w3 (dQ M w3 R)) :
  Calls prog 53 #[.agg #[.pointer (some ⟨b,0,none⟩)],.slice a n c,.string v] w (dQ M w R):=by
 obtain ⟨w2,hw2,aE,bc,hb2,hs2⟩:=mY w (some ⟨b,0,none⟩);have hi2:=hi.below hb2;have HK:=hid (eZ M _ _ w2 hi2 (jZ hi2 hm));have h0:=aV (j:=0) aE rfl
 have HT:Hid (∀ w3,Below w2.heap.size w2 w3->w3.cell? ⟨w.heap.size,0,none⟩=some (.pointer (some ⟨b,0,none⟩))/\Calls prog 86 #[.agg #[.pointer (some ⟨b,0,none⟩)],.slice a n c,.string v] w3 (dQ M w3 R)/\∀ e w9,dQ M w3 R e w9->∃ p,e = .returned (tv p)/\Rg.Own w9 (w.heap.size+1) #[.pointer none] 46/\∀ ai,Rg.Upd w9 (w.heap.size+1) ai->dQ M w R (.returned (tv p)) ai):=hid (λw3 hb3 =>
  ⟨aX hb3 h0,hal w3 (bst hb2 hb3),λe w9 hG=>finish hi (Fr.below M (bst hb2 hb3)) (bst hb2 hb3) hG (bc.below hb3) (jK _) (by omega) (hi.free (by omega))⟩)
 have H0:=hid aE;obtain ⟨k,hkk⟩:=aA (fI t)
 rw [hkk] at HK hk;clear aE bc hb2 hs2 hi hi2 hal hm hkk h0;subst hw2;rcases hk with rfl | rfl;all_goals
  go_enter func53,ntmps53;go_wp2_with (first | (refine aB (bD _ _ _ (w.heap.size+1) (by simp) rfl) ?_) | (refine aB (aW (aV (j:=0) H0.out rfl) ⟨_,rfl,rfl⟩) ?_))
  refine HK.out.mono ?_;rintro e w3 ⟨rfl,hb3⟩;obtain ⟨d0,HC,HF⟩:=HT.out w3 hb3;replace HC:=hid HC;replace HF:=hid HF;clear hb3 HT HK H0;go_wp2_with (refine aB (aW d0 ⟨_,rfl,rfl⟩) ?_)
  refine HC.out.mono ?_;intro e w9 hG;obtain ⟨p9,rfl,ae,hE⟩:=HF.out e w9 hG;have b8:=hid ae;have HE:=hid hE;clear hG ae hE;go_wp2_with (refine bU b8.out (by decide) p9 rfl _ _ rfl rfl rfl ?_; intro ai aw ax; have cP:=hid aw; have f9:=hid ax; clear aw ax)
  exact bodyPost_ret (gL rfl _ rfl cP.out) rfl (HE.out ai f9.out)
theorem yB (M:Mp) (b:Nat) (t:T) (hm:M.at_ b=some t) (hk:fI t=2) (a:aL) (n c:Nat) (v:aM) (w:World) (hi:Inv M w)
  (hal:∀ w3,Below w.heap.size w w3->Calls prog 86 #[.agg #[.pointer (some ⟨b,0,none⟩)],.slice a n c,.string v] w3 (λe w'=>e = .panicked [fT 8]/\Below w3.heap.size w3 w')) :
  Calls prog 53 #[.agg #[.pointer (some ⟨b,0,none⟩)],.slice a n c,.string v] w (λe w'=>e = .panicked [fT 8]/\Below w.heap.size w w'):=by
 obtain ⟨w2,hw2,aE,bc,hb2,hs2⟩:=mY w (some ⟨b,0,none⟩);have hi2:=hi.below hb2;have HK:=hid (eZ M _ _ w2 hi2 (jZ hi2 hm));rw [hk] at HK;have h0:=aV (j:=0) aE rfl;have HT:Hid (∀ w3,Below w2.heap.size w2 w3->w3.cell? ⟨w.heap.size,0,none⟩=some (.pointer (some ⟨b,0,none⟩))/\Calls prog 86 #[.agg #[.pointer (some ⟨b,0,none⟩)],.slice a n c,.string v] w3 (λe w'=>e = .panicked [fT 8]/\Below w3.heap.size w3 w')/\Below w.heap.size w w3):=hid (λw3 hb3 =>
  ⟨aX hb3 h0,hal w3 (bst hb2 hb3),bst hb2 hb3⟩)
 have H0:=hid aE;clear aE bc hb2 hs2 hi hi2 hal hm hk h0;subst hw2;go_enter func53,ntmps53;go_wp2_with (first | (refine aB (bD _ _ _ (w.heap.size+1) (by simp) rfl) ?_) | (refine aB (aW (aV (j:=0) H0.out rfl) ⟨_,rfl,rfl⟩) ?_))
 refine HK.out.mono ?_;rintro e w3 ⟨rfl,hb3⟩;obtain ⟨d0,HC,HB⟩:=HT.out w3 hb3;replace HC:=hid HC;replace HB:=hid HB;clear hb3 HT HK H0;go_wp2_with (refine aB (aW d0 ⟨_,rfl,rfl⟩) ?_)
 refine HC.out.mono ?_;rintro e w9 ⟨rfl,cg⟩;have am:=hid (bst HB.out cg);clear cg HB;go_wp2;simp +zetaDelta [bodyPost,Exit.then];exact am.out
theorem Lg (q way:Pa) (f:Pa->T) (v:aM):fork q f way v=wrap (way.take (cp q way)) (two (nb (q.getD (cp q way) 0)) (nb (way.getD (cp q way) 0)) (f (q.drop (cp q way+1))) (.leaf (way.drop (cp q way+1)) v)):=by
 unfold fork;rw [KP _ _ _ aH]
def WZ (t:T):Prop:=∀ (M:Mp) (w:World) (p:aL) (a:aL) (n c:Nat) (way:Pa) (v:aM),Inv M w->IsT M p t->Bs M w a n c way->Tr.Good t way.length->Nib way->way.length<=64->
 (Tr.get t way=none->Calls prog 53 #[.agg #[.pointer p],.slice a n c,.string v] w λe w'=>e = .panicked [fT 8]/\Below w.heap.size w w')/\
 (Tr.get t way≠none->Calls prog 53 #[.agg #[.pointer p],.slice a n c,.string v] w (dQ M w (put t way v)))
theorem Ij (t:T):WZ t:=by
 induction t with
 | nil =>
  intro M w p a n c way v hi ht hW hg hn hl;refine ⟨λh=>(by cases h),λ_=>?_⟩;obtain rfl:p=none:=ht.vG.2 rfl;exact Rt M a n c way v w hi hW
 | stub r =>
  intro M w p a n c way v hi ht hW hg hn hl;refine ⟨λ_=>?_,λh=>absurd rfl h⟩;obtain ⟨b,rfl,hm⟩:=ht.at_ (λe=>by cases e);exact OB M b r hm a n c v w hi
 | leaf q u =>
  intro M w p a n c way v hi ht hW hg hn hl;refine ⟨λh=>(by cases h),λ_=>?_⟩;obtain ⟨b,rfl,hm⟩:=ht.at_ (λe=>by cases e);refine um M b _ hm (Or.inl rfl) a n c v _ w hi (λw3 hb3=>?_);have hi3:=hi.below hb3;have hW3:=hW.fr hi (Fr.below M hb3);by_cases e:q=way
  .have:put (.leaf q u) way v = .leaf q v:=by
    unfold put;rw [if_pos e,e]
   rw [this];exact JB M b u q hm w3 hi3 a n c way v hW3 hl (Nat.le_of_eq hg.1) e
  .have:put (.leaf q u) way v=fork q (λr=>.leaf r u) way v:=by
    unfold put;rw [if_neg e]
   rw [this,Lg];have hpre:¬ q<+:way:=λh=>e (h.eq_of_length hg.1);exact xJ M b _ hm w3 hi3 a n c way v hW3 hl (Nat.le_of_eq hg.1) hpre hg.2 hn _ (λwx M' hix hmx=>Td M' b q u hmx _ (Nat.succ_le_of_lt (zZ hpre)) wx hix)
 | ext q s ih =>
  intro M w p a n c way v hi ht hW hg hn hl;obtain ⟨b,rfl,hm⟩:=ht.at_ (λe=>by cases e);obtain ⟨g1,g2,g3,g4,g5⟩:=hg;by_cases e:q<+:way
  .have hgs:Tr.Good s (way.drop q.length).length:=by rw [List.length_drop]; exact g5
   have hget:Tr.get (.ext q s) way=Tr.get s (way.drop q.length):=by
    show (if q<+:way then Tr.get s (way.drop q.length) else some none)=_;rw [if_pos e]
   rw [hget];have hld:(way.drop q.length).length<=64:=by rw [List.length_drop]; omega
   refine ⟨λh=>?_,λh=>?_⟩
   .refine yB M b _ hm rfl a n c v w hi (λw3 hb3=>?_);exact JW M b q s hm w3 (hi.below hb3) a n c way v (hW.fr hi (Fr.below M hb3)) hl g3 e (λM' w' p' a' n' c' hi' ht' hW'=>(ih M' w' p' a' n' c' _ v hi' ht' hW' hgs (hn.drop _) hld).1 h)
   .have hput:put (.ext q s) way v = .ext q (put s (way.drop q.length) v):=by
     show (if q<+:way then _ else _)=_;rw [if_pos e]
    rw [hput];refine um M b _ hm (Or.inr rfl) a n c v _ w hi (λw3 hb3=>?_);exact OX M b q s hm w3 (hi.below hb3) a n c way v (hW.fr hi (Fr.below M hb3)) hl g3 e g1 h (λM' w' p' a' n' c' hi' ht' hW'=>(ih M' w' p' a' n' c' _ v hi' ht' hW' hgs (hn.drop _) hld).2 h)
  .have hget:Tr.get (.ext q s) way=some none:=by
    show (if q<+:way then Tr.get s (way.drop q.length) else some none)=_;rw [if_neg e]
   rw [hget];refine ⟨λh=>(by cases h),λ_=>?_⟩;have hput:put (.ext q s) way v=fork q (λr=>wrap r s) way v:=by
    show (if q<+:way then _ else _)=_;rw [if_neg e]
   rw [hput,Lg];refine um M b _ hm (Or.inr rfl) a n c v _ w hi (λw3 hb3=>?_);exact xJ M b _ hm w3 (hi.below hb3) a n c way v (hW.fr hi (Fr.below M hb3)) hl g3 e g2 hn _ (λwx M' hix hmx=>TY M' b q s hmx _ (Nat.succ_le_of_lt (zZ e)) wx hix)
 | br ks ih =>
  intro M w p a n c way v hi ht hW hg hn hl;obtain ⟨b,rfl,hm⟩:=ht.at_ (λe=>by cases e);cases way with
  | nil=>exact absurd hg.1 (Nat.lt_irrefl 0)
  | cons c0 r =>
   have hl':r.length<=64:=by simp at hl; omega
   have hgi:Tr.Good (ks (nb c0)) r.length:=hg.2.2 (nb c0);refine ⟨λh=>?_,λh=>?_⟩
   .exact Ef ks M b hm w hi a n c c0 r v hW hn.head hl (λM' w' p' a' n' c' hi' ht' hW'=>(ih (nb c0) M' w' p' a' n' c' r v hi' ht' hW' hgi hn.tail hl').1 h)
   .have hput:put (.br ks) (c0::r) v = .br λj=>if j=nb c0 then put (ks (nb c0)) r v else ks j:=by
     show T.br _=T.br _;congr 1;funext j;by_cases e:j=nb c0
     .subst e; rfl
     .rw [if_neg e,if_neg e]
    rw [hput];exact VL ks M b hm w hi a n c c0 r v hW hn.head hl (λM' w' p' a' n' c' hi' ht' hW'=>(ih (nb c0) M' w' p' a' n' c' r v hi' ht' hW' hgi hn.tail hl').2 h)
end Tm
end
section
open Go.RowKit
namespace Tk
open Pk
theorem mX (p:Addr) (x c:Int) (older:List PanicEntry) (w:World) (hc:w.cell? p=some (.int .i64 x)) (hz:w.frozen? p=false) :
  CallsD prog 82 #[.pointer (some p)] (.panicking (fT c::older)) w λe u' w' =>
   e = .returned (.tuple #[])/\u' = .panicking ({ fT c with recovered:=true }::older)/\w'=w.setCell p (.int .i64 c):=by
 refine callsD_of_wpS func82 rfl λc₀ cs hu=>?_;apply wpS_seq;apply wpS_region;simp [wpOpsS,go_sem,recoverD,hu,fT,ntmps82,Exit.thenS];apply wpS_seq;apply wpS_region;simp [wpOpsS,go_sem,Exit.thenS];refine wpS_cond (t:=true) (by simp [Act.eval,Array.replicate]) ?_;simp only [if_true];apply wpS_region;have IA:(Instr.typeAssert (.iface 29 (.int .i64 c)) 20 29 false).run prog w = .ok (.int .i64 c) w:=by kernel_rfl
 simp [wpOpsS,go_sem,IA,hc,hz,bodyPostS,results,Tryz.results82]
theorem uI (p:Addr) (w:World) :
  CallsD prog 82 #[.pointer (some p)] .returning w λe u' w'=>e = .returned (.tuple #[])/\u' = .returning/\w'=w:=by
 refine callsD_of_wpS func82 rfl λc₀ cs hu=>?_;apply wpS_seq;apply wpS_region;simp [wpOpsS,go_sem,recoverD,hu,ntmps82,Exit.thenS];apply wpS_seq;apply wpS_region;simp [wpOpsS,go_sem,Exit.thenS];refine wpS_cond (t:=false) (by simp [Act.eval,Array.replicate]) ?_;simp only [Bool.false_eq_true,if_false];refine wpS_of_wp (wp_skip ?_);cases c₀
 simp_all [bodyPostS,results,Tryz.results82]
theorem qb (D:FuncId) (caps:aO) (hD:∀ w,(callFunc D caps).run prog w = .ok (.enter D caps) w) (w:World) (R:World->Prop)
  (h:Calls prog D caps (w.alloc (.cells #[.int .i64 0] 29)) λe w'=>e = .returned (.tuple #[])/\(w'.cell? ⟨w.heap.size,0,none⟩=some (.int .i64 0)/\w'.frozen? ⟨w.heap.size,0,none⟩=false)/\R w') :
  Calls prog 51 #[.func (.func D) #[] caps] w λe w'=>e = .returned (.int .i64 0)/\∃ w1,R w1/\w'=w1.setCell ⟨w.heap.size,0,none⟩ (.int .i64 0):=by
 have eK:∀ (fn:Fn) (first cap:aO) (w:World),(Instr.makeFunc fn first cap).run prog w = .ok (.func fn first cap) w:=λ_ _ _ _=>rfl;have H:=hid h;clear h;go_enter_defers func51,ntmps51
 go_wp2_with fail
 refine H.out.mono ?_;rintro e w1 ⟨rfl,⟨hc,hz⟩,hR⟩;have HR:=hid hR;clear hR H;go_wp2;refine leaves_cons (f:=82) (args:=#[.pointer (some ⟨w.heap.size,0,none⟩)]) (by simp) (by simp [go_sem]) ?_;refine (uI ⟨w.heap.size,0,none⟩ _).mono ?_;rintro e u' w'' ⟨rfl,rfl,rfl⟩;simp [Leaves,settle,results,Tryz.results51,go_sem,hc];exact ⟨w1,HR.out,rfl⟩
theorem qF (D:FuncId) (caps:aO) (hD:∀ w,(callFunc D caps).run prog w = .ok (.enter D caps) w) (w:World) (c:Int) (R:World->Prop)
  (h:Calls prog D caps (w.alloc (.cells #[.int .i64 0] 29)) λe w'=>e = .panicked [fT c]/\(w'.cell? ⟨w.heap.size,0,none⟩=some (.int .i64 0)/\w'.frozen? ⟨w.heap.size,0,none⟩=false)/\R w') :
  Calls prog 51 #[.func (.func D) #[] caps] w λe w'=>e = .returned (.int .i64 c)/\∃ w1,R w1/\w'=w1.setCell ⟨w.heap.size,0,none⟩ (.int .i64 c):=by
 have eK:∀ (fn:Fn) (first cap:aO) (w:World),(Instr.makeFunc fn first cap).run prog w = .ok (.func fn first cap) w:=λ_ _ _ _=>rfl;have H:=hid h;clear h;go_enter_defers func51,ntmps51
 go_wp2_with fail
 refine H.out.mono ?_;rintro e w1 ⟨rfl,⟨hc,hz⟩,hR⟩;have HR:=hid hR;clear hR H;go_wp2;refine leaves_cons (f:=82) (args:=#[.pointer (some ⟨w.heap.size,0,none⟩)]) (by simp) (by simp [go_sem]) ?_;refine (mX ⟨w.heap.size,0,none⟩ 0 c [] _ hc hz).mono ?_;rintro e u' w'' ⟨rfl,rfl,rfl⟩;simp [Leaves,settle,results,Tryz.results51,go_sem,hc];exact ⟨w1,HR.out,rfl⟩
end Tk
end
section
open Go.RowKit
namespace Tm
open Tr Ni Pk
theorem Ve (p:aL) (k:aN) (hk:k.length=32) (bt bk br:Nat) (v:aM) (w:World) (ov:Rg.Own w bt #[.pointer p] 46) (ox:Rg.Own w bk (Ky.kc k) 24) (h1:bt≠br) (h2:bk≠br)
  (hOr:Rg.Own w br #[.string eB] 9) (hC:∀ w5,Below w.heap.size w w5->∀ a5 n5 c5,bf w5 a5 n5 c5 (Ky.bO k)->Calls prog 55 #[.agg #[.pointer p],.slice a5 n5 c5] w5 (λe w'=>e = .returned (.string v)/\Below w5.heap.size w5 w')) :
  Calls prog 54 #[.pointer (some ⟨bt,0,none⟩),.pointer (some ⟨bk,0,none⟩),.pointer (some ⟨br,0,none⟩)] w (λe w'=>e = .returned (.tuple #[])/\Rg.Own w' br #[.string v] 9/\Bo br w w'):=by
 have jx:=hid (λwx=>Ky.vI k hk wx);have vl:=hid ov;have ff:=hid ox;have HOr:=hid hOr;have HC:=hid hC;clear hOr hC;clear ov ox;go_enter func54,ntmps54;go_wp2_with fail
 refine aD (S:=λw'=>Bo br w w') (Bo.of (below_drewN aI 1)) λhld=>?_;refine aj 0 ?_ (hy:=by intro wz hSw; (refine aW (aV (j:=0) (nZ hSw vl.out (by omega)) rfl) ?_; exact ⟨_,rfl,rfl⟩));try simp only [Act.put,au]
 refine aj 1 ?_ (hy:=by intro wz hSw; (refine bE hk (nZ hSw ff.out (by omega)).2 ?_; exact ⟨_,rfl,rfl⟩));try simp only [Act.put,au]
 refine ak 2 λK hK=>?_;go_simp;go_at_call 42
 (with_reducible refine (jx.out w.drew).mono ?_)
 rintro e w5 ⟨a5,n5,c5,rfl,hx5,hb5⟩;have al:Hid (Below w.heap.size w w5):=hid (bst (below_drewN aI 1) hb5);have sp:=hid hx5;clear hb5 hx5;refine hK.out _ _ (Bo.of al.out) λhld=>?_;clear hK K;try simp only [Act.put,au]
 refine ak 3 λK hK=>?_;go_simp;go_at_call 55
 (with_reducible refine (HC.out w5 al.out a5 n5 c5 sp.out).mono ?_)
 rintro e w6 ⟨rfl,hb6⟩;have d8:Below w.heap.size w w6:=bst al.out hb6;have cG:=hid (HOr.out.below d8);refine hK.out _ _ (Bo.of d8) λhld=>?_;clear hK K;try simp only [Act.put,au]
 refine ak 4 λK hK=>?_;refine Ba (by rfl) cG.out v ⟨_,_,rfl,rfl,rfl⟩ ?_;intro ai aw ax;refine hK.out _ _ ((Bo.of d8).upd ax) λhld=>?_;clear hK K;try simp only [Act.put,au]
 refine aC ?_;go_wp2;go_end0;exact ⟨rfl,aw,(Bo.of d8).upd ax⟩
theorem PV (p:aL) (k:aN) (hk:k.length=32) (bt bk br:Nat) (c:Int) (w:World) (ov:Rg.Own w bt #[.pointer p] 46) (ox:Rg.Own w bk (Ky.kc k) 24) (h1:bt≠br) (h2:bk≠br)
  (hC:∀ w5,Below w.heap.size w w5->∀ a5 n5 c5,bf w5 a5 n5 c5 (Ky.bO k)->Calls prog 55 #[.agg #[.pointer p],.slice a5 n5 c5] w5 (λe w'=>e = .panicked [fT c]/\Below w5.heap.size w5 w')) :
  Calls prog 54 #[.pointer (some ⟨bt,0,none⟩),.pointer (some ⟨bk,0,none⟩),.pointer (some ⟨br,0,none⟩)] w (λe w'=>e = .panicked [fT c]/\Below w.heap.size w w'):=by
 have jx:=hid (λwx=>Ky.vI k hk wx);have vl:=hid ov;have ff:=hid ox;have HC:=hid hC;clear hC;clear ov ox;go_enter func54,ntmps54;go_wp2_with fail
 refine wp_region_held_drew (S:=λw'=>Bo br w w') (by kernel_rfl) (Bo.of (below_drewN aI 1)) (λhld=>?_);refine aj 0 ?_ (hy:=by intro wz hSw; (refine aW (aV (j:=0) (nZ hSw vl.out (by omega)) rfl) ?_; exact ⟨_,rfl,rfl⟩));try simp only [Act.put,au]
 refine aj 1 ?_ (hy:=by intro wz hSw; (refine bE hk (nZ hSw ff.out (by omega)).2 ?_; exact ⟨_,rfl,rfl⟩));try simp only [Act.put,au]
 refine ak 2 λK hK=>?_;go_simp;go_at_call 42
 (with_reducible refine (jx.out w.drew).mono ?_)
 rintro e w5 ⟨a5,n5,c5,rfl,hx5,hb5⟩;have al:Hid (Below w.heap.size w w5):=hid (bst (below_drewN aI 1) hb5);have sp:=hid hx5;clear hb5 hx5;refine hK.out _ _ (Bo.of al.out) λhld=>?_;clear hK K;try simp only [Act.put,au]
 refine ak 3 λK hK=>?_;go_simp;go_at_call 55
 (with_reducible refine (HC.out w5 al.out a5 n5 c5 sp.out).mono ?_)
 rintro e w6 ⟨rfl,hb6⟩;simp +zetaDelta [bodyPost,Exit.then];exact bst al.out hb6
theorem Vs (p:aL) (k:aN) (hk:k.length=32) (bt bk br:Nat) (bs:Nat) (v:aM) (w:World) (ov:Rg.Own w bt #[.pointer p] 46) (ox:Rg.Own w bk (Ky.kc k) 24) (h1:bt≠br) (h2:bk≠br)
  (hOr:Rg.Own w br #[.pointer none] 46) (M:Mp) (hi:Inv M w) (R:T) (hC:∀ w5,Below w.heap.size w w5->∀ a5 n5 c5,bf w5 a5 n5 c5 (Ky.bO k)->Calls prog 53 #[.agg #[.pointer p],.slice a5 n5 c5,.string v] w5 (dQ (plus M (inS a5 n5)) w5 R)) (CM:Rg.Own w bs #[.string v] 9) (h3:bs≠br) :
  Calls prog 52 #[.pointer (some ⟨bt,0,none⟩),.pointer (some ⟨bk,0,none⟩),.pointer (some ⟨bs,0,none⟩),.pointer (some ⟨br,0,none⟩)] w (λe w'=>e = .returned (.tuple #[])/\∃ p' M' w6,IsT M' p' R/\St M w M' w6/\Rg.Upd w6 br w'/\Rg.Own w' br #[.pointer p'] 46):=by
 have jx:=hid (λwx=>Ky.vI k hk wx);have vl:=hid ov;have ff:=hid ox;have HF:Hid (∀ w5,Below w.heap.size w w5->∀ a5 n5 c5,bf w5 a5 n5 c5 (Ky.bO k)->∀ e w6,dQ (plus M (inS a5 n5)) w5 R e w6->∃ p6,e = .returned (tv p6)/\Below w.heap.size w w6/\Rg.Own w6 br #[.pointer none] 46/\∀ ai,Rg.Own ai br #[.pointer p6] 46->Rg.Upd w6 br ai->∃ p' M' w6,IsT M' p' R/\St M w M' w6/\Rg.Upd w6 br ai/\Rg.Own ai br #[.pointer p'] 46):=hid (λw5 hb5 a5 n5 c5 hx e w6 hG=>by
  have hs:St M w (plus M (inS a5 n5)) w5:=((St.refl hi).below hb5).bytes hx;obtain ⟨p6,M6,he,hT,hS,_,hb6⟩:=hs.got hG;exact ⟨p6,he,hS.b,hOr.below hS.b,λai hO hu=>⟨p6,M6,w6,hT,hS,hu,hO⟩⟩)
 have HC:=hid hC;have Mn:=hid CM;clear CM;clear hOr hC hi;clear ov ox;go_enter func52,ntmps52;go_wp2_with fail
 refine aD (S:=λw'=>Bo br w w') (Bo.of (below_drewN aI 1)) λhld=>?_;refine aj 0 ?_ (hy:=by intro wz hSw; (refine aW (aV (j:=0) (nZ hSw vl.out (by omega)) rfl) ?_; exact ⟨_,rfl,rfl⟩));try simp only [Act.put,au]
 refine aj 1 ?_ (hy:=by intro wz hSw; (refine bE hk (nZ hSw ff.out (by omega)).2 ?_; exact ⟨_,rfl,rfl⟩));try simp only [Act.put,au]
 refine aj 3 ?_ (hy:=by intro wz hSw; (refine kT (aV (j:=0) (nZ hSw Mn.out (by omega)) rfl) ?_; exact ⟨_,rfl,rfl⟩));try simp only [Act.put,au]
 refine ak 2 λK hK=>?_;go_simp;go_at_call 42
 (with_reducible refine (jx.out w.drew).mono ?_)
 rintro e w5 ⟨a5,n5,c5,rfl,hx5,hb5⟩;have al:Hid (Below w.heap.size w w5):=hid (bst (below_drewN aI 1) hb5);have sp:=hid hx5;clear hb5 hx5;refine hK.out _ _ (Bo.of al.out) λhld=>?_;clear hK K;try simp only [Act.put,au]
 refine ak 4 λK hK=>?_;go_simp;go_at_call 53
 (with_reducible refine (HC.out w5 al.out a5 n5 c5 sp.out).mono ?_)
 intro e w6 hG;obtain ⟨p6,rfl,d8,H6⟩:=HF.out w5 al.out a5 n5 c5 sp.out e w6 hG;replace H6:=hid H6;clear hG;refine hK.out _ _ (Bo.of d8) λhld=>?_;clear hK K;try simp only [Act.put,au]
 refine ak 5 λK hK=>?_;refine iX (by rfl) H6.out.1 (off:=0) (by decide) p6 ⟨_,_,rfl,rfl,rfl⟩ ?_;intro ai aw ax;have iS:=hid (H6.out.2 ai aw ax);clear aw;refine hK.out _ _ ((Bo.of d8).upd ax) λhld=>?_;clear hK K;try simp only [Act.put,au]
 refine aC ?_;go_wp2;go_end0;exact ⟨rfl,iS.out⟩
theorem Rh (p:aL) (k:aN) (hk:k.length=32) (bt bk br:Nat) (bs:Nat) (v:aM) (c:Int) (w:World) (ov:Rg.Own w bt #[.pointer p] 46) (ox:Rg.Own w bk (Ky.kc k) 24) (h1:bt≠br) (h2:bk≠br)
  (CM:Rg.Own w bs #[.string v] 9) (h3:bs≠br) (hC:∀ w5,Below w.heap.size w w5->∀ a5 n5 c5,bf w5 a5 n5 c5 (Ky.bO k)->Calls prog 53 #[.agg #[.pointer p],.slice a5 n5 c5,.string v] w5 (λe w'=>e = .panicked [fT c]/\Below w5.heap.size w5 w')) :
  Calls prog 52 #[.pointer (some ⟨bt,0,none⟩),.pointer (some ⟨bk,0,none⟩),.pointer (some ⟨bs,0,none⟩),.pointer (some ⟨br,0,none⟩)] w (λe w'=>e = .panicked [fT c]/\Below w.heap.size w w'):=by
 have jx:=hid (λwx=>Ky.vI k hk wx);have vl:=hid ov;have ff:=hid ox;have HC:=hid hC;have Mn:=hid CM;clear hC CM;clear ov ox;go_enter func52,ntmps52;go_wp2_with fail
 refine wp_region_held_drew (S:=λw'=>Bo br w w') (by kernel_rfl) (Bo.of (below_drewN aI 1)) (λhld=>?_);refine aj 0 ?_ (hy:=by intro wz hSw; (refine aW (aV (j:=0) (nZ hSw vl.out (by omega)) rfl) ?_; exact ⟨_,rfl,rfl⟩));try simp only [Act.put,au]
 refine aj 1 ?_ (hy:=by intro wz hSw; (refine bE hk (nZ hSw ff.out (by omega)).2 ?_; exact ⟨_,rfl,rfl⟩));try simp only [Act.put,au]
 refine aj 3 ?_ (hy:=by intro wz hSw; (refine kT (aV (j:=0) (nZ hSw Mn.out (by omega)) rfl) ?_; exact ⟨_,rfl,rfl⟩));try simp only [Act.put,au]
 refine ak 2 λK hK=>?_;go_simp;go_at_call 42
 (with_reducible refine (jx.out w.drew).mono ?_)
 rintro e w5 ⟨a5,n5,c5,rfl,hx5,hb5⟩;have al:Hid (Below w.heap.size w w5):=hid (bst (below_drewN aI 1) hb5);have sp:=hid hx5;clear hb5 hx5;refine hK.out _ _ (Bo.of al.out) λhld=>?_;clear hK K;try simp only [Act.put,au]
 refine ak 4 λK hK=>?_;go_simp;go_at_call 53
 (with_reducible refine (HC.out w5 al.out a5 n5 c5 sp.out).mono ?_)
 rintro e w6 ⟨rfl,hb6⟩;simp +zetaDelta [bodyPost,Exit.then];exact bst al.out hb6
open Ky
theorem Rq (w:World) (p:aL) (C:aO) (cs:aO) (T:TypeId):∃ w4,w4=((w.alloc (.cells #[.pointer p] 46)).alloc (.cells C 24)).alloc (.cells cs T)/\Rg.Own w4 w.heap.size #[.pointer p] 46/\Rg.Own w4 (w.heap.size+1) C 24/\Rg.Own w4 (w.heap.size+2) cs T/\Below w.heap.size w w4/\w4.heap.size=w.heap.size+3:=by
 have h2:=Rg.Own.new (w.alloc (.cells #[.pointer p] 46)) C 24;have h3:=Rg.Own.new ((w.alloc (.cells #[.pointer p] 46)).alloc (.cells C 24)) cs T;rw [show (w.alloc (.cells #[.pointer p] 46)).heap.size=w.heap.size+1 by simp] at h2;rw [show ((w.alloc (.cells #[.pointer p] 46)).alloc (.cells C 24)).heap.size=w.heap.size+2 by simp] at h3;exact ⟨_,rfl,((Rg.Own.new _ _ _).below (al1 _ _)).below (al1 _ _),h2.below (al1 _ _),h3,(al2 _ _ _).alloc (by simp; omega) _,by simp⟩
theorem VE (x:Int):∀ (j:Nat) (y:Int),(#[Value.int .i64 x]:aO)[j]? ≠ some (Value.int .u8 y):=λj y h=>by
 match j,h with
 | 0,h=>simp at h
 | j+1,h=>simp at h
theorem vo {b:Nat} (h:Rg.Own w b #[v] t):w.cell? ⟨b,0,none⟩=some v/\w.frozen? ⟨b,0,none⟩=false:=⟨aV (j:=0) h rfl,fB h⟩
def TH:Option (Option aM)->Value
 | none=>.tuple #[.string eB,.int .i64 8]
 | some none=>.tuple #[.string eB,.int .i64 7]
 | some (some v)=>.tuple #[.string v,.int .i64 0]
theorem ru (p:aL) (k:aN) (x:aM) (c:Int) (w w4:World) (hw4:w4=((w.alloc (.cells #[.pointer p] 46)).alloc (.cells (kc k) 24)).alloc (.cells #[.string eB] 9))
  (h:Calls prog 51 #[.func (.func 54) #[] #[.pointer (some ⟨w.heap.size,0,none⟩),.pointer (some ⟨w.heap.size+1,0,none⟩),.pointer (some ⟨w.heap.size+2,0,none⟩)]] w4 λe w'=>e = .returned (.int .i64 c)/\Rg.Own w' (w.heap.size+2) #[.string x] 9/\Below w.heap.size w w') :
  Calls prog 29 #[.agg #[.pointer p],.agg (kc k)] w λe w'=>e = .returned (.tuple #[.string x,.int .i64 c])/\Below w.heap.size w w':=by
 have eK:∀ (fn:Fn) (first cap:aO) (w:World),(Instr.makeFunc fn first cap).run prog w = .ok (.func fn first cap) w:=λ_ _ _ _=>rfl;obtain ⟨C,hC⟩:=aA (kc k)
 have HH:=hid h;have HW:=hid hw4;rw [hC] at HW ⊢;clear h hw4 hC;go_enter func29,ntmps29;go_wp2_with fail
 rw [<-HW.out];refine HH.out.mono ?_;rintro e w5 ⟨rfl,c8,eV⟩;have cf:=hid c8;have al:=hid eV;clear c8 eV HH HW eK;go_wp2_with (first
  | (refine aB (kT (aV (j:=0) cf.out rfl) ⟨_,rfl,rfl⟩) ?_)
  | (refine BX cf.out x rfl _ _ rfl rfl rfl ?_; intro w6 az bh; have cG:=hid az; have bd:Hid (Below w.heap.size w w6):=hid (bh.below al.out (by omega)); clear az bh))
 exact bodyPost_ret (QX rfl _ rfl cG.out) rfl ⟨rfl,bd.out⟩
theorem DT (M:Mp) (p:aL) (t:T) (k:aN) (hk:k.length=32) (w:World) (hi:Inv M w) (ht:IsT M p t) (hg:Tr.Good t 64) :
  Calls prog 29 #[.agg #[.pointer p],.agg (kc k)] w λe w'=>e = .returned (TH (Tr.get t (path k)))/\Below w.heap.size w w':=by
 obtain ⟨w4,hw4,aE,bc,hO2,hb4,hs4⟩:=Rq w p (kc k) #[.string eB] 9;have hE:Rg.Own (w4.alloc (.cells #[.int .i64 0] 29)) w4.heap.size #[.int .i64 0] 29:=Rg.Own.new _ _ _;have hA:=al1 w4 (.cells #[.int .i64 0] 29);obtain ⟨wc,hwc⟩:=aA (w4.alloc (.cells #[.int .i64 0] 29))
 rw [hwc] at hE hA;have hbc:=bst hb4 hA;have hic:=hi.below hbc;have hpl:(path k).length=64:=by rw [Tr.iR,hk]
 have hfind:∀ w5,Below wc.heap.size wc w5->∀ a5 n5 c5,bf w5 a5 n5 c5 (bO k)->Calls prog 55 #[.agg #[.pointer p],.slice a5 n5 c5] w5 (λe w'=>e=lF (Tr.get t (path k))/\Below w5.heap.size w5 w'):=λw5 hb5 a5 n5 c5 hx =>
  TS t M w5 p a5 n5 c5 (path k) (hic.below hb5) ht hx (by rw [hpl]; exact hg) (qj k) (by omega)
 have hD:∀ wx,(callFunc 54 #[.pointer (some ⟨w.heap.size,0,none⟩),.pointer (some ⟨w.heap.size+1,0,none⟩),.pointer (some ⟨w.heap.size+2,0,none⟩)]).run prog wx = .ok (.enter 54 #[.pointer (some ⟨w.heap.size,0,none⟩),.pointer (some ⟨w.heap.size+1,0,none⟩),.pointer (some ⟨w.heap.size+2,0,none⟩)]) wx:=by intro wx; kernel_rfl
 have oy:∀ c:Int,lF (Tr.get t (path k)) = .panicked [fT c]->TH (Tr.get t (path k)) = .tuple #[.string eB,.int .i64 c]->Calls prog 29 #[.agg #[.pointer p],.agg (kc k)] w λe w'=>e = .returned (TH (Tr.get t (path k)))/\Below w.heap.size w w':=λc hc hv=>by
  rw [hv];refine ru p k eB c w w4 hw4 ((Tk.qF 54 _ hD w4 c (λw'=>Below wc.heap.size wc w') (by
   rw [hwc];refine (PV p k hk _ _ _ c wc (aE.below hA) (bc.below hA) (by omega) (by omega) (λw5 hb5 a5 n5 c5 hx=>by rw [<-hc]; exact hfind w5 hb5 a5 n5 c5 hx)).mono ?_;rintro e w' ⟨rfl,hb⟩;exact ⟨rfl,vo (hE.below hb),hb⟩)).mono ?_)
  rintro e w' ⟨rfl,w1,hb,rfl⟩;exact ⟨rfl,((hO2.below hA).below hb).upd (bQ _ _ _ _) (by omega),(bQ w1 w4.heap.size 0 (.int .i64 c)).below (bst hbc hb) (by omega)⟩
 match hget:Tr.get t (path k),hfind,oy with
 | none,_,oy=>exact oy 8 rfl rfl
 | some none,_,oy=>exact oy 7 rfl rfl
 | some (some v),hfind,_ =>
  refine ru p k v 0 w w4 hw4 ((Tk.qb 54 _ hD w4 (λw'=>Rg.Own w' (w.heap.size+2) #[.string v] 9/\Bo (w.heap.size+2) wc w'/\Below w.heap.size w w') (by
   rw [hwc];refine ((Ve p k hk w.heap.size (w.heap.size+1) (w.heap.size+2) v wc (aE.below hA) (bc.below hA) (by omega) (by omega) (hO2.below hA) (λw5 hb5 a5 n5 c5 hx=>hfind w5 hb5 a5 n5 c5 hx))).mono ?_;rintro e w' ⟨rfl,hO,hb⟩;have hbw:Below w.heap.size w w':=hb.below hbc (by have:=hbc.size; omega) (by omega);exact ⟨rfl,vo (nZ hb hE (by omega)),hO,hb,hbw⟩)).mono ?_)
  rintro e w' ⟨rfl,w1,⟨hO,hb,hB⟩,rfl⟩;exact ⟨rfl,hO.upd (bQ _ _ _ _) (by omega),(bQ w1 w4.heap.size 0 (.int .i64 0)).below hB (by omega)⟩
end Tm
end
end Go.Proofs.YtokaiemgjngcoaaGreatDoor
