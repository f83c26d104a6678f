/-
 The plain answer's Get: seventeen items, a branch; any bytes.
-/
import Derived.Test.YtokaiemgjngcoaaGreatDoorVs17
open Go.Lib (hid)
open Go.Proofs.Tryz
set_option linter.unusedSimpArgs false
set_option linter.unusedVariables false
set_option maxHeartbeats 40000000
set_option maxRecDepth 100000
namespace Go.Proofs.YtokaiemgjngcoaaGreatDoor
variable {k:aN} {ev:Operand->Value} {o:Oper} {w w':World} {B L cap g i j n off us:Nat} {t:TypeId} {E R r:aM} {P:Program} {ops:Array Oper} {cur cur':aO} {a:aL} {Q:Exit->Act->World->Prop} {v:Value}
section
open Go.RowKit
namespace No
open Rl Ni
end No
end
section
open Go.RowKit
namespace Tm
open Tr Ni Pk Ky No Rf Rl
open Sm (Tab)
theorem Ro {l:aN} (hk:k.length=32) (hl:l.length=32) (w:World):(binOp .neq 23 (.agg (Sm.kc k)) (.agg (Sm.kc l))).run prog w = .ok (.bool (!decide (k=l))) w:=by
 rw [run_neq_struct,Cv hk hl w];rfl
theorem IJ {l:aN} {g:Bool} (hk:k.length=32) (hl:l.length=32) (hd:(!decide (k=l))=g) (ho:∃ x y tt,o.op = .binOp .neq 23 x y tt/\ev x = .agg (Sm.kc k)/\ev y = .agg (Sm.kc l)) :
  (execOp ev o).run prog w = .ok (.value (.bool g)) w:=by
 obtain ⟨x,y,tt,ho,hx,hy⟩:=ho;subst hd;unfold execOp;have hg:=Sm.DY;simp [ho,hx,hy,run_eqGuard_agg,hg,Ro hk hl,Result.andThen]
theorem Nu {b:Nat} {cs:aO} (h:Rg.Own w b cs t) (hof:off<cs.size) (x:Bool) (ho:∃ p q,o.op = .store 4 p q/\ev p = .pointer (some ⟨b,off,none⟩)/\ev q = .bool x):(execOp ev o).run prog w = .ok .skip (w.setCell ⟨b,off,none⟩ (.bool x)):=by
 obtain ⟨p,q,ho,hp,hq⟩:=ho;have hc:w.cell? ⟨b,off,none⟩=some cs[off]:=aV h (Array.getElem?_eq_getElem hof);have hz:w.frozen? ⟨b,off,none⟩=false:=fJ h;have hst:(Instr.storeAt 4 (.pointer (some ⟨b,off,none⟩)) (.bool x)).run prog w = .ok () (w.setCell ⟨b,off,none⟩ (.bool x)):=by
  simp [go_sem,hc,hz]
 unfold execOp;simp only [ho,hp,hq,Sem.run_bind,Sem.run_pure,Result.andThen_ok,hst]
theorem rz (N:Nd) (a:aL) (n c:Nat):(ndC N a n c)[1]? = some (.slice a n c):=rfl
theorem WB (N:Nd) (a:aL) (n c:Nat):(ndC N a n c)[2]? = some (.string N.v):=rfl
theorem EN (N:Nd) (a:aL) (n c:Nat) (hi:i<16) (hl:N.ks.length=16):(ndC N a n c)[3+i]? = some (.string (N.ks.getD i eB)):=by
 have h:i<N.ks.length:=by omega
 unfold ndC;simp [List.getD,h,Nat.add_comm 3 i]
theorem Hy {l:List aM} {s:Nat} {q:Pa} {b:Bool} {N:Nd} (hg:kW E.data.toList=some N) (hr:¬ (b=true/\N.kd≠3)) {q2:Pa} (ho:onward N q=(R,q2)) :
  jA l (s+1) E q us b=if R.size=0 then (if us≠l.length then none else some (if N.kd=1/\N.p=q2 then some N.v else none),us) else
   if R.size<32 then jA l s R q2 us (decide (N.kd=2)) else
   if us<l.length/\(l.getD us eB).size≠0/\ofP (l.getD us eB)=R then jA l s (l.getD us eB) q2 (us+1) (decide (N.kd=2)) else (none,us):=by
 conv=>lhs; unfold jA
 rw [hg];dsimp only;rw [if_neg hr,ho]
theorem Qx {b:Nat} {cs:aO} (h:Rg.Own w b cs t) (hof:off<cs.size) (x:aM) (ho:∃ p q,o.op = .store 9 p q/\ev p = .pointer (some ⟨b,off,none⟩)/\ev q = .string x):(execOp ev o).run prog w = .ok .skip (w.setCell ⟨b,off,none⟩ (.string x)):=by
 obtain ⟨p,q,ho,hp,hq⟩:=ho;have hc:w.cell? ⟨b,off,none⟩=some cs[off]:=aV h (Array.getElem?_eq_getElem hof);have hz:w.frozen? ⟨b,off,none⟩=false:=fJ h;have hst:(Instr.storeAt 9 (.pointer (some ⟨b,off,none⟩)) (.string x)).run prog w = .ok () (w.setCell ⟨b,off,none⟩ (.string x)):=by
  simp [go_sem,hc,hz]
 unfold execOp;simp only [ho,hp,hq,Sem.run_bind,Sem.run_pure,Result.andThen_ok,hst]
theorem zw {rest:List Oper} {a:Go.Act} {Q:Exit->Go.Act->World->Prop} (hgd:o.guard=none) (w':World)
  (hr:(execOp a.eval o).run P w = .ok .skip w') (h:wpList P ops Q rest (a.put o.dst undef) w'):wpList P ops Q (o::rest) a w :=
 wpList_plain hgd λK hK=>by
  unfold Oper.wp;rw [hr];exact hK _ _ h
theorem Xz {s:aN} (hs:s.length<=4294967296) {n:Nd} (h:kW s=some n):(n.kd=1\/n.kd=2\/n.kd=3)/\n.ks.length=16/\n.p.length<=64/\(n.kd=2->(n.ks.getD 0 eB).size≠0)/\∀ k∈n.ks,k.size<=900000:=by
 obtain ⟨h1,h2,h3⟩:=GH hs h;refine ⟨?_,h1,?_,λe=>?_,λk hk=>?_⟩
 .rcases iD h1 h2 with ⟨e,_⟩ | ⟨e,_⟩ | ⟨e,_⟩
  .exact .inl e
  .exact .inr (.inl e)
  .exact .inr (.inr e)
 .unfold fC at h2;simp only [Bool.and_eq_true,decide_eq_true_eq] at h2;exact h2.1.1
 .rcases iD h1 h2 with ⟨e1,_⟩ | ⟨_,g⟩ | ⟨e1,_⟩
  .rw [e1] at e; exact absurd e (by decide)
  .exact g.2.2.2.1
  .rw [e1] at e; exact absurd e (by decide)
 .rcases h3 k hk with hp | ⟨h4,_⟩
  .rcases Rf.jW hp with e | e <;> omega
  .omega
def CB (l:List aM):Bool:=(l.all λs=>decide (s.size<=700))&&decide (l.length<=80)
theorem TN {l:List aM} (h:CB l=true):(∀ s∈l,s.size<=700)/\l.length<=80:=by
 unfold CB at h;rw [Bool.and_eq_true,List.all_eq_true] at h;exact ⟨λs hs=>of_decide_eq_true (h.1 s hs),of_decide_eq_true h.2⟩
theorem RF (l:List aM) (j:Nat) (hj:j<l.length):((l.take (j+1)).all λs=>decide (s.size<=700))=(((l.take j).all λs=>decide (s.size<=700))&&decide ((l.getD j eB).size<=700)):=by
 rw [List.take_add_one,List.getElem?_eq_getElem hj,List.all_append];simp [List.getD,hj]
theorem NM (l:List aM) (a:aL) (n c:Nat) (w:World) (h:kD w a n c l) (hx:∀ s∈l,s.size<=maxLen) :
  Calls prog 6 #[.slice a n c] w λe w'=>e = .returned (.bool (CB l))/\Below w.heap.size w w':=by
 have hl:=h.len;have hnc:=h.1;have hcm:=h.2.1;unfold maxLen at hcm;have H:=hid h;have HL:=hid hl;have HX:=hid hx;clear hl h hx;go_enter func6,ntmps6;go_wp2;go_loopw [3] (λi wr=>∃ j:Nat,j<=n/\i = .int .i64 j/\Hid (((l.take j).all λs=>decide (s.size<=700))=true)/\Hid (Below w.heap.size w wr)) (λi _=>n-(intOf i).toNat)
 case atStart=>exact ⟨0,Nat.zero_le _,rfl,hid rfl,hid aI⟩
 case round =>
  obtain ⟨j,hj,rfl,HA,HB⟩:=hrel;by_cases hlt:j<n
  .have HS:=hid (RF l j (by rw [HL.out]; exact hlt));have hm:=HX.out _ (Rf.jL (by rw [HL.out]; exact hlt));obtain ⟨b,off,rfl,hblt,hcell⟩:=H.out.at' j hlt;have hc0:=(Below.cell (p:=⟨b,off+j,none⟩) HB.out hblt).trans hcell;have S6:Hid (l.getD j eB∈l):=hid (Rf.jL (by rw [HL.out]; exact hlt));obtain ⟨K,hK⟩:=aA (l.getD j eB)
   rw [hK] at HS hc0 hm S6;unfold maxLen at hm;clear hK hcell;by_cases h7:K.size<=700
   .have q1:decide ((700:Int)<(K.size:Int))=false:=decide_eq_false (by omega);have tI:decide (700<K.size)=false:=decide_eq_false (by omega);have AE:Hid (((l.take (j+1)).all λs=>decide (s.size<=700))=true):=hid (by rw [HS.out,HA.out,aK h7]; rfl);clear HS HA;go_wp2;go_roundw
    case rel=>exact ⟨j+1,by omega,by go_num,AE,HB⟩
    case measure=>simp [intOf]; omega
   .have q1:decide ((700:Int)<(K.size:Int))=true:=aK (by omega);have tI:decide (700<K.size)=true:=aK (by omega);have HF:Hid (CB l=false):=hid (by
     cases e:CB l with
     | false=>rfl
     | true=>exact absurd ((TN e).1 K S6.out) h7)
    clear HS HA;go_wp2;go_ret;exact ⟨by rw [HF.out]; rfl,HB.out⟩
  .obtain rfl:j=n:=by omega
   have hA:=HA.out;rw [List.take_of_length_le (by rw [HL.out]; exact aH)] at hA;by_cases h8:j<=80
   .have q1:decide ((j:Int)<=80)=true:=aK (by omega);have tI:decide (j<=80)=true:=aK h8;have HF:Hid (CB l=true):=hid (by unfold CB; rw [hA,HL.out,tI]; rfl);clear hA;go_wp2;go_ret;exact ⟨by rw [HF.out]; rfl,HB.out⟩
   .have q1:decide ((j:Int)<=80)=false:=decide_eq_false (by omega);have tI:decide (j<=80)=false:=decide_eq_false h8;have HF:Hid (CB l=false):=hid (by unfold CB; rw [HL.out,tI,Bool.and_false]);clear hA;go_wp2;go_ret;exact ⟨by rw [HF.out]; rfl,HB.out⟩
def Oz:qN->Value
 | (none,_)=>.tuple #[.string eB,.bool false,.int .i64 9]
 | (some none,_)=>.tuple #[.string eB,.bool false,.int .i64 0]
 | (some (some v),_)=>.tuple #[.string v,.bool true,.int .i64 0]
def Xx:qN->Value
 | (some (some v),_)=>.tuple #[.string v,.int .i64 0]
 | _=>.tuple #[.string eB,.int .i64 9]
def ES:qN->Int
 | (some none,_)=>0
 | _=>9
def VJ (f:FuncId) (A:qN->Value):Prop:=∀ (l:List aM) (r k:aN) (la:aL) (ln lc:Nat) (W:World),r.length=32->k.length=32->kD W la ln lc l->(∀ s∈l,s.size<=900000)->ln<=1000->Tab W->
 Calls prog f #[.agg (Sm.kc r),.agg (kc k),.slice la ln lc] W λe w'=>e = .returned (A (mY l r (bG k)))/\Below W.heap.size W w'
end Tm
end
section
open Go.RowKit
namespace Tm
open Tr Rf Rl Ni No Pk Sm
theorem Vu {t:T} (hs:¬ eY t):QL t=eB:=by
 cases t with
 | stub r=>exact absurd trivial hs
 | _=>rfl
theorem Ow {t:T} (hs:¬ eY t) (hn:t ≠ .nil):fB t=1\/fB t=2\/fB t=3:=by
 cases t with
 | stub r=>exact absurd trivial hs
 | nil=>exact absurd rfl hn
 | leaf q v=>exact Or.inl rfl
 | ext q s=>exact Or.inr (Or.inl rfl)
 | br ks=>exact Or.inr (Or.inr rfl)
theorem QO (b:Nat) (k:Int) (hk:k=1\/k=2\/k=3) (r:aM) (w:World) (hc:∀ wx,Below w.heap.size w wx->wx.cell? ⟨b,0,none⟩=some (.int .i64 k)) (P:World->Prop)
  (G9:∀ w3,Below w.heap.size w w3->w3.cell? ⟨w.heap.size,0,none⟩=some (.pointer (some ⟨b,0,none⟩))->Calls prog 151 #[.pointer (some ⟨b,4,none⟩),.func (.func 152) #[] #[.pointer (some ⟨w.heap.size,0,none⟩)]] w3 λe w'=>e = .returned (.tuple #[])/\w'.cell? ⟨w.heap.size,0,none⟩=some (.pointer (some ⟨b,0,none⟩))/\w'.cell? ⟨b,7,none⟩=some (.string r)/\P w') :
  Calls prog 111 #[.agg #[.pointer (some ⟨b,0,none⟩)]] w λe w'=>e = .returned (.string r)/\P w':=by
 have dT:∀ (fn:Fn) (first cap:aO) (w:World),(Instr.makeFunc fn first cap).run prog w = .ok (.func fn first cap) w:=λ_ _ _ _=>rfl;have h0:=fK w (some ⟨b,0,none⟩);have hA:=al1 w (.cells #[.pointer (some ⟨b,0,none⟩)] 46);have HK:=hid (nL b k _ (hc _ hA))
 have H3:Hid (∀ w3,Below (w.alloc (.cells #[.pointer (some ⟨b,0,none⟩)] 46)).heap.size (w.alloc (.cells #[.pointer (some ⟨b,0,none⟩)] 46)) w3->w3.cell? ⟨w.heap.size,0,none⟩=some (.pointer (some ⟨b,0,none⟩))/\Calls prog 151 #[.pointer (some ⟨b,4,none⟩),.func (.func 152) #[] #[.pointer (some ⟨w.heap.size,0,none⟩)]] w3 λe w'=>e = .returned (.tuple #[])/\w'.cell? ⟨w.heap.size,0,none⟩=some (.pointer (some ⟨b,0,none⟩))/\w'.cell? ⟨b,7,none⟩=some (.string r)/\P w'):=hid (λw3 hb3 =>
  ⟨aX hb3 h0,G9 w3 (bst hA hb3) (aX hb3 h0)⟩)
 clear hc G9 hA;rcases hk with rfl | rfl | rfl;all_goals
  go_enter func111,ntmps111;go_wp2_with (refine aB (aW h0 ⟨_,rfl,rfl⟩) ?_)
  refine HK.out.mono ?_;rintro e w3 ⟨rfl,hb3⟩;obtain ⟨d0,HD⟩:=H3.out w3 hb3;replace HD:=hid HD;clear hb3 H3 HK h0;go_wp2_with fail
  refine HD.out.mono ?_;rintro e w4 ⟨rfl,e0,e7,hP⟩;have HP:=hid hP;clear hP HD d0;go_wp2;go_ret;exact ⟨rfl,HP.out⟩
theorem Vi:mZ .nil:=λM w p hi ht hT=>by
 obtain rfl:p=none:=ht.vS.2 rfl;have h0:=fK w none;have HE:=hid (lQ none ((w.alloc (.cells #[.pointer none] 46)).alloc (.cells #[.pointer none] 46)));have hA:=al1 w (.cells #[.pointer none] 46);have HK:Hid (Calls prog 83 #[.agg #[.pointer none]] (w.alloc (.cells #[.pointer none] 46)) λe w'=>e = .returned (.int .i64 0)/\Below (w.alloc (.cells #[.pointer none] 46)).heap.size (w.alloc (.cells #[.pointer none] 46)) w'):=hid (dV M0 none .nil _ (Inv.zero _) rfl)
 have HF:Hid (∀ w3,Below (w.alloc (.cells #[.pointer none] 46)).heap.size (w.alloc (.cells #[.pointer none] 46)) w3->FrN M (sz .nil+1) w w3/\dM M (sz .nil+1) w3):=hid (λw3 hb3=>⟨FrN.below M _ (bst hA hb3),hi.below (bst hA hb3)⟩);clear hi hT hA HE;show Calls _ _ _ _ (λe w'=>e = .returned (.string eB)/\_);go_enter func111,ntmps111;go_wp2_with (refine aB (aW h0 ⟨_,rfl,rfl⟩) ?_)
 refine HK.out.mono ?_;rintro e w3 ⟨rfl,hb3⟩;have kB:=hid (HF.out w3 hb3);clear hb3 HF HK h0;go_wp2;go_ret;exact ⟨rfl,kB.out⟩
theorem NG {M:Mp} {b:Nat} (h:qK M w b (.stub r)):w.cell? ⟨b,0,none⟩=some (.int .i64 (-1))/\w.cell? ⟨b,7,none⟩=some (.string r):=by
 obtain ⟨a,n,c,ka,kn,kc,d,r',hb,_,_,hd⟩:=h;obtain ⟨⟨c0,_⟩,_,_,_,c7⟩:=jY hb;rcases hd with ⟨_,hr⟩ | ⟨_,hs,_⟩
 .rw [hr] at c7;exact ⟨c0,c7⟩
 .exact absurd trivial hs
theorem TB (r:aM):mZ (.stub r):=λM w p hi ht hT=>by
 obtain ⟨b,rfl,hm⟩:=ht.at_ (λe=>by cases e);have hpart:=(hi.part_ b _ hm).2.2.2 (by omega);obtain ⟨k0,k7⟩:=NG hpart;have h0:=fK w (some ⟨b,0,none⟩);have hA:=al1 w (.cells #[.pointer (some ⟨b,0,none⟩)] 46);have HK:=hid (nL b (-1) _ (aX hA k0))
 have HF:Hid (∀ w3,Below (w.alloc (.cells #[.pointer (some ⟨b,0,none⟩)] 46)).heap.size (w.alloc (.cells #[.pointer (some ⟨b,0,none⟩)] 46)) w3->w3.cell? ⟨w.heap.size,0,none⟩=some (.pointer (some ⟨b,0,none⟩))/\w3.cell? ⟨b,7,none⟩=some (.string r)/\FrN M (sz (.stub r)+1) w w3/\dM M (sz (.stub r)+1) w3):=hid (λw3 hb3=>⟨aX hb3 h0,aX hb3 (aX hA k7),FrN.below M _ (bst hA hb3),hi.below (bst hA hb3)⟩);clear hi hT hA hpart k0 k7 hm;show Calls _ _ _ _ (λe w'=>e = .returned (.string r)/\_)
 go_enter func111,ntmps111;go_wp2_with (refine aB (aW h0 ⟨_,rfl,rfl⟩) ?_)
 refine HK.out.mono ?_;rintro e w3 ⟨rfl,hb3⟩;obtain ⟨d0,d7,AG⟩:=HF.out w3 hb3;have kB:=hid AG;clear hb3 HF HK h0 AG;go_wp2;go_ret;exact ⟨rfl,kB.out⟩
theorem Bj (t:T) (hs:¬ eY t) (hn:t ≠ .nil) (g:Tr.Good t L) (hL:L<=64) (f:Fine t) (gO:∀ q s,t = .ext q s->mZ s) (hR2:∀ ks,t = .br ks->∀ i,mZ (ks i)):mZ t:=λM w p hi ht hT=>by
 obtain ⟨b,rfl,hm⟩:=ht.at_ hn;have hpw:=(hi.part_ b _ hm).2.2.2 (by omega);have hlb:=hi.lt_ b (hi.part_ b _ hm).2.1;obtain ⟨a,n,c,ka,kn,kc,d,r,hb,lg,hKs,hd⟩:=hpw;have Zb:Rg.Own w b (lq t a n c ka kn kc d r) 150:=⟨hlb,hb⟩
 have hbody:Body M w b t a n c ka kn kc:=by
  obtain ⟨⟨c0,c1,c2,c3⟩,_⟩:=jY hb;exact ⟨c0,c1,c2,c3,lg.1,hKs⟩
 refine QO b (fB t) (Ow hs hn) (ref t) w (λwx hbx=>(hbody.below hbx).c0) (λw'=>FrN M (sz t+1) w w'/\dM M (sz t+1) w') (λw3 hb3 pM=>?_);have hO3:=Zb.below hb3;have hi3:=hi.below hb3;rcases hd with ⟨rfl,hr⟩ | ⟨rfl,_,hr⟩
 .-- not yet done
  rw [Vu hs] at hr;subst hr;have tx:=hT.below hb3 hT.pos;have bd:=bM w3 b 5 (.int .i32 1);have S7:Rg.Own (w3.setCell ⟨b,5,none⟩ (.int .i32 1)) b (qQ t a n c ka kn kc eB) 150:=bZ (o:=5) hO3 (.int .i32 1);have Zc:=Pt S7;have K4:dM M (sz t) w3:=hi3.mono (Nat.le_succ _);have hil:dM M (sz t) (w3.setCell ⟨b,5,none⟩ (.int .i32 1)):=K4.lock bd hm aH Zc;have Zd:(0:Nat)≠b:=λe=>by
   have:=Jk hi3 tx;rw [e,hm] at this;cases this
  have S8:Tab (w3.setCell ⟨b,5,none⟩ (.int .i32 1)):=λi hi'=>by
   rw [<-tx i hi'];exact World.cell?_of_block (w:=w3) (bd.block 0 Zd)
  have tM:w.heap.size≠b:=by omega
  have AH:(w3.setCell ⟨b,5,none⟩ (.int .i32 1)).cell? ⟨w.heap.size,0,none⟩=some (.pointer (some ⟨b,0,none⟩)):=by
   rw [<-pM];exact World.cell?_of_block (w:=w3) (bd.block w.heap.size tM)
  have tP:Body M (w3.setCell ⟨b,5,none⟩ (.int .i32 1)) b t a n c ka kn kc:=(hbody.below hb3).upd (hi3.part_ b t hm).2.2.1 bd (λj hj=>World.cell?_setCell_other _ ⟨b,5,none⟩ ⟨b,j,none⟩ _ (λe=>by injection e with e1 e2 e3; omega));obtain ⟨h1,h2,h3,h4,h5,h6⟩:=pX g hL f hn hs;have hE:=Nc M b t hm hs hn g hL f (w3.setCell ⟨b,5,none⟩ (.int .i32 1)).drew (hil.below (below_drewN aI 1)) (tP.below (below_drewN aI 1)) S8 gO hR2;have G9:=XH M b t hm h3 w.heap.size _ AH tM hil S8 S7 hE
  have hD:∀ wx,(callFunc 152 #[.pointer (some ⟨w.heap.size,0,none⟩)]).run prog wx = .ok (.enter 152 #[.pointer (some ⟨w.heap.size,0,none⟩)]) wx:=by intro wx; kernel_rfl
  refine (On.Tv 152 _ hD b 4 w3 (λw'=>∃ w1,FrN M (sz t) (w3.setCell ⟨b,5,none⟩ (.int .i32 1)) w1/\dM M (sz t) w1/\Rg.Upd w1 b w'/\Rg.Own w' b (qQ t a n c ka kn kc (ofP (bP t))) 150) (aV (j:=4) hO3 rfl) (aV (j:=5) hO3 rfl) (fJ hO3) (G9.mono ?_)).mono ?_
  .rintro e w' ⟨rfl,w1,g1,g2,g3,g4⟩;exact ⟨rfl,⟨⟨aV (j:=4) g4 rfl,fJ g4⟩,aV (j:=5) g4 rfl,fJ g4⟩,w1,g1,g2,g3,g4⟩
  .rintro e w' ⟨rfl,w2,⟨w1,g1,g2,g3,g4⟩,rfl⟩;rw [<-qp hs] at g4;have cm:=bM w2.drew b 4 (.int .u32 1);have e9:=bM (w2.drew.setCell ⟨b,4,none⟩ (.int .u32 1)) b 5 (.int .i32 0);have lx:Rg.Own ((w2.drew.setCell ⟨b,4,none⟩ (.int .u32 1)).setCell ⟨b,4+1,none⟩ (.int .i32 0)) b (lq t a n c ka kn kc 1 (ref t)) 150:=bZ (o:=5) (bZ (o:=4) g4.drew (.int .u32 1)) (.int .i32 0);obtain ⟨w7,hw7⟩:=aA ((w2.drew.setCell ⟨b,4,none⟩ (.int .u32 1)).setCell ⟨b,4+1,none⟩ (.int .i32 0))
   rw [hw7] at lx ⊢;have lh:Rg.Upd w1 b w7:=by
    rw [<-hw7];exact ⟨g3.os,g3.tape,g3.output,by rw [e9.size,cm.size]; exact g3.size,λk hk=>((e9.block k hk).trans (cm.block k hk)).trans (g3.block k hk)⟩
   have pN:∀ k,k<w3.heap.size->k≠b->(M.at_ k=none\/∃ t',M.at_ k=some t'/\sz t<=sz t')->w7.heap[k]? = w3.heap[k]? := λk hk hkb hc=>(lh.block k hkb).trans ((g1.block k (by rw [bd.size]; exact hk) hc).trans (bd.block k hkb));have mr:w3.heap.size<=w7.heap.size:=by rw [lh.size]; exact Nat.le_trans (by rw [bd.size]; exact aH) g1.size
   have hnb:M.at_ w.heap.size=none:=hi.zC aH;have cQ:w7.cell? ⟨w.heap.size,0,none⟩=some (.pointer (some ⟨b,0,none⟩)):=by
    rw [<-pM];exact World.cell?_of_block (w:=w3) (pN _ (World.block_lt_of_cell? w3 _ pM) tM (Or.inl hnb))
   have hfr:FrN M (sz t+1) w3 w7:=⟨lh.os.trans (g1.os.trans bd.os),lh.tape.trans (g1.tape.trans bd.tape),lh.output.trans (g1.output.trans bd.output),mr,λk hk hc=>by
    refine pN k hk (λe=>?_) (hc.imp id (λ⟨t',e,hl⟩=>⟨t',e,by omega⟩));subst e;rcases hc with h | ⟨t',h,hl⟩
    .rw [hm] at h; cases h
    .rw [hm] at h;obtain rfl:=Option.some.inj h;omega⟩
   have Ze:FM w7 b:=Er lx.2;have K5:dM M (sz t) w7:=g2.lock lh hm aH Ze;have hbyte:∀ k j v,k<w3.heap.size->w3.cell? ⟨k,j,none⟩=some v->((∃ x,v = .int .u8 x)\/∃ p,v = .pointer p)->w7.heap[k]? = w3.heap[k]? := λk j v hk hc hv=>by
    have hat:M.at_ k=none:=by
     rcases hv with ⟨x,rfl⟩ | ⟨p,rfl⟩
     .exact hi3.fO hc
     .exact hi3.qy hc
    exact pN k hk (λe=>by rw [e,hm] at hat; cases hat) (Or.inl hat)
   refine ⟨rfl,cQ,aV (j:=7) lx rfl,(FrN.below M _ hb3).trans hfr,⟨λk hk=>aJ (hi3.lt_ k hk) mr,λb' t' hm'=>?_⟩⟩;obtain ⟨q1,q2,q3,q4⟩:=K5.part_ b' t' hm';refine ⟨q1,q2,q3,λhl=>?_⟩;by_cases hlt:sz t'<sz t
   .exact q4 hlt
   .have hp3:=(hi3.part_ b' t' hm').2.2.2 hl;by_cases e:b'=b
    .subst e;obtain rfl:t=t':=by rw [hm] at hm'; exact Option.some.inj hm'
     refine ⟨a,n,c,ka,kn,kc,1,ref t,lx.2,?_,?_,Or.inr ⟨rfl,hs,rfl⟩⟩
     .have ew:=lg;refine ⟨⟨lg.1.1,lg.1.2.1,lg.1.2.2.1,lg.1.2.2.2.1,λj hj=>?_⟩,lg.2⟩;obtain ⟨b2,off,e2,hlt2,hc2⟩:=(lg.1.below hb3).2.2.2.2 j hj;exact ⟨b2,off,e2,aJ hlt2 mr,by rw [World.cell?_of_block (hbyte b2 _ _ hlt2 hc2 (Or.inl ⟨_,rfl⟩))]; exact hc2⟩
     .refine ⟨hKs.1,hKs.2.1,hKs.2.2.1,hKs.2.2.2.1,λj hj=>?_⟩;obtain ⟨b2,off,p2,e2,hlt2,hf2,hc2,ht2⟩:=(hbody.below hb3).hk.at' j hj;exact ⟨b2,off,p2,e2,aJ hlt2 mr,hf2,by rw [World.cell?_of_block (hbyte b2 _ _ hlt2 hc2 (Or.inr ⟨_,rfl⟩))]; exact hc2,ht2⟩
    .exact hp3.keep mr (pN b' (hi3.lt_ b' q2) e (Or.inr ⟨t',hm',by omega⟩)) hbyte
 .-- done already
  subst hr;refine (On.VI ⟨b,4,none⟩ _ w3 (aV (j:=4) hO3 rfl)).mono ?_;rintro e w' ⟨rfl,rfl⟩;exact ⟨rfl,pM,aV (j:=7) hO3 rfl,FrN.below M _ hb3,hi3⟩
theorem oQ:∀ (t:T) (L:Nat),Tr.Good t L->L<=64->Fine t->mZ t
 | .nil,_,_,_,_=>Vi
 | .stub r,_,_,_,_=>TB r
 | .leaf q v,L,g,hL,f=>Bj _ (λh=>h) (λe=>by cases e) g hL f (λ_ _ e=>by cases e) (λ_ e=>by cases e)
 | .ext q s,L,g,hL,f=>Bj _ (λh=>h) (λe=>by cases e) g hL f (λq' s' e=>by
   injection e with _ e;subst e;exact oQ s _ g.2.2.2.2 (by have:=g.2.2.1; omega) f) (λ_ e=>by cases e)
 | .br ks,L,g,hL,f=>Bj _ (λh=>h) (λe=>by cases e) g hL f (λ_ _ e=>by cases e) (λks' e i=>by
   injection e with e;subst e;exact oQ (ks i) _ (g.2.2 i) (by omega) (f i))
open Ky
theorem Inv.after {M:Mp} {n:Nat} {w w':World} (h:Inv M w) (f:FrN M n w w') (g:dM M n w'):Inv M w' :=
 ⟨λk hk=>aJ (h.lt_ k hk) f.size,λb t hm=>by
  have:=((h.toN (sz t+1)).after f g).part_ b t hm;exact ⟨this.1,this.2.1,this.2.2.2 (Nat.lt_succ_self _)⟩⟩
def Yz (M:Mp) (w:World) (s:aM) (e:Ending) (w':World):Prop:=e = .returned (.string s)/\Fr M M w w'/\Inv M w'/\Tab w'
theorem Hr (M:Mp) (p:aL) (t:T) (L:Nat) (g:Tr.Good t L) (hL:L<=64) (f:Fine t) (w:World) (hi:Inv M w) (ht:IsT M p t) (hT:Tab w) :
  Calls prog 34 #[tv p] w (Yz M w (bP t)):=by
 by_cases hn:fB t=0\/fB t = -1
 .have he:bP t=eB:=by
   cases t with
   | nil=>rfl
   | stub r=>rfl
   | leaf q v=>rcases hn with h | h <;> exact absurd h (by show ¬ ((_:Int)=_); simp [fB])
   | ext q s=>rcases hn with h | h <;> exact absurd h (by show ¬ ((_:Int)=_); simp [fB])
   | br ks=>rcases hn with h | h <;> exact absurd h (by show ¬ ((_:Int)=_); simp [fB])
  rw [he];refine (UJ p (fB t) (by omega) (by omega) (by omega) w (λwx hbx=>dV M p t wx (hi.below hbx) ht)).mono ?_;rintro e w' ⟨rfl,hb⟩;exact ⟨rfl,Fr.below M hb,hi.below hb,hT.below hb hT.pos⟩
 .have hs:¬ eY t:=λh=>by
   cases t with
   | stub r=>exact hn (Or.inr rfl)
   | _=>exact h.elim
  have hne:t ≠ .nil:=λe=>hn (Or.inl (by rw [e]; rfl));obtain ⟨b,rfl,hm⟩:=ht.at_ hne;obtain ⟨pa,pn,pc,ka,kn,kc,hB⟩:=(hi.part hm).body;refine (Nc M b t hm hs hne g hL f w (hi.toN _) hB hT (λq s e=>by
   subst e;exact oQ s _ g.2.2.2.2 (by have:=g.2.2.1; omega) f) (λks e i=>by
   subst e;exact oQ (ks i) _ (g.2.2 i) (by omega) (f i))).mono ?_
  rintro e w' ⟨rfl,hf,hi'⟩;exact ⟨rfl,hf.fr,hi.after hf hi',zx (hi.toN _) hf hT⟩
theorem Bn (ps:List (aL)) (a:aL) (n cap:Nat) (w:World) (h:ze w a n cap ps) (hn:n<=1000000) :
  Calls prog 162 #[.slice a n cap,.func (Fn.func 124) #[] #[]] w λe w'=>∃ r:Int,e = .returned (.int .i64 r)/\Below w.heap.size w w'/\
   ((r = -1/\∀ p∈ps,p.isNone=false)\/∃ i:Nat,r=i/\i<n/\ps.getD i none=none/\∀ p∈ps.take i,p.isNone=false):=by
 have hm:=h.2.1;have hnc:=h.1;have hl:=h.2.2.1;unfold maxLen at hm;have H:=hid h;have HL:=hid hl;clear h hl;go_enter func162,ntmps162;go_wp2;go_loopw [8] (λi wr=>∃ j:Nat,j<=n/\i = .int .i64 j/\Hid (∀ p∈ps.take j,p.isNone=false)/\Hid (Below w.heap.size w wr)) (λi _=>n-(intOf i).toNat)
 case atStart=>exact ⟨0,Nat.zero_le _,rfl,hid (λp hp=>by simp at hp),hid aI⟩
 case round =>
  obtain ⟨j,hj,rfl,HJ,HB⟩:=hrel;by_cases hlt:j<n
  .obtain ⟨b,off,rfl,hblt,hc⟩:=H.out.2.2.2.2 j hlt;have hji:(j:Int)<n:=by omega
   have hc':=(Below.cell (p:=⟨b,off+j,none⟩) HB.out hblt).trans hc;have HS:Hid (ps.take (j+1)=ps.take j++[ps.getD j none]):=hid (by
    have hj':j<ps.length:=by rw [HL.out]; exact hlt
    have e:ps.getD j none=ps[j]:=by simp [List.getD,hj']
    rw [e,List.take_succ_eq_append_getElem hj'])
   obtain ⟨p,hp⟩:=aA (ps.getD j none)
   rw [hp] at hc' HS;have HE:=hid (lQ p wr);have HP:=hid hp;clear hp hc;go_wp2_with (refine aB (aW hc' ⟨_,rfl,rfl⟩) ?_)
   refine HE.out.mono ?_;rintro e w5 ⟨rfl,hb5⟩;have ae:=hid (bst HB.out hb5);clear hb5 HE HB hc';cases hf:p.isNone with
   | false =>
    have K6:Hid (∀ q∈ps.take (j+1),q.isNone=false):=hid (λq hq=>by
     rw [HS.out,List.mem_append,List.mem_singleton] at hq;rcases hq with hq | rfl
     .exact HJ.out q hq
     .exact hf)
    clear hf;go_wp2;go_roundw
    case rel=>exact ⟨j+1,by omega,by go_num,K6,ae⟩
    case measure=>simp [intOf]; omega
   | true =>
    have hpn:p=none:=by simpa using hf
    clear hf;go_wp2;go_ret;exact ⟨(j:Int),rfl,ae.out,Or.inr ⟨j,rfl,hlt,by rw [HP.out]; exact hpn,HJ.out⟩⟩
  .obtain rfl:j=n:=by omega
   have HF:Hid (∀ p∈ps,p.isNone=false):=hid (by have:=HJ.out; rwa [List.take_of_length_le (by rw [HL.out]; exact aH)] at this);go_wp2;go_ret;exact ⟨-1,rfl,HB.out,Or.inl ⟨rfl,HF.out⟩⟩
def lK (ps:List (aL)):List (aL):=ps.filter λp=>!p.isNone
theorem xR (l:List (aL)) (p:aL):lK (l++[p])=lK l++if p.isNone then [] else [p]:=by
 unfold lK;rw [List.filter_append];cases p <;> rfl
theorem IY {l:List (aL)} (h:∀ p∈l,p.isNone=false):lK l=l:=List.filter_eq_self.2 λp hp=>by rw [h p hp]; rfl
theorem pW {w1 w2:World} {b:Nat} (h:Rg.Upd w b w1) (g:Rg.Upd w1 b w2):Rg.Upd w b w2:=⟨g.os.trans h.os,g.tape.trans h.tape,g.output.trans h.output,g.size.trans h.size,λk hk=>(g.block k hk).trans (h.block k hk)⟩
theorem sj (w:World) (b:Nat):Rg.Upd w b w:=⟨rfl,rfl,rfl,rfl,λ_ _=>rfl⟩
theorem vH {b:Nat} {t:TypeId}:∀ (vs:List Value) (o:Nat) (w:World) (cs:aO),Rg.Own w b cs t->∃ cs',Rg.Own (w.setCells b o vs) b cs' t/\cs'.size=cs.size/\∀ j,j<o->cs'[j]? = cs[j]?
 | [],_,_,cs,h=>⟨cs,h,rfl,λ_ _=>rfl⟩
 | v::r,o,w,cs,h=>by
  obtain ⟨cs',h1,h2,h3⟩:=vH r (o+1) _ _ (bZ (o:=o) h v);refine ⟨cs',h1,by simpa using h2,λj hj=>?_⟩;rw [h3 j (by omega),Array.getElem?_setIfInBounds_ne (by omega)]
theorem uS (b:Nat):∀ (vs:List Value) (o:Nat) (w:World),Rg.Upd w b (w.setCells b o vs)
 | [],_,w=>sj w b
 | v::r,o,w=>pW (bM w b o v) (uS b r (o+1) _)
theorem QJ (w:World):(zeroValue (prog.elem 136)).run prog w = .ok (.agg #[.pointer none]) w:=by kernel_rfl
theorem JL (n:Nat):(Builtin.zeroCells #[Value.pointer none] n).toList=List.replicate n (Value.pointer none):=by
 simp [Builtin.zeroCells];apply List.ext_getElem
 .simp
 .intro i h1 h2;simp [Nat.mod_one]
theorem Af (ty:TypeId) (hO:Rg.Own w g cur 46) (hs:cur.size=cap) (hi:i<=n) (hn:n<=cap) :
  ∃ w',(Builtin.clear_ #[136] ty #[.slice (eP (some ⟨g,0,none⟩) cap i) (n-i) (cap-i)]).run prog w = .ok (.tuple #[]) w'/\Rg.Upd w g w'/\∃ cur',Rg.Own w' g cur' 46/\cur'.size=cap/\∀ j,j<i->cur'[j]? = cur[j]? := by
 by_cases hz:n-i=0
 .refine ⟨w,?_,sj w g,cur,hO,hs,λ_ _=>rfl⟩;rw [hz];cases eP (some ⟨g,0,none⟩) cap i <;> simp [Builtin.clear_,run_underlying oL]
 .have hf:eP (some ⟨g,0,none⟩) cap i=some ⟨g,i,none⟩:=by
   unfold eP;rw [if_neg (by omega)];simp [Addr.add_mid]
  obtain ⟨cs',h1,h2,h3⟩:=vH (List.replicate (n-i) (Value.pointer none)) i w cur hO;refine ⟨_,?_,uS g (List.replicate (n-i) (Value.pointer none)) i w,cs',h1,by rw [h2,hs],h3⟩;rw [hf];have hst:=run_storeCells_cells (P:=prog) g i (List.replicate (n-i) (Value.pointer none)) 0 w (λj hj=>by
   have hj':j<n-i:=by simpa using hj
   rw [Nat.add_zero,cell_of_row w g _ _ _ _ hO.2,Array.getElem?_eq_getElem (by omega)];rfl) (λj hj=>fJ hO) (by intro v hv'; rw [List.eq_of_mem_replicate hv']; rfl)
  simp only [Nat.add_zero] at hst;obtain ⟨m,hm⟩:∃ m,n-i=m+1:=⟨n-i-1,by omega⟩
  rw [hm] at hst ⊢;simp [Builtin.clear_,run_underlying oL,QJ,JL,Value.cells,hst]
theorem OO {rest:List Oper} {a:Act} (hgd:o.guard=none)
  (ho:∃ s,o.op = .call { callee:=.builtin .clear,args:=#[s],argTypes:=#[136] }/\a.eval s = .slice (eP (some ⟨g,0,none⟩) cap i) (n-i) (cap-i)) (hd:o.dst=none)
  (hO:Rg.Own w g cur 46) (hs:cur.size=cap) (hi:i<=n) (hn:n<=cap)
  (H:∀ w' cur',Rg.Own w' g cur' 46->cur'.size=cap->(∀ j,j<i->cur'[j]? = cur[j]?)->Rg.Upd w g w'->wpList prog ops Q rest a w'):wpList prog ops Q (o::rest) a w:=by
 obtain ⟨s,ho,hx⟩:=ho;refine wpList_plain hgd λK hK=>?_;obtain ⟨w',hr,hu,cur',h1,h2,h3⟩:=Af o.type hO hs hi hn;unfold Oper.wp execOp;simp only [ho,resolve,invoke,builtin,Sem.run_bind,Sem.run_pure,Result.andThen_ok,List.map_toArray,List.map_cons,List.map_nil,hx,hr];refine hK _ _ ?_;rw [show a.put o.dst (.tuple #[])=a by rw [hd]; rfl];exact H w' cur' h1 h2 h3 hu
theorem RowK.cell {qs:List (aL)} (h:RowK w g cap qs) (hj:j<qs.length):w.cell? ⟨g,j,none⟩=some (.pointer (qs.getD j none)):=by
 obtain ⟨cur,hO,hs,hl,hm,hc⟩:=h;rw [cell_of_row w g _ _ _ _ hO.2];exact hc j hj
theorem RowK.cut {k:Nat} {qs:List (aL)} (h:RowK w g cap qs) (hO:Rg.Own w g cur 46) (hk:k<=qs.length) (z8:Rg.Own w' g cur' 46) (hs:cur'.size=cap) (he:∀ j,j<k->cur'[j]? = cur[j]?):RowK w' g cap (qs.take k):=by
 obtain ⟨pP,ap,hs0,hl,hm,hc⟩:=h;have e:pP=cur:=by
  have:=ap.2.symm.trans hO.2;injection this with this;injection this
 subst e;refine ⟨cur',z8,hs,by rw [List.length_take]; omega,hm,λj hj=>?_⟩;have hjk:j<k:=by rw [List.length_take] at hj; omega
 have hjq:j<qs.length:=by omega
 rw [he j hjk,hc j hjq];simp [List.getD,hjk]
theorem RowK.own {qs:List (aL)} (h:RowK w g cap qs):∃ cur,Rg.Own w g cur 46/\cur.size=cap/\qs.length<=cap/\cap<=maxLen:=by
 obtain ⟨pP,ap,hs0,hl,hm,hc⟩:=h;exact ⟨pP,ap,hs0,hl,hm⟩
theorem Qb {qs ps:List (aL)} (h:qs.drop j=ps.drop j):qs.getD j none=ps.getD j none/\qs.drop (j+1)=ps.drop (j+1):=by
 constructor
 .have:=congrArg (λl=>l[0]?) h;simp only [List.getElem?_drop,Nat.add_zero] at this;rw [List.getD_eq_getElem?_getD,List.getD_eq_getElem?_getD,this]
 .have:=congrArg (λl=>l.drop 1) h;simpa [List.drop_drop] using this
theorem CG {qs:List (aL)} {k:Nat} (hk:k<qs.length) (p:aL):(qs.set k p).take (k+1)=qs.take k++[p]:=by
 rw [List.take_succ_eq_append_getElem (by simpa using hk),List.getElem_set_self,List.take_set_of_le (Nat.le_refl k)]
theorem Ef {ps:List (aL)} (h:j<ps.length):ps.take (j+1)=ps.take j++[ps.getD j none]:=by
 have e:ps.getD j none=ps[j]:=by simp [List.getD,h]
 rw [e,List.take_succ_eq_append_getElem h]
def YJ (w:World) (g cap:Nat) (ps:List (aL)) (e:Ending) (w':World):Prop:=e = .returned (.slice (some ⟨g,0,none⟩) (lK ps).length cap)/\RowK w' g cap (lK ps)/\Bo g w w'
theorem Gz (ps:List (aL)) (g cap:Nat) (w:World) (h:RowK w g cap ps) (hn:ps.length<=1000000) :
  Calls prog 130 #[.slice (some ⟨g,0,none⟩) ps.length cap,.func (Fn.func 124) #[] #[]] w (YJ w g cap ps):=by
 obtain ⟨pP,ap,hs0,hlc,hm⟩:=h.own;unfold maxLen at hm;obtain ⟨n,hnl⟩:=aA ps.length
 rw [hnl] at hn hlc;have HL:=hid hnl;have HX:=hid (Bn ps (some ⟨g,0,none⟩) ps.length cap w h.ptrs (by omega));rw [hnl] at HX ⊢;have HR:=hid h;have hgl:=h.lt;clear h ap hs0 hnl;go_enter func130,ntmps130;go_wp2_with fail
 refine HX.out.mono ?_;rintro e w1 ⟨r,rfl,hb1,hr⟩;have HB1:Hid (Bo g w w1):=hid (Bo.of hb1);have HR1:=hid (HR.out.below hb1);clear hb1 HX HR;rcases hr with ⟨rfl,hall⟩ | ⟨i,rfl,hi,hnone,hall⟩
 .have HK:=hid (IY hall);clear hall;go_wp2;go_ret;exact ⟨by rw [HK.out,HL.out]; rfl,(by rw [HK.out]; exact HR1.out),HB1.out⟩
 .have hne:decide ((i:Int) = -1)=false:=decide_eq_false (by omega);have hne2:((i:Int) == -1)=false:=by simp
  have HK:Hid (ps.take i=lK (ps.take (i+1))):=hid (by
   rw [Ef (by rw [HL.out]; exact hi),hnone,xR,IY hall];exact (List.append_nil _).symm)
  clear hall hnone;go_wp2_with fail
  go_loopw [5,6] (λvi vj wr=>∃ (k j:Nat) (qs:List (aL)),vi = .int .i64 k/\vj = .int .i64 j/\k<=j/\j<=n/\qs.length=n/\Hid (RowK wr g cap qs)/\Hid (qs.take k=lK (ps.take j))/\Hid (qs.drop j=ps.drop j)/\Hid (Bo g w wr)) (λ_ vj _=>n-(intOf vj).toNat)
  case atStart=>exact ⟨i,i+1,ps,rfl,by go_num,by omega,by omega,HL.out,HR1,HK,hid rfl,HB1⟩
  case round =>
   obtain ⟨k,j,qs,rfl,rfl,hkj,hj,S9,y9,tR,Sa,HB⟩:=hrel;clear HK HR1 HB1;have hgr:g<wr.heap.size:=y9.out.lt;by_cases hlt:j<n
   .have hji:(j:Int)<n:=by omega
    have hki:(k:Int)<n:=by omega
    have hdd:=Qb Sa.out;have hc:=y9.out.cell (j:=j) (by omega);rw [hdd.1] at hc;have FO:=hid hdd.2;have HS:=hid (Ef (ps:=ps) (j:=j) (by rw [HL.out]; exact hlt));obtain ⟨p,hp⟩:=aA (ps.getD j none)
    rw [hp] at hc HS;have hNew:=Rg.Own.new wr #[.pointer none] 46;have HN:=hid hNew;clear hdd hp hNew;go_wp2_with (first
     | (refine aB (aW hc ⟨_,rfl,rfl⟩) ?_)
     | (refine aB (bA _ _ _ wr.heap.size rfl rfl) ?_)
     | (refine bL HN.out (by decide) p rfl _ _ rfl rfl rfl ?_; intro w5 bo bd; have cf:=hid bo; have ae:Hid (Below wr.heap.size wr w5):=hid (bd.below (al1 _ _) aH); clear bo bd)
     | (refine aB (aW (aV (j:=0) cf.out rfl) ⟨_,rfl,rfl⟩) ?_))
    refine (lQ p w5).mono ?_;rintro e w6 ⟨rfl,hb6⟩;have ax:Hid (Below wr.heap.size wr w6):=hid (bst ae.out hb6);have cF:=hid (cf.out.below hb6);have dr:=hid (y9.out.below ax.out);have AI:Hid (Bo g w w6):=hid (HB.out.then ax.out);clear hb6 ae cf hc HN;cases hf:p.isNone with
    | true =>
     have AK:Hid (qs.take k=lK (ps.take (j+1))):=hid (by rw [HS.out,xR,hf,tR.out]; simp);clear hf;go_wp2_with fail
     go_roundw
     case rel=>exact ⟨k,j+1,qs,rfl,by go_num,by omega,by omega,S9,dr,AK,FO,AI⟩
     case measure=>simp [intOf]; omega
    | false =>
     have AK:Hid ((qs.set k p).take (k+1)=lK (ps.take (j+1))):=hid (by rw [HS.out,xR,hf,CG (by omega),tR.out]; simp);have HD2:Hid ((qs.set k p).drop (j+1)=ps.drop (j+1)):=hid (by rw [List.drop_set_of_lt (by omega)]; exact FO.out);clear hf;go_wp2_with (first
      | (refine aB (aW (aV (j:=0) cF.out rfl) ⟨_,rfl,rfl⟩) ?_)
      | (refine tQ dr.out (i:=k) (by omega) p rfl _ _ rfl rfl rfl ?_; intro w7 gx e9; have gC:=hid gx; have K7:Hid (Bo g w w7):=hid (AI.out.upd e9); clear gx e9))
     go_roundw
     case rel=>exact ⟨k+1,j+1,qs.set k p,by go_num,by go_num,by omega,by omega,by simpa using S9,gC,AK,HD2,K7⟩
     case measure=>simp [intOf]; omega
   .obtain rfl:j=n:=by omega
    have hT:=tR.out;rw [List.take_of_length_le (l:=ps) (by rw [HL.out]; exact aH)] at hT;have hkl:(lK ps).length=k:=by rw [<-hT,List.length_take]; omega
    have HE:=hid hT;have co:=hid hkl;obtain ⟨cur,hO,hs,_,_⟩:=y9.out.own;have HO:=hid hO;have Zf:=hid (λ(w':World) (cur':aO) (h1:Rg.Own w' g cur' 46) (h2:cur'.size=cap) (h3:∀ j,j<k->cur'[j]? = cur[j]?)=>y9.out.cut hO (by omega) h1 h2 h3);clear hT hkl hO tR Sa y9;go_wp2_with (first
     | (refine aB (jP (a:=some ⟨g,0,none⟩) (n:=j) (c:=cap) (i:=k) oL Dp hkj ⟨_,_,rfl,rfl,rfl⟩) ?_)
     | (refine aB (vT (a:=some ⟨g,0,none⟩) (n:=j) (c:=cap) (j:=k) oL Dp (by omega) ⟨_,_,rfl,rfl,rfl⟩) ?_)
     | (refine OO (i:=k) (n:=j) rfl ⟨_,rfl,rfl⟩ rfl HO.out hs hkj hlc ?_; intro w8 Kb gR AM Se mm; have Kd:=hid (Zf.out w8 Kb gR AM Se); have Kf:Hid (Bo g w w8):=hid (HB.out.upd mm); clear gR AM Se mm))
    go_ret;exact ⟨by rw [co.out]; rfl,(by rw [<-HE.out]; exact Kd.out),Kf.out⟩
def wI (B:Nat) (w:World) (v:Value) (ps:List (aL)):Prop:=(v = .slice none 0 0/\ps=[])\/∃ g cap,v = .slice (some ⟨g,0,none⟩) ps.length cap/\B<=g/\RowK w g cap ps
theorem wI.ptrs {B:Nat} {w:World} {v:Value} {ps:List (aL)} (h:wI B w v ps):∃ a c,v = .slice a ps.length c/\ze w a ps.length c ps/\∀ ad,a=some ad->B<=ad.block:=by
 rcases h with ⟨rfl,rfl⟩ | ⟨g,cap,rfl,hB,hR⟩
 .exact ⟨none,0,rfl,⟨aH,Nat.zero_le _,rfl,λ_=>rfl,λ_ h=>absurd h (Nat.not_lt_zero _)⟩,λ_ e=>by cases e⟩
 .exact ⟨_,cap,rfl,hR.ptrs,λad e=>by cases e; exact hB⟩
theorem xO (a:aL) (n cap:Nat) (ps:List (aL)) (w:World) (h:ze w a n cap ps) (hn:n<=1000000) :
  Calls prog 125 #[.slice a n cap] w λe w'=>∃ v,e = .returned v/\wI w.heap.size w' v ps/\Below w.heap.size w w':=by
 cases a with
 | none =>
  have hc:cap=0:=h.2.2.2.1 rfl;have h1:=h.1;obtain rfl:n=0:=by omega
  subst hc;have hp:ps=[]:=List.eq_nil_of_length_eq_zero h.2.2.1;refine (Ka w).mono ?_;rintro e w' ⟨rfl,rfl⟩;exact ⟨_,rfl,Or.inl ⟨rfl,hp⟩,aI⟩
 | some ad =>
  refine (Cg ad n cap ps w h hn).mono ?_;rintro e w' ⟨g,c,rfl,hg,hR,hb⟩;exact ⟨_,rfl,Or.inr ⟨g,c,rfl,hg,hR⟩,hb⟩
theorem Gw (w:World):Calls prog 130 #[.slice none 0 0,.func (Fn.func 124) #[] #[]] w λe w'=>e = .returned (.slice none 0 0)/\Below w.heap.size w w':=by
 have HX:=hid (Bn [] none 0 0 w ⟨aH,Nat.zero_le _,rfl,λ_=>rfl,λ_ h=>absurd h (Nat.not_lt_zero _)⟩ (by omega));go_enter func130,ntmps130;go_wp2_with fail
 refine HX.out.mono ?_;rintro e w1 ⟨r,rfl,hb1,hr⟩;rcases hr with ⟨rfl,_⟩ | ⟨i,rfl,hi,_⟩
 .have HB1:=hid hb1;clear hb1;go_wp2;go_ret;exact ⟨rfl,HB1.out⟩
 .omega
theorem KM (ps:List (aL)) (v:Value) (w:World) (h:wI B w v ps) (hB:B<=w.heap.size) (hn:ps.length<=1000000) :
  Calls prog 130 #[v,.func (Fn.func 124) #[] #[]] w λe w'=>∃ v',e = .returned v'/\wI B w' v' (lK ps)/\Below B w w':=by
 rcases h with ⟨rfl,rfl⟩ | ⟨g,cap,rfl,hg,hR⟩
 .refine (Gw w).mono ?_;rintro e w' ⟨rfl,hb⟩;exact ⟨_,rfl,Or.inl ⟨rfl,rfl⟩,hb.mono hB⟩
 .refine (Gz ps g cap w hR hn).mono ?_;rintro e w' ⟨rfl,hR',Zg⟩;exact ⟨_,rfl,Or.inr ⟨g,cap,rfl,hg,hR'⟩,Zg.below aI hB hg⟩
theorem ze.upd {c:Nat} {ps:List (aL)} (h:ze w a n c ps) (hu:Rg.Upd w g w') (hne:∀ ad,a=some ad->ad.block≠g):ze w' a n c ps:=by
 refine ⟨h.1,h.2.1,h.2.2.1,h.2.2.2.1,λj hj=>?_⟩;obtain ⟨b,off,e,hlt,hc⟩:=h.2.2.2.2 j hj;exact ⟨b,off,e,by rw [hu.size]; exact hlt,by rw [World.cell?_of_block (hu.block b (hne _ e))]; exact hc⟩
theorem Are.nil (M:Mp):Are M [] []:=⟨rfl,λ_ h=>absurd h (Nat.not_lt_zero _)⟩
theorem Ii {M:Mp} {p:aL} {t:T} {ps:List (aL)} {l:List T}:Are M (p::ps) (t::l)↔IsT M p t/\Are M ps l:=by
 constructor
 .rintro ⟨h1,h2⟩;refine ⟨h2 0 (by simp),by simpa using h1,λj hj=>?_⟩;have:=h2 (j+1) (by simpa using hj);simpa using this
 .rintro ⟨h1,h2,h3⟩;refine ⟨by simp [h2],λj hj=>?_⟩;cases j with
  | zero=>exact h1
  | succ j =>
   have:=h3 j (by simpa using hj);simpa using this
theorem Are.keep {M:Mp}:∀ {ps:List (aL)} {l:List T},Are M ps l->Are M (lK ps) (l.filter λt=>!isNil t)
 | [],[],_=>Are.nil M
 | [],_::_,h=>absurd h.1 (by simp)
 | _::_,[],h=>absurd h.1 (by simp)
 | p::ps,t::l,h=>by
  obtain ⟨h1,h2⟩:=Ii.1 h;have ih:=Are.keep h2;have hn:=h1.vS;cases p with
  | none =>
   obtain rfl:t = .nil:=hn.1 rfl;exact ih
  | some ad =>
   have ht:isNil t=false:=by
    cases t with
    | nil=>exact absurd (hn.2 rfl) (by simp)
    | _=>rfl
   have e1:lK (some ad::ps)=some ad::lK ps:=rfl;rw [e1,List.filter_cons_of_pos (by rw [ht]; rfl)];exact Ii.2 ⟨h1,ih⟩
theorem Lj {t:T} {L:Nat} (g:Tr.Good t L):(ji t).filter (λt=>!isNil t)=qV t:=by
 cases t with
 | nil=>rfl
 | leaf q v=>rfl
 | stub r=>rfl
 | ext q s =>
  have hs:isNil s=false:=by
   have:=g.2.2.2.1;cases s with
   | nil=>exact absurd rfl (mE this)
   | _=>rfl
  show List.filter _ [s]=[s]
  rw [List.filter_cons_of_pos (by rw [hs]; rfl)];rfl
 | br ks =>
  show List.filter _ ((List.finRange 16).map ks)=(dx ks).map ks;rw [List.filter_map];rfl
def Gl (M:Mp) (w:World) (t:T) (e:Ending) (w':World):Prop:=∃ a n c ka kc ps,e = .returned (.tuple #[.agg (ndC (bg t) a n c),.slice ka ps.length kc])/\wI w.heap.size w' (.slice ka ps.length kc) ps/\BsF w.heap.size w' a n c (bg t).p/\ze w' ka ps.length kc ps/\Are M ps (qV t)/\
 (∀ ad,ka=some ad->w.heap.size<=ad.block)/\Fr M M w w'/\Inv M w'/\Tab w'
theorem wI.late {B':Nat} {ps:List (aL)} (h:wI B w v ps) (hB:B'<=B) (hu:Rg.Upd w g w') (hg:g<B):wI B' w' v ps:=by
 rcases h with h | ⟨k,cap,e,hk,hR⟩
 .exact .inl h
 .exact .inr ⟨k,cap,e,Nat.le_trans hB hk,hR.upd hu (by omega)⟩
theorem SE (M:Mp) (w:World) (hi:Inv M w) (hT:Tab w):Calls prog 92 #[tv none] w (Gl M w .nil):=by
 obtain ⟨w2,hw2,ap,am,hb2,hs2⟩:=xX w none;have HE:=hid (lQ none w2);have HO:=hid ap;have ec:=hid am;have HB:=hid hb2;have HI:=hid hi;have HT:=hid hT;clear ap am hb2 hi hT;subst hw2;have hgo:Calls prog 92 #[.agg #[.pointer none]] w (Gl M w .nil):=by
  go_enter func92,ntmps92;go_wp2_with (first
   | (refine aB (aY _ _ _ (w.heap.size+1) (by simp) rfl) ?_)
   | (refine aB (aW (aV (j:=0) HO.out rfl) ⟨_,rfl,rfl⟩) ?_))
  refine HE.out.mono ?_;rintro e w3 ⟨rfl,hb3⟩;have HB3:=hid (bst HB.out hb3);have ce:=hid (ec.out.below hb3);clear hb3 HE;go_wp2_with (first
   | (refine aB (bQ qG ?_) ?_; · exact ⟨_,rfl,rfl⟩)
   | (refine bN ce.out rfl nd0 none 0 0 rfl rfl _ _ rfl rfl rfl rfl ?_))
  have fR:=hid (cO HB3.out (show w.heap.size<=w.heap.size+1 by omega) (ndC nd0 none 0 0));exact bodyPost_ret (fF (p:=2) (u:=3) rfl _ rfl (dO ce.out) rfl) rfl ⟨none,0,0,none,0,[],rfl,.inl ⟨rfl,rfl⟩,BsF.nil _ _,⟨aH,Nat.zero_le _,rfl,λ_=>rfl,λ_ h=>absurd h (Nat.not_lt_zero _)⟩,Are.nil M,λ_ e=>(by cases e),Fr.below M fR.out,HI.out.below fR.out,HT.out.below fR.out HT.out.pos⟩
 exact hgo
theorem WE (M:Mp) (b:Nat) (t:T) (hm:M.at_ b=some t) (hn:t ≠ .nil) {L:Nat} (g:Tr.Good t L) (hL:L<=64) (w:World) (hi:dM M (sz t) w) {pa:aL} {pn pc:Nat} {ka:aL} {kn kc:Nat} (hB:Body M w b t pa pn pc ka kn kc) (hT:Tab w)
  (gO:∀ q s,t = .ext q s->mZ s) (hR2:∀ ks,t = .br ks->∀ i,mZ (ks i)) :
  Calls prog 63 #[.agg #[.pointer (some ⟨b,0,none⟩)]] w (nA M t w):=by
 by_cases hs:eY t
 .obtain ⟨r,rfl⟩:∃ r,t = .stub r:=by
   cases t with
   | stub r=>exact ⟨r,rfl⟩
   | _=>exact hs.elim
  refine (Hw (some ⟨b,0,none⟩) (-1) (by decide) (by decide) (by decide) w (λwx hbx=>nL b (-1) wx (aX hbx hB.c0))).mono ?_;rintro e w' ⟨rfl,hb⟩;exact ⟨none,0,0,rfl,BsF.nil _ _,FrN.below M _ hb,hi.below hb⟩
 .exact Mh M b t hm hs hn g hL w hi hB hT gO hR2
theorem QT (M:Mp) (p:aL) (t:T) (L:Nat) (g:Tr.Good t L) (hL:L<=64) (f:Fine t) (w:World) (hi:Inv M w) (ht:IsT M p t) (hT:Tab w) :
  Calls prog 92 #[tv p] w (Gl M w t):=by
 by_cases hne:t = .nil
 .subst hne;have:p=none:=ht.vS.2 rfl;subst this;exact SE M w hi hT
 obtain ⟨b,rfl,hm⟩:=ht.at_ hne;obtain ⟨pa,pn,pc,ka,kn,kc,hB⟩:=(hi.part hm).body;obtain ⟨w2,hw2,ap,am,hb2,hs2⟩:=xX w (some ⟨b,0,none⟩);have hlb:=hi.lt hm;have hB2:=hB.below hb2;have hi2:=hi.below hb2;have eL:=hT.below hb2 hT.pos;have hkn:kn<=16:=by
  rw [<-hB.hk.len];cases t with
  | br ks=>rw [show ji (.br ks)=(List.finRange 16).map ks from rfl]; simp
  | ext q s=>show 1<=16; omega
  | _=>exact Nat.zero_le _
 have HE:Hid (∀ w3,Below w2.heap.size w2 w3->(w3.cell? ⟨w.heap.size,0,none⟩=some (.pointer (some ⟨b,0,none⟩))/\w3.cell? ⟨b,3,none⟩=some (.slice ka kn kc))/\
   Calls prog 63 #[.agg #[.pointer (some ⟨b,0,none⟩)]] w3.drew (nA M t w3.drew)/\
   ∀ w6 a6 n6 c6,BsF w3.heap.size w6 a6 n6 c6 (bg t).p->FrN M (sz t) w3.drew w6->dM M (sz t) w6->(w6.cell? ⟨w.heap.size,0,none⟩=some (.pointer (some ⟨b,0,none⟩))/\w6.cell? ⟨b,3,none⟩=some (.slice ka kn kc))/\
   ∃ ps,(Calls prog 125 #[.slice ka kn kc] w6 λe w'=>∃ v,e = .returned v/\wI w6.heap.size w' v ps/\Below w6.heap.size w6 w')/\
   ∀ w7 v7,wI w6.heap.size w7 v7 ps->Below w6.heap.size w6 w7->(w7.cell? ⟨w.heap.size,0,none⟩=some (.pointer (some ⟨b,0,none⟩))/\w7.cell? ⟨b,3,none⟩=some (.slice ka kn kc))/\
   (Calls prog 130 #[v7,.func (Fn.func 124) #[] #[]] w7 λe w'=>∃ v',e = .returned v'/\wI w6.heap.size w' v' (lK ps)/\Below w6.heap.size w7 w')/\
   ∀ w8 v8,wI w6.heap.size w8 v8 (lK ps)->Below w6.heap.size w7 w8->(w8.cell? ⟨w.heap.size,0,none⟩=some (.pointer (some ⟨b,0,none⟩))/\w8.cell? ⟨b,3,none⟩=some (.slice ka kn kc))/\dZ w8 (w.heap.size+1) nd0 none 0 0/\
   ∀ w9,Rg.Upd w8 (w.heap.size+1) w9->(w9.cell? ⟨w.heap.size,0,none⟩=some (.pointer (some ⟨b,0,none⟩))/\w9.cell? ⟨b,3,none⟩=some (.slice ka kn kc))/\Gl M w t (.returned (.tuple #[.agg (ndC (bg t) a6 n6 c6),v8])) w9):=hid (λw3 hb3=>by
  have ew:Below w2.heap.size w2 w3.drew:=below_drewN hb3 1;have hi3:=hi2.below ew;have hB3:=hB2.below ew;have AR:=ap.below ew;have ms:=am.below ew;have tx:=eL.below ew eL.pos;have hg0:M.at_ w.heap.size=none:=hi.out aH;have hg1:M.at_ (w.heap.size+1)=none:=hi.out (by omega);have hs3:=ew.size;refine ⟨⟨aV (j:=0) AR rfl,hB3.c3⟩,WE M b t hm hne g hL w3.drew (hi3.toN _) hB3 tx (λq s e=>by
   subst e;exact oQ s _ g.2.2.2.2 (by have:=g.2.2.1; omega) f) (λks e i=>by
   subst e;exact oQ (ks i) _ (g.2.2 i) (by omega) (f i)),λw6 a6 n6 c6 ya e8 pD=>?_⟩
  have tS:=zB AR e8 hg0;have AS:=zB ms e8 hg1;have cG:=hB3.frN (hi3.toN (sz t)) e8 hm aH;have s0:=hi3.after e8 pD;have tU:=zx (hi3.toN (sz t)) e8 tx;obtain ⟨ps,hps,har⟩:=cG.hk.ptrs;have hpl:ps.length=kn:=hps.2.2.1;have hs6:=e8.size;refine ⟨⟨aV (j:=0) tS rfl,cG.c3⟩,ps,xO ka kn kc ps w6 hps (by omega),λw7 v7 hv7 cQ=>?_⟩;have Kp:=tS.below cQ;have Kx:=aX cQ cG.c3;refine ⟨⟨aV (j:=0) Kp rfl,Kx⟩,KM ps v7 w7 hv7 cQ.size (by omega),λw8 v8 AT cE=>?_⟩;have gS:Below w6.heap.size w6 w8:=cQ.trans cE;have AW:=tS.below gS
  have B3:=AS.below gS;have hc38:=aX gS cG.c3;refine ⟨⟨aV (j:=0) AW rfl,hc38⟩,B3,λw9 b8=>?_⟩;have hne1:w.heap.size≠w.heap.size+1:=by omega
  have Ge:=s0.below gS;have hnf:¬ M.ft (w.heap.size+1):=hi.free (by omega);have hrow:=AT;obtain ⟨k8,Zh,rfl,Zi,Sf⟩:=AT.ptrs;have AM:=gS.size;have h06:w.heap.size+1<w6.heap.size:=AS.1;have KK:=tU.below gS tU.pos;have Zj:∀ ad,k8=some ad->ad.block≠w.heap.size+1:=λad e=>by have:=Sf ad e; omega
  refine ⟨⟨aV (j:=0) (AW.upd b8 hne1) rfl,by rw [World.cell?_of_block (b8.block b (by omega))]; exact hc38⟩,a6,n6,c6,k8,Zh,lK ps,rfl,hrow.late (by omega) b8 (by omega),⟨wH (ya.1.below gS) (fO B3 (LK _ _ _ _)) b8,λad e=>Nat.le_trans (Nat.le_trans hb2.size hb3.size) (ya.2 ad e)⟩,Zi.upd b8 Zj,by rw [<-Lj g]; exact har.keep,λad e=>by have:=Sf ad e; omega,?_,Ge.upd b8 hnf,λi hi=>by rw [World.cell?_of_block (b8.block 0 (by have:=hT.pos; omega))]; exact KK i hi⟩
  exact ((((Fr.below M hb2).trans hi (Fr.below M ew)).trans hi e8.fr).trans hi (Fr.below M gS)).upd b8 (by omega))
 have HL:=hid (dY t);obtain ⟨N,hN⟩:=aA (bg t)
 rw [hN] at HL HE;have HN:=hid hN;have zE:=hid ap;have So:=hid (lQ (some ⟨b,0,none⟩) w2);have HW:Hid (_=_):=hid hw2;clear ap am hb2 hB hB2 hi2 eL hi hT hm hN g f hne ht hkn hw2;have hgo:Calls prog 92 #[.agg #[.pointer (some ⟨b,0,none⟩)]] w (Gl M w t):=by
  have tW:=zE;rw [HW.out] at tW;go_enter func92,ntmps92;go_wp2_with (first
   | (refine aB (aY _ _ _ (w.heap.size+1) (by simp) rfl) ?_)
   | (refine aB (aW (aV (j:=0) tW.out rfl) ⟨_,rfl,rfl⟩) ?_))
  rw [<-HW.out];refine So.out.mono ?_;rintro e w3 ⟨rfl,hb3⟩;obtain ⟨hS0,u0,HF⟩:=HE.out w3 hb3;replace u0:=hid u0;replace HF:=hid HF;clear hb3 HE HW zE tW So;go_wp2_with fail
  refine aD (S:=λw'=>w'.cell? ⟨w.heap.size,0,none⟩=some (.pointer (some ⟨b,0,none⟩))/\w'.cell? ⟨b,3,none⟩=some (.slice ka kn kc)) (hS0) λhld=>?_;refine aj 0 ?_ (hy:=by intro wz hSw; (refine aW hSw.1 ?_; exact ⟨_,rfl,rfl⟩));try simp only [Act.put,au]
  refine aj 2 ?_;try simp only [Act.put,au]
  refine aj 3 ?_ (hy:=by intro wz hSw; (obtain ⟨hcc,hcd⟩:=hSw; go_simp <;> with_reducible rfl));try simp only [Act.put,au]
  refine aj 4 ?_;try simp only [Act.put,au]
  refine aj 5 ?_;try simp only [Act.put,au]
  refine aj 6 ?_ (hy:=by intro wz hSw; (obtain ⟨hcc,hcd⟩:=hSw; go_simp <;> with_reducible rfl));try simp only [Act.put,au]
  refine ak 1 λK hK=>?_;go_simp;go_at_call 63
  (with_reducible refine u0.out.mono ?_)
  rintro e w6 ⟨a6,n6,c6,rfl,ya,e8,pD⟩;rw [HN.out] at ya ⊢;obtain ⟨iS,hH6⟩:=HF.out w6 a6 n6 c6 ya e8 pD;have H6:=hid hH6;clear ya e8 pD hH6;refine hK.out _ _ (iS) λhld=>?_;clear hK K;try simp only [Act.put,au]
  refine ak 7 λK hK=>?_;go_simp;go_at_call 125
  obtain ⟨ps,Sp,hD7⟩:=H6.out;have HD7:=hid hD7
  (with_reducible refine Sp.mono ?_)
  rintro e w7 ⟨v7,rfl,hv7,cQ⟩;obtain ⟨B4,B5,Sq⟩:=HD7.out w7 v7 hv7 cQ;have H7:=hid Sq;have Zk:=hid B5;clear hv7 cQ B5 Sq hD7 Sp;refine hK.out _ _ (B4) λhld=>?_;clear hK K;try simp only [Act.put,au]
  refine ak 8 λK hK=>?_;go_simp;go_at_call 130
  (with_reducible refine Zk.out.mono ?_)
  rintro e w8 ⟨v8,rfl,AT,cE⟩;obtain ⟨pS,gR,mt⟩:=H7.out w8 v8 AT cE;have H8:=hid mt;have cJ:=hid gR;clear AT cE mt gR;refine hK.out _ _ (pS) λhld=>?_;clear hK K;try simp only [Act.put,au]
  refine ak 9 λK hK=>?_;refine Rg.meetStore (by rfl) cJ.out 67 (ndC N a6 n6 c6) ⟨_,_,rfl,rfl,rfl⟩ (kY _ _ _ _ HL.out) (by rw [eO _ _ _ _ cB,eO _ _ _ _ HL.out]) (oZ _ _ _ _) ?_;intro w9 aw b8;have cl:=hid aw;obtain ⟨oY,Ss⟩:=H8.out w9 b8;have H9:=hid Ss;clear aw b8 Ss;refine hK.out _ _ (oY) λhld=>?_;clear hK K;try simp only [Act.put,au]
  refine aj 10 ?_;try simp only [Act.put,au]
  refine aC ?_;go_wp2;exact bodyPost_ret (fF (p:=2) (u:=3) rfl _ rfl cl.out HL.out) rfl H9.out
 exact hgo
end Tm
end
section
open Go.RowKit
namespace Tm
open Tr Ni Pk
theorem Oh (M:Mp) (b:Nat) (t:T) (hm:M.at_ b=some t) (k:Nat) (A:T) (hkl:k<(bY t).length) (li:(bY t).length<=1000) (hn:Nib (bY t)) (w:World) (hi:Inv M w)
  (hcut:∀ wx M',Inv M' wx->M'.at_ b=some t->Calls prog 161 #[.agg #[.pointer (some ⟨b,0,none⟩)],.int .i64 (k+1:Nat)] wx (dz M' wx A))
  (wa:aL) (wn wc:Nat) (way:Pa) (v:aM) (hW:Bs M w wa wn wc way) (Su:k<way.length) (hwn:Nib way) (hw64:way.length<=1000) (hne:(bY t).getD k 0≠way.getD k 0) :
  Calls prog 128 #[.agg #[.pointer (some ⟨b,0,none⟩)],.int .i64 k,.slice wa wn wc,.string v] w (dz M w (wrap (way.take k) (two (nb ((bY t).getD k 0)) (nb (way.getD k 0)) A (.leaf (way.drop (k+1)) v)))):=by
 obtain ⟨w2,hw2,ap,am,hb2,hs2⟩:=mV w (some ⟨b,0,none⟩);have hi2:=hi.below hb2;have hS2:St M w M w2:=⟨Fr.below M hb2,hi2,hb2,hi⟩
 have hX2:Bx M w2 (w.heap.size+1) #[.pointer none] 46:=⟨am,hi.free (by omega),jv _⟩
 obtain ⟨pa,pn,pc,c1,hP⟩:=hi2.path hm;have hpn:(bY t).length=pn:=hP.1.len;have hwl:way.length=wn:=hW.1.len;rw [hpn] at hkl li;rw [hwl] at Su hw64;obtain ⟨pb,po,rfl,_,cx⟩:=hP.1.at' k hkl;have hW2:=hW.fr hi (Fr.below M hb2);obtain ⟨wb,wo,rfl,_,cy⟩:=hW2.1.at' k Su;have hx:((bY t).getD k 0).toNat<16:=by
  have:=hn ((bY t).getD k 0) (by rw [List.getD_eq_getElem?_getD,List.getElem?_eq_getElem (by omega)]; exact List.getElem_mem _);exact this
 have hy:(way.getD k 0).toNat<16:=by
  have:=hwn (way.getD k 0) (by rw [List.getD_eq_getElem?_getD,List.getElem?_eq_getElem (by omega)]; exact List.getElem_mem _);exact this
 have hnx:((nb ((bY t).getD k 0)).val:Nat)=((bY t).getD k 0).toNat:=Nat.mod_eq_of_lt hx;have hny:((nb (way.getD k 0)).val:Nat)=(way.getD k 0).toNat:=Nat.mod_eq_of_lt hy;have hnn:nb ((bY t).getD k 0)≠nb (way.getD k 0):=λe=>hne (rY hx hy e);obtain ⟨X,hX⟩:=aA (nb ((bY t).getD k 0))
 obtain ⟨Y,hY⟩:=aA (nb (way.getD k 0))
 rw [hX] at hnx hnn ⊢;rw [hY] at hny hnn ⊢;obtain ⟨x,hxe⟩:=aA (((bY t).getD k 0).toNat)
 obtain ⟨y,hye⟩:=aA ((way.getD k 0).toNat)
 rw [hxe] at hx cx hnx;rw [hye] at hy cy hny;obtain ⟨w3,hw3⟩:=ay (w2.alloc (.cells (uJ wO) 46))
 have hb3:Below w2.heap.size w2 w3:=by rw [hw3]; exact al1 _ _
 have yb:Rx M w3 w2.heap.size wO:=⟨by rw [hw3]; exact Rg.Own.new _ _ _,hi2.free aH,by rw [oM]; simp [maxLen]⟩
 have hxi:(x:Int)<16:=by omega
 have hyi:(y:Int)<16:=by omega
 have k9:=hP.1.1;have hpm:=hP.1.2.1;have ke:=hW.1.1;have pT:=hW.1.2.1;unfold maxLen at hpm pT;have HAdd:Hid (IntKind.i64.wrap ((k:Int)+1)=((k+1:Nat):Int)):=hid (by simp only [IntKind.wrap_i64,wrap64]; omega);have L0:Hid (∀ wx,Below w2.heap.size w2 wx->Calls prog 161 #[.agg #[.pointer (some ⟨b,0,none⟩)],.int .i64 ((k:Int)+1)] wx (dz M wx A)):=hid (λwx hb=>hcut wx M (hi2.below hb) hm);obtain ⟨g,hg⟩:=aA w2.heap.size
 rw [hg] at yb;have B6:Hid (∀ wx e w4,Below w3.heap.size w3 wx->Below w2.heap.size w2 wx->dz M wx A e w4->∃ p4 M4,e = .returned (tv p4)/\Below w2.heap.size w2 w4/\Rx M4 w4 g wO/\
   ∀ w5,Rx M4 w5 g (wO.set x p4)->Rg.Upd w4 g w5->Below w2.heap.size w2 w5/\Calls prog 87 #[.slice (eP (some ⟨wb,wo,none⟩) wc (k+1)) (wn-(k+1)) (wc-(k+1)),.string v] w5.drew (dz M4 w5.drew (.leaf (way.drop (k+1)) v))/\
   ∀ e w6,dz M4 w5.drew (.leaf (way.drop (k+1)) v) e w6->∃ p6 M6,e = .returned (tv p6)/\Below w2.heap.size w2 w6/\Rx M6 w6 g (wO.set x p4)/\
   ∀ w7,Rx M6 w7 g ((wO.set x p4).set y p6)->Rg.Upd w6 g w7->∃ M7,Below w2.heap.size w2 w7/\Calls prog 126 #[.slice (some ⟨g,0,none⟩) 16 16] w7.drew (dz M7 w7.drew (two X Y A (.leaf (way.drop (k+1)) v)))/\
   ∀ e w8,dz M7 w7.drew (two X Y A (.leaf (way.drop (k+1)) v)) e w8->∃ p8 M8,e = .returned (tv p8)/\Below w2.heap.size w2 w8/\Calls prog 129 #[.slice (some ⟨wb,wo,none⟩) k wc,.agg #[.pointer p8]] w8 (dz M8 w8 (wrap (way.take k) (two X Y A (.leaf (way.drop (k+1)) v))))/\
   ∀ e w9,dz M8 w8 (wrap (way.take k) (two X Y A (.leaf (way.drop (k+1)) v))) e w9->∃ p9,e = .returned (tv p9)/\Below w2.heap.size w2 w9/\Rg.Own w9 (w.heap.size+1) #[.pointer none] 46/\
   ∀ ag,Rg.Upd w9 (w.heap.size+1) ag->Below w.heap.size w ag/\dz M w (wrap (way.take k) (two X Y A (.leaf (way.drop (k+1)) v))) (.returned (tv p9)) ag):=hid (by
  intro wx e w4 h3x h2x hG;have hsx:St M w M wx:=hS2.below h2x;obtain ⟨p4,M4,rfl,s6,Zl,pH,hb4⟩:=hsx.got hG;have Sx:=(yb.below h3x).got pH hb4;have Zm:=(hX2.below h2x).got pH hb4;have fN:=bst h2x hb4;refine ⟨p4,M4,rfl,fN,Sx,λw5 oR bd=>?_⟩;have hlo:w.heap.size<=g:=by omega
  have hS5:St M w M4 w5:=Zl.upd bd hlo Sx.n;have B7:=Zm.upd bd (by omega);have B8:=bd.below fN (by omega);have hW5:Bs M4 w5 (some ⟨wb,wo,none⟩) wn wc way:=hW.fr hi hS5.f;have u1:=hS5.below (below_drewN aI 1);refine ⟨B8,nQ M4 _ _ _ _ _ _ u1.i (hW.fr hi u1.f |>.from' (k+1) (by omega)),λe w6 Zn=>?_⟩;obtain ⟨p6,M6,rfl,tU,iS,e8,hb6⟩:=u1.got Zn;have B9:=(oR.below (below_drewN aI 1)).got e8 hb6;have Zo:=(B7.below (below_drewN aI 1)).got e8 hb6;have Be:Below w2.heap.size w2 w6:=bst (B8.drew) hb6
  refine ⟨p6,M6,rfl,Be,B9,λw7 gx e9=>?_⟩;have B4:St M w M6 w7:=iS.upd e9 hlo B9.n;have Zp:=Zo.upd e9 (by omega);have Bi:=e9.below Be (by omega);have Bk:=(B4.below (below_drewN aI 1)).plus (S:=λk=>k=g) (λk hk=>⟨Or.inl (by omega),by rw [hk]; exact gx.o.1⟩);have m6:Are M6 ((wO.set x p4).set y p6) (((List.replicate 16 T.nil).set x A).set y (.leaf (way.drop (k+1)) v)):=((Uf M6).set x (s6.mono e8.mono)).set y tU;rw [<-hnx,<-hny,Xc X Y _ _ hnn] at m6;have yd:=(gx.below (below_drewN aI 1)).ks (by rw [<-hnx,<-hny]; exact m6)
  have hlen:((wO.set x p4).set y p6).length=16:=by simp [oM]
  rw [hlen] at yd;have L1:=(Zp.below (below_drewN (Below.refl w7.heap.size w7) 1)).plus (S:=λk=>k=g) (by omega);refine ⟨_,Bi,jT _ _ _ _ _ _ Bk.i yd,λe w8 Zq=>?_⟩;obtain ⟨p8,M8,rfl,KK,pS,Zr,cE⟩:=Bk.got Zq;have Zs:=L1.got Zr cE;have Bm:Below w2.heap.size w2 w8:=bst (Bi.drew) cE;refine ⟨p8,M8,rfl,Bm,uG M8 _ _ _ _ _ _ w8 pS.i ((hW.fr hi pS.f).upto k (by omega)) KK,λe w9 By=>?_⟩;obtain ⟨p9,M9,rfl,BB,oY,BC,es⟩:=pS.got By;have s7:=Zs.got BC es;refine ⟨p9,rfl,bst Bm es,s7.o,λag hu=>?_⟩;have cM:=oY.upd hu (by omega) s7.n
  exact ⟨cM.b,p9,M9,rfl,BB,cM.f,cM.i,cM.b⟩)
 have h0:=aV (j:=0) ap rfl;have hkp:k<pn:=hkl;have hkc:k<=wc:=by omega
 have L2:k+1<=wn:=by omega
 have HB3:=hid hb3;obtain ⟨RR,hRR⟩:=aA (wrap (way.take k) (two X Y A (.leaf (way.drop (k+1)) v)))
 rw [hRR] at B6 ⊢;have J3:w2.heap.size=w.heap.size+2:=hs2;have BE:=ap;clear ap am hb2 hs2 hi hi2 hP hW hW2 hS2 hX2 hcut hm hn hwn hne hnx hny hnn hX hY hxe hye yb hb3 hRR hpn hwl;obtain rfl:g=w.heap.size+2:=by omega
 have L3:=hid (λe w4 (h:Below w2.heap.size w2 w3.drew)=>B6.out w3.drew e w4 (below_drewN aI 1) h);have HW2:Hid (_=_):=hid hw2;have HW3:Hid (_=_):=hid hw3;have io:Hid (Rg.Own w2 w.heap.size #[.pointer (some ⟨b,0,none⟩)] 46):=hid BE;clear B6 hw2 hw3 BE;go_enter func128,ntmps128;go_wp2_with (first
  | (refine aB (bA _ _ _ (w.heap.size+1) (by simp) rfl) ?_)
  | (refine aB (Pf (w.heap.size+2) (by simp) ⟨_,_,rfl,rfl,rfl⟩) ?_))
 rw [<-HW2.out,<-HW3.out];refine aD (S:=λw'=>Below w2.heap.size w2 w') (HB3.out.drew) λhld=>?_;refine aj 0 ?_;try simp only [Act.put,au]
 refine aj 1 ?_;try simp only [Act.put,au]
 refine aF 2 (λwz hSw=>aX hSw h0) ?_;try simp only [Act.put,au]
 refine aj 3 ?_;try simp only [Act.put,au]
 refine aj 4 ?_;try simp only [Act.put,au]
 refine aF 5 (λwz hSw=>aX hSw c1) ?_;try simp only [Act.put,au]
 refine aj 6 ?_;try simp only [Act.put,au]
 refine aj 7 ?_;try simp only [Act.put,au]
 refine aF 8 (λwz hSw=>aX hSw cx) ?_;try simp only [Act.put,au]
 refine aj 9 ?_ (hy:=by intro wz hSw; (refine aW (aX hSw h0) ?_; exact ⟨_,rfl,rfl⟩));try simp only [Act.put,au]
 refine aj 10 ?_;try simp only [Act.put,au]
 refine aj 11 ?_ (hy:=by intro wz hSw; (have q0:=HAdd.out; go_simp <;> with_reducible rfl));try simp only [Act.put,au]
 refine ak 12 λK hK=>?_;go_simp;go_at_call 161
 (with_reducible refine (L0.out _ hld).mono ?_)
 intro e w4 hG;obtain ⟨p4,M4,rfl,H4⟩:=L3.out e w4 hld hG;replace H4:=hid H4;clear hG;have hB4:=H4.out.1;refine hK.out _ _ (hB4) λhld=>?_;clear hK K;try simp only [Act.put,au]
 refine aj 13 ?_;try simp only [Act.put,au]
 refine ak 14 λK hK=>?_;refine tZ (by rfl) H4.out.2.1 (i:=x) (by simpa [oM] using hx) p4 ⟨_,_,rfl,rfl,rfl⟩ ?_;intro w5 oR bd;have H5:=hid (H4.out.2.2 w5 oR bd);clear oR bd;refine hK.out _ _ (H5.out.1) λhld=>?_;clear hK K;try simp only [Act.put,au]
 refine aC ?_;go_wp2_with fail
 refine aD (S:=λw'=>Below w2.heap.size w2 w') (H5.out.1.drew) λhld=>?_;refine aj 0 ?_;try simp only [Act.put,au]
 refine aj 1 ?_;try simp only [Act.put,au]
 refine aj 2 ?_;try simp only [Act.put,au]
 refine aj 3 ?_;try simp only [Act.put,au]
 refine aF 4 (λwz hSw=>aX hSw cy) ?_;try simp only [Act.put,au]
 refine aj 5 ?_;try simp only [Act.put,au]
 refine aj 6 ?_;try simp only [Act.put,au]
 refine aj 7 ?_ (hy:=by intro wz hSw; (have q0:=HAdd.out; go_simp <;> with_reducible rfl));try simp only [Act.put,au]
 refine aj 8 ?_ (hy:=by intro wz hSw; (refine jP (a:=some ⟨wb,wo,none⟩) (n:=wn) (c:=wc) (i:=k+1) fZ iL L2 ?_; exact ⟨_,_,rfl,rfl,rfl⟩));try simp only [Act.put,au]
 refine aj 9 ?_;try simp only [Act.put,au]
 refine ak 10 λK hK=>?_;go_simp;go_at_call 87
 (with_reducible refine (H5.out.2.1).mono ?_)
 intro e w6 hG;obtain ⟨p6,M6,rfl,H6⟩:=H5.out.2.2 e w6 hG;replace H6:=hid H6;clear hG;have cG:=H6.out.1;refine hK.out _ _ (cG) λhld=>?_;clear hK K;try simp only [Act.put,au]
 refine aj 11 ?_;try simp only [Act.put,au]
 refine ak 12 λK hK=>?_;refine tZ (by rfl) H6.out.2.1 (i:=y) (by simpa [oM] using hy) p6 ⟨_,_,rfl,rfl,rfl⟩ ?_;intro w7 gx e9;obtain ⟨M7,H7⟩:=H6.out.2.2 w7 gx e9;replace H7:=hid H7;clear gx e9;refine hK.out _ _ (H7.out.1) λhld=>?_;clear hK K;try simp only [Act.put,au]
 refine aC ?_;go_wp2_with fail
 refine aD (S:=λ_=>True) (trivial) λhld=>?_;refine aj 0 ?_;try simp only [Act.put,au]
 refine aj 1 ?_;try simp only [Act.put,au]
 refine aj 2 ?_ (hy:=by intro wz hSw; (refine vT (a:=some ⟨wb,wo,none⟩) (n:=wn) (c:=wc) (j:=k) fZ iL hkc ?_; exact ⟨_,_,rfl,rfl,rfl⟩));try simp only [Act.put,au]
 refine aj 3 ?_;try simp only [Act.put,au]
 refine ak 4 λK hK=>?_;go_simp;go_at_call 126
 (with_reducible refine (H7.out.2.1).mono ?_)
 intro e w8 hG;obtain ⟨p8,M8,rfl,H8⟩:=H7.out.2.2 e w8 hG;replace H8:=hid H8;clear hG;have hB8:=H8.out.1;refine hK.out _ _ ?_ (λhld=>?_)
 .trivial
 clear hK K;try simp only [Act.put,au]
 refine ak 5 λK hK=>?_;go_simp;go_at_call 129
 (with_reducible refine (H8.out.2.1).mono ?_)
 intro e w9 hG;obtain ⟨p9,rfl,H9⟩:=H8.out.2.2 e w9 hG;replace H9:=hid H9;clear hG;have ye:=H9.out.1;refine hK.out _ _ ?_ (λhld=>?_)
 .trivial
 clear hK K;try simp only [Act.put,au]
 refine ak 6 λK hK=>?_;refine iO (by rfl) H9.out.2.1 (off:=0) (by decide) p9 ⟨_,_,rfl,rfl,rfl⟩ ?_;intro ag ai al;have cq:=hid ai;have gE:=hid (H9.out.2.2 ag al);clear ai al;refine hK.out _ _ ?_ (λhld=>?_)
 .trivial
 clear hK K;try simp only [Act.put,au]
 refine aC ?_;go_wp2;exact bodyPost_ret (gB rfl _ rfl cq.out) rfl gE.out.2
theorem parted {q p:Pa} (hl:q.length<=p.length) (h:¬ q<+:p):cp q p<q.length/\q.getD (cp q p) 0≠p.getD (cp q p) 0:=by
 refine ⟨zO h,?_⟩;have h2:¬ p<+:q:=λg=>h (by rw [g.eq_of_length (Nat.le_antisymm g.length_le hl)]; exact List.prefix_rfl);obtain ⟨s,a,b,q',p',e1,e2,hab,hc⟩:=qh q p h h2;rw [hc,e1,e2];have hg:∀ (x:UInt8) (r:Pa),(s++x::r).getD s.length 0=x:=λx r=>by simp [List.getD]
 rw [hg,hg];exact hab
structure Ahead (M:Mp) (w w2:World) (b:Nat) (t:T) (pa:aL) (pn pc:Nat):Prop where
 b2:Below w.heap.size w w2
 i2:Inv M w2
 x2:Bx M w2 (w.heap.size+1) #[.pointer none] 46
 c0:w2.cell? ⟨w.heap.size,0,none⟩=some (.pointer (some ⟨b,0,none⟩))
 c1:w2.cell? ⟨b,1,none⟩=some (.slice pa pn pc)
 p:Bs M w2 pa pn pc (bY t)
theorem ahead (M:Mp) (b:Nat) (t:T) (hm:M.at_ b=some t) (w:World) (hi:Inv M w):∃ w2 pa pn pc,w2=(w.alloc (.cells #[.pointer (some ⟨b,0,none⟩)] 46)).alloc (.cells #[.pointer none] 46)/\Ahead M w w2 b t pa pn pc/\w2.heap.size=w.heap.size+2:=by
 obtain ⟨w2,hw2,ap,am,hb2,hs2⟩:=mV w (some ⟨b,0,none⟩);have hi2:=hi.below hb2;obtain ⟨pa,pn,pc,c1,hP⟩:=hi2.path hm;exact ⟨w2,pa,pn,pc,hw2,⟨hb2,hi2,⟨am,hi.free (by omega),jv _⟩,aV (j:=0) ap rfl,c1,hP⟩,hs2⟩
theorem yE (M:Mp) (b:Nat) (t:T) (hm:M.at_ b=some (t)) (w:World) (hi:Inv M w) (wa:aL) (wn wc:Nat) (way:Pa) (v:aM) (hW:Bs M w wa wn wc way) (hw64:way.length<=64) (hle:(bY (t)).length<=way.length) (h:¬ bY t<+:way) (hn:Nib (bY t)) (hwn:Nib way) (A:T)
  (hcut:∀ wx M',Inv M' wx->M'.at_ b=some t->Calls prog 161 #[.agg #[.pointer (some ⟨b,0,none⟩)],.int .i64 (cp (bY t) way+1:Nat)] wx (dz M' wx A)) :
  Calls prog 86 #[.agg #[.pointer (some ⟨b,0,none⟩)],.slice wa wn wc,.string v] w (dz M w (wrap (way.take (cp (bY t) way)) (two (nb ((bY t).getD (cp (bY t) way) 0)) (nb (way.getD (cp (bY t) way) 0)) A (.leaf (way.drop (cp (bY t) way+1)) v)))):=by
 obtain ⟨w2,pa,pn,pc,hw2,hA,hs2⟩:=ahead M b _ hm w hi;have hpn:=hA.p.1.len;have hwl:way.length=wn:=hW.1.len;have k9:=hA.p.1.1;have hpm:=hA.p.1.2.1;have ke:=hW.1.1;have pT:=hW.1.2.1;unfold maxLen at hpm pT;obtain ⟨hk1,hk2⟩:=parted hle h;have d8:=hid (pQ pa wa pn wn pc wc (bY t) way (by omega) (by omega) (by omega) w2 hA.p.1 (sS hi hW.1 (Fr.below M hA.b2)));obtain ⟨R,hR⟩:=aA (wrap (way.take (cp (bY t) way)) (two (nb ((bY t).getD (cp (bY t) way) 0)) (nb (way.getD (cp (bY t) way) 0)) A (.leaf (way.drop (cp (bY t) way+1)) v)))
 rw [hR];have HS:Hid (∀ w3,Below w2.heap.size w2 w3->w3.cell? ⟨w.heap.size,0,none⟩=some (.pointer (some ⟨b,0,none⟩))/\Calls prog 128 #[.agg #[.pointer (some ⟨b,0,none⟩)],.int .i64 (cp (bY t) way:Nat),.slice wa wn wc,.string v] w3 (dz M w3 R)/\
   ∀ e w9,dz M w3 R e w9->∃ p,e = .returned (tv p)/\Rg.Own w9 (w.heap.size+1) #[.pointer none] 46/\∀ ag,Rg.Upd w9 (w.heap.size+1) ag->dz M w R (.returned (tv p)) ag):=hid (λw3 hb3 =>
  ⟨aX hb3 hA.c0,by rw [<-hR]; exact Oh M b t hm (cp (bY t) way) A hk1 (by omega) hn w3 (hA.i2.below hb3) hcut wa wn wc way v (hW.fr hi (Fr.below M (bst hA.b2 hb3))) (by omega) hwn (by omega) hk2,
   λe w9 hG=>finish hi (Fr.below M (bst hA.b2 hb3)) (bst hA.b2 hb3) hG (hA.x2.o.below hb3) (jv _) (by omega) hA.x2.n⟩)
 have hlt:decide (((cp (bY t) way:Nat):Int)<(pn:Int))=true:=by simp; omega
 obtain ⟨k,hk⟩:=aA (cp (bY t) way)
 rw [hk] at d8 HS hlt;have hlt2:(k:Int)<(pn:Int):=by have:=of_decide_eq_true hlt; exact this
 have hlt3:k<pn:=by omega
 have h0:=hA.c0;have c1:=hA.c1;clear hR hk hA hW hi hm hle h hn hwn hcut hk1 hk2 hpn hwl;subst hw2;go_enter func86,ntmps86;go_wp2_with (refine aB (bA _ _ _ (w.heap.size+1) (by simp) rfl) ?_)
 refine d8.out.mono ?_;rintro e w3 ⟨rfl,hb3⟩;obtain ⟨d0,HC,HF⟩:=HS.out w3 hb3;replace HC:=hid HC;replace HF:=hid HF;clear hb3 HS d8 h0 c1;go_wp2_with (refine aB (aW d0 ⟨_,rfl,rfl⟩) ?_)
 refine HC.out.mono ?_;intro e w9 hG;obtain ⟨p9,rfl,aw,hE⟩:=HF.out e w9 hG;have cl:=hid aw;have HE:=hid hE;clear hG aw hE;go_wp2_with (refine bL cl.out (by decide) p9 rfl _ _ rfl rfl rfl ?_; intro ag ai al; have cq:=hid ai; have ej:=hid al; clear ai al)
 exact bodyPost_ret (gB rfl _ rfl cq.out) rfl (HE.out ag ej.out)
theorem KQ (M:Mp) (b:Nat) (u:aM) (q:Pa) (hm:M.at_ b=some (.leaf q u)) (w:World) (hi:Inv M w) (wa:aL) (wn wc:Nat) (way:Pa) (v:aM) (hW:Bs M w wa wn wc way) (hw64:way.length<=64) (hle:(bY (.leaf q u)).length<=way.length) (h:q=way) :
  Calls prog 86 #[.agg #[.pointer (some ⟨b,0,none⟩)],.slice wa wn wc,.string v] w (dz M w (.leaf q v)):=by
 obtain ⟨w2,pa,pn,pc,hw2,hA,hs2⟩:=ahead M b _ hm w hi;have hpn:=hA.p.1.len;have hwl:way.length=wn:=hW.1.len;have k9:=hA.p.1.1;have hpm:=hA.p.1.2.1;have ke:=hW.1.1;have pT:=hW.1.2.1;unfold maxLen at hpm pT;have dv:q.length=pn:=hpn;subst h;obtain rfl:pn=wn:=by omega
 have d8:=hid (pQ pa wa pn pn pc wc q q (by omega) (by omega) (by omega) w2 hA.p.1 (sS hi hW.1 (Fr.below M hA.b2)));rw [Bg (List.prefix_rfl),dv] at d8;have HS:Hid (∀ w3,Below w2.heap.size w2 w3->w3.cell? ⟨w.heap.size,0,none⟩=some (.pointer (some ⟨b,0,none⟩))/\Calls prog 83 #[.agg #[.pointer (some ⟨b,0,none⟩)]] w3 (λe w'=>e = .returned (.int .i64 1)/\Below w3.heap.size w3 w')/\
   ∀ w4,Below w3.heap.size w3 w4->Calls prog 87 #[.slice pa pn pc,.string v] w4 (dz M w4 (.leaf q v))/\
   ∀ e w9,dz M w4 (.leaf q v) e w9->∃ p,e = .returned (tv p)/\Rg.Own w9 (w.heap.size+1) #[.pointer none] 46/\∀ ag,Rg.Upd w9 (w.heap.size+1) ag->dz M w (.leaf q v) (.returned (tv p)) ag):=hid (λw3 hb3 =>
  ⟨aX hb3 hA.c0,dV M _ _ w3 (hA.i2.below hb3) (jZ (hA.i2.below hb3) hm),λw4 hb4=>⟨nQ M _ _ _ _ _ w4 (hA.i2.below (bst hb3 hb4)) (hA.p.fr hA.i2 (Fr.below M (bst hb3 hb4))),
   λe w9 hG=>finish hi (Fr.below M (bst hA.b2 (bst hb3 hb4))) (bst hA.b2 (bst hb3 hb4)) hG (hA.x2.o.below (bst hb3 hb4)) (jv _) (by omega) hA.x2.n⟩⟩)
 have hlt:decide ((pn:Int)<(pn:Int))=false:=by simp
 have h0:=hA.c0;have c1:=hA.c1;clear hA hW hi hm hle hpn dv hwl;subst hw2;go_enter func86,ntmps86;go_wp2_with (refine aB (bA _ _ _ (w.heap.size+1) (by simp) rfl) ?_)
 refine d8.out.mono ?_;rintro e w3 ⟨rfl,hb3⟩;obtain ⟨d0,HK,H4⟩:=HS.out w3 hb3;replace HK:=hid HK;replace H4:=hid H4;clear hb3 HS d8 h0 c1;go_wp2_with (refine aB (aW d0 ⟨_,rfl,rfl⟩) ?_)
 refine HK.out.mono ?_;rintro e w4 ⟨rfl,hb4⟩;obtain ⟨HC,HF⟩:=H4.out w4 hb4;replace HC:=hid HC;replace HF:=hid HF;clear hb4 H4 HK;go_wp2_with fail
 refine HC.out.mono ?_;intro e w9 hG;obtain ⟨p9,rfl,aw,hE⟩:=HF.out e w9 hG;have cl:=hid aw;have HE:=hid hE;clear hG aw hE;go_wp2_with (refine bL cl.out (by decide) p9 rfl _ _ rfl rfl rfl ?_; intro ag ai al; have cq:=hid ai; have ej:=hid al; clear ai al)
 exact bodyPost_ret (gB rfl _ rfl cq.out) rfl (HE.out ag ej.out)
theorem PZ (M:Mp) (b:Nat) (q:Pa) (s:T) (hm:M.at_ b=some (.ext q s)) (w:World) (hi:Inv M w) (wa:aL) (wn wc:Nat) (way:Pa) (v:aM) (hW:Bs M w wa wn wc way) (hw64:way.length<=64) (hle:(bY (.ext q s)).length<=way.length) (h:q<+:way) (hq:q≠[]) (hg:Tr.get s (way.drop q.length)≠none)
  (hS:∀ M' w' p a n c,Inv M' w'->IsT M' p s->Bs M' w' a n c (way.drop q.length)->Calls prog 53 #[.agg #[.pointer p],.slice a n c,.string v] w' (dz M' w' (put s (way.drop q.length) v))) :
  Calls prog 86 #[.agg #[.pointer (some ⟨b,0,none⟩)],.slice wa wn wc,.string v] w (dz M w (.ext q (put s (way.drop q.length) v))):=by
 obtain ⟨w2,pa,pn,pc,hw2,hA,hs2⟩:=ahead M b _ hm w hi;have hpn:=hA.p.1.len;have hwl:way.length=wn:=hW.1.len;have k9:=hA.p.1.1;have hpm:=hA.p.1.2.1;have ke:=hW.1.1;have pT:=hW.1.2.1;unfold maxLen at hpm pT;have dv:q.length=pn:=hpn;have d8:=hid (pQ pa wa pn wn pc wc q way (by omega) (by omega) (by omega) w2 hA.p.1 (sS hi hW.1 (Fr.below M hA.b2)));rw [Bg h,dv] at d8;have hpw:pn<=wn:=by rw [<-dv,<-hwl]; exact hle
 rw [dv] at hS ⊢;obtain ⟨ka,kn,kc,c3,hK⟩:=hA.i2.kids hm;obtain ⟨kb,ko,p0,rfl,cL,gw,hk0,hT0⟩:=hK.at' 0 (by rw [<-hK.len]; exact Nat.one_pos);have hkn:kn=1:=hK.len.symm;have hkc:=hK.1;have hkm:=hK.2.1;unfold maxLen at hkm;rw [Nat.add_zero] at hk0;have cg:IsT M p0 s:=hT0;have hbl:=hi.lt hm;have mb:=hi.lt_ kb gw
 have HS:Hid (∀ w3,Below w2.heap.size w2 w3->w3.cell? ⟨w.heap.size,0,none⟩=some (.pointer (some ⟨b,0,none⟩))/\Calls prog 83 #[.agg #[.pointer (some ⟨b,0,none⟩)]] w3 (λe w'=>e = .returned (.int .i64 2)/\Below w3.heap.size w3 w')/\
   ∀ w4,Below w3.heap.size w3 w4->(w4.cell? ⟨w.heap.size,0,none⟩=some (.pointer (some ⟨b,0,none⟩))/\w4.cell? ⟨b,3,none⟩=some (.slice (some ⟨kb,ko,none⟩) kn kc)/\w4.cell? ⟨kb,ko,none⟩=some (.pointer p0))/\
   (∀ wx,Below w4.heap.size w4 wx->Calls prog 53 #[.agg #[.pointer p0],.slice (eP wa wc pn) (wn-pn) (wc-pn),.string v] wx (dz M wx (put s (way.drop pn) v)))/\∀ wx,Below w4.heap.size w4 wx->∀ e w5,dz M wx (put s (way.drop pn) v) e w5->∃ p5 M5,e = .returned (tv p5)/\Below w4.heap.size w4 w5/\Calls prog 129 #[.slice pa pn pc,.agg #[.pointer p5]] w5 (dz M5 w5 (.ext q (put s (way.drop pn) v)))/\
    ∀ e w9,dz M5 w5 (.ext q (put s (way.drop pn) v)) e w9->∃ p9,e = .returned (tv p9)/\Below w4.heap.size w4 w9/\Rg.Own w9 (w.heap.size+1) #[.pointer none] 46/\∀ ag,Rg.Upd w9 (w.heap.size+1) ag->True/\dz M w (.ext q (put s (way.drop pn) v)) (.returned (tv p9)) ag):=hid (λw3 hb3 =>
  ⟨aX hb3 hA.c0,dV M _ _ w3 (hA.i2.below hb3) (jZ (hA.i2.below hb3) hm),λw4 hb4=>⟨⟨aX hb4 (aX hb3 hA.c0),aX hb4 (aX hb3 c3),aX hb4 (aX hb3 hk0)⟩,λwx hbx=>by
   have hB:=bst hA.b2 (bst (bst hb3 hb4) hbx);refine hS M wx p0 _ _ _ (hi.below hB) cg ?_;have:=(hW.fr hi (Fr.below M hB)).from' pn hpw;exact this,λwx hbx e w5 hG=>by
   have hB:=bst (bst hb3 hb4) hbx;have u2:St M w M wx:=⟨Fr.below M (bst hA.b2 hB),hi.below (bst hA.b2 hB),bst hA.b2 hB,hi⟩
   obtain ⟨p5,M5,rfl,ip,hS5,dg,hb5⟩:=u2.got hG;have B7:=(hA.x2.below hB).got dg hb5;have hwr:wrap q (put s (way.drop pn) v) = .ext q (put s (way.drop pn) v):=if_neg hq;have hbe:=uG M5 pa pn pc q p5 (put s (way.drop pn) v) w5 hS5.i ((hA.p.fr hA.i2 (Fr.below M hB)).fr (hA.i2.below hB) dg) ip;rw [hwr] at hbe;refine ⟨p5,M5,rfl,bst hbx hb5,hbe,λe w9 By=>?_⟩;obtain ⟨p9,M9,rfl,BB,oY,BC,es⟩:=hS5.got By;have s7:=B7.got BC es;refine ⟨p9,rfl,bst (bst hbx hb5) es,s7.o,λag hu=>?_⟩;have cM:=oY.upd hu (by omega) s7.n
   exact ⟨trivial,p9,M9,rfl,BB,cM.f,cM.i,cM.b⟩⟩⟩)
 have hlt:decide ((pn:Int)<(pn:Int))=false:=by simp
 have h0:=hA.c0;have c1:=hA.c1;clear hA hW hi hm hle hpn dv hwl hK hT0 cg c3 hk0 hS;subst hw2;go_enter func86,ntmps86;go_wp2_with (refine aB (bA _ _ _ (w.heap.size+1) (by simp) rfl) ?_)
 refine d8.out.mono ?_;rintro e w3 ⟨rfl,hb3⟩;obtain ⟨d0',HK,H4⟩:=HS.out w3 hb3;replace HK:=hid HK;replace H4:=hid H4;clear hb3 HS d8 h0 c1;go_wp2_with (refine aB (aW d0' ⟨_,rfl,rfl⟩) ?_)
 refine HK.out.mono ?_;rintro e w4 ⟨rfl,hb4⟩;obtain ⟨⟨d0,d3,dk⟩,HC,HF⟩:=H4.out w4 hb4;replace HC:=hid HC;replace HF:=hid HF;clear hb4 H4 HK d0';go_wp2_with fail
 refine aD (S:=λw'=>Bo (w.heap.size+1) w4 w') (Bo.of (below_drewN aI 1)) λhld=>?_;refine aj 0 ?_;try simp only [Act.put,au]
 refine aj 1 ?_;try simp only [Act.put,au]
 refine aF 2 (λwz hSw=>gF hSw (by omega) d0) ?_;try simp only [Act.put,au]
 refine aj 3 ?_;try simp only [Act.put,au]
 refine aj 4 ?_;try simp only [Act.put,au]
 refine aF 5 (λwz hSw=>gF hSw (by omega) d3) ?_;try simp only [Act.put,au]
 refine aj 6 ?_;try simp only [Act.put,au]
 refine aj 7 ?_ (hy:=by intro wz hSw; (refine aW (gF hSw (by omega) dk) ?_; exact ⟨_,rfl,rfl⟩));try simp only [Act.put,au]
 refine aj 8 ?_;try simp only [Act.put,au]
 refine aj 9 ?_;try simp only [Act.put,au]
 refine aj 10 ?_ (hy:=by intro wz hSw; (refine jP (a:=wa) (n:=wn) (c:=wc) (i:=pn) fZ iL hpw ?_; exact ⟨_,_,rfl,rfl,rfl⟩));try simp only [Act.put,au]
 refine aj 11 ?_;try simp only [Act.put,au]
 refine ak 12 λK hK=>?_;go_simp;go_at_call 53
 (with_reducible refine (HC.out w4.drew (below_drewN aI 1)).mono ?_)
 intro e w5 hG;obtain ⟨p5,M5,rfl,eh,H5⟩:=HF.out w4.drew (below_drewN aI 1) e w5 hG;replace H5:=hid H5;clear hG;refine hK.out _ _ (Bo.of eh) λhld=>?_;clear hK K;try simp only [Act.put,au]
 refine ak 13 λK hK=>?_;go_simp;go_at_call 129
 (with_reducible refine (H5.out.1).mono ?_)
 intro e w9 hG;obtain ⟨p9,rfl,ye,H9⟩:=H5.out.2 e w9 hG;replace H9:=hid H9;clear hG;refine hK.out _ _ (Bo.of ye) λhld=>?_;clear hK K;try simp only [Act.put,au]
 refine ak 14 λK hK=>?_;refine iO (by rfl) H9.out.1 (off:=0) (by decide) p9 ⟨_,_,rfl,rfl,rfl⟩ ?_;intro ag ai al;have cq:=hid ai;have gE:=hid (H9.out.2 ag al);clear ai;refine hK.out _ _ ((Bo.of ye).upd al) λhld=>?_;clear hK K;try simp only [Act.put,au]
 refine aC ?_;go_wp2;exact bodyPost_ret (gB rfl _ rfl cq.out) rfl gE.out.2
theorem Ke (M:Mp) (b:Nat) (q:Pa) (s:T) (hm:M.at_ b=some (.ext q s)) (w:World) (hi:Inv M w) (wa:aL) (wn wc:Nat) (way:Pa) (v:aM) (hW:Bs M w wa wn wc way) (hw64:way.length<=64) (hle:(bY (.ext q s)).length<=way.length) (h:q<+:way)
  (hS:∀ M' w' p a n c,Inv M' w'->IsT M' p s->Bs M' w' a n c (way.drop q.length)->Calls prog 53 #[.agg #[.pointer p],.slice a n c,.string v] w' λe w''=>e = .panicked [fI 8]/\Below w'.heap.size w' w'') :
  Calls prog 86 #[.agg #[.pointer (some ⟨b,0,none⟩)],.slice wa wn wc,.string v] w (λe w'=>e = .panicked [fI 8]/\Below w.heap.size w w'):=by
 obtain ⟨w2,pa,pn,pc,hw2,hA,hs2⟩:=ahead M b _ hm w hi;have hpn:=hA.p.1.len;have hwl:way.length=wn:=hW.1.len;have k9:=hA.p.1.1;have hpm:=hA.p.1.2.1;have ke:=hW.1.1;have pT:=hW.1.2.1;unfold maxLen at hpm pT;have dv:q.length=pn:=hpn;have d8:=hid (pQ pa wa pn wn pc wc q way (by omega) (by omega) (by omega) w2 hA.p.1 (sS hi hW.1 (Fr.below M hA.b2)));rw [Bg h,dv] at d8;have hpw:pn<=wn:=by rw [<-dv,<-hwl]; exact hle
 rw [dv] at hS ;obtain ⟨ka,kn,kc,c3,hK⟩:=hA.i2.kids hm;obtain ⟨kb,ko,p0,rfl,cL,gw,hk0,hT0⟩:=hK.at' 0 (by rw [<-hK.len]; exact Nat.one_pos);have hkn:kn=1:=hK.len.symm;have hkc:=hK.1;have hkm:=hK.2.1;unfold maxLen at hkm;rw [Nat.add_zero] at hk0;have cg:IsT M p0 s:=hT0;have hbl:=hi.lt hm;have mb:=hi.lt_ kb gw
 have HS:Hid (∀ w3,Below w2.heap.size w2 w3->w3.cell? ⟨w.heap.size,0,none⟩=some (.pointer (some ⟨b,0,none⟩))/\Calls prog 83 #[.agg #[.pointer (some ⟨b,0,none⟩)]] w3 (λe w'=>e = .returned (.int .i64 2)/\Below w3.heap.size w3 w')/\
   ∀ w4,Below w3.heap.size w3 w4->(w4.cell? ⟨w.heap.size,0,none⟩=some (.pointer (some ⟨b,0,none⟩))/\w4.cell? ⟨b,3,none⟩=some (.slice (some ⟨kb,ko,none⟩) kn kc)/\w4.cell? ⟨kb,ko,none⟩=some (.pointer p0))/\
   (∀ wx,Below w4.heap.size w4 wx->Calls prog 53 #[.agg #[.pointer p0],.slice (eP wa wc pn) (wn-pn) (wc-pn),.string v] wx (λe w''=>e = .panicked [fI 8]/\Below wx.heap.size wx w''))/\∀ wx,Below w4.heap.size w4 wx->Below w.heap.size w wx):=hid (λw3 hb3 =>
  ⟨aX hb3 hA.c0,dV M _ _ w3 (hA.i2.below hb3) (jZ (hA.i2.below hb3) hm),λw4 hb4=>⟨⟨aX hb4 (aX hb3 hA.c0),aX hb4 (aX hb3 c3),aX hb4 (aX hb3 hk0)⟩,λwx hbx=>by
   have hB:=bst hA.b2 (bst (bst hb3 hb4) hbx);refine hS M wx p0 _ _ _ (hi.below hB) cg ?_;have:=(hW.fr hi (Fr.below M hB)).from' pn hpw;exact this,λwx hbx=>bst hA.b2 (bst (bst hb3 hb4) hbx)⟩⟩)
 have hlt:decide ((pn:Int)<(pn:Int))=false:=by simp
 have h0:=hA.c0;have c1:=hA.c1;clear hA hW hi hm hle hpn dv hwl hK hT0 cg c3 hk0 hS;subst hw2;go_enter func86,ntmps86;go_wp2_with (refine aB (bA _ _ _ (w.heap.size+1) (by simp) rfl) ?_)
 refine d8.out.mono ?_;rintro e w3 ⟨rfl,hb3⟩;obtain ⟨d0',HK,H4⟩:=HS.out w3 hb3;replace HK:=hid HK;replace H4:=hid H4;clear hb3 HS d8 h0 c1;go_wp2_with (refine aB (aW d0' ⟨_,rfl,rfl⟩) ?_)
 refine HK.out.mono ?_;rintro e w4 ⟨rfl,hb4⟩;obtain ⟨⟨d0,d3,dk⟩,HC,HF⟩:=H4.out w4 hb4;replace HC:=hid HC;replace HF:=hid HF;clear hb4 H4 HK d0';go_wp2_with fail
 refine wp_region_held_drew (S:=λw'=>Bo (w.heap.size+1) w4 w') (by kernel_rfl) (Bo.of (below_drewN aI 1)) (λhld=>?_);refine aj 0 ?_;try simp only [Act.put,au]
 refine aj 1 ?_;try simp only [Act.put,au]
 refine aF 2 (λwz hSw=>gF hSw (by omega) d0) ?_;try simp only [Act.put,au]
 refine aj 3 ?_;try simp only [Act.put,au]
 refine aj 4 ?_;try simp only [Act.put,au]
 refine aF 5 (λwz hSw=>gF hSw (by omega) d3) ?_;try simp only [Act.put,au]
 refine aj 6 ?_;try simp only [Act.put,au]
 refine aj 7 ?_ (hy:=by intro wz hSw; (refine aW (gF hSw (by omega) dk) ?_; exact ⟨_,rfl,rfl⟩));try simp only [Act.put,au]
 refine aj 8 ?_;try simp only [Act.put,au]
 refine aj 9 ?_;try simp only [Act.put,au]
 refine aj 10 ?_ (hy:=by intro wz hSw; (refine jP (a:=wa) (n:=wn) (c:=wc) (i:=pn) fZ iL hpw ?_; exact ⟨_,_,rfl,rfl,rfl⟩));try simp only [Act.put,au]
 refine aj 11 ?_;try simp only [Act.put,au]
 refine ak 12 λK hK=>?_;go_simp;go_at_call 53
 (with_reducible refine (HC.out w4.drew (below_drewN aI 1)).mono ?_)
 rintro e w5 ⟨rfl,hb5⟩;simp +zetaDelta [bodyPost,Exit.then];exact bst (HF.out w4.drew (below_drewN aI 1)) hb5
end Tm
end
end Go.Proofs.YtokaiemgjngcoaaGreatDoor
