/-
 The plain answer's Get: seventeen items, a branch; any bytes.
-/
import Derived.Test.YtokaiemgjngcoaaGreatDoorVr17
open Go.Lib (hid)
open Go.Proofs.Tryz
set_option linter.unusedSimpArgs false
set_option linter.unusedVariables false
set_option maxHeartbeats 40000000
set_option maxRecDepth 100000
namespace Go.Proofs.YtokaiemgjngcoaaGreatDoor
variable {k:aN} {ev:Operand->Value} {o:Oper} {w w':World} {B L cap g i j n off us:Nat} {t:TypeId} {E R r:aM} {P:Program} {ops:Array Oper} {cur cur':aO} {a:aL} {Q:Exit->Act->World->Prop} {v:Value}
section
open Go.RowKit
namespace No
open Rl Ni
end No
end
section
open Go.RowKit
namespace Tm
open Tr Ni Pk Ky No Rf Rl
open Sm (Tab)
theorem NV {l:aN} (hk:k.length=32) (hl:l.length=32) (w:World):(binOp .neq 23 (.agg (Sm.kc k)) (.agg (Sm.kc l))).run prog w = .ok (.bool (!decide (k=l))) w:=by
 rw [run_neq_struct,yc hk hl w];rfl
theorem Fp {l:aN} {g:Bool} (hk:k.length=32) (hl:l.length=32) (hd:(!decide (k=l))=g) (ho:∃ x y tt,o.op = .binOp .neq 23 x y tt/\ev x = .agg (Sm.kc k)/\ev y = .agg (Sm.kc l)) :
  (execOp ev o).run prog w = .ok (.value (.bool g)) w:=by
 obtain ⟨x,y,tt,ho,hx,hy⟩:=ho;subst hd;unfold execOp;have hg:=Sm.BX;simp [ho,hx,hy,run_eqGuard_agg,hg,NV hk hl,Result.andThen]
theorem MU {b:Nat} {cs:aO} (h:Rg.Own w b cs t) (hof:off<cs.size) (x:Bool) (ho:∃ p q,o.op = .store 4 p q/\ev p = .pointer (some ⟨b,off,none⟩)/\ev q = .bool x):(execOp ev o).run prog w = .ok .skip (w.setCell ⟨b,off,none⟩ (.bool x)):=by
 obtain ⟨p,q,ho,hp,hq⟩:=ho;have hc:w.cell? ⟨b,off,none⟩=some cs[off]:=aV h (Array.getElem?_eq_getElem hof);have hz:w.frozen? ⟨b,off,none⟩=false:=eH h;have hst:(Instr.storeAt 4 (.pointer (some ⟨b,off,none⟩)) (.bool x)).run prog w = .ok () (w.setCell ⟨b,off,none⟩ (.bool x)):=by
  simp [go_sem,hc,hz]
 unfold execOp;simp only [ho,hp,hq,Sem.run_bind,Sem.run_pure,Result.andThen_ok,hst]
theorem pY (N:Nd) (a:aL) (n c:Nat):(ndC N a n c)[1]? = some (.slice a n c):=rfl
theorem RO (N:Nd) (a:aL) (n c:Nat):(ndC N a n c)[2]? = some (.string N.v):=rfl
theorem Cv (N:Nd) (a:aL) (n c:Nat) (hi:i<16) (hl:N.ks.length=16):(ndC N a n c)[3+i]? = some (.string (N.ks.getD i eB)):=by
 have h:i<N.ks.length:=by omega
 unfold ndC;simp [List.getD,h,Nat.add_comm 3 i]
theorem DT {l:List aM} {s:Nat} {q:Pa} {b:Bool} {N:Nd} (hg:mK E.data.toList=some N) (hr:¬ (b=true/\N.kd≠3)) {q2:Pa} (ho:onward N q=(R,q2)) :
  jO l (s+1) E q us b=if R.size=0 then (if us≠l.length then none else some (if N.kd=1/\N.p=q2 then some N.v else none),us) else
   if R.size<32 then jO l s R q2 us (decide (N.kd=2)) else
   if us<l.length/\(l.getD us eB).size≠0/\ofP (l.getD us eB)=R then jO l s (l.getD us eB) q2 (us+1) (decide (N.kd=2)) else (none,us):=by
 conv=>lhs; unfold jO
 rw [hg];dsimp only;rw [if_neg hr,ho]
theorem Lx {b:Nat} {cs:aO} (h:Rg.Own w b cs t) (hof:off<cs.size) (x:aM) (ho:∃ p q,o.op = .store 9 p q/\ev p = .pointer (some ⟨b,off,none⟩)/\ev q = .string x):(execOp ev o).run prog w = .ok .skip (w.setCell ⟨b,off,none⟩ (.string x)):=by
 obtain ⟨p,q,ho,hp,hq⟩:=ho;have hc:w.cell? ⟨b,off,none⟩=some cs[off]:=aV h (Array.getElem?_eq_getElem hof);have hz:w.frozen? ⟨b,off,none⟩=false:=eH h;have hst:(Instr.storeAt 9 (.pointer (some ⟨b,off,none⟩)) (.string x)).run prog w = .ok () (w.setCell ⟨b,off,none⟩ (.string x)):=by
  simp [go_sem,hc,hz]
 unfold execOp;simp only [ho,hp,hq,Sem.run_bind,Sem.run_pure,Result.andThen_ok,hst]
theorem wH {rest:List Oper} {a:Go.Act} {Q:Exit->Go.Act->World->Prop} (hgd:o.guard=none) (w':World)
  (hr:(execOp a.eval o).run P w = .ok .skip w') (h:wpList P ops Q rest (a.put o.dst undef) w'):wpList P ops Q (o::rest) a w :=
 wpList_plain hgd λK hK=>by
  unfold Oper.wp;rw [hr];exact hK _ _ h
theorem TW {s:aN} (hs:s.length<=4294967296) {n:Nd} (h:mK s=some n):(n.kd=1\/n.kd=2\/n.kd=3)/\n.ks.length=16/\n.p.length<=64/\(n.kd=2->(n.ks.getD 0 eB).size≠0)/\∀ k∈n.ks,k.size<=900000:=by
 obtain ⟨h1,h2,h3⟩:=Er hs h;refine ⟨?_,h1,?_,λe=>?_,λk hk=>?_⟩
 .rcases jV h1 h2 with ⟨e,_⟩ | ⟨e,_⟩ | ⟨e,_⟩
  .exact .inl e
  .exact .inr (.inl e)
  .exact .inr (.inr e)
 .unfold fB at h2;simp only [Bool.and_eq_true,decide_eq_true_eq] at h2;exact h2.1.1
 .rcases jV h1 h2 with ⟨e1,_⟩ | ⟨_,g⟩ | ⟨e1,_⟩
  .rw [e1] at e; exact absurd e (by decide)
  .exact g.2.2.2.1
  .rw [e1] at e; exact absurd e (by decide)
 .rcases h3 k hk with hp | ⟨h4,_⟩
  .rcases Rf.ou hp with e | e <;> omega
  .omega
def Oj:qm->Value
 | (none,_)=>.tuple #[.string eB,.bool false,.int .i64 9]
 | (some none,_)=>.tuple #[.string eB,.bool false,.int .i64 0]
 | (some (some v),_)=>.tuple #[.string v,.bool true,.int .i64 0]
def Un:qm->Value
 | (some (some v),_)=>.tuple #[.string v,.int .i64 0]
 | _=>.tuple #[.string eB,.int .i64 9]
def Dj:qm->Int
 | (some none,_)=>0
 | _=>9
def Sg (f:FuncId) (A:qm->Value):Prop:=∀ (l:List aM) (r k:aN) (la:aL) (ln lc:Nat) (W:World),r.length=32->k.length=32->kW W la ln lc l->(∀ s∈l,s.size<=900000)->ln<=1000->Tab W->
 Calls prog f #[.agg (Sm.kc r),.agg (kc k),.slice la ln lc] W λe w'=>e = .returned (A (nK l r (bE k)))/\Below W.heap.size W w'
end Tm
end
section
open Go.RowKit
namespace Tm
open Tr Rf Rl Ni No Pk Sm
theorem Tp {t:T} (hs:¬ eX t):NG t=eB:=by
 cases t with
 | stub r=>exact absurd trivial hs
 | _=>rfl
theorem LB {t:T} (hs:¬ eX t) (hn:t ≠ .nil):dW t=1\/dW t=2\/dW t=3:=by
 cases t with
 | stub r=>exact absurd trivial hs
 | nil=>exact absurd rfl hn
 | leaf q v=>exact Or.inl rfl
 | ext q s=>exact Or.inr (Or.inl rfl)
 | br ks=>exact Or.inr (Or.inr rfl)
theorem Pe (b:Nat) (k:Int) (hk:k=1\/k=2\/k=3) (r:aM) (w:World) (hc:∀ wx,Below w.heap.size w wx->wx.cell? ⟨b,0,none⟩=some (.int .i64 k)) (P:World->Prop)
  (z8:∀ w3,Below w.heap.size w w3->w3.cell? ⟨w.heap.size,0,none⟩=some (.pointer (some ⟨b,0,none⟩))->Calls prog 151 #[.pointer (some ⟨b,4,none⟩),.func (.func 152) #[] #[.pointer (some ⟨w.heap.size,0,none⟩)]] w3 λe w'=>e = .returned (.tuple #[])/\w'.cell? ⟨w.heap.size,0,none⟩=some (.pointer (some ⟨b,0,none⟩))/\w'.cell? ⟨b,7,none⟩=some (.string r)/\P w') :
  Calls prog 111 #[.agg #[.pointer (some ⟨b,0,none⟩)]] w λe w'=>e = .returned (.string r)/\P w':=by
 have da:∀ (fn:Fn) (first cap:aO) (w:World),(Instr.makeFunc fn first cap).run prog w = .ok (.func fn first cap) w:=λ_ _ _ _=>rfl;have h0:=eG w (some ⟨b,0,none⟩);have hA:=al1 w (.cells #[.pointer (some ⟨b,0,none⟩)] 46);have HK:=hid (lV b k _ (hc _ hA))
 have H3:Hid (∀ w3,Below (w.alloc (.cells #[.pointer (some ⟨b,0,none⟩)] 46)).heap.size (w.alloc (.cells #[.pointer (some ⟨b,0,none⟩)] 46)) w3->w3.cell? ⟨w.heap.size,0,none⟩=some (.pointer (some ⟨b,0,none⟩))/\Calls prog 151 #[.pointer (some ⟨b,4,none⟩),.func (.func 152) #[] #[.pointer (some ⟨w.heap.size,0,none⟩)]] w3 λe w'=>e = .returned (.tuple #[])/\w'.cell? ⟨w.heap.size,0,none⟩=some (.pointer (some ⟨b,0,none⟩))/\w'.cell? ⟨b,7,none⟩=some (.string r)/\P w'):=hid (λw3 hb3 =>
  ⟨aX hb3 h0,z8 w3 (bst hA hb3) (aX hb3 h0)⟩)
 clear hc z8 hA;rcases hk with rfl | rfl | rfl;all_goals
  go_enter func111,ntmps111;go_wp2_with (refine aB (aW h0 ⟨_,rfl,rfl⟩) ?_)
  refine HK.out.mono ?_;rintro e w3 ⟨rfl,hb3⟩;obtain ⟨d0,HD⟩:=H3.out w3 hb3;replace HD:=hid HD;clear hb3 H3 HK h0;go_wp2_with fail
  refine HD.out.mono ?_;rintro e w4 ⟨rfl,e0,e7,hP⟩;have HP:=hid hP;clear hP HD d0;go_wp2;go_ret;exact ⟨rfl,HP.out⟩
theorem Sy:lu .nil:=λM w p hi ht hT=>by
 obtain rfl:p=none:=ht.uf.2 rfl;have h0:=eG w none;have HE:=hid (jX none ((w.alloc (.cells #[.pointer none] 46)).alloc (.cells #[.pointer none] 46)));have hA:=al1 w (.cells #[.pointer none] 46);have HK:Hid (Calls prog 83 #[.agg #[.pointer none]] (w.alloc (.cells #[.pointer none] 46)) λe w'=>e = .returned (.int .i64 0)/\Below (w.alloc (.cells #[.pointer none] 46)).heap.size (w.alloc (.cells #[.pointer none] 46)) w'):=hid (dL M0 none .nil _ (Inv.zero _) rfl)
 have HF:Hid (∀ w3,Below (w.alloc (.cells #[.pointer none] 46)).heap.size (w.alloc (.cells #[.pointer none] 46)) w3->FrN M (sz .nil+1) w w3/\dB M (sz .nil+1) w3):=hid (λw3 hb3=>⟨FrN.below M _ (bst hA hb3),hi.below (bst hA hb3)⟩);clear hi hT hA HE;show Calls _ _ _ _ (λe w'=>e = .returned (.string eB)/\_);go_enter func111,ntmps111;go_wp2_with (refine aB (aW h0 ⟨_,rfl,rfl⟩) ?_)
 refine HK.out.mono ?_;rintro e w3 ⟨rfl,hb3⟩;have ie:=hid (HF.out w3 hb3);clear hb3 HF HK h0;go_wp2;go_ret;exact ⟨rfl,ie.out⟩
theorem Nc {M:Mp} {b:Nat} (h:oD M w b (.stub r)):w.cell? ⟨b,0,none⟩=some (.int .i64 (-1))/\w.cell? ⟨b,7,none⟩=some (.string r):=by
 obtain ⟨a,n,c,ka,kn,kc,d,r',hb,_,_,hd⟩:=h;obtain ⟨⟨c0,_⟩,_,_,_,c7⟩:=jm hb;rcases hd with ⟨_,hr⟩ | ⟨_,hs,_⟩
 .rw [hr] at c7;exact ⟨c0,c7⟩
 .exact absurd trivial hs
theorem NT (r:aM):lu (.stub r):=λM w p hi ht hT=>by
 obtain ⟨b,rfl,hm⟩:=ht.at_ (λe=>by cases e);have hpart:=(hi.part_ b _ hm).2.2.2 (by omega);obtain ⟨k0,k7⟩:=Nc hpart;have h0:=eG w (some ⟨b,0,none⟩);have hA:=al1 w (.cells #[.pointer (some ⟨b,0,none⟩)] 46);have HK:=hid (lV b (-1) _ (aX hA k0))
 have HF:Hid (∀ w3,Below (w.alloc (.cells #[.pointer (some ⟨b,0,none⟩)] 46)).heap.size (w.alloc (.cells #[.pointer (some ⟨b,0,none⟩)] 46)) w3->w3.cell? ⟨w.heap.size,0,none⟩=some (.pointer (some ⟨b,0,none⟩))/\w3.cell? ⟨b,7,none⟩=some (.string r)/\FrN M (sz (.stub r)+1) w w3/\dB M (sz (.stub r)+1) w3):=hid (λw3 hb3=>⟨aX hb3 h0,aX hb3 (aX hA k7),FrN.below M _ (bst hA hb3),hi.below (bst hA hb3)⟩);clear hi hT hA hpart k0 k7 hm;show Calls _ _ _ _ (λe w'=>e = .returned (.string r)/\_)
 go_enter func111,ntmps111;go_wp2_with (refine aB (aW h0 ⟨_,rfl,rfl⟩) ?_)
 refine HK.out.mono ?_;rintro e w3 ⟨rfl,hb3⟩;obtain ⟨d0,d7,tA⟩:=HF.out w3 hb3;have ie:=hid tA;clear hb3 HF HK h0 tA;go_wp2;go_ret;exact ⟨rfl,ie.out⟩
theorem yP (t:T) (hs:¬ eX t) (hn:t ≠ .nil) (g:Tr.Good t L) (hL:L<=64) (f:Fine t) (gt:∀ q s,t = .ext q s->lu s) (hR2:∀ ks,t = .br ks->∀ i,lu (ks i)):lu t:=λM w p hi ht hT=>by
 obtain ⟨b,rfl,hm⟩:=ht.at_ hn;have hpw:=(hi.part_ b _ hm).2.2.2 (by omega);have hlb:=hi.lt_ b (hi.part_ b _ hm).2.1;obtain ⟨a,n,c,ka,kn,kc,d,r,hb,ii,hKs,hd⟩:=hpw;have P7:Rg.Own w b (jN t a n c ka kn kc d r) 150:=⟨hlb,hb⟩
 have hbody:Body M w b t a n c ka kn kc:=by
  obtain ⟨⟨c0,c1,c2,c3⟩,_⟩:=jm hb;exact ⟨c0,c1,c2,c3,ii.1,hKs⟩
 refine Pe b (dW t) (LB hs hn) (ref t) w (λwx hbx=>(hbody.below hbx).c0) (λw'=>FrN M (sz t+1) w w'/\dB M (sz t+1) w') (λw3 hb3 mn=>?_);have hO3:=P7.below hb3;have hi3:=hi.below hb3;rcases hd with ⟨rfl,hr⟩ | ⟨rfl,_,hr⟩
 .-- not yet done
  rw [Tp hs] at hr;subst hr;have q8:=hT.below hb3 hT.pos;have ax:=bG w3 b 5 (.int .i32 1);have I3:Rg.Own (w3.setCell ⟨b,5,none⟩ (.int .i32 1)) b (oL t a n c ka kn kc eB) 150:=bR (o:=5) hO3 (.int .i32 1);have P8:=La I3;have C1:dB M (sz t) w3:=hi3.mono (Nat.le_succ _);have hil:dB M (sz t) (w3.setCell ⟨b,5,none⟩ (.int .i32 1)):=C1.lock ax hm aH P8;have P9:(0:Nat)≠b:=λe=>by
   have:=Ep hi3 q8;rw [e,hm] at this;cases this
  have I4:Tab (w3.setCell ⟨b,5,none⟩ (.int .i32 1)):=λi hi'=>by
   rw [<-q8 i hi'];exact World.cell?_of_block (w:=w3) (ax.block 0 P9)
  have qi:w.heap.size≠b:=by omega
  have tB:(w3.setCell ⟨b,5,none⟩ (.int .i32 1)).cell? ⟨w.heap.size,0,none⟩=some (.pointer (some ⟨b,0,none⟩)):=by
   rw [<-mn];exact World.cell?_of_block (w:=w3) (ax.block w.heap.size qi)
  have qk:Body M (w3.setCell ⟨b,5,none⟩ (.int .i32 1)) b t a n c ka kn kc:=(hbody.below hb3).upd (hi3.part_ b t hm).2.2.1 ax (λj hj=>World.cell?_setCell_other _ ⟨b,5,none⟩ ⟨b,j,none⟩ _ (λe=>by injection e with e1 e2 e3; omega));obtain ⟨h1,h2,h3,h4,h5,h6⟩:=nU g hL f hn hs;have hE:=JM M b t hm hs hn g hL f (w3.setCell ⟨b,5,none⟩ (.int .i32 1)).drew (hil.below (below_drewN aI 1)) (qk.below (below_drewN aI 1)) I4 gt hR2;have z8:=TP M b t hm h3 w.heap.size _ tB qi hil I4 I3 hE
  have hD:∀ wx,(callFunc 152 #[.pointer (some ⟨w.heap.size,0,none⟩)]).run prog wx = .ok (.enter 152 #[.pointer (some ⟨w.heap.size,0,none⟩)]) wx:=by intro wx; kernel_rfl
  refine (On.NR 152 _ hD b 4 w3 (λw'=>∃ w1,FrN M (sz t) (w3.setCell ⟨b,5,none⟩ (.int .i32 1)) w1/\dB M (sz t) w1/\Rg.Upd w1 b w'/\Rg.Own w' b (oL t a n c ka kn kc (ofP (bX t))) 150) (aV (j:=4) hO3 rfl) (aV (j:=5) hO3 rfl) (eH hO3) (z8.mono ?_)).mono ?_
  .rintro e w' ⟨rfl,w1,g1,g2,g3,g4⟩;exact ⟨rfl,⟨⟨aV (j:=4) g4 rfl,eH g4⟩,aV (j:=5) g4 rfl,eH g4⟩,w1,g1,g2,g3,g4⟩
  .rintro e w' ⟨rfl,w2,⟨w1,g1,g2,g3,g4⟩,rfl⟩;rw [<-wR hs] at g4;have bo:=bG w2.drew b 4 (.int .u32 1);have dd:=bG (w2.drew.setCell ⟨b,4,none⟩ (.int .u32 1)) b 5 (.int .i32 0);have iS:Rg.Own ((w2.drew.setCell ⟨b,4,none⟩ (.int .u32 1)).setCell ⟨b,4+1,none⟩ (.int .i32 0)) b (jN t a n c ka kn kc 1 (ref t)) 150:=bR (o:=5) (bR (o:=4) g4.drew (.int .u32 1)) (.int .i32 0);obtain ⟨w7,hw7⟩:=aA ((w2.drew.setCell ⟨b,4,none⟩ (.int .u32 1)).setCell ⟨b,4+1,none⟩ (.int .i32 0))
   rw [hw7] at iS ⊢;have ij:Rg.Upd w1 b w7:=by
    rw [<-hw7];exact ⟨g3.os,g3.tape,g3.output,by rw [dd.size,bo.size]; exact g3.size,λk hk=>((dd.block k hk).trans (bo.block k hk)).trans (g3.block k hk)⟩
   have mr:∀ k,k<w3.heap.size->k≠b->(M.at_ k=none\/∃ t',M.at_ k=some t'/\sz t<=sz t')->w7.heap[k]? = w3.heap[k]? := λk hk hkb hc=>(ij.block k hkb).trans ((g1.block k (by rw [ax.size]; exact hk) hc).trans (ax.block k hkb));have jx:w3.heap.size<=w7.heap.size:=by rw [ij.size]; exact Nat.le_trans (by rw [ax.size]; exact aH) g1.size
   have hnb:M.at_ w.heap.size=none:=hi.wZ aH;have ej:w7.cell? ⟨w.heap.size,0,none⟩=some (.pointer (some ⟨b,0,none⟩)):=by
    rw [<-mn];exact World.cell?_of_block (w:=w3) (mr _ (World.block_lt_of_cell? w3 _ mn) qi (Or.inl hnb))
   have hfr:FrN M (sz t+1) w3 w7:=⟨ij.os.trans (g1.os.trans ax.os),ij.tape.trans (g1.tape.trans ax.tape),ij.output.trans (g1.output.trans ax.output),jx,λk hk hc=>by
    refine mr k hk (λe=>?_) (hc.imp id (λ⟨t',e,hl⟩=>⟨t',e,by omega⟩));subst e;rcases hc with h | ⟨t',h,hl⟩
    .rw [hm] at h; cases h
    .rw [hm] at h;obtain rfl:=Option.some.inj h;omega⟩
   have Pi:Cz w7 b:=BM iS.2;have C3:dB M (sz t) w7:=g2.lock ij hm aH Pi;have hbyte:∀ k j v,k<w3.heap.size->w3.cell? ⟨k,j,none⟩=some v->((∃ x,v = .int .u8 x)\/∃ p,v = .pointer p)->w7.heap[k]? = w3.heap[k]? := λk j v hk hc hv=>by
    have hat:M.at_ k=none:=by
     rcases hv with ⟨x,rfl⟩ | ⟨p,rfl⟩
     .exact hi3.eU hc
     .exact hi3.oC hc
    exact mr k hk (λe=>by rw [e,hm] at hat; cases hat) (Or.inl hat)
   refine ⟨rfl,ej,aV (j:=7) iS rfl,(FrN.below M _ hb3).trans hfr,⟨λk hk=>aJ (hi3.lt_ k hk) jx,λb' t' hm'=>?_⟩⟩;obtain ⟨q1,q2,q3,q4⟩:=C3.part_ b' t' hm';refine ⟨q1,q2,q3,λhl=>?_⟩;by_cases hlt:sz t'<sz t
   .exact q4 hlt
   .have hp3:=(hi3.part_ b' t' hm').2.2.2 hl;by_cases e:b'=b
    .subst e;obtain rfl:t=t':=by rw [hm] at hm'; exact Option.some.inj hm'
     refine ⟨a,n,c,ka,kn,kc,1,ref t,iS.2,?_,?_,Or.inr ⟨rfl,hs,rfl⟩⟩
     .have dq:=ii;refine ⟨⟨ii.1.1,ii.1.2.1,ii.1.2.2.1,ii.1.2.2.2.1,λj hj=>?_⟩,ii.2⟩;obtain ⟨b2,off,e2,hlt2,hc2⟩:=(ii.1.below hb3).2.2.2.2 j hj;exact ⟨b2,off,e2,aJ hlt2 jx,by rw [World.cell?_of_block (hbyte b2 _ _ hlt2 hc2 (Or.inl ⟨_,rfl⟩))]; exact hc2⟩
     .refine ⟨hKs.1,hKs.2.1,hKs.2.2.1,hKs.2.2.2.1,λj hj=>?_⟩;obtain ⟨b2,off,p2,e2,hlt2,hf2,hc2,ht2⟩:=(hbody.below hb3).hk.at' j hj;exact ⟨b2,off,p2,e2,aJ hlt2 jx,hf2,by rw [World.cell?_of_block (hbyte b2 _ _ hlt2 hc2 (Or.inr ⟨_,rfl⟩))]; exact hc2,ht2⟩
    .exact hp3.keep jx (mr b' (hi3.lt_ b' q2) e (Or.inr ⟨t',hm',by omega⟩)) hbyte
 .-- done already
  subst hr;refine (On.SQ ⟨b,4,none⟩ _ w3 (aV (j:=4) hO3 rfl)).mono ?_;rintro e w' ⟨rfl,rfl⟩;exact ⟨rfl,mn,aV (j:=7) hO3 rfl,FrN.below M _ hb3,hi3⟩
theorem mZ:∀ (t:T) (L:Nat),Tr.Good t L->L<=64->Fine t->lu t
 | .nil,_,_,_,_=>Sy
 | .stub r,_,_,_,_=>NT r
 | .leaf q v,L,g,hL,f=>yP _ (λh=>h) (λe=>by cases e) g hL f (λ_ _ e=>by cases e) (λ_ e=>by cases e)
 | .ext q s,L,g,hL,f=>yP _ (λh=>h) (λe=>by cases e) g hL f (λq' s' e=>by
   injection e with _ e;subst e;exact mZ s _ g.2.2.2.2 (by have:=g.2.2.1; omega) f) (λ_ e=>by cases e)
 | .br ks,L,g,hL,f=>yP _ (λh=>h) (λe=>by cases e) g hL f (λ_ _ e=>by cases e) (λks' e i=>by
   injection e with e;subst e;exact mZ (ks i) _ (g.2.2 i) (by omega) (f i))
open Ky
theorem Inv.after {M:Mp} {n:Nat} {w w':World} (h:Inv M w) (f:FrN M n w w') (g:dB M n w'):Inv M w' :=
 ⟨λk hk=>aJ (h.lt_ k hk) f.size,λb t hm=>by
  have:=((h.toN (sz t+1)).after f g).part_ b t hm;exact ⟨this.1,this.2.1,this.2.2.2 (Nat.lt_succ_self _)⟩⟩
def UG (M:Mp) (w:World) (s:aM) (e:Ending) (w':World):Prop:=e = .returned (.string s)/\Fr M M w w'/\Inv M w'/\Tab w'
theorem Ee (M:Mp) (p:aL) (t:T) (L:Nat) (g:Tr.Good t L) (hL:L<=64) (f:Fine t) (w:World) (hi:Inv M w) (ht:IsT M p t) (hT:Tab w) :
  Calls prog 34 #[tv p] w (UG M w (bX t)):=by
 by_cases hn:dW t=0\/dW t = -1
 .have he:bX t=eB:=by
   cases t with
   | nil=>rfl
   | stub r=>rfl
   | leaf q v=>rcases hn with h | h <;> exact absurd h (by show ¬ ((_:Int)=_); simp [dW])
   | ext q s=>rcases hn with h | h <;> exact absurd h (by show ¬ ((_:Int)=_); simp [dW])
   | br ks=>rcases hn with h | h <;> exact absurd h (by show ¬ ((_:Int)=_); simp [dW])
  rw [he];refine (OZ p (dW t) (by omega) (by omega) (by omega) w (λwx hbx=>dL M p t wx (hi.below hbx) ht)).mono ?_;rintro e w' ⟨rfl,hb⟩;exact ⟨rfl,Fr.below M hb,hi.below hb,hT.below hb hT.pos⟩
 .have hs:¬ eX t:=λh=>by
   cases t with
   | stub r=>exact hn (Or.inr rfl)
   | _=>exact h.elim
  have hne:t ≠ .nil:=λe=>hn (Or.inl (by rw [e]; rfl));obtain ⟨b,rfl,hm⟩:=ht.at_ hne;obtain ⟨pa,pn,pc,ka,kn,kc,hB⟩:=(hi.part hm).body;refine (JM M b t hm hs hne g hL f w (hi.toN _) hB hT (λq s e=>by
   subst e;exact mZ s _ g.2.2.2.2 (by have:=g.2.2.1; omega) f) (λks e i=>by
   subst e;exact mZ (ks i) _ (g.2.2 i) (by omega) (f i))).mono ?_
  rintro e w' ⟨rfl,hf,hi'⟩;exact ⟨rfl,hf.fr,hi.after hf hi',wS (hi.toN _) hf hT⟩
theorem ze (ps:List (aL)) (a:aL) (n cap:Nat) (w:World) (h:wB w a n cap ps) (hn:n<=1000000) :
  Calls prog 162 #[.slice a n cap,.func (Fn.func 124) #[] #[]] w λe w'=>∃ r:Int,e = .returned (.int .i64 r)/\Below w.heap.size w w'/\
   ((r = -1/\∀ p∈ps,p.isNone=false)\/∃ i:Nat,r=i/\i<n/\ps.getD i none=none/\∀ p∈ps.take i,p.isNone=false):=by
 have hm:=h.2.1;have hnc:=h.1;have hl:=h.2.2.1;unfold maxLen at hm;have H:=hid h;have HL:=hid hl;clear h hl;go_enter func162,ntmps162;go_wp2;go_loopw [8] (λi wr=>∃ j:Nat,j<=n/\i = .int .i64 j/\Hid (∀ p∈ps.take j,p.isNone=false)/\Hid (Below w.heap.size w wr)) (λi _=>n-(intOf i).toNat)
 case atStart=>exact ⟨0,Nat.zero_le _,rfl,hid (λp hp=>by simp at hp),hid aI⟩
 case round =>
  obtain ⟨j,hj,rfl,HJ,HB⟩:=hrel;by_cases hlt:j<n
  .obtain ⟨b,off,rfl,hblt,hc⟩:=H.out.2.2.2.2 j hlt;have hji:(j:Int)<n:=by omega
   have hc':=(Below.cell (p:=⟨b,off+j,none⟩) HB.out hblt).trans hc;have HS:Hid (ps.take (j+1)=ps.take j++[ps.getD j none]):=hid (by
    have hj':j<ps.length:=by rw [HL.out]; exact hlt
    have e:ps.getD j none=ps[j]:=by simp [List.getD,hj']
    rw [e,List.take_succ_eq_append_getElem hj'])
   obtain ⟨p,hp⟩:=aA (ps.getD j none)
   rw [hp] at hc' HS;have HE:=hid (jX p wr);have HP:=hid hp;clear hp hc;go_wp2_with (refine aB (aW hc' ⟨_,rfl,rfl⟩) ?_)
   refine HE.out.mono ?_;rintro e w5 ⟨rfl,hb5⟩;have aa:=hid (bst HB.out hb5);clear hb5 HE HB hc';cases hf:p.isNone with
   | false =>
    have C4:Hid (∀ q∈ps.take (j+1),q.isNone=false):=hid (λq hq=>by
     rw [HS.out,List.mem_append,List.mem_singleton] at hq;rcases hq with hq | rfl
     .exact HJ.out q hq
     .exact hf)
    clear hf;go_wp2;go_roundw
    case rel=>exact ⟨j+1,by omega,by go_num,C4,aa⟩
    case measure=>simp [intOf]; omega
   | true =>
    have hpn:p=none:=by simpa using hf
    clear hf;go_wp2;go_ret;exact ⟨(j:Int),rfl,aa.out,Or.inr ⟨j,rfl,hlt,by rw [HP.out]; exact hpn,HJ.out⟩⟩
  .obtain rfl:j=n:=by omega
   have HF:Hid (∀ p∈ps,p.isNone=false):=hid (by have:=HJ.out; rwa [List.take_of_length_le (by rw [HL.out]; exact aH)] at this);go_wp2;go_ret;exact ⟨-1,rfl,HB.out,Or.inl ⟨rfl,HF.out⟩⟩
def jR (ps:List (aL)):List (aL):=ps.filter λp=>!p.isNone
theorem uU (l:List (aL)) (p:aL):jR (l++[p])=jR l++if p.isNone then [] else [p]:=by
 unfold jR;rw [List.filter_append];cases p <;> rfl
theorem Em {l:List (aL)} (h:∀ p∈l,p.isNone=false):jR l=l:=List.filter_eq_self.2 λp hp=>by rw [h p hp]; rfl
theorem nW {w1 w2:World} {b:Nat} (h:Rg.Upd w b w1) (g:Rg.Upd w1 b w2):Rg.Upd w b w2:=⟨g.os.trans h.os,g.tape.trans h.tape,g.output.trans h.output,g.size.trans h.size,λk hk=>(g.block k hk).trans (h.block k hk)⟩
theorem ql (w:World) (b:Nat):Rg.Upd w b w:=⟨rfl,rfl,rfl,rfl,λ_ _=>rfl⟩
theorem sV {b:Nat} {t:TypeId}:∀ (vs:List Value) (o:Nat) (w:World) (cs:aO),Rg.Own w b cs t->∃ cs',Rg.Own (w.setCells b o vs) b cs' t/\cs'.size=cs.size/\∀ j,j<o->cs'[j]? = cs[j]?
 | [],_,_,cs,h=>⟨cs,h,rfl,λ_ _=>rfl⟩
 | v::r,o,w,cs,h=>by
  obtain ⟨cs',h1,h2,h3⟩:=sV r (o+1) _ _ (bR (o:=o) h v);refine ⟨cs',h1,by simpa using h2,λj hj=>?_⟩;rw [h3 j (by omega),Array.getElem?_setIfInBounds_ne (by omega)]
theorem uh (b:Nat):∀ (vs:List Value) (o:Nat) (w:World),Rg.Upd w b (w.setCells b o vs)
 | [],_,w=>ql w b
 | v::r,o,w=>nW (bG w b o v) (uh b r (o+1) _)
theorem Lr (w:World):(zeroValue (prog.elem 136)).run prog w = .ok (.agg #[.pointer none]) w:=by kernel_rfl
theorem GA (n:Nat):(Builtin.zeroCells #[Value.pointer none] n).toList=List.replicate n (Value.pointer none):=by
 simp [Builtin.zeroCells];apply List.ext_getElem
 .simp
 .intro i h1 h2;simp [Nat.mod_one]
theorem xP (ty:TypeId) (hO:Rg.Own w g cur 46) (hs:cur.size=cap) (hi:i<=n) (hn:n<=cap) :
  ∃ w',(Builtin.clear_ #[136] ty #[.slice (dX (some ⟨g,0,none⟩) cap i) (n-i) (cap-i)]).run prog w = .ok (.tuple #[]) w'/\Rg.Upd w g w'/\∃ cur',Rg.Own w' g cur' 46/\cur'.size=cap/\∀ j,j<i->cur'[j]? = cur[j]? := by
 by_cases hz:n-i=0
 .refine ⟨w,?_,ql w g,cur,hO,hs,λ_ _=>rfl⟩;rw [hz];cases dX (some ⟨g,0,none⟩) cap i <;> simp [Builtin.clear_,run_underlying ng]
 .have hf:dX (some ⟨g,0,none⟩) cap i=some ⟨g,i,none⟩:=by
   unfold dX;rw [if_neg (by omega)];simp [Addr.add_mid]
  obtain ⟨cs',h1,h2,h3⟩:=sV (List.replicate (n-i) (Value.pointer none)) i w cur hO;refine ⟨_,?_,uh g (List.replicate (n-i) (Value.pointer none)) i w,cs',h1,by rw [h2,hs],h3⟩;rw [hf];have hst:=run_storeCells_cells (P:=prog) g i (List.replicate (n-i) (Value.pointer none)) 0 w (λj hj=>by
   have hj':j<n-i:=by simpa using hj
   rw [Nat.add_zero,cell_of_row w g _ _ _ _ hO.2,Array.getElem?_eq_getElem (by omega)];rfl) (λj hj=>eH hO) (by intro v hv'; rw [List.eq_of_mem_replicate hv']; rfl)
  simp only [Nat.add_zero] at hst;obtain ⟨m,hm⟩:∃ m,n-i=m+1:=⟨n-i-1,by omega⟩
  rw [hm] at hst ⊢;simp [Builtin.clear_,run_underlying ng,Lr,GA,Value.cells,hst]
theorem Mi {rest:List Oper} {a:Act} (hgd:o.guard=none)
  (ho:∃ s,o.op = .call { callee:=.builtin .clear,args:=#[s],argTypes:=#[136] }/\a.eval s = .slice (dX (some ⟨g,0,none⟩) cap i) (n-i) (cap-i)) (hd:o.dst=none)
  (hO:Rg.Own w g cur 46) (hs:cur.size=cap) (hi:i<=n) (hn:n<=cap)
  (H:∀ w' cur',Rg.Own w' g cur' 46->cur'.size=cap->(∀ j,j<i->cur'[j]? = cur[j]?)->Rg.Upd w g w'->wpList prog ops Q rest a w'):wpList prog ops Q (o::rest) a w:=by
 obtain ⟨s,ho,hx⟩:=ho;refine wpList_plain hgd λK hK=>?_;obtain ⟨w',hr,hu,cur',h1,h2,h3⟩:=xP o.type hO hs hi hn;unfold Oper.wp execOp;simp only [ho,resolve,invoke,builtin,Sem.run_bind,Sem.run_pure,Result.andThen_ok,List.map_toArray,List.map_cons,List.map_nil,hx,hr];refine hK _ _ ?_;rw [show a.put o.dst (.tuple #[])=a by rw [hd]; rfl];exact H w' cur' h1 h2 h3 hu
theorem RowK.cell {qs:List (aL)} (h:RowK w g cap qs) (hj:j<qs.length):w.cell? ⟨g,j,none⟩=some (.pointer (qs.getD j none)):=by
 obtain ⟨cur,hO,hs,hl,hm,hc⟩:=h;rw [cell_of_row w g _ _ _ _ hO.2];exact hc j hj
theorem RowK.cut {k:Nat} {qs:List (aL)} (h:RowK w g cap qs) (hO:Rg.Own w g cur 46) (hk:k<=qs.length) (tf:Rg.Own w' g cur' 46) (hs:cur'.size=cap) (he:∀ j,j<k->cur'[j]? = cur[j]?):RowK w' g cap (qs.take k):=by
 obtain ⟨ms,al,hs0,hl,hm,hc⟩:=h;have e:ms=cur:=by
  have:=al.2.symm.trans hO.2;injection this with this;injection this
 subst e;refine ⟨cur',tf,hs,by rw [List.length_take]; omega,hm,λj hj=>?_⟩;have hjk:j<k:=by rw [List.length_take] at hj; omega
 have hjq:j<qs.length:=by omega
 rw [he j hjk,hc j hjq];simp [List.getD,hjk]
theorem RowK.own {qs:List (aL)} (h:RowK w g cap qs):∃ cur,Rg.Own w g cur 46/\cur.size=cap/\qs.length<=cap/\cap<=maxLen:=by
 obtain ⟨ms,al,hs0,hl,hm,hc⟩:=h;exact ⟨ms,al,hs0,hl,hm⟩
theorem KH {qs ps:List (aL)} (h:qs.drop j=ps.drop j):qs.getD j none=ps.getD j none/\qs.drop (j+1)=ps.drop (j+1):=by
 constructor
 .have:=congrArg (λl=>l[0]?) h;simp only [List.getElem?_drop,Nat.add_zero] at this;rw [List.getD_eq_getElem?_getD,List.getD_eq_getElem?_getD,this]
 .have:=congrArg (λl=>l.drop 1) h;simpa [List.drop_drop] using this
theorem Ao {qs:List (aL)} {k:Nat} (hk:k<qs.length) (p:aL):(qs.set k p).take (k+1)=qs.take k++[p]:=by
 rw [List.take_succ_eq_append_getElem (by simpa using hk),List.getElem_set_self,List.take_set_of_le (Nat.le_refl k)]
theorem BD {ps:List (aL)} (h:j<ps.length):ps.take (j+1)=ps.take j++[ps.getD j none]:=by
 have e:ps.getD j none=ps[j]:=by simp [List.getD,h]
 rw [e,List.take_succ_eq_append_getElem h]
def Vk (w:World) (g cap:Nat) (ps:List (aL)) (e:Ending) (w':World):Prop:=e = .returned (.slice (some ⟨g,0,none⟩) (jR ps).length cap)/\RowK w' g cap (jR ps)/\Bo g w w'
theorem EI (ps:List (aL)) (g cap:Nat) (w:World) (h:RowK w g cap ps) (hn:ps.length<=1000000) :
  Calls prog 130 #[.slice (some ⟨g,0,none⟩) ps.length cap,.func (Fn.func 124) #[] #[]] w (Vk w g cap ps):=by
 obtain ⟨ms,al,hs0,hlc,hm⟩:=h.own;unfold maxLen at hm;obtain ⟨n,hnl⟩:=aA ps.length
 rw [hnl] at hn hlc;have HL:=hid hnl;have HX:=hid (ze ps (some ⟨g,0,none⟩) ps.length cap w h.ptrs (by omega));rw [hnl] at HX ⊢;have HR:=hid h;have hgl:=h.lt;clear h al hs0 hnl;go_enter func130,ntmps130;go_wp2_with fail
 refine HX.out.mono ?_;rintro e w1 ⟨r,rfl,hb1,hr⟩;have HB1:Hid (Bo g w w1):=hid (Bo.of hb1);have HR1:=hid (HR.out.below hb1);clear hb1 HX HR;rcases hr with ⟨rfl,hall⟩ | ⟨i,rfl,hi,hnone,hall⟩
 .have HK:=hid (Em hall);clear hall;go_wp2;go_ret;exact ⟨by rw [HK.out,HL.out]; rfl,(by rw [HK.out]; exact HR1.out),HB1.out⟩
 .have hne:decide ((i:Int) = -1)=false:=decide_eq_false (by omega);have hne2:((i:Int) == -1)=false:=by simp
  have HK:Hid (ps.take i=jR (ps.take (i+1))):=hid (by
   rw [BD (by rw [HL.out]; exact hi),hnone,uU,Em hall];exact (List.append_nil _).symm)
  clear hall hnone;go_wp2_with fail
  go_loopw [5,6] (λvi vj wr=>∃ (k j:Nat) (qs:List (aL)),vi = .int .i64 k/\vj = .int .i64 j/\k<=j/\j<=n/\qs.length=n/\Hid (RowK wr g cap qs)/\Hid (qs.take k=jR (ps.take j))/\Hid (qs.drop j=ps.drop j)/\Hid (Bo g w wr)) (λ_ vj _=>n-(intOf vj).toNat)
  case atStart=>exact ⟨i,i+1,ps,rfl,by go_num,by omega,by omega,HL.out,HR1,HK,hid rfl,HB1⟩
  case round =>
   obtain ⟨k,j,qs,rfl,rfl,hkj,hj,I5,sp,qn,I6,HB⟩:=hrel;clear HK HR1 HB1;have hgr:g<wr.heap.size:=sp.out.lt;by_cases hlt:j<n
   .have hji:(j:Int)<n:=by omega
    have hki:(k:Int)<n:=by omega
    have hdd:=KH I6.out;have hc:=sp.out.cell (j:=j) (by omega);rw [hdd.1] at hc;have yr:=hid hdd.2;have HS:=hid (BD (ps:=ps) (j:=j) (by rw [HL.out]; exact hlt));obtain ⟨p,hp⟩:=aA (ps.getD j none)
    rw [hp] at hc HS;have hNew:=Rg.Own.new wr #[.pointer none] 46;have HN:=hid hNew;clear hdd hp hNew;go_wp2_with (first
     | (refine aB (aW hc ⟨_,rfl,rfl⟩) ?_)
     | (refine aB (aZ _ _ _ wr.heap.size rfl rfl) ?_)
     | (refine bD HN.out (by decide) p rfl _ _ rfl rfl rfl ?_; intro w5 bh ax; have bi:=hid bh; have aa:Hid (Below wr.heap.size wr w5):=hid (ax.below (al1 _ _) aH); clear bh ax)
     | (refine aB (aW (aV (j:=0) bi.out rfl) ⟨_,rfl,rfl⟩) ?_))
    refine (jX p w5).mono ?_;rintro e w6 ⟨rfl,hb6⟩;have bj:Hid (Below wr.heap.size wr w6):=hid (bst aa.out hb6);have cl:=hid (bi.out.below hb6);have eo:=hid (sp.out.below bj.out);have tD:Hid (Bo g w w6):=hid (HB.out.then bj.out);clear hb6 aa bi hc HN;cases hf:p.isNone with
    | true =>
     have tE:Hid (qs.take k=jR (ps.take (j+1))):=hid (by rw [HS.out,uU,hf,qn.out]; simp);clear hf;go_wp2_with fail
     go_roundw
     case rel=>exact ⟨k,j+1,qs,rfl,by go_num,by omega,by omega,I5,eo,tE,yr,tD⟩
     case measure=>simp [intOf]; omega
    | false =>
     have tE:Hid ((qs.set k p).take (k+1)=jR (ps.take (j+1))):=hid (by rw [HS.out,uU,hf,Ao (by omega),qn.out]; simp);have HD2:Hid ((qs.set k p).drop (j+1)=ps.drop (j+1)):=hid (by rw [List.drop_set_of_lt (by omega)]; exact yr.out);clear hf;go_wp2_with (first
      | (refine aB (aW (aV (j:=0) cl.out rfl) ⟨_,rfl,rfl⟩) ?_)
      | (refine qV eo.out (i:=k) (by omega) p rfl _ _ rfl rfl rfl ?_; intro w7 ot dd; have jz:=hid ot; have C5:Hid (Bo g w w7):=hid (tD.out.upd dd); clear ot dd))
     go_roundw
     case rel=>exact ⟨k+1,j+1,qs.set k p,by go_num,by go_num,by omega,by omega,by simpa using I5,jz,tE,HD2,C5⟩
     case measure=>simp [intOf]; omega
   .obtain rfl:j=n:=by omega
    have hT:=qn.out;rw [List.take_of_length_le (l:=ps) (by rw [HL.out]; exact aH)] at hT;have hkl:(jR ps).length=k:=by rw [<-hT,List.length_take]; omega
    have HE:=hid hT;have cf:=hid hkl;obtain ⟨cur,hO,hs,_,_⟩:=sp.out.own;have HO:=hid hO;have Pp:=hid (λ(w':World) (cur':aO) (h1:Rg.Own w' g cur' 46) (h2:cur'.size=cap) (h3:∀ j,j<k->cur'[j]? = cur[j]?)=>sp.out.cut hO (by omega) h1 h2 h3);clear hT hkl hO qn I6 sp;go_wp2_with (first
     | (refine aB (jH (a:=some ⟨g,0,none⟩) (n:=j) (c:=cap) (i:=k) ng AU hkj ⟨_,_,rfl,rfl,rfl⟩) ?_)
     | (refine aB (wQ (a:=some ⟨g,0,none⟩) (n:=j) (c:=cap) (j:=k) ng AU (by omega) ⟨_,_,rfl,rfl,rfl⟩) ?_)
     | (refine Mi (i:=k) (n:=j) rfl ⟨_,rfl,rfl⟩ rfl HO.out hs hkj hlc ?_; intro w8 C6 gw tG I7 ov; have Pr:=hid (Pp.out w8 C6 gw tG I7); have C7:Hid (Bo g w w8):=hid (HB.out.upd ov); clear gw tG I7 ov))
    go_ret;exact ⟨by rw [cf.out]; rfl,(by rw [<-HE.out]; exact Pr.out),C7.out⟩
def sD (B:Nat) (w:World) (v:Value) (ps:List (aL)):Prop:=(v = .slice none 0 0/\ps=[])\/∃ g cap,v = .slice (some ⟨g,0,none⟩) ps.length cap/\B<=g/\RowK w g cap ps
theorem sD.ptrs {B:Nat} {w:World} {v:Value} {ps:List (aL)} (h:sD B w v ps):∃ a c,v = .slice a ps.length c/\wB w a ps.length c ps/\∀ ad,a=some ad->B<=ad.block:=by
 rcases h with ⟨rfl,rfl⟩ | ⟨g,cap,rfl,hB,hR⟩
 .exact ⟨none,0,rfl,⟨aH,Nat.zero_le _,rfl,λ_=>rfl,λ_ h=>absurd h (Nat.not_lt_zero _)⟩,λ_ e=>by cases e⟩
 .exact ⟨_,cap,rfl,hR.ptrs,λad e=>by cases e; exact hB⟩
theorem uX (a:aL) (n cap:Nat) (ps:List (aL)) (w:World) (h:wB w a n cap ps) (hn:n<=1000000) :
  Calls prog 125 #[.slice a n cap] w λe w'=>∃ v,e = .returned v/\sD w.heap.size w' v ps/\Below w.heap.size w w':=by
 cases a with
 | none =>
  have hc:cap=0:=h.2.2.2.1 rfl;have h1:=h.1;obtain rfl:n=0:=by omega
  subst hc;have hp:ps=[]:=List.eq_nil_of_length_eq_zero h.2.2.1;refine (Hz w).mono ?_;rintro e w' ⟨rfl,rfl⟩;exact ⟨_,rfl,Or.inl ⟨rfl,hp⟩,aI⟩
 | some ad =>
  refine (zQ ad n cap ps w h hn).mono ?_;rintro e w' ⟨g,c,rfl,hg,hR,hb⟩;exact ⟨_,rfl,Or.inr ⟨g,c,rfl,hg,hR⟩,hb⟩
theorem ES (w:World):Calls prog 130 #[.slice none 0 0,.func (Fn.func 124) #[] #[]] w λe w'=>e = .returned (.slice none 0 0)/\Below w.heap.size w w':=by
 have HX:=hid (ze [] none 0 0 w ⟨aH,Nat.zero_le _,rfl,λ_=>rfl,λ_ h=>absurd h (Nat.not_lt_zero _)⟩ (by omega));go_enter func130,ntmps130;go_wp2_with fail
 refine HX.out.mono ?_;rintro e w1 ⟨r,rfl,hb1,hr⟩;rcases hr with ⟨rfl,_⟩ | ⟨i,rfl,hi,_⟩
 .have HB1:=hid hb1;clear hb1;go_wp2;go_ret;exact ⟨rfl,HB1.out⟩
 .omega
theorem Gi (ps:List (aL)) (v:Value) (w:World) (h:sD B w v ps) (hB:B<=w.heap.size) (hn:ps.length<=1000000) :
  Calls prog 130 #[v,.func (Fn.func 124) #[] #[]] w λe w'=>∃ v',e = .returned v'/\sD B w' v' (jR ps)/\Below B w w':=by
 rcases h with ⟨rfl,rfl⟩ | ⟨g,cap,rfl,hg,hR⟩
 .refine (ES w).mono ?_;rintro e w' ⟨rfl,hb⟩;exact ⟨_,rfl,Or.inl ⟨rfl,rfl⟩,hb.mono hB⟩
 .refine (EI ps g cap w hR hn).mono ?_;rintro e w' ⟨rfl,hR',Ps⟩;exact ⟨_,rfl,Or.inr ⟨g,cap,rfl,hg,hR'⟩,Ps.below aI hB hg⟩
theorem wB.upd {c:Nat} {ps:List (aL)} (h:wB w a n c ps) (hu:Rg.Upd w g w') (hne:∀ ad,a=some ad->ad.block≠g):wB w' a n c ps:=by
 refine ⟨h.1,h.2.1,h.2.2.1,h.2.2.2.1,λj hj=>?_⟩;obtain ⟨b,off,e,hlt,hc⟩:=h.2.2.2.2 j hj;exact ⟨b,off,e,by rw [hu.size]; exact hlt,by rw [World.cell?_of_block (hu.block b (hne _ e))]; exact hc⟩
theorem Are.nil (M:Mp):Are M [] []:=⟨rfl,λ_ h=>absurd h (Nat.not_lt_zero _)⟩
theorem EZ {M:Mp} {p:aL} {t:T} {ps:List (aL)} {l:List T}:Are M (p::ps) (t::l)↔IsT M p t/\Are M ps l:=by
 constructor
 .rintro ⟨h1,h2⟩;refine ⟨h2 0 (by simp),by simpa using h1,λj hj=>?_⟩;have:=h2 (j+1) (by simpa using hj);simpa using this
 .rintro ⟨h1,h2,h3⟩;refine ⟨by simp [h2],λj hj=>?_⟩;cases j with
  | zero=>exact h1
  | succ j =>
   have:=h3 j (by simpa using hj);simpa using this
theorem Are.keep {M:Mp}:∀ {ps:List (aL)} {l:List T},Are M ps l->Are M (jR ps) (l.filter λt=>!isNil t)
 | [],[],_=>Are.nil M
 | [],_::_,h=>absurd h.1 (by simp)
 | _::_,[],h=>absurd h.1 (by simp)
 | p::ps,t::l,h=>by
  obtain ⟨h1,h2⟩:=EZ.1 h;have ih:=Are.keep h2;have hn:=h1.uf;cases p with
  | none =>
   obtain rfl:t = .nil:=hn.1 rfl;exact ih
  | some ad =>
   have ht:isNil t=false:=by
    cases t with
    | nil=>exact absurd (hn.2 rfl) (by simp)
    | _=>rfl
   have e1:jR (some ad::ps)=some ad::jR ps:=rfl;rw [e1,List.filter_cons_of_pos (by rw [ht]; rfl)];exact EZ.2 ⟨h1,ih⟩
theorem Il {t:T} {L:Nat} (g:Tr.Good t L):(iE t).filter (λt=>!isNil t)=zy t:=by
 cases t with
 | nil=>rfl
 | leaf q v=>rfl
 | stub r=>rfl
 | ext q s =>
  have hs:isNil s=false:=by
   have:=g.2.2.2.1;cases s with
   | nil=>exact absurd rfl (mX this)
   | _=>rfl
  show List.filter _ [s]=[s]
  rw [List.filter_cons_of_pos (by rw [hs]; rfl)];rfl
 | br ks =>
  show List.filter _ ((List.finRange 16).map ks)=(dz ks).map ks;rw [List.filter_map];rfl
def Eh (M:Mp) (w:World) (t:T) (e:Ending) (w':World):Prop:=∃ a n c ka kc ps,e = .returned (.tuple #[.agg (ndC (bF t) a n c),.slice ka ps.length kc])/\sD w.heap.size w' (.slice ka ps.length kc) ps/\BsF w.heap.size w' a n c (bF t).p/\wB w' ka ps.length kc ps/\Are M ps (zy t)/\
 (∀ ad,ka=some ad->w.heap.size<=ad.block)/\Fr M M w w'/\Inv M w'/\Tab w'
theorem sD.late {B':Nat} {ps:List (aL)} (h:sD B w v ps) (hB:B'<=B) (hu:Rg.Upd w g w') (hg:g<B):sD B' w' v ps:=by
 rcases h with h | ⟨k,cap,e,hk,hR⟩
 .exact .inl h
 .exact .inr ⟨k,cap,e,Nat.le_trans hB hk,hR.upd hu (by omega)⟩
theorem PZ (M:Mp) (w:World) (hi:Inv M w) (hT:Tab w):Calls prog 92 #[tv none] w (Eh M w .nil):=by
 obtain ⟨w2,hw2,al,am,hb2,hs2⟩:=uZ w none;have HE:=hid (jX none w2);have HO:=hid al;have de:=hid am;have HB:=hid hb2;have HI:=hid hi;have HT:=hid hT;clear al am hb2 hi hT;subst hw2;have hgo:Calls prog 92 #[.agg #[.pointer none]] w (Eh M w .nil):=by
  go_enter func92,ntmps92;go_wp2_with (first
   | (refine aB (aY _ _ _ (w.heap.size+1) (by simp) rfl) ?_)
   | (refine aB (aW (aV (j:=0) HO.out rfl) ⟨_,rfl,rfl⟩) ?_))
  refine HE.out.mono ?_;rintro e w3 ⟨rfl,hb3⟩;have HB3:=hid (bst HB.out hb3);have bc:=hid (de.out.below hb3);clear hb3 HE;go_wp2_with (first
   | (refine aB (bM oO ?_) ?_; · exact ⟨_,rfl,rfl⟩)
   | (refine bH bc.out rfl nd0 none 0 0 rfl rfl _ _ rfl rfl rfl rfl ?_))
  have j1:=hid (bZ HB3.out (show w.heap.size<=w.heap.size+1 by omega) (ndC nd0 none 0 0));exact bodyPost_ret (fP (p:=2) (u:=3) rfl _ rfl (dK bc.out) rfl) rfl ⟨none,0,0,none,0,[],rfl,.inl ⟨rfl,rfl⟩,BsF.nil _ _,⟨aH,Nat.zero_le _,rfl,λ_=>rfl,λ_ h=>absurd h (Nat.not_lt_zero _)⟩,Are.nil M,λ_ e=>(by cases e),Fr.below M j1.out,HI.out.below j1.out,HT.out.below j1.out HT.out.pos⟩
 exact hgo
theorem Rp (M:Mp) (b:Nat) (t:T) (hm:M.at_ b=some t) (hn:t ≠ .nil) {L:Nat} (g:Tr.Good t L) (hL:L<=64) (w:World) (hi:dB M (sz t) w) {pa:aL} {pn pc:Nat} {ka:aL} {kn kc:Nat} (hB:Body M w b t pa pn pc ka kn kc) (hT:Tab w)
  (gt:∀ q s,t = .ext q s->lu s) (hR2:∀ ks,t = .br ks->∀ i,lu (ks i)) :
  Calls prog 63 #[.agg #[.pointer (some ⟨b,0,none⟩)]] w (lF M t w):=by
 by_cases hs:eX t
 .obtain ⟨r,rfl⟩:∃ r,t = .stub r:=by
   cases t with
   | stub r=>exact ⟨r,rfl⟩
   | _=>exact hs.elim
  refine (DY (some ⟨b,0,none⟩) (-1) (by decide) (by decide) (by decide) w (λwx hbx=>lV b (-1) wx (aX hbx hB.c0))).mono ?_;rintro e w' ⟨rfl,hb⟩;exact ⟨none,0,0,rfl,BsF.nil _ _,FrN.below M _ hb,hi.below hb⟩
 .exact Jg M b t hm hs hn g hL w hi hB hT gt hR2
theorem Py (M:Mp) (p:aL) (t:T) (L:Nat) (g:Tr.Good t L) (hL:L<=64) (f:Fine t) (w:World) (hi:Inv M w) (ht:IsT M p t) (hT:Tab w) :
  Calls prog 92 #[tv p] w (Eh M w t):=by
 by_cases hne:t = .nil
 .subst hne;have:p=none:=ht.uf.2 rfl;subst this;exact PZ M w hi hT
 obtain ⟨b,rfl,hm⟩:=ht.at_ hne;obtain ⟨pa,pn,pc,ka,kn,kc,hB⟩:=(hi.part hm).body;obtain ⟨w2,hw2,al,am,hb2,hs2⟩:=uZ w (some ⟨b,0,none⟩);have hlb:=hi.lt hm;have hB2:=hB.below hb2;have hi2:=hi.below hb2;have fs:=hT.below hb2 hT.pos;have hkn:kn<=16:=by
  rw [<-hB.hk.len];cases t with
  | br ks=>rw [show iE (.br ks)=(List.finRange 16).map ks from rfl]; simp
  | ext q s=>show 1<=16; omega
  | _=>exact Nat.zero_le _
 have HE:Hid (∀ w3,Below w2.heap.size w2 w3->(w3.cell? ⟨w.heap.size,0,none⟩=some (.pointer (some ⟨b,0,none⟩))/\w3.cell? ⟨b,3,none⟩=some (.slice ka kn kc))/\
   Calls prog 63 #[.agg #[.pointer (some ⟨b,0,none⟩)]] w3.drew (lF M t w3.drew)/\
   ∀ w6 a6 n6 c6,BsF w3.heap.size w6 a6 n6 c6 (bF t).p->FrN M (sz t) w3.drew w6->dB M (sz t) w6->(w6.cell? ⟨w.heap.size,0,none⟩=some (.pointer (some ⟨b,0,none⟩))/\w6.cell? ⟨b,3,none⟩=some (.slice ka kn kc))/\
   ∃ ps,(Calls prog 125 #[.slice ka kn kc] w6 λe w'=>∃ v,e = .returned v/\sD w6.heap.size w' v ps/\Below w6.heap.size w6 w')/\
   ∀ w7 v7,sD w6.heap.size w7 v7 ps->Below w6.heap.size w6 w7->(w7.cell? ⟨w.heap.size,0,none⟩=some (.pointer (some ⟨b,0,none⟩))/\w7.cell? ⟨b,3,none⟩=some (.slice ka kn kc))/\
   (Calls prog 130 #[v7,.func (Fn.func 124) #[] #[]] w7 λe w'=>∃ v',e = .returned v'/\sD w6.heap.size w' v' (jR ps)/\Below w6.heap.size w7 w')/\
   ∀ w8 v8,sD w6.heap.size w8 v8 (jR ps)->Below w6.heap.size w7 w8->(w8.cell? ⟨w.heap.size,0,none⟩=some (.pointer (some ⟨b,0,none⟩))/\w8.cell? ⟨b,3,none⟩=some (.slice ka kn kc))/\fE w8 (w.heap.size+1) nd0 none 0 0/\
   ∀ w9,Rg.Upd w8 (w.heap.size+1) w9->(w9.cell? ⟨w.heap.size,0,none⟩=some (.pointer (some ⟨b,0,none⟩))/\w9.cell? ⟨b,3,none⟩=some (.slice ka kn kc))/\Eh M w t (.returned (.tuple #[.agg (ndC (bF t) a6 n6 c6),v8])) w9):=hid (λw3 hb3=>by
  have dq:Below w2.heap.size w2 w3.drew:=below_drewN hb3 1;have hi3:=hi2.below dq;have hB3:=hB2.below dq;have tI:=al.below dq;have k9:=am.below dq;have q8:=fs.below dq fs.pos;have hg0:M.at_ w.heap.size=none:=hi.out aH;have hg1:M.at_ (w.heap.size+1)=none:=hi.out (by omega);have hs3:=dq.size;refine ⟨⟨aV (j:=0) tI rfl,hB3.c3⟩,Rp M b t hm hne g hL w3.drew (hi3.toN _) hB3 q8 (λq s e=>by
   subst e;exact mZ s _ g.2.2.2.2 (by have:=g.2.2.1; omega) f) (λks e i=>by
   subst e;exact mZ (ks i) _ (g.2.2 i) (by omega) (f i)),λw6 a6 n6 c6 sq dc mf=>?_⟩
  have qq:=wW tI dc hg0;have tM:=wW k9 dc hg1;have cm:=hB3.frN (hi3.toN (sz t)) dc hm aH;have z9:=hi3.after dc mf;have qr:=wS (hi3.toN (sz t)) dc q8;obtain ⟨ps,hps,har⟩:=cm.hk.ptrs;have hpl:ps.length=kn:=hps.2.2.1;have hs6:=dc.size;refine ⟨⟨aV (j:=0) qq rfl,cm.c3⟩,ps,uX ka kn kc ps w6 hps (by omega),λw7 v7 hv7 ej=>?_⟩;have C8:=qq.below ej;have C9:=aX ej cm.c3;refine ⟨⟨aV (j:=0) C8 rfl,C9⟩,Gi ps v7 w7 hv7 ej.size (by omega),λw8 v8 tP cM=>?_⟩;have eW:Below w6.heap.size w6 w8:=ej.trans cM;have tR:=qq.below eW
  have tS:=tM.below eW;have hc38:=aX eW cm.c3;refine ⟨⟨aV (j:=0) tR rfl,hc38⟩,tS,λw9 ba=>?_⟩;have hne1:w.heap.size≠w.heap.size+1:=by omega
  have Pu:=z9.below eW;have hnf:¬ M.ft (w.heap.size+1):=hi.free (by omega);have hrow:=tP;obtain ⟨k8,PA,rfl,PB,I8⟩:=tP.ptrs;have tG:=eW.size;have U8:w.heap.size+1<w6.heap.size:=tM.1;have Cd:=qr.below eW qr.pos;have PC:∀ ad,k8=some ad->ad.block≠w.heap.size+1:=λad e=>by have:=I8 ad e; omega
  refine ⟨⟨aV (j:=0) (tR.upd ba hne1) rfl,by rw [World.cell?_of_block (ba.block b (by omega))]; exact hc38⟩,a6,n6,c6,k8,PA,jR ps,rfl,hrow.late (by omega) ba (by omega),⟨sP (sq.1.below eW) (eU tS (JL _ _ _ _)) ba,λad e=>Nat.le_trans (Nat.le_trans hb2.size hb3.size) (sq.2 ad e)⟩,PB.upd ba PC,by rw [<-Il g]; exact har.keep,λad e=>by have:=I8 ad e; omega,?_,Pu.upd ba hnf,λi hi=>by rw [World.cell?_of_block (ba.block 0 (by have:=hT.pos; omega))]; exact Cd i hi⟩
  exact ((((Fr.below M hb2).trans hi (Fr.below M dq)).trans hi dc.fr).trans hi (Fr.below M eW)).upd ba (by omega))
 have HL:=hid (fH t);obtain ⟨N,hN⟩:=aA (bF t)
 rw [hN] at HL HE;have HN:=hid hN;have tw:=hid al;have I9:=hid (jX (some ⟨b,0,none⟩) w2);have HW:Hid (_=_):=hid hw2;clear al am hb2 hB hB2 hi2 fs hi hT hm hN g f hne ht hkn hw2;have hgo:Calls prog 92 #[.agg #[.pointer (some ⟨b,0,none⟩)]] w (Eh M w t):=by
  have qt:=tw;rw [HW.out] at qt;go_enter func92,ntmps92;go_wp2_with (first
   | (refine aB (aY _ _ _ (w.heap.size+1) (by simp) rfl) ?_)
   | (refine aB (aW (aV (j:=0) qt.out rfl) ⟨_,rfl,rfl⟩) ?_))
  rw [<-HW.out];refine I9.out.mono ?_;rintro e w3 ⟨rfl,hb3⟩;obtain ⟨hS0,qu,HF⟩:=HE.out w3 hb3;replace qu:=hid qu;replace HF:=hid HF;clear hb3 HE HW tw qt I9;go_wp2_with fail
  refine aD (S:=λw'=>w'.cell? ⟨w.heap.size,0,none⟩=some (.pointer (some ⟨b,0,none⟩))/\w'.cell? ⟨b,3,none⟩=some (.slice ka kn kc)) (hS0) λhld=>?_;refine aj 0 ?_ (hy:=by intro wz hSw; (refine aW hSw.1 ?_; exact ⟨_,rfl,rfl⟩));try simp only [Act.put,au]
  refine aj 2 ?_;try simp only [Act.put,au]
  refine aj 3 ?_ (hy:=by intro wz hSw; (obtain ⟨hcc,hcd⟩:=hSw; go_simp <;> with_reducible rfl));try simp only [Act.put,au]
  refine aj 4 ?_;try simp only [Act.put,au]
  refine aj 5 ?_;try simp only [Act.put,au]
  refine aj 6 ?_ (hy:=by intro wz hSw; (obtain ⟨hcc,hcd⟩:=hSw; go_simp <;> with_reducible rfl));try simp only [Act.put,au]
  refine ak 1 λK hK=>?_;go_simp;go_at_call 63
  (with_reducible refine qu.out.mono ?_)
  rintro e w6 ⟨a6,n6,c6,rfl,sq,dc,mf⟩;rw [HN.out] at sq ⊢;obtain ⟨fX,hH6⟩:=HF.out w6 a6 n6 c6 sq dc mf;have H6:=hid hH6;clear sq dc mf hH6;refine hK.out _ _ (fX) λhld=>?_;clear hK K;try simp only [Act.put,au]
  refine ak 7 λK hK=>?_;go_simp;go_at_call 125
  obtain ⟨ps,Id,hD7⟩:=H6.out;have HD7:=hid hD7
  (with_reducible refine Id.mono ?_)
  rintro e w7 ⟨v7,rfl,hv7,ej⟩;obtain ⟨tU,tW,If⟩:=HD7.out w7 v7 hv7 ej;have H7:=hid If;have PF:=hid tW;clear hv7 ej tW If hD7 Id;refine hK.out _ _ (tU) λhld=>?_;clear hK K;try simp only [Act.put,au]
  refine ak 8 λK hK=>?_;go_simp;go_at_call 130
  (with_reducible refine PF.out.mono ?_)
  rintro e w8 ⟨v8,rfl,tP,cM⟩;obtain ⟨mt,gw,ke⟩:=H7.out w8 v8 tP cM;have H8:=hid ke;have cw:=hid gw;clear tP cM ke gw;refine hK.out _ _ (mt) λhld=>?_;clear hK K;try simp only [Act.put,au]
  refine ak 9 λK hK=>?_;refine Rg.meetStore (by rfl) cw.out 67 (ndC N a6 n6 c6) ⟨_,_,rfl,rfl,rfl⟩ (kM _ _ _ _ HL.out) (by rw [eY _ _ _ _ bP,eY _ _ _ _ HL.out]) (nY _ _ _ _) ?_;intro w9 aw ba;have cc:=hid aw;obtain ⟨lE,Iv⟩:=H8.out w9 ba;have H9:=hid Iv;clear aw ba Iv;refine hK.out _ _ (lE) λhld=>?_;clear hK K;try simp only [Act.put,au]
  refine aj 10 ?_;try simp only [Act.put,au]
  refine aC ?_;go_wp2;exact bodyPost_ret (fP (p:=2) (u:=3) rfl _ rfl cc.out HL.out) rfl H9.out
 exact hgo
end Tm
end
section
open Go.RowKit
namespace Tm
open Tr Ni Pk
theorem LK (M:Mp) (b:Nat) (t:T) (hm:M.at_ b=some t) (k:Nat) (A:T) (hkl:k<(bO t).length) (Cf:(bO t).length<=1000) (hn:Nib (bO t)) (w:World) (hi:Inv M w)
  (hcut:∀ wx M',Inv M' wx->M'.at_ b=some t->Calls prog 161 #[.agg #[.pointer (some ⟨b,0,none⟩)],.int .i64 (k+1:Nat)] wx (cK M' wx A))
  (wa:aL) (wn wc:Nat) (way:Pa) (v:aM) (hW:Bs M w wa wn wc way) (IA:k<way.length) (hwn:Nib way) (hw64:way.length<=1000) (hne:(bO t).getD k 0≠way.getD k 0) :
  Calls prog 128 #[.agg #[.pointer (some ⟨b,0,none⟩)],.int .i64 k,.slice wa wn wc,.string v] w (cK M w (wrap (way.take k) (two (nb ((bO t).getD k 0)) (nb (way.getD k 0)) A (.leaf (way.drop (k+1)) v)))):=by
 obtain ⟨w2,hw2,al,am,hb2,hs2⟩:=kY w (some ⟨b,0,none⟩);have hi2:=hi.below hb2;have hS2:St M w M w2:=⟨Fr.below M hb2,hi2,hb2,hi⟩
 have hX2:Bx M w2 (w.heap.size+1) #[.pointer none] 46:=⟨am,hi.free (by omega),iB _⟩
 obtain ⟨pa,pn,pc,c1,hP⟩:=hi2.path hm;have hpn:(bO t).length=pn:=hP.1.len;have hwl:way.length=wn:=hW.1.len;rw [hpn] at hkl Cf;rw [hwl] at IA hw64;obtain ⟨pb,po,rfl,_,cx⟩:=hP.1.at' k hkl;have hW2:=hW.fr hi (Fr.below M hb2);obtain ⟨wb,wo,rfl,_,cy⟩:=hW2.1.at' k IA;have hx:((bO t).getD k 0).toNat<16:=by
  have:=hn ((bO t).getD k 0) (by rw [List.getD_eq_getElem?_getD,List.getElem?_eq_getElem (by omega)]; exact List.getElem_mem _);exact this
 have hy:(way.getD k 0).toNat<16:=by
  have:=hwn (way.getD k 0) (by rw [List.getD_eq_getElem?_getD,List.getElem?_eq_getElem (by omega)]; exact List.getElem_mem _);exact this
 have hnx:((nb ((bO t).getD k 0)).val:Nat)=((bO t).getD k 0).toNat:=Nat.mod_eq_of_lt hx;have hny:((nb (way.getD k 0)).val:Nat)=(way.getD k 0).toNat:=Nat.mod_eq_of_lt hy;have hnn:nb ((bO t).getD k 0)≠nb (way.getD k 0):=λe=>hne (qc hx hy e);obtain ⟨X,hX⟩:=aA (nb ((bO t).getD k 0))
 obtain ⟨Y,hY⟩:=aA (nb (way.getD k 0))
 rw [hX] at hnx hnn ⊢;rw [hY] at hny hnn ⊢;obtain ⟨x,hxe⟩:=aA (((bO t).getD k 0).toNat)
 obtain ⟨y,hye⟩:=aA ((way.getD k 0).toNat)
 rw [hxe] at hx cx hnx;rw [hye] at hy cy hny;obtain ⟨w3,hw3⟩:=ay (w2.alloc (.cells (rP uj) 46))
 have hb3:Below w2.heap.size w2 w3:=by rw [hw3]; exact al1 _ _
 have sr:Rx M w3 w2.heap.size uj:=⟨by rw [hw3]; exact Rg.Own.new _ _ _,hi2.free aH,by rw [ny]; simp [maxLen]⟩
 have hxi:(x:Int)<16:=by omega
 have hyi:(y:Int)<16:=by omega
 have gx:=hP.1.1;have hpm:=hP.1.2.1;have gA:=hW.1.1;have mu:=hW.1.2.1;unfold maxLen at hpm mu;have HAdd:Hid (IntKind.i64.wrap ((k:Int)+1)=((k+1:Nat):Int)):=hid (by simp only [IntKind.wrap_i64,wrap64]; omega);have Cl:Hid (∀ wx,Below w2.heap.size w2 wx->Calls prog 161 #[.agg #[.pointer (some ⟨b,0,none⟩)],.int .i64 ((k:Int)+1)] wx (cK M wx A)):=hid (λwx hb=>hcut wx M (hi2.below hb) hm);obtain ⟨g,hg⟩:=aA w2.heap.size
 rw [hg] at sr;have u0:Hid (∀ wx e w4,Below w3.heap.size w3 wx->Below w2.heap.size w2 wx->cK M wx A e w4->∃ p4 M4,e = .returned (tv p4)/\Below w2.heap.size w2 w4/\Rx M4 w4 g uj/\
   ∀ w5,Rx M4 w5 g (uj.set x p4)->Rg.Upd w4 g w5->Below w2.heap.size w2 w5/\Calls prog 87 #[.slice (dX (some ⟨wb,wo,none⟩) wc (k+1)) (wn-(k+1)) (wc-(k+1)),.string v] w5.drew (cK M4 w5.drew (.leaf (way.drop (k+1)) v))/\
   ∀ e w6,cK M4 w5.drew (.leaf (way.drop (k+1)) v) e w6->∃ p6 M6,e = .returned (tv p6)/\Below w2.heap.size w2 w6/\Rx M6 w6 g (uj.set x p4)/\
   ∀ w7,Rx M6 w7 g ((uj.set x p4).set y p6)->Rg.Upd w6 g w7->∃ M7,Below w2.heap.size w2 w7/\Calls prog 126 #[.slice (some ⟨g,0,none⟩) 16 16] w7.drew (cK M7 w7.drew (two X Y A (.leaf (way.drop (k+1)) v)))/\
   ∀ e w8,cK M7 w7.drew (two X Y A (.leaf (way.drop (k+1)) v)) e w8->∃ p8 M8,e = .returned (tv p8)/\Below w2.heap.size w2 w8/\Calls prog 129 #[.slice (some ⟨wb,wo,none⟩) k wc,.agg #[.pointer p8]] w8 (cK M8 w8 (wrap (way.take k) (two X Y A (.leaf (way.drop (k+1)) v))))/\
   ∀ e w9,cK M8 w8 (wrap (way.take k) (two X Y A (.leaf (way.drop (k+1)) v))) e w9->∃ p9,e = .returned (tv p9)/\Below w2.heap.size w2 w9/\Rg.Own w9 (w.heap.size+1) #[.pointer none] 46/\
   ∀ af,Rg.Upd w9 (w.heap.size+1) af->Below w.heap.size w af/\cK M w (wrap (way.take k) (two X Y A (.leaf (way.drop (k+1)) v))) (.returned (tv p9)) af):=hid (by
  intro wx e w4 h3x h2x hG;have hsx:St M w M wx:=hS2.below h2x;obtain ⟨p4,M4,rfl,ox,PH,ml,hb4⟩:=hsx.got hG;have ID:=(sr.below h3x).got ml hb4;have PJ:=(hX2.below h2x).got ml hb4;have ex:=bst h2x hb4;refine ⟨p4,M4,rfl,ex,ID,λw5 lz ax=>?_⟩;have hlo:w.heap.size<=g:=by omega
  have hS5:St M w M4 w5:=PH.upd ax hlo ID.n;have u1:=PJ.upd ax (by omega);have u2:=ax.below ex (by omega);have U9:Bs M4 w5 (some ⟨wb,wo,none⟩) wn wc way:=hW.fr hi hS5.f;have qv:=hS5.below (below_drewN aI 1);refine ⟨u2,mh M4 _ _ _ _ _ _ qv.i (hW.fr hi qv.f |>.from' (k+1) (by omega)),λe w6 PM=>?_⟩;obtain ⟨p6,M6,rfl,qr,fX,dc,hb6⟩:=qv.got PM;have IF:=(lz.below (below_drewN aI 1)).got dc hb6;have PP:=(u1.below (below_drewN aI 1)).got dc hb6;have u4:Below w2.heap.size w2 w6:=bst (u2.drew) hb6
  refine ⟨p6,M6,rfl,u4,IF,λw7 ot dd=>?_⟩;have tU:St M w M6 w7:=fX.upd dd hlo IF.n;have PQ:=PP.upd dd (by omega);have ua:=dd.below u4 (by omega);have ub:=(tU.below (below_drewN aI 1)).plus (S:=λk=>k=g) (λk hk=>⟨Or.inl (by omega),by rw [hk]; exact ot.o.1⟩);have ja:Are M6 ((uj.set x p4).set y p6) (((List.replicate 16 T.nil).set x A).set y (.leaf (way.drop (k+1)) v)):=((QD M6).set x (ox.mono dc.mono)).set y qr;rw [<-hnx,<-hny,Sw X Y _ _ hnn] at ja;have ss:=(ot.below (below_drewN aI 1)).ks (by rw [<-hnx,<-hny]; exact ja)
  have hlen:((uj.set x p4).set y p6).length=16:=by simp [ny]
  rw [hlen] at ss;have Cp:=(PQ.below (below_drewN (Below.refl w7.heap.size w7) 1)).plus (S:=λk=>k=g) (by omega);refine ⟨_,ua,jl _ _ _ _ _ _ ub.i ss,λe w8 PR=>?_⟩;obtain ⟨p8,M8,rfl,Cd,mt,PT,cM⟩:=ub.got PR;have Q4:=Cp.got PT cM;have uc:Below w2.heap.size w2 w8:=bst (ua.drew) cM;refine ⟨p8,M8,rfl,uc,rO M8 _ _ _ _ _ _ w8 mt.i ((hW.fr hi mt.f).upto k (by omega)) Cd,λe w9 ud=>?_⟩;obtain ⟨p9,M9,rfl,ue,lE,ui,kf⟩:=mt.got ud;have oy:=Q4.got ui kf;refine ⟨p9,rfl,bst uc kf,oy.o,λaf hu=>?_⟩;have cq:=lE.upd hu (by omega) oy.n
  exact ⟨cq.b,p9,M9,rfl,ue,cq.f,cq.i,cq.b⟩)
 have h0:=aV (j:=0) al rfl;have hkp:k<pn:=hkl;have hkc:k<=wc:=by omega
 have Cs:k+1<=wn:=by omega
 have HB3:=hid hb3;obtain ⟨RR,hRR⟩:=aA (wrap (way.take k) (two X Y A (.leaf (way.drop (k+1)) v)))
 rw [hRR] at u0 ⊢;have BB:w2.heap.size=w.heap.size+2:=hs2;have uk:=al;clear al am hb2 hs2 hi hi2 hP hW hW2 hS2 hX2 hcut hm hn hwn hne hnx hny hnn hX hY hxe hye sr hb3 hRR hpn hwl;obtain rfl:g=w.heap.size+2:=by omega
 have CA:=hid (λe w4 (h:Below w2.heap.size w2 w3.drew)=>u0.out w3.drew e w4 (below_drewN aI 1) h);have HW2:Hid (_=_):=hid hw2;have HW3:Hid (_=_):=hid hw3;have fm:Hid (Rg.Own w2 w.heap.size #[.pointer (some ⟨b,0,none⟩)] 46):=hid uk;clear u0 hw2 hw3 uk;go_enter func128,ntmps128;go_wp2_with (first
  | (refine aB (aZ _ _ _ (w.heap.size+1) (by simp) rfl) ?_)
  | (refine aB (Kk (w.heap.size+2) (by simp) ⟨_,_,rfl,rfl,rfl⟩) ?_))
 rw [<-HW2.out,<-HW3.out];refine aD (S:=λw'=>Below w2.heap.size w2 w') (HB3.out.drew) λhld=>?_;refine aj 0 ?_;try simp only [Act.put,au]
 refine aj 1 ?_;try simp only [Act.put,au]
 refine aF 2 (λwz hSw=>aX hSw h0) ?_;try simp only [Act.put,au]
 refine aj 3 ?_;try simp only [Act.put,au]
 refine aj 4 ?_;try simp only [Act.put,au]
 refine aF 5 (λwz hSw=>aX hSw c1) ?_;try simp only [Act.put,au]
 refine aj 6 ?_;try simp only [Act.put,au]
 refine aj 7 ?_;try simp only [Act.put,au]
 refine aF 8 (λwz hSw=>aX hSw cx) ?_;try simp only [Act.put,au]
 refine aj 9 ?_ (hy:=by intro wz hSw; (refine aW (aX hSw h0) ?_; exact ⟨_,rfl,rfl⟩));try simp only [Act.put,au]
 refine aj 10 ?_;try simp only [Act.put,au]
 refine aj 11 ?_ (hy:=by intro wz hSw; (have q0:=HAdd.out; go_simp <;> with_reducible rfl));try simp only [Act.put,au]
 refine ak 12 λK hK=>?_;go_simp;go_at_call 161
 (with_reducible refine (Cl.out _ hld).mono ?_)
 intro e w4 hG;obtain ⟨p4,M4,rfl,H4⟩:=CA.out e w4 hld hG;replace H4:=hid H4;clear hG;have hB4:=H4.out.1;refine hK.out _ _ (hB4) λhld=>?_;clear hK K;try simp only [Act.put,au]
 refine aj 13 ?_;try simp only [Act.put,au]
 refine ak 14 λK hK=>?_;refine qN (by rfl) H4.out.2.1 (i:=x) (by simpa [ny] using hx) p4 ⟨_,_,rfl,rfl,rfl⟩ ?_;intro w5 lz ax;have H5:=hid (H4.out.2.2 w5 lz ax);clear lz ax;refine hK.out _ _ (H5.out.1) λhld=>?_;clear hK K;try simp only [Act.put,au]
 refine aC ?_;go_wp2_with fail
 refine aD (S:=λw'=>Below w2.heap.size w2 w') (H5.out.1.drew) λhld=>?_;refine aj 0 ?_;try simp only [Act.put,au]
 refine aj 1 ?_;try simp only [Act.put,au]
 refine aj 2 ?_;try simp only [Act.put,au]
 refine aj 3 ?_;try simp only [Act.put,au]
 refine aF 4 (λwz hSw=>aX hSw cy) ?_;try simp only [Act.put,au]
 refine aj 5 ?_;try simp only [Act.put,au]
 refine aj 6 ?_;try simp only [Act.put,au]
 refine aj 7 ?_ (hy:=by intro wz hSw; (have q0:=HAdd.out; go_simp <;> with_reducible rfl));try simp only [Act.put,au]
 refine aj 8 ?_ (hy:=by intro wz hSw; (refine jH (a:=some ⟨wb,wo,none⟩) (n:=wn) (c:=wc) (i:=k+1) fQ iJ Cs ?_; exact ⟨_,_,rfl,rfl,rfl⟩));try simp only [Act.put,au]
 refine aj 9 ?_;try simp only [Act.put,au]
 refine ak 10 λK hK=>?_;go_simp;go_at_call 87
 (with_reducible refine (H5.out.2.1).mono ?_)
 intro e w6 hG;obtain ⟨p6,M6,rfl,H6⟩:=H5.out.2.2 e w6 hG;replace H6:=hid H6;clear hG;have cm:=H6.out.1;refine hK.out _ _ (cm) λhld=>?_;clear hK K;try simp only [Act.put,au]
 refine aj 11 ?_;try simp only [Act.put,au]
 refine ak 12 λK hK=>?_;refine qN (by rfl) H6.out.2.1 (i:=y) (by simpa [ny] using hy) p6 ⟨_,_,rfl,rfl,rfl⟩ ?_;intro w7 ot dd;obtain ⟨M7,H7⟩:=H6.out.2.2 w7 ot dd;replace H7:=hid H7;clear ot dd;refine hK.out _ _ (H7.out.1) λhld=>?_;clear hK K;try simp only [Act.put,au]
 refine aC ?_;go_wp2_with fail
 refine aD (S:=λ_=>True) (trivial) λhld=>?_;refine aj 0 ?_;try simp only [Act.put,au]
 refine aj 1 ?_;try simp only [Act.put,au]
 refine aj 2 ?_ (hy:=by intro wz hSw; (refine wQ (a:=some ⟨wb,wo,none⟩) (n:=wn) (c:=wc) (j:=k) fQ iJ hkc ?_; exact ⟨_,_,rfl,rfl,rfl⟩));try simp only [Act.put,au]
 refine aj 3 ?_;try simp only [Act.put,au]
 refine ak 4 λK hK=>?_;go_simp;go_at_call 126
 (with_reducible refine (H7.out.2.1).mono ?_)
 intro e w8 hG;obtain ⟨p8,M8,rfl,H8⟩:=H7.out.2.2 e w8 hG;replace H8:=hid H8;clear hG;have Up:=H8.out.1;refine hK.out _ _ ?_ (λhld=>?_)
 .trivial
 clear hK K;try simp only [Act.put,au]
 refine ak 5 λK hK=>?_;go_simp;go_at_call 129
 (with_reducible refine (H8.out.2.1).mono ?_)
 intro e w9 hG;obtain ⟨p9,rfl,H9⟩:=H8.out.2.2 e w9 hG;replace H9:=hid H9;clear hG;have sA:=H9.out.1;refine hK.out _ _ ?_ (λhld=>?_)
 .trivial
 clear hK K;try simp only [Act.put,au]
 refine ak 6 λK hK=>?_;refine gQ (by rfl) H9.out.2.1 (off:=0) (by decide) p9 ⟨_,_,rfl,rfl,rfl⟩ ?_;intro af ag ai;have ce:=hid ag;have eV:=hid (H9.out.2.2 af ai);clear ag ai;refine hK.out _ _ ?_ (λhld=>?_)
 .trivial
 clear hK K;try simp only [Act.put,au]
 refine aC ?_;go_wp2;exact bodyPost_ret (fq rfl _ rfl ce.out) rfl eV.out.2
theorem parted {q p:Pa} (hl:q.length<=p.length) (h:¬ q<+:p):cp q p<q.length/\q.getD (cp q p) 0≠p.getD (cp q p) 0:=by
 refine ⟨zw h,?_⟩;have h2:¬ p<+:q:=λg=>h (by rw [g.eq_of_length (Nat.le_antisymm g.length_le hl)]; exact List.prefix_rfl);obtain ⟨s,a,b,q',p',e1,e2,hab,hc⟩:=nR q p h h2;rw [hc,e1,e2];have hg:∀ (x:UInt8) (r:Pa),(s++x::r).getD s.length 0=x:=λx r=>by simp [List.getD]
 rw [hg,hg];exact hab
structure Ahead (M:Mp) (w w2:World) (b:Nat) (t:T) (pa:aL) (pn pc:Nat):Prop where
 b2:Below w.heap.size w w2
 i2:Inv M w2
 x2:Bx M w2 (w.heap.size+1) #[.pointer none] 46
 c0:w2.cell? ⟨w.heap.size,0,none⟩=some (.pointer (some ⟨b,0,none⟩))
 c1:w2.cell? ⟨b,1,none⟩=some (.slice pa pn pc)
 p:Bs M w2 pa pn pc (bO t)
theorem ahead (M:Mp) (b:Nat) (t:T) (hm:M.at_ b=some t) (w:World) (hi:Inv M w):∃ w2 pa pn pc,w2=(w.alloc (.cells #[.pointer (some ⟨b,0,none⟩)] 46)).alloc (.cells #[.pointer none] 46)/\Ahead M w w2 b t pa pn pc/\w2.heap.size=w.heap.size+2:=by
 obtain ⟨w2,hw2,al,am,hb2,hs2⟩:=kY w (some ⟨b,0,none⟩);have hi2:=hi.below hb2;obtain ⟨pa,pn,pc,c1,hP⟩:=hi2.path hm;exact ⟨w2,pa,pn,pc,hw2,⟨hb2,hi2,⟨am,hi.free (by omega),iB _⟩,aV (j:=0) al rfl,c1,hP⟩,hs2⟩
theorem vY (M:Mp) (b:Nat) (t:T) (hm:M.at_ b=some (t)) (w:World) (hi:Inv M w) (wa:aL) (wn wc:Nat) (way:Pa) (v:aM) (hW:Bs M w wa wn wc way) (hw64:way.length<=64) (hle:(bO (t)).length<=way.length) (h:¬ bO t<+:way) (hn:Nib (bO t)) (hwn:Nib way) (A:T)
  (hcut:∀ wx M',Inv M' wx->M'.at_ b=some t->Calls prog 161 #[.agg #[.pointer (some ⟨b,0,none⟩)],.int .i64 (cp (bO t) way+1:Nat)] wx (cK M' wx A)) :
  Calls prog 86 #[.agg #[.pointer (some ⟨b,0,none⟩)],.slice wa wn wc,.string v] w (cK M w (wrap (way.take (cp (bO t) way)) (two (nb ((bO t).getD (cp (bO t) way) 0)) (nb (way.getD (cp (bO t) way) 0)) A (.leaf (way.drop (cp (bO t) way+1)) v)))):=by
 obtain ⟨w2,pa,pn,pc,hw2,hA,hs2⟩:=ahead M b _ hm w hi;have hpn:=hA.p.1.len;have hwl:way.length=wn:=hW.1.len;have gx:=hA.p.1.1;have hpm:=hA.p.1.2.1;have gA:=hW.1.1;have mu:=hW.1.2.1;unfold maxLen at hpm mu;obtain ⟨hk1,hk2⟩:=parted hle h;have cG:=hid (nL pa wa pn wn pc wc (bO t) way (by omega) (by omega) (by omega) w2 hA.p.1 (qE hi hW.1 (Fr.below M hA.b2)));obtain ⟨R,hR⟩:=aA (wrap (way.take (cp (bO t) way)) (two (nb ((bO t).getD (cp (bO t) way) 0)) (nb (way.getD (cp (bO t) way) 0)) A (.leaf (way.drop (cp (bO t) way+1)) v)))
 rw [hR];have HS:Hid (∀ w3,Below w2.heap.size w2 w3->w3.cell? ⟨w.heap.size,0,none⟩=some (.pointer (some ⟨b,0,none⟩))/\Calls prog 128 #[.agg #[.pointer (some ⟨b,0,none⟩)],.int .i64 (cp (bO t) way:Nat),.slice wa wn wc,.string v] w3 (cK M w3 R)/\
   ∀ e w9,cK M w3 R e w9->∃ p,e = .returned (tv p)/\Rg.Own w9 (w.heap.size+1) #[.pointer none] 46/\∀ af,Rg.Upd w9 (w.heap.size+1) af->cK M w R (.returned (tv p)) af):=hid (λw3 hb3 =>
  ⟨aX hb3 hA.c0,by rw [<-hR]; exact LK M b t hm (cp (bO t) way) A hk1 (by omega) hn w3 (hA.i2.below hb3) hcut wa wn wc way v (hW.fr hi (Fr.below M (bst hA.b2 hb3))) (by omega) hwn (by omega) hk2,
   λe w9 hG=>finish hi (Fr.below M (bst hA.b2 hb3)) (bst hA.b2 hb3) hG (hA.x2.o.below hb3) (iB _) (by omega) hA.x2.n⟩)
 have hlt:decide (((cp (bO t) way:Nat):Int)<(pn:Int))=true:=by simp; omega
 obtain ⟨k,hk⟩:=aA (cp (bO t) way)
 rw [hk] at cG HS hlt;have hlt2:(k:Int)<(pn:Int):=by have:=of_decide_eq_true hlt; exact this
 have hlt3:k<pn:=by omega
 have h0:=hA.c0;have c1:=hA.c1;clear hR hk hA hW hi hm hle h hn hwn hcut hk1 hk2 hpn hwl;subst hw2;go_enter func86,ntmps86;go_wp2_with (refine aB (aZ _ _ _ (w.heap.size+1) (by simp) rfl) ?_)
 refine cG.out.mono ?_;rintro e w3 ⟨rfl,hb3⟩;obtain ⟨d0,HC,HF⟩:=HS.out w3 hb3;replace HC:=hid HC;replace HF:=hid HF;clear hb3 HS cG h0 c1;go_wp2_with (refine aB (aW d0 ⟨_,rfl,rfl⟩) ?_)
 refine HC.out.mono ?_;intro e w9 hG;obtain ⟨p9,rfl,aw,hE⟩:=HF.out e w9 hG;have cc:=hid aw;have HE:=hid hE;clear hG aw hE;go_wp2_with (refine bD cc.out (by decide) p9 rfl _ _ rfl rfl rfl ?_; intro af ag ai; have ce:=hid ag; have dp:=hid ai; clear ag ai)
 exact bodyPost_ret (fq rfl _ rfl ce.out) rfl (HE.out af dp.out)
theorem GV (M:Mp) (b:Nat) (u:aM) (q:Pa) (hm:M.at_ b=some (.leaf q u)) (w:World) (hi:Inv M w) (wa:aL) (wn wc:Nat) (way:Pa) (v:aM) (hW:Bs M w wa wn wc way) (hw64:way.length<=64) (hle:(bO (.leaf q u)).length<=way.length) (h:q=way) :
  Calls prog 86 #[.agg #[.pointer (some ⟨b,0,none⟩)],.slice wa wn wc,.string v] w (cK M w (.leaf q v)):=by
 obtain ⟨w2,pa,pn,pc,hw2,hA,hs2⟩:=ahead M b _ hm w hi;have hpn:=hA.p.1.len;have hwl:way.length=wn:=hW.1.len;have gx:=hA.p.1.1;have hpm:=hA.p.1.2.1;have gA:=hW.1.1;have mu:=hW.1.2.1;unfold maxLen at hpm mu;have cY:q.length=pn:=hpn;subst h;obtain rfl:pn=wn:=by omega
 have cG:=hid (nL pa wa pn pn pc wc q q (by omega) (by omega) (by omega) w2 hA.p.1 (qE hi hW.1 (Fr.below M hA.b2)));rw [xO (List.prefix_rfl),cY] at cG;have HS:Hid (∀ w3,Below w2.heap.size w2 w3->w3.cell? ⟨w.heap.size,0,none⟩=some (.pointer (some ⟨b,0,none⟩))/\Calls prog 83 #[.agg #[.pointer (some ⟨b,0,none⟩)]] w3 (λe w'=>e = .returned (.int .i64 1)/\Below w3.heap.size w3 w')/\
   ∀ w4,Below w3.heap.size w3 w4->Calls prog 87 #[.slice pa pn pc,.string v] w4 (cK M w4 (.leaf q v))/\
   ∀ e w9,cK M w4 (.leaf q v) e w9->∃ p,e = .returned (tv p)/\Rg.Own w9 (w.heap.size+1) #[.pointer none] 46/\∀ af,Rg.Upd w9 (w.heap.size+1) af->cK M w (.leaf q v) (.returned (tv p)) af):=hid (λw3 hb3 =>
  ⟨aX hb3 hA.c0,dL M _ _ w3 (hA.i2.below hb3) (jh (hA.i2.below hb3) hm),λw4 hb4=>⟨mh M _ _ _ _ _ w4 (hA.i2.below (bst hb3 hb4)) (hA.p.fr hA.i2 (Fr.below M (bst hb3 hb4))),
   λe w9 hG=>finish hi (Fr.below M (bst hA.b2 (bst hb3 hb4))) (bst hA.b2 (bst hb3 hb4)) hG (hA.x2.o.below (bst hb3 hb4)) (iB _) (by omega) hA.x2.n⟩⟩)
 have hlt:decide ((pn:Int)<(pn:Int))=false:=by simp
 have h0:=hA.c0;have c1:=hA.c1;clear hA hW hi hm hle hpn cY hwl;subst hw2;go_enter func86,ntmps86;go_wp2_with (refine aB (aZ _ _ _ (w.heap.size+1) (by simp) rfl) ?_)
 refine cG.out.mono ?_;rintro e w3 ⟨rfl,hb3⟩;obtain ⟨d0,HK,H4⟩:=HS.out w3 hb3;replace HK:=hid HK;replace H4:=hid H4;clear hb3 HS cG h0 c1;go_wp2_with (refine aB (aW d0 ⟨_,rfl,rfl⟩) ?_)
 refine HK.out.mono ?_;rintro e w4 ⟨rfl,hb4⟩;obtain ⟨HC,HF⟩:=H4.out w4 hb4;replace HC:=hid HC;replace HF:=hid HF;clear hb4 H4 HK;go_wp2_with fail
 refine HC.out.mono ?_;intro e w9 hG;obtain ⟨p9,rfl,aw,hE⟩:=HF.out e w9 hG;have cc:=hid aw;have HE:=hid hE;clear hG aw hE;go_wp2_with (refine bD cc.out (by decide) p9 rfl _ _ rfl rfl rfl ?_; intro af ag ai; have ce:=hid ag; have dp:=hid ai; clear ag ai)
 exact bodyPost_ret (fq rfl _ rfl ce.out) rfl (HE.out af dp.out)
theorem MW (M:Mp) (b:Nat) (q:Pa) (s:T) (hm:M.at_ b=some (.ext q s)) (w:World) (hi:Inv M w) (wa:aL) (wn wc:Nat) (way:Pa) (v:aM) (hW:Bs M w wa wn wc way) (hw64:way.length<=64) (hle:(bO (.ext q s)).length<=way.length) (h:q<+:way) (hq:q≠[]) (hg:Tr.get s (way.drop q.length)≠none)
  (hS:∀ M' w' p a n c,Inv M' w'->IsT M' p s->Bs M' w' a n c (way.drop q.length)->Calls prog 53 #[.agg #[.pointer p],.slice a n c,.string v] w' (cK M' w' (put s (way.drop q.length) v))) :
  Calls prog 86 #[.agg #[.pointer (some ⟨b,0,none⟩)],.slice wa wn wc,.string v] w (cK M w (.ext q (put s (way.drop q.length) v))):=by
 obtain ⟨w2,pa,pn,pc,hw2,hA,hs2⟩:=ahead M b _ hm w hi;have hpn:=hA.p.1.len;have hwl:way.length=wn:=hW.1.len;have gx:=hA.p.1.1;have hpm:=hA.p.1.2.1;have gA:=hW.1.1;have mu:=hW.1.2.1;unfold maxLen at hpm mu;have cY:q.length=pn:=hpn;have cG:=hid (nL pa wa pn wn pc wc q way (by omega) (by omega) (by omega) w2 hA.p.1 (qE hi hW.1 (Fr.below M hA.b2)));rw [xO h,cY] at cG;have hpw:pn<=wn:=by rw [<-cY,<-hwl]; exact hle
 rw [cY] at hS ⊢;obtain ⟨ka,kn,kc,c3,hK⟩:=hA.i2.kids hm;obtain ⟨kb,ko,p0,rfl,dl,eS,hk0,hT0⟩:=hK.at' 0 (by rw [<-hK.len]; exact Nat.one_pos);have hkn:kn=1:=hK.len.symm;have hkc:=hK.1;have hkm:=hK.2.1;unfold maxLen at hkm;rw [Nat.add_zero] at hk0;have bm:IsT M p0 s:=hT0;have hbl:=hi.lt hm;have jj:=hi.lt_ kb eS
 have HS:Hid (∀ w3,Below w2.heap.size w2 w3->w3.cell? ⟨w.heap.size,0,none⟩=some (.pointer (some ⟨b,0,none⟩))/\Calls prog 83 #[.agg #[.pointer (some ⟨b,0,none⟩)]] w3 (λe w'=>e = .returned (.int .i64 2)/\Below w3.heap.size w3 w')/\
   ∀ w4,Below w3.heap.size w3 w4->(w4.cell? ⟨w.heap.size,0,none⟩=some (.pointer (some ⟨b,0,none⟩))/\w4.cell? ⟨b,3,none⟩=some (.slice (some ⟨kb,ko,none⟩) kn kc)/\w4.cell? ⟨kb,ko,none⟩=some (.pointer p0))/\
   (∀ wx,Below w4.heap.size w4 wx->Calls prog 53 #[.agg #[.pointer p0],.slice (dX wa wc pn) (wn-pn) (wc-pn),.string v] wx (cK M wx (put s (way.drop pn) v)))/\∀ wx,Below w4.heap.size w4 wx->∀ e w5,cK M wx (put s (way.drop pn) v) e w5->∃ p5 M5,e = .returned (tv p5)/\Below w4.heap.size w4 w5/\Calls prog 129 #[.slice pa pn pc,.agg #[.pointer p5]] w5 (cK M5 w5 (.ext q (put s (way.drop pn) v)))/\
    ∀ e w9,cK M5 w5 (.ext q (put s (way.drop pn) v)) e w9->∃ p9,e = .returned (tv p9)/\Below w4.heap.size w4 w9/\Rg.Own w9 (w.heap.size+1) #[.pointer none] 46/\∀ af,Rg.Upd w9 (w.heap.size+1) af->True/\cK M w (.ext q (put s (way.drop pn) v)) (.returned (tv p9)) af):=hid (λw3 hb3 =>
  ⟨aX hb3 hA.c0,dL M _ _ w3 (hA.i2.below hb3) (jh (hA.i2.below hb3) hm),λw4 hb4=>⟨⟨aX hb4 (aX hb3 hA.c0),aX hb4 (aX hb3 c3),aX hb4 (aX hb3 hk0)⟩,λwx hbx=>by
   have hB:=bst hA.b2 (bst (bst hb3 hb4) hbx);refine hS M wx p0 _ _ _ (hi.below hB) bm ?_;have:=(hW.fr hi (Fr.below M hB)).from' pn hpw;exact this,λwx hbx e w5 hG=>by
   have hB:=bst (bst hb3 hb4) hbx;have qS:St M w M wx:=⟨Fr.below M (bst hA.b2 hB),hi.below (bst hA.b2 hB),bst hA.b2 hB,hi⟩
   obtain ⟨p5,M5,rfl,fw,hS5,cN,hb5⟩:=qS.got hG;have u1:=(hA.x2.below hB).got cN hb5;have hwr:wrap q (put s (way.drop pn) v) = .ext q (put s (way.drop pn) v):=if_neg hq;have hbe:=rO M5 pa pn pc q p5 (put s (way.drop pn) v) w5 hS5.i ((hA.p.fr hA.i2 (Fr.below M hB)).fr (hA.i2.below hB) cN) fw;rw [hwr] at hbe;refine ⟨p5,M5,rfl,bst hbx hb5,hbe,λe w9 ud=>?_⟩;obtain ⟨p9,M9,rfl,ue,lE,ui,kf⟩:=hS5.got ud;have oy:=u1.got ui kf;refine ⟨p9,rfl,bst (bst hbx hb5) kf,oy.o,λaf hu=>?_⟩;have cq:=lE.upd hu (by omega) oy.n
   exact ⟨trivial,p9,M9,rfl,ue,cq.f,cq.i,cq.b⟩⟩⟩)
 have hlt:decide ((pn:Int)<(pn:Int))=false:=by simp
 have h0:=hA.c0;have c1:=hA.c1;clear hA hW hi hm hle hpn cY hwl hK hT0 bm c3 hk0 hS;subst hw2;go_enter func86,ntmps86;go_wp2_with (refine aB (aZ _ _ _ (w.heap.size+1) (by simp) rfl) ?_)
 refine cG.out.mono ?_;rintro e w3 ⟨rfl,hb3⟩;obtain ⟨d0',HK,H4⟩:=HS.out w3 hb3;replace HK:=hid HK;replace H4:=hid H4;clear hb3 HS cG h0 c1;go_wp2_with (refine aB (aW d0' ⟨_,rfl,rfl⟩) ?_)
 refine HK.out.mono ?_;rintro e w4 ⟨rfl,hb4⟩;obtain ⟨⟨d0,d3,dk⟩,HC,HF⟩:=H4.out w4 hb4;replace HC:=hid HC;replace HF:=hid HF;clear hb4 H4 HK d0';go_wp2_with fail
 refine aD (S:=λw'=>Bo (w.heap.size+1) w4 w') (Bo.of (below_drewN aI 1)) λhld=>?_;refine aj 0 ?_;try simp only [Act.put,au]
 refine aj 1 ?_;try simp only [Act.put,au]
 refine aF 2 (λwz hSw=>fD hSw (by omega) d0) ?_;try simp only [Act.put,au]
 refine aj 3 ?_;try simp only [Act.put,au]
 refine aj 4 ?_;try simp only [Act.put,au]
 refine aF 5 (λwz hSw=>fD hSw (by omega) d3) ?_;try simp only [Act.put,au]
 refine aj 6 ?_;try simp only [Act.put,au]
 refine aj 7 ?_ (hy:=by intro wz hSw; (refine aW (fD hSw (by omega) dk) ?_; exact ⟨_,rfl,rfl⟩));try simp only [Act.put,au]
 refine aj 8 ?_;try simp only [Act.put,au]
 refine aj 9 ?_;try simp only [Act.put,au]
 refine aj 10 ?_ (hy:=by intro wz hSw; (refine jH (a:=wa) (n:=wn) (c:=wc) (i:=pn) fQ iJ hpw ?_; exact ⟨_,_,rfl,rfl,rfl⟩));try simp only [Act.put,au]
 refine aj 11 ?_;try simp only [Act.put,au]
 refine ak 12 λK hK=>?_;go_simp;go_at_call 53
 (with_reducible refine (HC.out w4.drew (below_drewN aI 1)).mono ?_)
 intro e w5 hG;obtain ⟨p5,M5,rfl,dj,H5⟩:=HF.out w4.drew (below_drewN aI 1) e w5 hG;replace H5:=hid H5;clear hG;refine hK.out _ _ (Bo.of dj) λhld=>?_;clear hK K;try simp only [Act.put,au]
 refine ak 13 λK hK=>?_;go_simp;go_at_call 129
 (with_reducible refine (H5.out.1).mono ?_)
 intro e w9 hG;obtain ⟨p9,rfl,sA,H9⟩:=H5.out.2 e w9 hG;replace H9:=hid H9;clear hG;refine hK.out _ _ (Bo.of sA) λhld=>?_;clear hK K;try simp only [Act.put,au]
 refine ak 14 λK hK=>?_;refine gQ (by rfl) H9.out.1 (off:=0) (by decide) p9 ⟨_,_,rfl,rfl,rfl⟩ ?_;intro af ag ai;have ce:=hid ag;have eV:=hid (H9.out.2 af ai);clear ag;refine hK.out _ _ ((Bo.of sA).upd ai) λhld=>?_;clear hK K;try simp only [Act.put,au]
 refine aC ?_;go_wp2;exact bodyPost_ret (fq rfl _ rfl ce.out) rfl eV.out.2
theorem IQ (M:Mp) (b:Nat) (q:Pa) (s:T) (hm:M.at_ b=some (.ext q s)) (w:World) (hi:Inv M w) (wa:aL) (wn wc:Nat) (way:Pa) (v:aM) (hW:Bs M w wa wn wc way) (hw64:way.length<=64) (hle:(bO (.ext q s)).length<=way.length) (h:q<+:way)
  (hS:∀ M' w' p a n c,Inv M' w'->IsT M' p s->Bs M' w' a n c (way.drop q.length)->Calls prog 53 #[.agg #[.pointer p],.slice a n c,.string v] w' λe w''=>e = .panicked [eP 8]/\Below w'.heap.size w' w'') :
  Calls prog 86 #[.agg #[.pointer (some ⟨b,0,none⟩)],.slice wa wn wc,.string v] w (λe w'=>e = .panicked [eP 8]/\Below w.heap.size w w'):=by
 obtain ⟨w2,pa,pn,pc,hw2,hA,hs2⟩:=ahead M b _ hm w hi;have hpn:=hA.p.1.len;have hwl:way.length=wn:=hW.1.len;have gx:=hA.p.1.1;have hpm:=hA.p.1.2.1;have gA:=hW.1.1;have mu:=hW.1.2.1;unfold maxLen at hpm mu;have cY:q.length=pn:=hpn;have cG:=hid (nL pa wa pn wn pc wc q way (by omega) (by omega) (by omega) w2 hA.p.1 (qE hi hW.1 (Fr.below M hA.b2)));rw [xO h,cY] at cG;have hpw:pn<=wn:=by rw [<-cY,<-hwl]; exact hle
 rw [cY] at hS ;obtain ⟨ka,kn,kc,c3,hK⟩:=hA.i2.kids hm;obtain ⟨kb,ko,p0,rfl,dl,eS,hk0,hT0⟩:=hK.at' 0 (by rw [<-hK.len]; exact Nat.one_pos);have hkn:kn=1:=hK.len.symm;have hkc:=hK.1;have hkm:=hK.2.1;unfold maxLen at hkm;rw [Nat.add_zero] at hk0;have bm:IsT M p0 s:=hT0;have hbl:=hi.lt hm;have jj:=hi.lt_ kb eS
 have HS:Hid (∀ w3,Below w2.heap.size w2 w3->w3.cell? ⟨w.heap.size,0,none⟩=some (.pointer (some ⟨b,0,none⟩))/\Calls prog 83 #[.agg #[.pointer (some ⟨b,0,none⟩)]] w3 (λe w'=>e = .returned (.int .i64 2)/\Below w3.heap.size w3 w')/\
   ∀ w4,Below w3.heap.size w3 w4->(w4.cell? ⟨w.heap.size,0,none⟩=some (.pointer (some ⟨b,0,none⟩))/\w4.cell? ⟨b,3,none⟩=some (.slice (some ⟨kb,ko,none⟩) kn kc)/\w4.cell? ⟨kb,ko,none⟩=some (.pointer p0))/\
   (∀ wx,Below w4.heap.size w4 wx->Calls prog 53 #[.agg #[.pointer p0],.slice (dX wa wc pn) (wn-pn) (wc-pn),.string v] wx (λe w''=>e = .panicked [eP 8]/\Below wx.heap.size wx w''))/\∀ wx,Below w4.heap.size w4 wx->Below w.heap.size w wx):=hid (λw3 hb3 =>
  ⟨aX hb3 hA.c0,dL M _ _ w3 (hA.i2.below hb3) (jh (hA.i2.below hb3) hm),λw4 hb4=>⟨⟨aX hb4 (aX hb3 hA.c0),aX hb4 (aX hb3 c3),aX hb4 (aX hb3 hk0)⟩,λwx hbx=>by
   have hB:=bst hA.b2 (bst (bst hb3 hb4) hbx);refine hS M wx p0 _ _ _ (hi.below hB) bm ?_;have:=(hW.fr hi (Fr.below M hB)).from' pn hpw;exact this,λwx hbx=>bst hA.b2 (bst (bst hb3 hb4) hbx)⟩⟩)
 have hlt:decide ((pn:Int)<(pn:Int))=false:=by simp
 have h0:=hA.c0;have c1:=hA.c1;clear hA hW hi hm hle hpn cY hwl hK hT0 bm c3 hk0 hS;subst hw2;go_enter func86,ntmps86;go_wp2_with (refine aB (aZ _ _ _ (w.heap.size+1) (by simp) rfl) ?_)
 refine cG.out.mono ?_;rintro e w3 ⟨rfl,hb3⟩;obtain ⟨d0',HK,H4⟩:=HS.out w3 hb3;replace HK:=hid HK;replace H4:=hid H4;clear hb3 HS cG h0 c1;go_wp2_with (refine aB (aW d0' ⟨_,rfl,rfl⟩) ?_)
 refine HK.out.mono ?_;rintro e w4 ⟨rfl,hb4⟩;obtain ⟨⟨d0,d3,dk⟩,HC,HF⟩:=H4.out w4 hb4;replace HC:=hid HC;replace HF:=hid HF;clear hb4 H4 HK d0';go_wp2_with fail
 refine wp_region_held_drew (S:=λw'=>Bo (w.heap.size+1) w4 w') (by kernel_rfl) (Bo.of (below_drewN aI 1)) (λhld=>?_);refine aj 0 ?_;try simp only [Act.put,au]
 refine aj 1 ?_;try simp only [Act.put,au]
 refine aF 2 (λwz hSw=>fD hSw (by omega) d0) ?_;try simp only [Act.put,au]
 refine aj 3 ?_;try simp only [Act.put,au]
 refine aj 4 ?_;try simp only [Act.put,au]
 refine aF 5 (λwz hSw=>fD hSw (by omega) d3) ?_;try simp only [Act.put,au]
 refine aj 6 ?_;try simp only [Act.put,au]
 refine aj 7 ?_ (hy:=by intro wz hSw; (refine aW (fD hSw (by omega) dk) ?_; exact ⟨_,rfl,rfl⟩));try simp only [Act.put,au]
 refine aj 8 ?_;try simp only [Act.put,au]
 refine aj 9 ?_;try simp only [Act.put,au]
 refine aj 10 ?_ (hy:=by intro wz hSw; (refine jH (a:=wa) (n:=wn) (c:=wc) (i:=pn) fQ iJ hpw ?_; exact ⟨_,_,rfl,rfl,rfl⟩));try simp only [Act.put,au]
 refine aj 11 ?_;try simp only [Act.put,au]
 refine ak 12 λK hK=>?_;go_simp;go_at_call 53
 (with_reducible refine (HC.out w4.drew (below_drewN aI 1)).mono ?_)
 rintro e w5 ⟨rfl,hb5⟩;simp +zetaDelta [bodyPost,Exit.then];exact bst (HF.out w4.drew (below_drewN aI 1)) hb5
end Tm
end
end Go.Proofs.YtokaiemgjngcoaaGreatDoor
