/-
 Contracts of node.Put and of the plain answer's Put.
-/
import Derived.Test.YtokaiemgjngcoaaGreatDoorVr13
import Derived.Test.YtokaiemgjngcoaaGreatDoorVr11
open Go.Lib (hid)
open Go.Proofs.Tryz
set_option linter.unusedSimpArgs false
set_option linter.unusedVariables false
set_option maxHeartbeats 40000000
set_option maxRecDepth 100000
namespace Go.Proofs.YtokaiemgjngcoaaGreatDoor
variable {k:aN} {L c j kn n:Nat} {a pa:aL} {w w':World} {r:aM} {o:Oper} {K:Act->World->Prop} {Q:Exit->Act->World->Prop} {ops:Array Oper} {t:TypeId} {act:Act} {ev:Operand->Value}
section
open Go.RowKit
namespace No
open Rl Ni
theorem Pd (N:Nd) (a:aL) (n c:Nat) (hl:N.ks.length=16) (w:World) (hB:bf w a n c N.p) (hm:fB bU N=true) (hks:∀ k∈N.ks,k.size<=100):Calls prog 61 #[.agg (ndC N a n c)] w (yJ w (gD N)):=by
 rcases jV hl hm with ⟨k1,_⟩ | ⟨k1,_⟩ | ⟨k1,_⟩
 .exact KA N a n c hl w hB hm k1
 .exact Qy N a n c hl w hB hm k1 (hks _ (by rw [List.getD_eq_getElem?_getD,List.getElem?_eq_getElem (by omega)]; exact List.getElem_mem _))
 .exact Fe N a n c hl w k1 hks
def Ro (N:Nd):Value:=.tuple #[.string (if fB bU N then ⟨(kX N).toArray⟩ else eB),.int .i64 (if fB bU N then 0 else 2)]
theorem FT (N:Nd) (a:aL) (n c:Nat) (hl:N.ks.length=16) (w:World) (hB:bf w a n c N.p) (hv:N.v.size<=maxLen) (hks:∀ k∈N.ks,k.size<=100) :
  Calls prog 32 #[.agg (ndC N a n c)] w λe w'=>e = .returned (Ro N)/\Below w.heap.size w w':=by
 obtain ⟨w2,hw2⟩:=ay (w.alloc (.cells (ndC N a n c) 67))
 have hO:fE w2 w.heap.size N a n c:=by rw [hw2]; exact Rg.Own.new _ _ _
 have gr:Below w.heap.size w w2:=by rw [hw2]; exact al1 _ _
 have HC:=hid (qK N a n c hl w2 (hB.below gr) hv (λk hk=>mZ k (by have:=hks k hk; omega)));have yW:Hid (fB bU N=true->∀ w',Below w.heap.size w w'->Calls prog 61 #[.agg (ndC N a n c)] w' (yJ w' (gD N))):=hid (λhm w' hb=>Pd N a n c hl w' (hB.below hb) hm hks);have HF:Hid (fB bU N=true->Fits 0 (gD N)/\(gD N).size<=4096/\(gD N).bytes.length<=1099511627776):=hid (λhm=>by
  obtain ⟨f1,f2,f3,_⟩:=BS hl hm;exact ⟨f1,f3,by omega⟩)
 have HO:=hid hO;have j1:=hid gr;have HL:=hid hl;unfold Ro;obtain ⟨M,hM⟩:=aA (fB bU N)
 rw [hM] at HC yW HF ⊢;clear hO gr hB hks hv hl hM;unfold kX;obtain ⟨X,hX⟩:=aA (gD N)
 rw [hX] at yW HF ⊢;clear hX;subst hw2;cases M with
 | false =>
  go_enter func32,ntmps32;go_wp2_with (refine aB (bV HO.out HL.out ?_) ?_; · exact ⟨_,rfl,rfl⟩)
  refine HC.out.mono ?_;rintro e w3 ⟨rfl,hb3⟩;have HB3:=hid (bst j1.out hb3);clear hb3;go_wp2;go_ret2
  exact ⟨rfl,HB3.out⟩
 | true =>
  go_enter func32,ntmps32;go_wp2_with (refine aB (bV HO.out HL.out ?_) ?_; · exact ⟨_,rfl,rfl⟩)
  refine HC.out.mono ?_;rintro e w3 ⟨rfl,hb3⟩;have bc:=hid (HO.out.below hb3);have HB3:=hid (bst j1.out hb3);have HI3:=hid (yW.out (by first | rfl | trivial) w3 HB3.out);clear hb3 HC yW;go_wp2_with (refine aB (bV bc.out HL.out ?_) ?_; · exact ⟨_,rfl,rfl⟩)
  refine HI3.out.mono ?_;rintro e w4 ⟨la,ln,lc,rfl,hI,hb4⟩;have bd:=hid (bst HB3.out hb4);have z7:=hid (wI X w4 (itV X la ln lc) ⟨la,ln,lc,rfl,bI.weak hI (Nat.zero_le _)⟩ (HF.out (by first | rfl | trivial)).1 (HF.out (by first | rfl | trivial)).2.1 (HF.out (by first | rfl | trivial)).2.2);clear hI hb4 HI3;go_wp2_with fail
  refine z7.out.mono ?_;rintro e w5 ⟨rfl,hb5⟩;have aa:=hid (bst bd.out hb5);clear hb5;go_wp2;go_ret2
  exact ⟨rfl,aa.out⟩
end No
end
section
open Go.RowKit
namespace Tm
open Tr Rf Rl Ni No Pk Sm
theorem Sn {N:Nd} (hl:N.ks.length=16) (h:fB bU N=true):(kX N).length<=900000:=by
 have key:∀ m,(∀ y∈cO N,y.bytes.length<=m)->(cO N).length*m<=200000->(kX N).length<=900000:=by
  intro m h1 h2;have h3:=JJ (cO N) m h1;unfold kX gD;rw [jZ _ (by omega),List.length_append];have:=yA ((cO N).map It.bytes).flatten.length true (by omega);omega
 have hg:=xM hl h;rcases jV hl h with ⟨k1,_⟩ | ⟨k1,_⟩ | ⟨k1,_,_,_,hr⟩
 .exact key 65561 (λy hy=>(hg y hy).2) (by unfold cO; rw [if_neg (by omega),if_pos k1]; simp)
 .exact key 65561 (λy hy=>(hg y hy).2) (by unfold cO; rw [if_neg (by omega),if_neg (by omega)]; simp)
 .refine key 41 (λy hy=>?_) (by have:=BA hl; omega);unfold cO at hy;rw [if_pos k1] at hy;rcases List.mem_append.1 hy with hy | hy
  .obtain ⟨k,hk,rfl⟩:=List.mem_map.1 hy;exact (lW (hr k hk)).2
  .obtain rfl:=List.mem_singleton.1 hy;have h:=(lW (k:=eB) (by unfold bU; rw [tY]; rfl)).2;rw [oK tY] at h;exact h
theorem Je {k:aM} (h:bU k=true):k.size<=32:=by
 unfold bU at h;rw [Bool.or_eq_true,Bool.and_eq_true] at h;rcases h with h | h
 .have:k.size=0\/k.size=32:=of_decide_eq_true h;omega
 .have:=of_decide_eq_true h.1;omega
theorem RS:fB bU nd0=false:=by
 unfold fB jK;rfl
theorem Ef (p:aL) (N:Nd) (hl:N.ks.length=16) (hv:N.v.size<=maxLen) (hks:∀ k∈N.ks,k.size<=100) (w:World) (Q:World->Prop)
  (htop:∀ wx,Below w.heap.size w wx->Calls prog 63 #[.agg #[.pointer p]] wx λe w'=>∃ a n c,e = .returned (.agg (ndC N a n c))/\bf w' a n c N.p/\Q w') :
  Calls prog 34 #[.agg #[.pointer p]] w λe w'=>e = .returned (.string (if fB bU N then ⟨(kX N).toArray⟩ else eB))/\∃ w1,Q w1/\Below w1.heap.size w1 w':=by
 have h0:=eG w p;have HT:=hid (htop _ (al1 w (.cells #[.pointer p] 46)));have HL:=hid hl;have HV:=hid hv;have HK:=hid hks;obtain ⟨s,hs⟩:=aA (if fB bU N then (⟨(kX N).toArray⟩:aM) else eB)
 obtain ⟨x,hx⟩:∃ x:Int,(if fB bU N then (0:Int) else 2)=x:=⟨_,rfl⟩
 rw [hs];have HS:=hid hs;have HX:=hid hx;clear htop hl hv hks hs hx;go_enter func34,ntmps34;go_wp2_with (refine aB (aW h0 ⟨_,rfl,rfl⟩) ?_)
 refine HT.out.mono ?_;rintro e w1 ⟨a,n,c,rfl,hB,hQ⟩;have HP:=hid (FT N a n c HL.out w1 hB HV.out HK.out);have HQ:=hid hQ;unfold Ro at HP;rw [HS.out,HX.out] at HP;clear hB hQ HT h0;go_wp2_with fail
 refine HP.out.mono ?_;rintro e w2 ⟨rfl,hb2⟩;have HB:=hid hb2;clear hb2 HP;go_wp2;go_ret;exact ⟨rfl,w1,HQ.out,HB.out⟩
theorem OZ (p:aL) (k:Int) (h1:k≠1) (h2:k≠2) (h3:k≠3) (w:World)
  (hK:∀ wx,Below w.heap.size w wx->Calls prog 83 #[.agg #[.pointer p]] wx λe w'=>e = .returned (.int .i64 k)/\Below wx.heap.size wx w') :
  Calls prog 34 #[.agg #[.pointer p]] w λe w'=>e = .returned (.string eB)/\Below w.heap.size w w':=by
 refine (Ef p nd0 bP (by show (0:Nat)<=_; omega) (λk hk=>by
  have:k=eB:=List.eq_of_mem_replicate (show k∈List.replicate 16 eB from hk);rw [this]; show (0:Nat)<=100; omega) w (λw'=>Below w.heap.size w w') (λwx hbx=>?_)).mono ?_
 .refine (DY p k h1 h2 h3 wx (λwy hby=>hK wy (bst hbx hby))).mono ?_;rintro e w' ⟨rfl,hb⟩;exact ⟨none,0,0,rfl,bf.nil _,bst hbx hb⟩
 .rintro e w' ⟨rfl,w1,hQ,hb⟩;exact ⟨by rw [RS]; rfl,bst hQ hb⟩
theorem nU {t:T} {L:Nat} (g:Tr.Good t L) (hL:L<=64) (f:Fine t) (hn:t ≠ .nil) (hs:¬ eX t):fB bU (bF t)=true/\bX t=⟨(kX (bF t)).toArray⟩/\(bX t).size<=900000/\(bF t).v.size<=maxLen/\(bF t).p.length<=64/\∀ k∈(bF t).ks,k.size<=100:=by
 have hm:=(gy t L g hL f hn).1 hs;have he:bX t=⟨(kX (bF t)).toArray⟩:=by
  cases t with
  | nil=>exact absurd rfl hn
  | stub r=>exact absurd trivial hs
  | leaf p v=>rfl
  | ext q s=>rfl
  | br ks=>rfl
 refine ⟨hm,he,?_,?_,?_,?_⟩
 .rw [he];have:=Sn (fH t) hm;show (kX (bF t)).toArray.size<=_;simpa using this
 .cases t with
  | leaf p v=>exact Nat.le_trans f.2 (by unfold maxLen; omega)
  | _=>exact Nat.zero_le _
 .unfold fB at hm;rw [Bool.and_eq_true,Bool.and_eq_true] at hm;exact of_decide_eq_true hm.1.1
 .intro k hk;have hz:∀ x,x=eB->x.size<=100:=λx e=>by rw [e]; exact Nat.zero_le _
  cases t with
  | nil=>exact hz k (List.eq_of_mem_replicate (show k∈List.replicate 16 eB from hk))
  | stub r=>exact absurd trivial hs
  | leaf p v=>exact hz k (List.eq_of_mem_replicate (show k∈List.replicate 16 eB from hk))
  | ext q s =>
   rcases List.mem_cons.1 (show k∈ref s::List.replicate 15 eB from hk) with rfl | h
   .obtain ⟨_,_,g3,g4,g5⟩:=g;have:=Je (gy s _ g5 (by omega) f (mX g4)).2.1;omega
   .exact hz k (List.eq_of_mem_replicate h)
  | br ks =>
   obtain ⟨i,_,rfl⟩:=List.mem_map.1 (show k∈(List.finRange 16).map λi=>ref (ks i) from hk);by_cases e:ks i = .nil
   .rw [e]; exact Nat.zero_le _
   .have:=Je (gy (ks i) _ (g.2.2 i) (by omega) (f i) e).2.1;show (ref (ks i)).size<=100;omega
theorem NS {t:T} {L:Nat} (g:Tr.Good t L):(bO t).length<=L:=by
 cases t with
 | leaf p v=>exact Nat.le_of_eq g.1
 | ext q s=>exact g.2.2.1
 | nil=>exact Nat.zero_le _
 | br ks=>exact Nat.zero_le _
 | stub r=>exact Nat.zero_le _
theorem Jg (M:Mp) (b:Nat) (t:T) (hm:M.at_ b=some t) (hs:¬ eX t) (hn:t ≠ .nil) {L:Nat} (g:Tr.Good t L) (hL:L<=64) (w:World) (hi:dB M (sz t) w) {pa:aL} {pn pc:Nat} {ka:aL} {kn kc:Nat} (hB:Body M w b t pa pn pc ka kn kc) (hT:Tab w)
  (gt:∀ q s,t = .ext q s->lu s) (hR2:∀ ks,t = .br ks->∀ i,lu (ks i)) :
  Calls prog 63 #[.agg #[.pointer (some ⟨b,0,none⟩)]] w (lF M t w):=by
 have hp:=NS g;cases t with
 | nil=>exact absurd rfl hn
 | stub r=>exact absurd trivial hs
 | leaf q v=>exact PW M b q v hm w hi pa pn pc ka kn kc hB (by have:q.length<=L:=hp; omega)
 | ext q s=>exact Ra M b q s hm w hi pa pn pc ka kn kc hB (by have:q.length<=L:=hp; omega) hT (gt q s rfl)
 | br ks=>exact Ul M b ks hm w hi pa pn pc ka kn kc hB hT (hR2 ks rfl)
theorem JM (M:Mp) (b:Nat) (t:T) (hm:M.at_ b=some t) (hs:¬ eX t) (hn:t ≠ .nil) (g:Tr.Good t L) (hL:L<=64) (f:Fine t) (w:World) (hi:dB M (sz t) w) {pn pc:Nat} {ka:aL} {kc:Nat} (hB:Body M w b t pa pn pc ka kn kc) (hT:Tab w)
  (gt:∀ q s,t = .ext q s->lu s) (hR2:∀ ks,t = .br ks->∀ i,lu (ks i)) :
  Calls prog 34 #[.agg #[.pointer (some ⟨b,0,none⟩)]] w λe w'=>e = .returned (.string (bX t))/\FrN M (sz t) w w'/\dB M (sz t) w':=by
 obtain ⟨h1,h2,h3,h4,h5,h6⟩:=nU g hL f hn hs;refine (Ef (some ⟨b,0,none⟩) (bF t) (fH t) h4 h6 w (λw'=>FrN M (sz t) w w'/\dB M (sz t) w') (λwx hbx=>?_)).mono ?_
 .refine (Jg M b t hm hs hn g hL wx (hi.below hbx) (hB.below hbx) (hT.below hbx hT.pos) gt hR2).mono ?_;rintro e w' ⟨a,n,c,rfl,hx,hf,hi'⟩;exact ⟨a,n,c,rfl,hx.1,(FrN.below M _ hbx).trans hf,hi'⟩
 .rintro e w' ⟨rfl,w1,⟨hf,hi1⟩,hb⟩;exact ⟨by rw [if_pos h1,h2],hf.trans (FrN.below M _ hb),hi1.below hb⟩
def oL (t:T) (a:aL) (n c:Nat) (ka:aL) (kn kc:Nat) (r:aM):aO :=
 #[.int .i64 (dW t),.slice a n c,.string (PL t),.slice ka kn kc,.int .u32 0,.int .i32 1,.int .u32 0,.string r]
theorem SE {t:T} {a:aL} {n c:Nat} {ka:aL} {kn kc:Nat} {r:aM} {j:Nat} {v:Value} (h:(oL t a n c ka kn kc r)[j]? = some v):(∀ x,v ≠ .int .u8 x)/\∀ p,v ≠ .pointer p:=by
 unfold oL at h
 match j,h with
 | 0,h | 1,h | 2,h | 3,h | 4,h | 5,h | 6,h | 7,h =>
  simp at h;subst h;exact ⟨λx e=>(by cases e),λp e=>(by cases e)⟩
 | j+8,h=>simp at h
theorem La {b:Nat} {t:T} {ka:aL} {kc:Nat} (h:Rg.Own w b (oL t a n c ka kn kc r) 150):Cz w b:=by
 refine ⟨λj v hc=>SE (nQ h.2 hc),?_⟩;rw [World.cell?,h.2];rfl
theorem Ak {a:Act} (hw:Region.wanted o (yielded ops a.tmps)=true) {b off:Nat} {cs:aO} (hg:Rg.Own w b cs t) (hof:off<cs.size) (s:aM)
  (ho:∃ x y,o.op = .store 9 x y/\a.eval x = .pointer (some ⟨b,off,none⟩)/\a.eval y = .string s)
  (h:∀ w',Rg.Own w' b (cs.setIfInBounds off (.string s)) t->Rg.Upd w b w'->K (a.put o.dst undef) w'):if Region.wanted o (yielded ops a.tmps)=true then Oper.wp prog o a w K Q else K (a.put o.dst undef) w:=by
 obtain ⟨x,y,ho,hx,hy⟩:=ho;refine Rg.want hw ?_;unfold Oper.wp execOp;simp only [ho,hx,hy,Sem.run_bind,Sem.run_pure,Result.andThen_ok,tK hg hof s];exact h _ (bR hg _) (bG _ _ _ _)
theorem dB.lock {M:Mp} {b:Nat} {t:T} (h:dB M n w) (hu:Rg.Upd w b w') (hm:M.at_ b=some t) (hnt:n<=sz t) (hN:Cz w' b):dB M n w':=by
 refine ⟨λk hk=>by rw [hu.size]; exact h.lt_ k hk,λb' t' hm'=>?_⟩;obtain ⟨h1,h2,h3,h4⟩:=h.part_ b' t' hm';have hNb:=(h.part_ b t hm).2.2.1;by_cases e:b'=b
 .subst e;obtain rfl:t=t':=by rw [hm] at hm'; exact Option.some.inj hm'
  exact ⟨h1,h2,hN,λhl=>absurd hl (by omega)⟩
 .refine ⟨h1,h2,h3.keep (hu.block b' e),λhl=>(h4 hl).keep (by rw [hu.size]; exact aH) (hu.block b' e) (λk j v hk hc hv=>hu.block k (λek=>?_))⟩;subst ek;rcases hv with ⟨x,rfl⟩ | ⟨p,rfl⟩
  .exact (hNb.1 _ _ hc).1 x rfl
  .exact (hNb.1 _ _ hc).2 p rfl
theorem Body.upd {M:Mp} {b:Nat} {t:T} {ka:aL} {kc:Nat} (h:Body M w b t a n c ka kn kc) (hN:Cz w b) (hu:Rg.Upd w b w') (hc:∀ j,j<4->w'.cell? ⟨b,j,none⟩=w.cell? ⟨b,j,none⟩):Body M w' b t a n c ka kn kc:=by
 refine ⟨(hc 0 (by omega)).trans h.c0,(hc 1 (by omega)).trans h.c1,(hc 2 (by omega)).trans h.c2,(hc 3 (by omega)).trans h.c3,⟨h.hb.1,h.hb.2.1,h.hb.2.2.1,h.hb.2.2.2.1,λj hj=>?_⟩,h.hk.1,h.hk.2.1,h.hk.2.2.1,h.hk.2.2.2.1,λj hj=>?_⟩
 .obtain ⟨b',off,e,hlt,hcb⟩:=h.hb.2.2.2.2 j hj;refine ⟨b',off,e,by rw [hu.size]; exact hlt,?_⟩;rw [World.cell?_of_block (hu.block b' (λek=>by subst ek; exact (hN.1 _ _ hcb).1 _ rfl))];exact hcb
 .obtain ⟨b',off,p,e,hlt,hf,hcb,ht⟩:=h.hk.at' j hj;refine ⟨b',off,p,e,by rw [hu.size]; exact hlt,hf,?_,ht⟩;rw [World.cell?_of_block (hu.block b' (λek=>by subst ek; exact (hN.1 _ _ hcb).2 _ rfl))];exact hcb
theorem TP (M:Mp) (b:Nat) (t:T) (hm:M.at_ b=some t) (hsz:(bX t).size<=900000) (bx:Nat) (w:World) (hbx:w.cell? ⟨bx,0,none⟩=some (.pointer (some ⟨b,0,none⟩))) (hne:bx≠b) (hi:dB M (sz t) w) (hT:Tab w)
 {ka:aL} {kc:Nat} (hO:Rg.Own w b (oL t a n c ka kn kc eB) 150)
  (hE:Calls prog 34 #[.agg #[.pointer (some ⟨b,0,none⟩)]] w.drew λe w'=>e = .returned (.string (bX t))/\FrN M (sz t) w.drew w'/\dB M (sz t) w') :
  Calls prog 152 #[.pointer (some ⟨bx,0,none⟩)] w λe w'=>e = .returned (.tuple #[])/\∃ w1,FrN M (sz t) w w1/\dB M (sz t) w1/\Rg.Upd w1 b w'/\Rg.Own w' b (oL t a n c ka kn kc (ofP (bX t))) 150:=by
 have BY:=hid hE;have mm:=hid hsz;have hnb:M.at_ b=none\/∃ t',M.at_ b=some t'/\sz t<=sz t':=Or.inr ⟨t,hm,aH⟩;have HF:Hid (∀ w5,FrN M (sz t) w.drew w5->dB M (sz t) w5->w5.cell? ⟨bx,0,none⟩=some (.pointer (some ⟨b,0,none⟩))/\Tab w5/\Rg.Own w5 b (oL t a n c ka kn kc eB) 150/\
   ∀ w6,Below w5.heap.size w5 w6->w6.cell? ⟨bx,0,none⟩=some (.pointer (some ⟨b,0,none⟩))/\Rg.Own w6 b (oL t a n c ka kn kc eB) 150/\
   ∀ af,Rg.Own af b ((oL t a n c ka kn kc eB).setIfInBounds 7 (.string (ofP (bX t)))) 150->Rg.Upd w6 b af->af.cell? ⟨bx,0,none⟩=some (.pointer (some ⟨b,0,none⟩))/\∃ w1,FrN M (sz t) w w1/\dB M (sz t) w1/\Rg.Upd w1 b af/\Rg.Own af b (oL t a n c ka kn kc (ofP (bX t))) 150):=hid (λw5 cN hi5=>by
  have Hn:dB M (sz t) w.drew:=hi.below (below_drewN aI 1);have P2:Tab w.drew:=hT;have h5:=cN.cell (b:=bx) (o:=0) hbx (Or.inl (Hn.oC (j:=0) hbx));have bh:Rg.Own w5 b (oL t a n c ka kn kc eB) 150:=⟨aJ hO.1 cN.size,(cN.block b hO.1 hnb).trans hO.2⟩
  refine ⟨h5,wS Hn cN P2,bh,λw6 hb6=>⟨aX hb6 h5,bh.below hb6,λaf ag hu=>⟨?_,w6,(((FrN.below M _ (below_drewN aI 1)).trans cN).trans (FrN.below M _ hb6)),hi5.below hb6,hu,ag⟩⟩⟩;rw [<-aX hb6 h5];exact World.cell?_of_block (w:=w6) (hu.block bx hne))
 clear hE hsz hi hT hO hm hnb hne;go_enter func152,ntmps152;go_wp2_with fail
 refine aD (S:=λw'=>w'.cell? ⟨bx,0,none⟩=some (.pointer (some ⟨b,0,none⟩))) (hbx) λhld=>?_;refine aj 0 ?_;try simp only [Act.put,au]
 refine aF 1 (λwz hSw=>hSw) ?_;try simp only [Act.put,au]
 refine aj 2 ?_ (hy:=by intro wz hSw; (refine aW hSw ?_; exact ⟨_,rfl,rfl⟩));try simp only [Act.put,au]
 refine ak 3 λK hK=>?_;go_simp;go_at_call 34
 (with_reducible refine BY.out.mono ?_)
 rintro e w5 ⟨rfl,cN,hi5⟩;obtain ⟨hS5,fw,bh,Hp⟩:=HF.out w5 cN hi5;have H5:=hid Hp;have bi:=hid bh;have tx:=hid fw;clear cN hi5 Hp bh fw;refine hK.out _ _ (hS5) λhld=>?_;clear hK K;try simp only [Act.put,au]
 refine ak 4 λK hK=>?_;go_simp;go_at_call 153
 (with_reducible refine (Ka _ mm.out w5 tx.out).mono ?_)
 rintro e w6 ⟨rfl,hb6⟩;obtain ⟨fX,b8,tk⟩:=H5.out w6 hb6;have H6:=hid tk;have cl:=hid b8;clear hb6 tk b8;refine hK.out _ _ (fX) λhld=>?_;clear hK K;try simp only [Act.put,au]
 refine aj 5 ?_;try simp only [Act.put,au]
 refine aj 6 ?_;try simp only [Act.put,au]
 refine ak 7 λK hK=>?_;refine Ak (by rfl) cl.out (off:=7) (show 7<8 by omega) (ofP (bX t)) ⟨_,_,rfl,rfl,rfl⟩ ?_;intro af ag ai;obtain ⟨cq,jn⟩:=H6.out af ag ai;have eV:=hid jn;clear ag jn;refine hK.out _ _ (cq) λhld=>?_;clear hK K;try simp only [Act.put,au]
 refine aC ?_;go_wp2;go_end0;exact ⟨rfl,eV.out⟩
end Tm
end
section
open Go.RowKit
namespace Rf
open Rl Ni No Sh Sm
end Rf
end
section
open Go.RowKit
namespace No
open Rl Ni
end No
end
section
open Go.RowKit
namespace Tm
open Tr Ni Pk Ky No Rf Rl
theorem Tj {l:aN} (h:bf w a n c l) (j:Nat) (hj:j<=n):bf w a j c (l.take j):=by
 have h1:=h.1;refine ⟨by omega,h.2.1,by rw [List.length_take,h.len]; omega,h.2.2.2.1,λi hi=>?_⟩;obtain ⟨b,off,e,hlt,hc⟩:=h.at' i (by omega);refine ⟨b,off,e,hlt,?_⟩;rw [hc];simp [List.getD,hi]
def Qd (l:List Tr.In):Prop:=∀ x∈l,x.2.size≠0/\x.2.size<=65552
theorem Qd.rest {l:List Tr.In} (h:Qd l) (n:Nat):Qd (fO l n):=λx hx=>by
 obtain ⟨y,hy,rfl⟩:=List.mem_map.1 hx;exact h y hy
theorem bW {rest:List Oper} {b:Nat} {N:Nd} (h:fE w b N a n c) (hl:N.ks.length=16) (M:Nd) (a':aL) (n' c':Nat) (hm:M.ks.length=16)
  (hgd:o.guard=none) (x y:Operand) (ho:o.op = .store 67 x y) (hx:act.eval x = .pointer (some ⟨b,0,none⟩)) (hy:act.eval y = .agg (ndC M a' n' c')) (hd:o.dst=none)
  (hQ:∀ w',fE w' b M a' n' c'->Rg.Upd w b w'->wpList prog ops Q rest act w'):wpList prog ops Q (o::rest) act w :=
 bH h hl M a' n' c' hm hgd x y ho hx hy hd (hQ _ (dK h) (Rg.Upd.set _ _ _))
end Tm
end
section
open Go.RowKit
namespace Tm
open Tr Ni Pk Ky No
theorem Qb:(prog.info? 67).map (λi=>(i.size,i.bytes))=some (19,304):=by kernel_rfl
theorem CU:((prog.info? 67).bind (·.zero)).isSome=true:=by kernel_rfl
theorem Af:((prog.info? 67).bind (·.zero)).map (·.cells.size)=some 19:=by kernel_rfl
theorem Ai:∃ i z,prog.info? 67=some i/\i.zero=some z/\i.size=19/\i.bytes=304/\z.cells.size=19:=by
 have h1:=Qb;have h2:=CU;have h3:=Af;cases hi:prog.info? 67 with
 | none=>rw [hi] at h1; simp at h1
 | some i =>
  rw [hi] at h1 h2 h3;simp at h1 h2 h3;cases hz:i.zero with
  | none=>rw [hz] at h2; simp at h2
  | some z =>
   rw [hz] at h3;simp at h3;exact ⟨i,z,rfl,hz,h1.1,h1.2,h3⟩
def ndL (N:Nd) (h:Hdl):List Value:=.int .i64 N.kd :: .slice h.1 h.2.1 h.2.2 :: .string N.v::N.ks.map Value.string
theorem ug {N:Nd} {h:Hdl} (hl:N.ks.length=16):(ndL N h).length=19:=by simp [ndL,hl]
theorem Rs (N:Nd) (h:Hdl):∀ u∈ndL N h,u.oneCell'=true:=λu hu=>by
 unfold ndL at hu;simp only [List.mem_cons,List.mem_map] at hu;rcases hu with rfl | rfl | rfl | ⟨_,_,rfl⟩ <;> rfl
abbrev Nz:Type:=Nd × Hdl
def nz0:Nz:=(nd0,(none,0,0))
def GX (z:List Nz):List Value:=z.flatMap λp=>ndL p.1 p.2
theorem JE:∀ (z:List Nz),(∀ p∈z,p.1.ks.length=16)->∀ j i,j<z.length->i<19->(GX z)[j*19+i]? = (ndL (z.getD j nz0).1 (z.getD j nz0).2)[i]?
 | [],_,_,_,h,_=>absurd h (Nat.not_lt_zero _)
 | x::z,h,0,i,_,hi=>by
  show (ndL x.1 x.2++GX z)[0*19+i]? = _;rw [Nat.zero_mul,Nat.zero_add,List.getElem?_append_left (by rw [ug (h x List.mem_cons_self)]; exact hi)];rfl
 | x::z,h,j+1,i,hj,hi=>by
  show (ndL x.1 x.2++GX z)[(j+1)*19+i]? = _;have hx:=ug (h:=x.2) (h x List.mem_cons_self);rw [List.getElem?_append_right (by omega),hx,show (j+1)*19+i-19=j*19+i by omega,JE z (λy hy=>h y (List.mem_cons_of_mem _ hy)) j i (by simpa using hj) hi];rfl
def qU (w:World) (a:aL) (n c:Nat) (l:List Nd):Prop :=
 n<=c/\c<=maxLen/\(a=none->c=0)/\∃ z:List Nz,z.map Prod.fst=l/\z.length=n/\(∀ p∈z,p.1.ks.length=16/\bf w p.2.1 p.2.2.1 p.2.2.2 p.1.p)/\
  ∀ j,j<n->∃ b off,a=some ⟨b,off,none⟩/\b<w.heap.size/\w.rangeAt b (off+j*19) (ndL (z.getD j nz0).1 (z.getD j nz0).2)
theorem qU.len {l:List Nd} (h:qU w a n c l):l.length=n:=by
 obtain ⟨_,_,_,z,rfl,hz,_⟩:=h;rw [List.length_map,hz]
theorem qU.nil (w:World):qU w none 0 0 []:=⟨aH,Nat.zero_le _,λ_=>rfl,[],rfl,rfl,λ_ h=>(by cases h),λ_ h=>absurd h (Nat.not_lt_zero _)⟩
theorem jE {α:Type} {l:List α} {d : α} (h:j<l.length):l.getD j d∈l:=by
 rw [List.getD_eq_getElem?_getD,List.getElem?_eq_getElem h];exact List.getElem_mem _
theorem qU.at' {l:List Nd} (h:qU w a n c l) (j:Nat) (hj:j<n):∃ b off g,a=some ⟨b,off,none⟩/\b<w.heap.size/\w.rangeAt b (off+j*19) (ndL (l.getD j nd0) g)/\(l.getD j nd0).ks.length=16/\bf w g.1 g.2.1 g.2.2 (l.getD j nd0).p:=by
 obtain ⟨_,_,_,z,rfl,hz,hp,hr⟩:=h;obtain ⟨b,off,e,hlt,hc⟩:=hr j hj;have hg:(z.map Prod.fst).getD j nd0=(z.getD j nz0).1:=by
  have:j<z.length:=by omega
  simp [List.getD,this]
 obtain ⟨h1,h2⟩:=hp _ (jE (d:=nz0) (show j<z.length by omega));exact ⟨b,off,(z.getD j nz0).2,e,hlt,by rw [hg]; exact hc,by rw [hg]; exact h1,by rw [hg]; exact h2⟩
theorem Ku {N:Nd} {h:Hdl} (hl:N.ks.length=16) (b:Nat) (hb:b=w.heap.size) (ho:∃ y,o.op = .buildSlice 77 1 #[(0,y)]/\ev y = .agg (ndC N h.1 h.2.1 h.2.2)) :
  (execOp ev o).run prog w = .ok (.value (.slice (some ⟨b,0,none⟩) 1 1)) (w.alloc (.cells (ndC N h.1 h.2.1 h.2.2) 67)):=by
 obtain ⟨y,ho,hx⟩:=ho;obtain ⟨kd,p,v,ks⟩:=N;subst hb;obtain ⟨x0,x1,x2,x3,x4,x5,x6,x7,x8,x9,x10,Hv,I0,I1,cV,I2,rfl⟩:=sixteen ks hl;unfold execOp;simp only [ho,List.map_toArray,List.map_cons,List.map_nil,hx];kernel_rfl
end Tm
end
section
namespace Tr
open Rf Rl Ni No
end Tr
end
section
open Go.RowKit
namespace Tr
open Rf Rl Ni No
theorem at_len:∀ (t:T) (L:Nat) (w:Pa),Good t L->(bA t w).length<=w.length+1
 | .nil,_,_,_=>Nat.zero_le _
 | .leaf _ _,_,_,_=>by
  show 1<=_;omega
 | .ext q t,L,w,g=>by
  have hq:0<q.length:=List.length_pos_iff.2 g.1;have ih:=at_len t _ (w.drop q.length) g.2.2.2.2;rw [List.length_drop] at ih;show (_::if _ then _ else _).length<=_;by_cases h:q<+:w
  .rw [if_pos h,List.length_cons];have:=h.length_le;omega
  .rw [if_neg h];simp
 | .br ks,L,[],_=>aH
 | .br ks,L,c::w,g=>by
  have ih:=at_len (ks (nb c)) _ w (g.2.2 _);show (bA (ks (nb c)) w).length+1<=(w.length+1)+1;omega
 | .stub _,_,_,_=>Nat.zero_le _
end Tr
namespace Tm
open Tr Ni Pk Ky No
end Tm
end
section
namespace Tr
open Rf Rl Ni No
theorem zU:∀ (t:T) (w:Pa),jM t w=(bA t w).map fZ
 | .nil,_=>rfl
 | .leaf _ _,_=>rfl
 | .ext q t,w=>by
  show bX (.ext q t)::(if q<+:w then jM t (w.drop q.length) else [])=fZ (bF (.ext q t))::List.map fZ (if q<+:w then bA t (w.drop q.length) else []);rw [zU t];by_cases h:q<+:w
  .rw [if_pos h,if_pos h]; rfl
  .rw [if_neg h,if_neg h]; rfl
 | .br ks,[]=>rfl
 | .br ks,c::w=>by
  show bX (.br ks)::jM (ks (nb c)) w=fZ (bF (.br ks))::List.map fZ (bA (ks (nb c)) w);rw [zU (ks (nb c)) w];rfl
 | .stub _,_=>rfl
def iV (l:List Nd):List aM:=(l.take 1).map fZ++nT ((l.drop 1).map fZ)
theorem Ud (t:T) (w:Pa):rG t w=iV (bA t w):=by
 unfold rG iV;rw [zU];cases bA t w with
 | nil=>rfl
 | cons x r=>rfl
theorem Om (l:List Nd) (h:j<l.length):iV (l.take (j+1))=iV (l.take j)++if j=0\/32<=(fZ (l.getD j nd0)).size then [fZ (l.getD j nd0)] else []:=by
 have e:l.take (j+1)=l.take j++[l.getD j nd0]:=by
  have e1:l.getD j nd0=l[j]:=by simp [List.getD,h]
  rw [e1,List.take_succ_eq_append_getElem h]
 rw [e];generalize l.getD j nd0=x;by_cases hj:j=0
 .subst hj;rw [if_pos (.inl rfl),List.take_zero];rfl
 .have hl:1<=(l.take j).length:=by rw [List.length_take]; omega
  unfold iV;rw [List.take_append_of_le_length hl,List.drop_append_of_le_length hl,List.map_append,List.append_assoc];congr 1;unfold nT;rw [List.filter_append];congr 1;by_cases h32:32<=(fZ x).size
  .rw [if_pos (.inr h32),List.map_cons,List.map_nil,List.filter_cons_of_pos (by simpa using h32)]; rfl
  .rw [if_neg (λh=>h.elim hj h32),List.map_cons,List.map_nil,List.filter_cons_of_neg (by simpa using h32)]; rfl
theorem Co (l:List Nd):(iV l).length<=l.length:=by
 unfold iV nT;rw [List.length_append,List.length_map];have:=List.length_filter_le (λx:aM=>decide (32<=x.size)) ((l.drop 1).map fZ);rw [List.length_map,List.length_drop] at this;rw [List.length_take];omega
theorem tF:∀ (t:T) (L:Nat) (w:Pa),Good t L->L<=64->Fine t->∀ N∈bA t w,∃ (s:T) (K:Nat),N=bF s/\bX s=fZ N/\s ≠ .nil/\¬ eX s/\K<=64/\Good s K/\Fine s
 | .nil,_,_,_,_,_,_,h=>by cases h
 | .leaf p v,L,w,g,hL,f,N,h=>by
  rw [List.mem_singleton.1 h];exact ⟨_,L,rfl,rfl,λe=>(by cases e),λh=>h,hL,g,f⟩
 | .ext q t,L,w,g,hL,f,N,h=>by
  rcases List.mem_cons.1 h with rfl | h
  .exact ⟨_,L,rfl,rfl,λe=>(by cases e),λh=>h,hL,g,f⟩
  .by_cases hq:q<+:w
   .rw [if_pos hq] at h;exact tF t (L-q.length) (w.drop q.length) g.2.2.2.2 (by omega) f N h
   .rw [if_neg hq] at h;cases h
 | .br ks,L,[],g,hL,f,N,h=>by
  rw [List.mem_singleton.1 h];exact ⟨_,L,rfl,rfl,λe=>(by cases e),λh=>h,hL,g,f⟩
 | .br ks,L,c::w,g,hL,f,N,h=>by
  rcases List.mem_cons.1 h with rfl | h
  .exact ⟨_,L,rfl,rfl,λe=>(by cases e),λh=>h,hL,g,f⟩
  .exact tF (ks (nb c)) (L-1) w (g.2.2 _) (by omega) (f _) N h
 | .stub _,_,_,_,_,_,_,h=>by cases h
end Tr
end
section
namespace Tr
open Rf Rl Ni No
theorem RP {l:List Nd} {s:aM} (h:s∈iV l):∃ N∈l,s=fZ N:=by
 unfold iV nT at h;rcases List.mem_append.1 h with h | h
 .obtain ⟨N,hN,rfl⟩:=List.mem_map.1 h;exact ⟨N,List.mem_of_mem_take hN,rfl⟩
 .obtain ⟨N,hN,rfl⟩:=List.mem_map.1 (List.mem_filter.1 h).1;exact ⟨N,List.mem_of_mem_drop hN,rfl⟩
theorem CB {t:T} (g:Good t 64) (f:Fine t) (q:Pa):∀ s∈iV (bA t q),s.size<=900000:=λs hs=>by
 obtain ⟨N,hN,rfl⟩:=RP hs;obtain ⟨u,K,rfl,e,h1,h2,h3,h4,h5⟩:=tF t 64 q g aH f N hN;rw [<-e];exact (Tm.nU h4 h3 h5 h1 h2).2.2.1
end Tr
end
section
namespace Tr
open Rf Rl Ni No
def nK (l:List aM) (r:aN) (q:Pa):qm :=
 if l.length=0 then (if r=fC eB then some none else none,0) else
 if 70<l.length then (none,0) else
 if fC (l.getD 0 eB)=r then jO l 200 (l.getD 0 eB) q 1 false else (none,0)
theorem Li {t:T} (g:Good t 64) (u:Full t) (f:Fine t) {q:Pa} (hq:q.length=64) (hn:Nib q) (P3:(rG t q).length<=65):∃ a,get t q=some a/\nK (rG t q) (fC (bX t)) q=(some a,(rG t q).length):=by
 by_cases ht:t = .nil
 .subst ht;exact ⟨none,rfl,rfl⟩
 .obtain ⟨w,hw⟩:=vO ht (jU u) q;have hl:rG t q=bX t::nT w:=by unfold rG; rw [hw]
  rw [hl] at P3 ⊢;obtain ⟨a,h1,h2⟩:=uO (bX t::nT w) t 64 200 q 1 false g aH u f ht hq hn (by omega) (λe=>by cases e) (by simp) (by rw [hw]; rfl);refine ⟨a,h1,?_⟩;unfold nK;rw [if_neg (by simp),if_neg (by omega),if_pos (show fC ((bX t::nT w).getD 0 eB)=fC (bX t) from rfl)];exact h2
theorem vQ {s:aN} (hs:s.length<=4294967296) {n:Nd} (h:mK s=some n) (p:Pa) (ho:(onward n p).1.size≠0):(onward n p).2.length<p.length:=by
 have hm:=(Er hs h).2.1;unfold onward at ho ⊢;by_cases h2:n.kd=2/\n.p<+:p
 .rw [if_pos h2];have hp:0<n.p.length:=by
   unfold fB jK at hm;rw [if_neg (by rw [h2.1]; decide),if_pos h2.1] at hm;simp only [Bool.and_eq_true,decide_eq_true_eq] at hm;exact hm.2.1.1.1.1
  have:=h2.2.length_le;rw [List.length_drop];omega
 .rw [if_neg h2] at ho ⊢;by_cases h3:n.kd=3
  .rw [if_pos h3] at ho ⊢;cases p with
   | nil=>exact absurd rfl ho
   | cons c r=>exact Nat.lt_succ_self _
  .rw [if_neg h3] at ho;exact absurd rfl ho
theorem nM (l:List aM) (hl:∀ x∈l,x.size<=900000):∀ (s s':Nat) (enc:aM) (p:Pa) (used:Nat) (ext:Bool),enc.size<=900000->p.length<s->p.length<s'->jO l s enc p used ext=jO l s' enc p used ext
 | 0,_,_,_,_,_,_,h,_=>absurd h (Nat.not_lt_zero _)
 | _+1,0,_,_,_,_,_,_,h=>absurd h (Nat.not_lt_zero _)
 | s+1,s'+1,enc,p,used,ext,he,h,h'=>by
  unfold jO;cases hg:mK enc.data.toList with
  | none=>rfl
  | some n =>
   dsimp only;have hlen:enc.data.toList.length<=4294967296:=by rw [gT]; omega
   by_cases ho:(onward n p).1.size=0
   .rw [if_pos ho,if_pos ho]
   .have hlt:=vQ hlen hg p ho;rw [if_neg ho,if_neg ho];by_cases h32:(onward n p).1.size<32
    .rw [if_pos h32,if_pos h32,nM l hl s s' _ _ _ _ (by omega) (by omega) (by omega)]
    .rw [if_neg h32,if_neg h32];by_cases hu:used<l.length/\(l.getD used eB).size≠0/\ofP (l.getD used eB)=(onward n p).1
     .have hm:l.getD used eB∈l:=by
       rw [List.getD_eq_getElem?_getD,List.getElem?_eq_getElem hu.1];exact List.getElem_mem _
      rw [if_pos hu,if_pos hu,nM l hl s s' _ _ _ _ (hl _ hm) (by omega) (by omega)]
     .rw [if_neg hu,if_neg hu]
end Tr
end
section
open Go.RowKit Go.Maps
namespace Tm
open Tr Ni Pk Ky No Rf Rl
open Sm (Tab)
theorem yc {l:aN} (hk:k.length=32) (hl:l.length=32) (w:World):(Op.equalIn 10000 23 (.agg (Sm.kc k)) (.agg (Sm.kc l))).run prog w = .ok (decide (k=l)) w:=by
 obtain ⟨i0,hi,_⟩:=info_parts Cc.lI;rw [show (10000:Nat)=9999+1 from rfl,run_equalIn_array w 9999 (Sm.kc k) (Sm.kc l) underlying23 hi,DR];have:=uY k l w 9998 (List.range 32) (λi h=>by rw [hk,hl]; have:=List.mem_range.1 h; omega);rw [Gf hk hl] at this;exact this
theorem Qn {l:aN} (hk:k.length=32) (hl:l.length=32) (w:World):(binOp .eql 23 (.agg (Sm.kc k)) (.agg (Sm.kc l))).run prog w = .ok (.bool (decide (k=l))) w:=by
 rw [run_eql_struct,yc hk hl w];rfl
theorem EK {l:aN} (hk:k.length=32) (hl:l.length=32) (ho:∃ x y tt,o.op = .binOp .eql 23 x y tt/\ev x = .agg (Sm.kc k)/\ev y = .agg (Sm.kc l)) :
  (execOp ev o).run prog w = .ok (.value (.bool (decide (k=l)))) w:=by
 obtain ⟨x,y,tt,ho,hx,hy⟩:=ho;unfold execOp;have hg:=Sm.BX;simp [ho,hx,hy,run_eqGuard_agg,hg,Qn hk hl,Result.andThen]
end Tm
end
section
open Go.RowKit
namespace No
open Rl Ni
end No
end
end Go.Proofs.YtokaiemgjngcoaaGreatDoor
