/-
 Contracts of the plain answer's Node and Enc.
-/
import Derived.Test.YtlcplcgigjagpaaGreatDoorSd11
open Go.Lib (hid)
open Go.Proofs.Tryz
set_option linter.unusedSimpArgs false
set_option linter.unusedVariables false
set_option maxHeartbeats 40000000
set_option maxRecDepth 100000
namespace Go.Proofs.YtlcplcgigjagpaaGreatDoor
variable {w w':World} {a:aJ} {B L c cap g i j:Nat} {ops:Array Oper} {o:Oper} {act:Act} {Q:Exit->Act->World->Prop} {r:aK} {cur cur':aM} {v:Value}
section
open Go.RowKit
namespace Tm
open Tr Ni Pk Ky No Rf Rl
theorem MP {n:Nat} {l:aL} (h:bA w a n c l) (j:Nat) (hj:j<=n):bA w a j c (l.take j):=by
 have h1:=h.1;refine ⟨by omega,h.2.1,by rw [List.length_take,h.len]; omega,h.2.2.2.1,λi hi=>?_⟩;obtain ⟨b,off,e,hlt,hc⟩:=h.at' i (by omega);refine ⟨b,off,e,hlt,?_⟩;rw [hc];simp [List.getD,hi]
theorem WY (N:Nd) (a:aJ) (n c i:Nat) (s:aK):(ndC N a n c).setIfInBounds (3+i) (.string s)=ndC ⟨N.kd,N.p,N.v,N.ks.set i s⟩ a n c:=by
 unfold ndC;rw [List.map_set,show 3+i=i+1+1+1 by omega];simp
theorem tH {rest:List Oper} {b:Nat} {N:Nd} {n:Nat} (h:dQ w b N a n c) (hl:N.ks.length=16) (hi:i<16) (s:aK)
  (hgd:o.guard=none) (x y:Operand) (ho:o.op = .store 9 x y) (hx:act.eval x = .pointer (some ⟨b,3+i,none⟩)) (hy:act.eval y = .string s)
  (hQ:∀ w',dQ w' b ⟨N.kd,N.p,N.v,N.ks.set i s⟩ a n c->Rg.Upd w b w'->wpList prog ops Q rest (act.put o.dst undef) w'):wpList prog ops Q (o::rest) act w :=
 wpList_plain hgd λK hK=>by
  unfold Oper.wp execOp;simp only [ho,hx,hy,Sem.run_bind,Sem.run_pure,Result.andThen_ok,qZ h (o:=3+i) (by rw [eU _ _ _ _ hl]; omega) s];refine hK _ _ (hQ _ ?_ (bW _ _ _ _));have:=dS (o:=3+i) h (.string s);rwa [WY] at this
def qp (l:List Tr.In):Prop:=∀ x∈l,x.2.size≠0/\x.2.size<=65552
theorem qp.rest {l:List Tr.In} (h:qp l) (n:Nat):qp (bD l n):=λx hx=>by
 obtain ⟨y,hy,rfl⟩:=List.mem_map.1 hx;exact h y hy
theorem qp.begin {l:List Tr.In} (h:qp l) (c:Fin 16):qp (bB l c):=λx hx=>h x (kQ.1 hx).1
theorem Nh {L:Nat} {l:List Tr.In} (hL:L<=64) (ok:Ok L l) (f:qp l):(jS (build L l)).size<=900000:=by
 by_cases hn:build L l = .nil
 .rw [hn]; exact Nat.zero_le _
 .have hs:=nY (mH L l);have hm:=(fU _ L (oQ L l ok) hL (om L l f) hn).1 hs;have e:jS (build L l)=jZ (bM (build L l)):=by
   cases hb:build L l with
   | nil=>exact absurd hb hn
   | stub r=>rw [hb] at hs; exact absurd trivial hs
   | leaf p v=>rfl
   | ext q t=>rfl
   | br ks=>rfl
  rw [e,yC];exact MB (dP _) hm
theorem MO {l:List Tr.In}:ofP (jS (build L l))=ref (build L l):=(MW (nY (mH L l))).symm
def OA (L:Nat):Prop:=∀ (l:List Tr.In),Ok L l->qp l->∀ (a:aJ) (n c:Nat) (w:World),cK w a n c l->n<=1000000->
 Calls prog 69 #[.slice a n c] w λe w'=>e = .returned (.string (jS (build L l)))/\Below w.heap.size w w'
def Ny (w:World) (N:Nd) (e:Ending) (w':World):Prop:=∃ a n c,e = .returned (.tuple #[.agg (ndC N a n c),.bool true])/\bA w' a n c N.p/\Below w.heap.size w w'
theorem WU (w:World):∃ w1,w1=w.alloc (.cells (ndC nd0 none 0 0) 56)/\dQ w1 w.heap.size nd0 none 0 0/\Below w.heap.size w w1/\w1.heap.size=w.heap.size+1:=⟨_,rfl,Rg.Own.new _ _ _,al1 _ _,by simp⟩
theorem yw (a:aJ) (c:Nat) (w:World):Calls prog 36 #[.slice a 0 c] w λe w'=>e = .returned (.tuple #[.agg (ndC nd0 none 0 0),.bool false])/\Below w.heap.size w w':=by
 obtain ⟨w1,hw1,ag,hb1,hs1⟩:=WU w;have HO:=hid ag;have HB:=hid hb1;clear ag hb1;subst hw1;go_enter func36,ntmps36;go_wp2_with (first
  | (refine ay (aX _ _ _ w.heap.size rfl rfl) ?_)
  | (refine ay (bK rP ?_) ?_; · exact ⟨_,rfl,rfl⟩)
  | (refine bG HO.out rfl nd0 none 0 0 rfl rfl _ _ rfl rfl rfl rfl ?_))
 exact bodyPost_ret (fA (p:=2) (u:=3) rfl _ rfl (dD HO.out) rfl) rfl ⟨rfl,bU HB.out aF _⟩
theorem Uf (x:Tr.In) (a:aJ) (c:Nat) (w:World) (h:cK w a 1 c [x]):Calls prog 36 #[.slice a 1 c] w (Ny w ⟨1,x.1,x.2,zks⟩):=by
 obtain ⟨w1,hw1,ag,hb1,hs1⟩:=WU w;obtain ⟨b,off,hd,rfl,hblt,hin,hbs⟩:=h.at' 0 (by omega);have hcap:=h.1;have hmx:=h.2.1;unfold maxLen at hmx;obtain ⟨p,v⟩:=x;obtain ⟨hp0,hp1,hp2⟩:=hd;simp only [Nat.zero_mul,Nat.add_zero] at hin;have hc0:=hin.1;have hc1:=hin.2;have iS:Hid (bA w hp0 hp1 hp2 p):=hid hbs;dsimp only at hc0 hc1;replace hc1:w.cell? ⟨b,off+1,none⟩=some (.string v):=hc1;have hn0:(0:Int)<(1:Nat):=by omega
 have q8:0<1:=by omega
 have HO:=hid ag;have HB:=hid hb1;have HW:Hid (_=_):=hid hw1;clear ag hb1 hw1 h hin hbs;go_enter func36,ntmps36;go_wp2_with (refine ay (aX _ _ _ w.heap.size rfl rfl) ?_)
 rw [<-HW.out];clear HW;go_wp2_with fail
 refine aB (S:=λw'=>Below w.heap.size w w') (below_drewN HB.out 1) λhld=>?_;refine ah 0 ?_;try simp only [Act.put,ak]
 refine ah 1 ?_ (hy:=by intro wz hSw; have q0:=hn0; have q1:=q8; (try dsimp only at hSw); go_simp <;> with_reducible rfl);try simp only [Act.put,ak]
 refine ah 2 ?_;try simp only [Act.put,ak]
 refine aC 3 (λwz hSw=>aV hSw hc0) ?_;try simp only [Act.put,ak]
 refine ah 4 ?_;try simp only [Act.put,ak]
 refine ah 5 ?_ (hy:=by intro wz hSw; have q0:=hn0; have q1:=q8; (try dsimp only at hSw); go_simp <;> with_reducible rfl);try simp only [Act.put,ak]
 refine ah 6 ?_;try simp only [Act.put,ak]
 refine aC 7 (λwz hSw=>aV hSw hc1) ?_;try simp only [Act.put,ak]
 refine ah 8 ?_ (hy:=by intro wz hSw; (refine bK (_root_.Go.Proofs.YtlcplcgigjagpaaGreatDoor.qU hp0 hp1 hp2 p v) ?_; exact ⟨_,rfl,rfl⟩));try simp only [Act.put,ak]
 refine aj 9 λK hK=>?_;refine Rg.meetStore (by rfl) HO.out.drew 56 (ndC ⟨1,p,v,zks⟩ hp0 hp1 hp2) ⟨_,_,rfl,rfl,rfl⟩ (lD _ _ _ _ rfl) (by rw [eU _ _ _ _ rfl,eU _ _ _ _ rfl]) (qg _ _ _ _) ?_;intro ai aw az;have cF:=hid aw;have cD:Hid (Below w.heap.size w ai):=hid (az.below hld aF);clear aw az;refine hK.out _ _ (cD.out) λhld=>?_;clear hK K;try simp only [Act.put,ak]
 refine ah 10 ?_;try simp only [Act.put,ak]
 refine aA ?_;go_wp2;exact bodyPost_ret (fA (p:=2) (u:=3) rfl _ rfl cF.out rfl) rfl ⟨hp0,hp1,hp2,rfl,iS.out.below cD.out,cD.out⟩
theorem bY {rest:List Oper} {b:Nat} {N:Nd} {n:Nat} (h:dQ w b N a n c) (hl:N.ks.length=16) (M:Nd) (a':aJ) (n' c':Nat) (hm:M.ks.length=16)
  (hgd:o.guard=none) (x y:Operand) (ho:o.op = .store 56 x y) (hx:act.eval x = .pointer (some ⟨b,0,none⟩)) (hy:act.eval y = .agg (ndC M a' n' c')) (hd:o.dst=none)
  (hQ:∀ w',dQ w' b M a' n' c'->Rg.Upd w b w'->wpList prog ops Q rest act w'):wpList prog ops Q (o::rest) act w :=
 bG h hl M a' n' c' hm hgd x y ho hx hy hd (hQ _ (dD h) (Rg.Upd.set _ _ _))
theorem RO {L:Nat} (hL:L<=64) (x y:Tr.In) (r:List Tr.In) (ok:Ok L (x::y::r)) (f:qp (x::y::r)) (h0:0<bI (x::y::r)) (hE:OA (L-bI (x::y::r))) (a:aJ) (n c:Nat) (w:World) (h:cK w a n c (x::y::r)) (hn:n<=1000000) :
  Calls prog 36 #[.slice a n c] w (Ny w (bM (build L (x::y::r)))):=by
 obtain ⟨w1,hw1,ag,hb1,hs1⟩:=WU w;have hlen:=h.len;have hn2:2<=n:=by rw [<-hlen]; simp
 obtain ⟨b,off,hd,rfl,hblt,hin,hbs⟩:=h.at' 0 (by omega);have hcl:=kV ok;have hall:∀ z∈x::y::r,z.1.length=L:=λz hz=>(ok.1 z hz).1;have hNe:bM (build L (x::y::r))=⟨2,x.1.take (bI (x::y::r)),eB,eZ (ref (build (L-bI (x::y::r)) (bD (x::y::r) (bI (x::y::r)))))⟩:=by
  rw [build,dif_pos ⟨h0,by omega⟩]; rfl
 have hok':=uN ok (Nat.le_of_lt hcl) (λz hz z' hz'=>by rw [iG hz,iG hz']);have hx1:((x::y::r).getD 0 ([],eB)).1=x.1:=rfl;have hxl:=hall x List.mem_cons_self;rw [hx1] at hbs;generalize x::y::r=l at *
 generalize x.1=p at *
 obtain ⟨p0,p1,p2⟩:=hd;simp only [Nat.zero_mul,Nat.add_zero] at hin;have hc0:=hin.1;dsimp only at hc0 hbs;have hpl:=hbs.len;have hcp:=hbs.1;obtain ⟨K,hK⟩:=av (bI l)
 have HC:=hid (λwz (hb:Below w.heap.size w wz)=>qP l (some ⟨b,off,none⟩) n c (λz hz=>by rw [hall z hz]; omega) (by omega) wz (h.below hb) hn);have q9:=hid (λwz (hb:Below w.heap.size w wz)=>qz l (some ⟨b,off,none⟩) n c K (λz hz=>by rw [hall z hz]; omega) wz (h.below hb) hn);rw [hK] at HC hok' hE h0 hcl hNe;have vm:=hid (hE (bD l K) hok' (f.rest K));have kv:=hid (λwz=>JK (jS (build (L-K) (bD l K))) (Nh (by omega) hok' (f.rest K)) wz);rw [MO] at kv;have hrl:(bD l K).length=n:=by unfold bD; rw [List.length_map,hlen]
 have vq:=hid hrl;obtain ⟨E,hE1⟩:=av (jS (build (L-K) (bD l K)))
 obtain ⟨R,pL⟩:=av (ref (build (L-K) (bD l K)))
 rw [hE1] at vm kv;rw [pL] at kv hNe;have SJ:=hid (MP hbs K (by omega));have oa:=hid hNe;have hKc:K<=p2:=by omega
 have vr:(0:Int)<K:=by omega
 have hcap:=h.1;have hmx:=h.2.1;unfold maxLen at hmx;have hn0:(0:Int)<n:=by omega
 have hnn:0<n:=by omega
 have e0:((n:Int)==0)=false:=by simp; omega
 have e1:((n:Int)==1)=false:=by simp; omega
 have d0:decide ((n:Int)=0)=false:=by simp; omega
 have d1:decide ((n:Int)=1)=false:=by simp; omega
 have HO:=hid ag;have HB:=hid hb1;have HW:Hid (_=_):=hid hw1;clear ag hb1 hw1 h hin hbs hE1 pL hrl hlen hok' hE hall ok f hx1 hNe hK hpl;go_enter func36,ntmps36;go_wp2_with (refine ay (aX _ _ _ w.heap.size rfl rfl) ?_)
 rw [<-HW.out];clear HW;refine (HC.out w1 HB.out).mono ?_;rintro e w3 ⟨rfl,hb3⟩;have HB3:=hid (bst HB.out hb3);have am:=hid (HO.out.below hb3);have k0:=aV (bst HB.out hb3) hc0;have hNew:=Rg.Own.new w3 (ndC nd0 none 0 0) 56;have HN:=hid hNew;have hs3:=hb3.size;clear hb3 HC HO hNew hc0;go_wp2_with (first
  | (refine ay (Aq (a:=p0) (n:=p1) (c:=p2) (j:=K) gY jf hKc ⟨_,_,rfl,rfl,rfl⟩) ?_)
  | (refine ay (bK (Ma 2 p0 K p2 (p.take K)) ?_) ?_; · exact ⟨_,rfl,rfl⟩)
  | (refine ay (aX _ _ _ w3.heap.size rfl rfl) ?_)
  | (refine bY HN.out rfl ⟨2,p.take K,eB,zks⟩ p0 K p2 rfl rfl _ _ rfl rfl rfl rfl ?_; intro w4 hO4 cN; have cn:=hid hO4; have cg:Hid (Below w3.heap.size w3 w4):=hid (cN.below (al1 _ _) aF); clear hO4 cN))
 refine (q9.out w4 (bst HB3.out cg.out)).mono ?_;rintro e w5 ⟨a5,n5,c5,rfl,lr,hb5⟩;have rx:n5=n:=by rw [<-lr.len]; exact vq.out
 subst rx;have kq:=hid lr;have ae:=hid hb5;clear lr hb5 q9;go_wp2_with fail
 refine (vm.out a5 n5 c5 w5 kq.out hn).mono ?_;rintro e w6 ⟨rfl,hb6⟩;have cq:=hid (bst ae.out hb6);clear hb6 ae kq;go_wp2_with fail
 refine (kv.out w6).mono ?_;rintro e w7 ⟨rfl,cP⟩;have cC:=hid (bst cq.out cP);have m7:=hid (cn.out.below cC.out);clear cP cq;go_wp2_with (first
  | (refine tH m7.out rfl (i:=0) (by decide) R rfl _ _ rfl rfl rfl ?_; intro w8 il kw; have lv:Hid (dQ w8 w3.heap.size ⟨2,p.take K,eB,eZ R⟩ p0 K p2):=hid il; have ss:=hid kw; clear il kw)
  | (refine ay (dH lv.out (fJ R) ⟨_,rfl,rfl⟩) ?_)
  | (refine bY (Rg.Own.upd (Rg.Own.below (Rg.Own.below am.out cg.out) cC.out) ss.out (by omega)) rfl ⟨2,p.take K,eB,eZ R⟩ p0 K p2 (fJ R) rfl _ _ rfl rfl rfl rfl ?_; intro w9 al aq; have bi:=hid al; have sC:=hid aq; clear al aq))
 have cA:Hid (Below w.heap.size w w9):=hid (sC.out.below (ss.out.below (bst (bst HB3.out cg.out) cC.out) (by have:=HB3.out.size; omega)) aF);exact bodyPost_ret (fA (p:=2) (u:=3) rfl _ rfl bi.out (fJ R)) rfl ⟨p0,K,p2,by rw [oa.out]; rfl,by rw [oa.out]; exact SJ.out.below cA.out,cA.out⟩
theorem Xw {L:Nat} (hL:L<=64) (x y:Tr.In) (r:List Tr.In) (ok:Ok L (x::y::r)) (f:qp (x::y::r)) (h0:bI (x::y::r)=0) (hE:OA (L-1)) (a:aJ) (n c:Nat) (w:World) (h:cK w a n c (x::y::r)) (hn:n<=1000000) :
  Calls prog 36 #[.slice a n c] w (Ny w (bM (build L (x::y::r)))):=by
 obtain ⟨w1,hw1,ag,hb1,hs1⟩:=WU w;have hlen:=h.len;have hn2:2<=n:=by rw [<-hlen]; simp
 have hL0:0<L:=by have:=kV ok; omega
 have hall:∀ z∈x::y::r,z.1.length=L:=λz hz=>(ok.1 z hz).1;have hNe:bM (build L (x::y::r))=⟨3,[],eB,dn λd=>ref (build (L-1) (bD (bB (x::y::r) d) 1))⟩:=by
  rw [build,dif_neg (by omega),dif_pos hL0]; rfl
 generalize x::y::r=l at *
 have HC:=hid (λwz (hb:Below w.heap.size w wz)=>qP l a n c (λz hz=>by rw [hall z hz]; omega) (by omega) wz (h.below hb) hn);rw [h0] at HC;have SM:=hid (λ(d:Fin 16) wz (hb:Below w.heap.size w wz)=>yM l a n c d (λz hz=>by rw [hall z hz]; omega) wz (h.below hb) hn);have q9:=hid (λ(d:Fin 16) a' n' c' wz (hi:cK wz a' n' c' (bB l d)) (h':n'<=1000000)=>qz (bB l d) a' n' c' 1 (λz hz=>by rw [hall z (kQ.1 hz).1]; omega) wz hi h');have vm:=hid (λ(d:Fin 16)=>hE (bD (bB l d) 1) (nC ok hL0 d) ((f.begin d).rest 1))
 have kv:=hid (λ(d:Fin 16) wz=>by have:=JK (jS (build (L-1) (bD (bB l d) 1))) (Nh (by omega) (nC ok hL0 d) ((f.begin d).rest 1)) wz; rw [MO] at this; exact this);have dl:Hid (∀ d:Fin 16,(bB l d).length<=n):=hid (λd=>by
  have:=DV l d n;rwa [List.take_of_length_le (by omega)] at this)
 have vq:Hid (∀ d:Fin 16,(bD (bB l d) 1).length=(bB l d).length):=hid (λd=>by unfold bD; rw [List.length_map]);obtain ⟨ks,hks⟩:∃ ks,(dn λd=>ref (build (L-1) (bD (bB l d) 1)))=ks:=⟨_,rfl⟩
 have hkl:ks.length=16:=by rw [<-hks]; exact mV _
 have hki:∀ j (hj:j<16),ref (build (L-1) (bD (bB l ⟨j,hj⟩) 1))=ks.getD j eB:=λj hj=>by
  rw [<-hks]; exact (kJ (λd=>ref (build (L-1) (bD (bB l d) 1))) ⟨j,hj⟩).symm
 rw [hks] at hNe;have cH:=hid hkl;have SO:=hid hki;have oa:=hid hNe;have hcap:=h.1;have hmx:=h.2.1;unfold maxLen at hmx;have hn0:(0:Int)<n:=by omega
 have hnn:0<n:=by omega
 have e0:((n:Int)==0)=false:=by simp; omega
 have e1:((n:Int)==1)=false:=by simp; omega
 have d0:decide ((n:Int)=0)=false:=by simp; omega
 have d1:decide ((n:Int)=1)=false:=by simp; omega
 have HO:=hid ag;have HB:=hid hb1;have HW:Hid (_=_):=hid hw1;clear ag hb1 hw1 h hlen hE hall ok f hNe hkl hki hks h0;go_enter func36,ntmps36;go_wp2_with (refine ay (aX _ _ _ w.heap.size rfl rfl) ?_)
 rw [<-HW.out];clear HW;refine (HC.out w1 HB.out).mono ?_;rintro e w3 ⟨rfl,hb3⟩;have HB3:=hid hb3;have hNew:=Rg.Own.new w3 (ndC nd0 none 0 0) 56;have HN:=hid hNew;have hs3:=hb3.size;clear hb3 HC hNew;go_wp2_with (first
  | (refine ay (bK (Rt 3) ?_) ?_; · exact ⟨_,rfl,rfl⟩)
  | (refine ay (aX _ _ _ w3.heap.size rfl rfl) ?_)
  | (refine bY HN.out rfl ⟨3,[],eB,zks⟩ none 0 0 rfl rfl _ _ rfl rfl rfl rfl ?_; intro w4 hO4 cN; have cn:=hid hO4; have cg:Hid (Below w3.heap.size w3 w4):=hid (cN.below (al1 _ _) aF); clear hO4 cN))
 have y7:Hid (Below w1.heap.size w1 w4):=hid (bst HB3.out cg.out);have rp:Hid (dQ w4 w3.heap.size ⟨3,[],eB,iU ks 0⟩ none 0 0):=hid (by rw [zB]; exact cn.out);clear HB3 cg cn HN;obtain ⟨g,hg⟩:=av w3.heap.size
 rw [hg] at rp hs3 ⊢;clear hg;go_loopw [7] (λi wr=>∃ j:Nat,j<=16/\i = .int .i64 j/\Hid (dQ wr g ⟨3,[],eB,iU ks j⟩ none 0 0)/\Hid (Below w1.heap.size w1 wr)) (λi _=>16-(intOf i).toNat)
 case atStart=>exact ⟨0,Nat.zero_le _,rfl,rp,y7⟩
 case round =>
  obtain ⟨j,hj,rfl,ry,ey⟩:=hrel;clear rp y7;by_cases hlt:j<16
  .have hji:(j:Int)<16:=by omega
   have ap:Hid (Below w.heap.size w wr):=hid (bst HB.out ey.out);have HS:=hid (Ca cH.out hlt);have SR:=hid (vg cH.out hj);go_wp2_with fail
   refine (SM.out ⟨j,hlt⟩ wr ap.out).mono ?_;rintro e w5 ⟨a5,n5,c5,rfl,lr,hb5⟩;have rx:n5<=1000000:=by rw [<-lr.len]; exact Nat.le_trans (dl.out ⟨j,hlt⟩) hn
   have hl5:=lr.len;have kq:=hid lr;have ae:=hid hb5;clear lr hb5;go_wp2_with fail
   refine (q9.out ⟨j,hlt⟩ a5 n5 c5 w5 kq.out rx).mono ?_;rintro e w6 ⟨a6,n6,c6,rfl,pM,hb6⟩;have ST:n6<=1000000:=by rw [<-pM.len,vq.out,hl5]; exact rx
   have rq:=hid pM;have cq:=hid (bst ae.out hb6);clear pM hb6 kq ae;go_wp2_with fail
   refine (vm.out ⟨j,hlt⟩ a6 n6 c6 w6 rq.out ST).mono ?_;rintro e w7 ⟨rfl,cP⟩;have cC:=hid (bst cq.out cP);have qa:=hid (kv.out ⟨j,hlt⟩ w7);obtain ⟨E,hE⟩:=av (jS (build (L-1) (bD (bB l ⟨j,hlt⟩) 1)))
   rw [SO.out j hlt,hE] at qa;rw [hE];obtain ⟨R,hR⟩:=av (ks.getD j eB)
   rw [hR] at qa HS;clear cP cq rq hE hR;go_wp2_with fail
   refine qa.out.mono ?_;rintro e w8 ⟨rfl,cJ⟩;have du:=hid (bst cC.out cJ);have SU:=hid (ry.out.below du.out);clear cJ cC qa;go_wp2_with (refine tH SU.out SR.out (i:=j) hlt R rfl _ _ rfl rfl rfl ?_; intro w9 al aq; have bi:=hid al; have sC:=hid aq; clear al aq)
   have hge:w1.heap.size<=g:=hs3;go_roundw
   case rel=>exact ⟨j+1,by omega,by go_num,hid (by rw [<-HS.out]; exact bi.out),hid (sC.out.below (ey.out.trans (du.out.mono ey.out.size)) hge)⟩
   case measure=>simp [intOf]; omega
  .obtain rfl:j=16:=by omega
   have F4:Hid (dQ wr g ⟨3,[],eB,ks⟩ none 0 0):=hid (by have:=ry.out; rwa [Bd cH.out] at this);clear ry;go_wp2_with (first
    | (refine ay (dH F4.out cH.out ⟨_,rfl,rfl⟩) ?_)
    | (refine bY (Rg.Own.below HO.out ey.out) rfl ⟨3,[],eB,ks⟩ none 0 0 cH.out rfl _ _ rfl rfl rfl rfl ?_; intro w9 al aq; have bi:=hid al; have sC:=hid aq; clear al aq))
   have cA:Hid (Below w.heap.size w w9):=hid (sC.out.below (bst HB.out ey.out) aF);exact bodyPost_ret (fA (p:=2) (u:=3) rfl _ rfl bi.out cH.out) rfl ⟨none,0,0,by rw [oa.out]; rfl,by rw [oa.out]; exact bA.nil _,cA.out⟩
theorem Bc {L:Nat} (hL:L<=64) (ih:∀ m,m<L->OA m) {l:List Tr.In} (ok:Ok L l) (f:qp l) (hne:l≠[]) (a:aJ) (n c:Nat) (w:World) (h:cK w a n c l) (hn:n<=1000000) :
  Calls prog 36 #[.slice a n c] w (Ny w (bM (build L l))):=by
 match l,hne with
 | [x],_ =>
  obtain rfl:n=1:=h.len.symm;have:=Uf x a c w h;rw [build];exact this
 | x::y::r,_ =>
  have hlt:=kV ok;by_cases h0:0<bI (x::y::r)
  .exact RO hL x y r ok f h0 (ih _ (by omega)) a n c w h hn
  .exact Xw hL x y r ok f (by omega) (ih _ (by omega)) a n c w h hn
theorem Yc {L:Nat} (hL:L<=64) (ih:∀ m,m<L->OA m):OA L:=λl ok f a n c w h hn=>by
 by_cases hne:l=[]
 .subst hne;obtain rfl:n=0:=h.len.symm;rw [build];have HC:=hid (yw a c w);clear h;go_enter func69,ntmps69;go_wp2_with fail
  refine HC.out.mono ?_;rintro e w1 ⟨rfl,hb1⟩;have HB1:=hid hb1;have hNew:=Rg.Own.new w1 (ndC nd0 none 0 0) 56;have HN:=hid hNew;clear hb1 hNew;go_wp2_with (first
   | (refine ay (aX _ _ _ w1.heap.size rfl rfl) ?_)
   | (refine bY HN.out rfl nd0 none 0 0 rfl rfl _ _ rfl rfl rfl rfl ?_; intro w4 hO4 cN; have cg:Hid (Below w1.heap.size w1 w4):=hid (cN.below (al1 _ _) aF); clear hO4 cN))
  go_ret;exact ⟨rfl,bst HB1.out cg.out⟩
 .have hb:=Ii ok hne;have hs:=nY (mH L l);have hm:=(fU _ L (oQ L l ok) hL (om L l f) hb).1 hs;have e:jS (build L l)=jZ (bM (build L l)):=by
   cases hb':build L l with
   | nil=>exact absurd hb' hb
   | stub r=>rw [hb'] at hs; exact absurd trivial hs
   | leaf p v=>rfl
   | ext q t=>rfl
   | br ks=>rfl
  have HC:=hid (Bc hL ih ok f hne a n c w h hn);have hl:=dP (build L l);rw [e];generalize bM (build L l)=N at *
  have HM:=hid hm;have HL:=hid hl;clear h hm hl e hs hb;go_enter func69,ntmps69;go_wp2_with fail
  refine HC.out.mono ?_;rintro e w1 ⟨a1,n1,c1,rfl,hp1,hb1⟩;have HB1:=hid hb1;have hNew:=Rg.Own.new w1 (ndC nd0 none 0 0) 56;have HN:=hid hNew;have HP:=hid hp1;clear hb1 hNew hp1 HC;go_wp2_with (first
   | (refine ay (aX _ _ _ w1.heap.size rfl rfl) ?_)
   | (refine bY HN.out rfl N a1 n1 c1 HL.out rfl _ _ rfl rfl rfl rfl ?_; intro w4 hO4 cN; have cn:=hid hO4; have cg:Hid (Below w1.heap.size w1 w4):=hid (cN.below (al1 _ _) aF); clear hO4 cN)
   | (refine ay (dH cn.out HL.out ⟨_,rfl,rfl⟩) ?_))
  refine (WE N a1 n1 c1 HL.out w4 (HP.out.below cg.out) HM.out).mono ?_;rintro e w5 ⟨rfl,hb5⟩;have ae:=hid (bst (bst HB1.out cg.out) hb5);clear hb5;go_wp2;go_ret;exact ⟨rfl,ae.out⟩
theorem Ho (L:Nat):L<=64->OA L:=by
 induction L using Nat.strongRecOn with
 | ind L ih=>exact λhL=>Yc hL λm hm=>ih m hm (by omega)
end Tm
end
section
open Go.RowKit
namespace Tm
open Tr Rf Rl Ni No Pk Sm
theorem MX {t:T} (hs:¬ eX t):Jk t=eB:=by
 cases t with
 | stub r=>exact absurd trivial hs
 | _=>rfl
theorem Ql {t:T} (hs:¬ eX t) (hn:t ≠ .nil):dG t=1\/dG t=2\/dG t=3:=by
 cases t with
 | stub r=>exact absurd trivial hs
 | nil=>exact absurd rfl hn
 | leaf q v=>exact Or.inl rfl
 | ext q s=>exact Or.inr (Or.inl rfl)
 | br ks=>exact Or.inr (Or.inr rfl)
theorem Sy (b:Nat) (k:Int) (hk:k=1\/k=2\/k=3) (r:aK) (w:World) (hc:∀ wx,Below w.heap.size w wx->wx.cell? ⟨b,0,none⟩=some (.int .i64 k)) (P:World->Prop)
  (CR:∀ w3,Below w.heap.size w w3->w3.cell? ⟨w.heap.size,0,none⟩=some (.pointer (some ⟨b,0,none⟩))->Calls prog 54 #[.pointer (some ⟨b,4,none⟩),.func (.func 55) #[] #[.pointer (some ⟨w.heap.size,0,none⟩)]] w3 λe w'=>e = .returned (.tuple #[])/\w'.cell? ⟨w.heap.size,0,none⟩=some (.pointer (some ⟨b,0,none⟩))/\w'.cell? ⟨b,7,none⟩=some (.string r)/\P w') :
  Calls prog 28 #[.agg #[.pointer (some ⟨b,0,none⟩)]] w λe w'=>e = .returned (.string r)/\P w':=by
 have fY:∀ (fn:Fn) (first cap:aM) (w:World),(Instr.makeFunc fn first cap).run prog w = .ok (.func fn first cap) w:=λ_ _ _ _=>rfl;have h0:=fT w (some ⟨b,0,none⟩);have hA:=al1 w (.cells #[.pointer (some ⟨b,0,none⟩)] 31);have HK:=hid (nX b k _ (hc _ hA))
 have H3:Hid (∀ w3,Below (w.alloc (.cells #[.pointer (some ⟨b,0,none⟩)] 31)).heap.size (w.alloc (.cells #[.pointer (some ⟨b,0,none⟩)] 31)) w3->w3.cell? ⟨w.heap.size,0,none⟩=some (.pointer (some ⟨b,0,none⟩))/\Calls prog 54 #[.pointer (some ⟨b,4,none⟩),.func (.func 55) #[] #[.pointer (some ⟨w.heap.size,0,none⟩)]] w3 λe w'=>e = .returned (.tuple #[])/\w'.cell? ⟨w.heap.size,0,none⟩=some (.pointer (some ⟨b,0,none⟩))/\w'.cell? ⟨b,7,none⟩=some (.string r)/\P w'):=hid (λw3 hb3 =>
  ⟨aV hb3 h0,CR w3 (bst hA hb3) (aV hb3 h0)⟩)
 clear hc CR hA;rcases hk with rfl | rfl | rfl;all_goals
  go_enter func28,ntmps28;go_wp2_with (refine ay (aT h0 ⟨_,rfl,rfl⟩) ?_)
  refine HK.out.mono ?_;rintro e w3 ⟨rfl,hb3⟩;obtain ⟨d0,HD⟩:=H3.out w3 hb3;replace HD:=hid HD;clear hb3 H3 HK h0;go_wp2_with fail
  refine HD.out.mono ?_;rintro e w4 ⟨rfl,e0,e7,hP⟩;have HP:=hid hP;clear hP HD d0;go_wp2;go_ret;exact ⟨rfl,HP.out⟩
theorem Xn:nD .nil:=λM w p hi ht hT=>by
 obtain rfl:p=none:=ht.qR.2 rfl;have h0:=fT w none;have HE:=hid (iJ none ((w.alloc (.cells #[.pointer none] 31)).alloc (.cells #[.pointer none] 31)));have hA:=al1 w (.cells #[.pointer none] 31);have HK:Hid (Calls prog 53 #[.agg #[.pointer none]] (w.alloc (.cells #[.pointer none] 31)) λe w'=>e = .returned (.int .i64 0)/\Below (w.alloc (.cells #[.pointer none] 31)).heap.size (w.alloc (.cells #[.pointer none] 31)) w'):=hid (dJ M0 none .nil _ (Inv.zero _) rfl)
 have HF:Hid (∀ w3,Below (w.alloc (.cells #[.pointer none] 31)).heap.size (w.alloc (.cells #[.pointer none] 31)) w3->FrN M (sz .nil+1) w w3/\dX M (sz .nil+1) w3):=hid (λw3 hb3=>⟨FrN.below M _ (bst hA hb3),hi.below (bst hA hb3)⟩);clear hi hT hA HE;show Calls _ _ _ _ (λe w'=>e = .returned (.string eB)/\_);go_enter func28,ntmps28;go_wp2_with (refine ay (aT h0 ⟨_,rfl,rfl⟩) ?_)
 refine HK.out.mono ?_;rintro e w3 ⟨rfl,hb3⟩;have nt:=hid (HF.out w3 hb3);clear hb3 HF HK h0;go_wp2;go_ret;exact ⟨rfl,nt.out⟩
theorem QZ {M:Mp} {b:Nat} (h:rH M w b (.stub r)):w.cell? ⟨b,0,none⟩=some (.int .i64 (-1))/\w.cell? ⟨b,7,none⟩=some (.string r):=by
 obtain ⟨a,n,c,ka,kn,kc,d,r',hb,_,_,hd⟩:=h;obtain ⟨⟨c0,_⟩,_,_,_,c7⟩:=kr hb;rcases hd with ⟨_,hr⟩ | ⟨_,hs,_⟩
 .rw [hr] at c7;exact ⟨c0,c7⟩
 .exact absurd trivial hs
theorem Ua (r:aK):nD (.stub r):=λM w p hi ht hT=>by
 obtain ⟨b,rfl,hm⟩:=ht.at_ (λe=>by cases e);have hpart:=(hi.part_ b _ hm).2.2.2 (by omega);obtain ⟨k0,k7⟩:=QZ hpart;have h0:=fT w (some ⟨b,0,none⟩);have hA:=al1 w (.cells #[.pointer (some ⟨b,0,none⟩)] 31);have HK:=hid (nX b (-1) _ (aV hA k0))
 have HF:Hid (∀ w3,Below (w.alloc (.cells #[.pointer (some ⟨b,0,none⟩)] 31)).heap.size (w.alloc (.cells #[.pointer (some ⟨b,0,none⟩)] 31)) w3->w3.cell? ⟨w.heap.size,0,none⟩=some (.pointer (some ⟨b,0,none⟩))/\w3.cell? ⟨b,7,none⟩=some (.string r)/\FrN M (sz (.stub r)+1) w w3/\dX M (sz (.stub r)+1) w3):=hid (λw3 hb3=>⟨aV hb3 h0,aV hb3 (aV hA k7),FrN.below M _ (bst hA hb3),hi.below (bst hA hb3)⟩);clear hi hT hA hpart k0 k7 hm;show Calls _ _ _ _ (λe w'=>e = .returned (.string r)/\_)
 go_enter func28,ntmps28;go_wp2_with (refine ay (aT h0 ⟨_,rfl,rfl⟩) ?_)
 refine HK.out.mono ?_;rintro e w3 ⟨rfl,hb3⟩;obtain ⟨d0,d7,LT⟩:=HF.out w3 hb3;have nt:=hid LT;clear hb3 HF HK h0 LT;go_wp2;go_ret;exact ⟨rfl,nt.out⟩
theorem AB (t:T) (hs:¬ eX t) (hn:t ≠ .nil) (g:Tr.Good t L) (hL:L<=64) (f:Fine t) (pL:∀ q s,t = .ext q s->nD s) (hR2:∀ ks,t = .br ks->∀ i,nD (ks i)):nD t:=λM w p hi ht hT=>by
 obtain ⟨b,rfl,hm⟩:=ht.at_ hn;have hpw:=(hi.part_ b _ hm).2.2.2 (by omega);have hlb:=hi.lt_ b (hi.part_ b _ hm).2.1;obtain ⟨a,n,c,ka,kn,kc,d,r,hb,m8,hKs,hd⟩:=hpw;have SW:Rg.Own w b (iy t a n c ka kn kc d r) 108:=⟨hlb,hb⟩
 have hbody:Body M w b t a n c ka kn kc:=by
  obtain ⟨⟨c0,c1,c2,c3⟩,_⟩:=kr hb;exact ⟨c0,c1,c2,c3,m8.1,hKs⟩
 refine Sy b (dG t) (Ql hs hn) (ref t) w (λwx hbx=>(hbody.below hbx).c0) (λw'=>FrN M (sz t+1) w w'/\dX M (sz t+1) w') (λw3 hb3 qe=>?_);have hO3:=SW.below hb3;have hi3:=hi.below hb3;rcases hd with ⟨rfl,hr⟩ | ⟨rfl,_,hr⟩
 .-- not yet done
  rw [MX hs] at hr;subst hr;have lm:=hT.below hb3 hT.pos;have ax:=bW w3 b 5 (.int .i32 1);have Mb:Rg.Own (w3.setCell ⟨b,5,none⟩ (.int .i32 1)) b (rV t a n c ka kn kc eB) 108:=dS (o:=5) hO3 (.int .i32 1);have SZ:=QO Mb;have Ft:dX M (sz t) w3:=hi3.mono (Nat.le_succ _);have hil:dX M (sz t) (w3.setCell ⟨b,5,none⟩ (.int .i32 1)):=Ft.lock ax hm aF SZ;have T3:(0:Nat)≠b:=λe=>by
   have:=IJ hi3 lm;rw [e,hm] at this;cases this
  have Mm:Tab (w3.setCell ⟨b,5,none⟩ (.int .i32 1)):=λi hi'=>by
   rw [<-lm i hi'];exact World.cell?_of_block (w:=w3) (ax.block 0 T3)
  have sE:w.heap.size≠b:=by omega
  have y8:(w3.setCell ⟨b,5,none⟩ (.int .i32 1)).cell? ⟨w.heap.size,0,none⟩=some (.pointer (some ⟨b,0,none⟩)):=by
   rw [<-qe];exact World.cell?_of_block (w:=w3) (ax.block w.heap.size sE)
  have sL:Body M (w3.setCell ⟨b,5,none⟩ (.int .i32 1)) b t a n c ka kn kc:=(hbody.below hb3).upd (hi3.part_ b t hm).2.2.1 ax (λj hj=>World.cell?_setCell_other _ ⟨b,5,none⟩ ⟨b,j,none⟩ _ (λe=>by injection e with e1 e2 e3; omega));obtain ⟨h1,h2,h3,h4,h5,h6⟩:=xR g hL f hn hs;have hE:=Mw M b t hm hs hn g hL f (w3.setCell ⟨b,5,none⟩ (.int .i32 1)).drew (hil.below (below_drewN aG 1)) (sL.below (below_drewN aG 1)) Mm pL hR2;have CR:=Yx M b t hm h3 w.heap.size _ y8 sE hil Mm Mb hE
  have hD:∀ wx,(callFunc 55 #[.pointer (some ⟨w.heap.size,0,none⟩)]).run prog wx = .ok (.enter 55 #[.pointer (some ⟨w.heap.size,0,none⟩)]) wx:=by intro wx; kernel_rfl
  refine (On.TY 55 _ hD b 4 w3 (λw'=>∃ w1,FrN M (sz t) (w3.setCell ⟨b,5,none⟩ (.int .i32 1)) w1/\dX M (sz t) w1/\Rg.Upd w1 b w'/\Rg.Own w' b (rV t a n c ka kn kc (ofP (jS t))) 108) (aU (j:=4) hO3 rfl) (aU (j:=5) hO3 rfl) (jm hO3) (CR.mono ?_)).mono ?_
  .rintro e w' ⟨rfl,w1,g1,g2,g3,g4⟩;exact ⟨rfl,⟨⟨aU (j:=4) g4 rfl,jm g4⟩,aU (j:=5) g4 rfl,jm g4⟩,w1,g1,g2,g3,g4⟩
  .rintro e w' ⟨rfl,w2,⟨w1,g1,g2,g3,g4⟩,rfl⟩;rw [<-MW hs] at g4;have ob:=bW w2.drew b 4 (.int .u32 1);have ed:=bW (w2.drew.setCell ⟨b,4,none⟩ (.int .u32 1)) b 5 (.int .i32 0);have fN:Rg.Own ((w2.drew.setCell ⟨b,4,none⟩ (.int .u32 1)).setCell ⟨b,4+1,none⟩ (.int .i32 0)) b (iy t a n c ka kn kc 1 (ref t)) 108:=dS (o:=5) (dS (o:=4) g4.drew (.int .u32 1)) (.int .i32 0);obtain ⟨w7,hw7⟩:=av ((w2.drew.setCell ⟨b,4,none⟩ (.int .u32 1)).setCell ⟨b,4+1,none⟩ (.int .i32 0))
   rw [hw7] at fN ⊢;have m9:Rg.Upd w1 b w7:=by
    rw [<-hw7];exact ⟨g3.os,g3.tape,g3.output,by rw [ed.size,ob.size]; exact g3.size,λk hk=>((ed.block k hk).trans (ob.block k hk)).trans (g3.block k hk)⟩
   have qf:∀ k,k<w3.heap.size->k≠b->(M.at_ k=none\/∃ t',M.at_ k=some t'/\sz t<=sz t')->w7.heap[k]? = w3.heap[k]? := λk hk hkb hc=>(m9.block k hkb).trans ((g1.block k (by rw [ax.size]; exact hk) hc).trans (ax.block k hkb));have oc:w3.heap.size<=w7.heap.size:=by rw [m9.size]; exact Nat.le_trans (by rw [ax.size]; exact aF) g1.size
   have hnb:M.at_ w.heap.size=none:=hi.zW aF;have cP:w7.cell? ⟨w.heap.size,0,none⟩=some (.pointer (some ⟨b,0,none⟩)):=by
    rw [<-qe];exact World.cell?_of_block (w:=w3) (qf _ (World.block_lt_of_cell? w3 _ qe) sE (Or.inl hnb))
   have hfr:FrN M (sz t+1) w3 w7:=⟨m9.os.trans (g1.os.trans ax.os),m9.tape.trans (g1.tape.trans ax.tape),m9.output.trans (g1.output.trans ax.output),oc,λk hk hc=>by
    refine qf k hk (λe=>?_) (hc.imp id (λ⟨t',e,hl⟩=>⟨t',e,by omega⟩));subst e;rcases hc with h | ⟨t',h,hl⟩
    .rw [hm] at h; cases h
    .rw [hm] at h;obtain rfl:=Option.some.inj h;omega⟩
   have T4:EX w7 b:=Ed fN.2;have FA:dX M (sz t) w7:=g2.lock m9 hm aF T4;have hbyte:∀ k j v,k<w3.heap.size->w3.cell? ⟨k,j,none⟩=some v->((∃ x,v = .int .u8 x)\/∃ p,v = .pointer p)->w7.heap[k]? = w3.heap[k]? := λk j v hk hc hv=>by
    have hat:M.at_ k=none:=by
     rcases hv with ⟨x,rfl⟩ | ⟨p,rfl⟩
     .exact hi3.eG hc
     .exact hi3.lZ hc
    exact qf k hk (λe=>by rw [e,hm] at hat; cases hat) (Or.inl hat)
   refine ⟨rfl,cP,aU (j:=7) fN rfl,(FrN.below M _ hb3).trans hfr,⟨λk hk=>aH (hi3.lt_ k hk) oc,λb' t' hm'=>?_⟩⟩;obtain ⟨q1,q2,q3,q4⟩:=FA.part_ b' t' hm';refine ⟨q1,q2,q3,λhl=>?_⟩;by_cases hlt:sz t'<sz t
   .exact q4 hlt
   .have hp3:=(hi3.part_ b' t' hm').2.2.2 hl;by_cases e:b'=b
    .subst e;obtain rfl:t=t':=by rw [hm] at hm'; exact Option.some.inj hm'
     refine ⟨a,n,c,ka,kn,kc,1,ref t,fN.2,?_,?_,Or.inr ⟨rfl,hs,rfl⟩⟩
     .have eR:=m8;refine ⟨⟨m8.1.1,m8.1.2.1,m8.1.2.2.1,m8.1.2.2.2.1,λj hj=>?_⟩,m8.2⟩;obtain ⟨b2,off,e2,hlt2,hc2⟩:=(m8.1.below hb3).2.2.2.2 j hj;exact ⟨b2,off,e2,aH hlt2 oc,by rw [World.cell?_of_block (hbyte b2 _ _ hlt2 hc2 (Or.inl ⟨_,rfl⟩))]; exact hc2⟩
     .refine ⟨hKs.1,hKs.2.1,hKs.2.2.1,hKs.2.2.2.1,λj hj=>?_⟩;obtain ⟨b2,off,p2,e2,hlt2,hf2,hc2,ht2⟩:=(hbody.below hb3).hk.at' j hj;exact ⟨b2,off,p2,e2,aH hlt2 oc,hf2,by rw [World.cell?_of_block (hbyte b2 _ _ hlt2 hc2 (Or.inr ⟨_,rfl⟩))]; exact hc2,ht2⟩
    .exact hp3.keep oc (qf b' (hi3.lt_ b' q2) e (Or.inr ⟨t',hm',by omega⟩)) hbyte
 .-- done already
  subst hr;refine (On.Wt ⟨b,4,none⟩ _ w3 (aU (j:=4) hO3 rfl)).mono ?_;rintro e w' ⟨rfl,rfl⟩;exact ⟨rfl,qe,aU (j:=7) hO3 rfl,FrN.below M _ hb3,hi3⟩
theorem lK:∀ (t:T) (L:Nat),Tr.Good t L->L<=64->Fine t->nD t
 | .nil,_,_,_,_=>Xn
 | .stub r,_,_,_,_=>Ua r
 | .leaf q v,L,g,hL,f=>AB _ (λh=>h) (λe=>by cases e) g hL f (λ_ _ e=>by cases e) (λ_ e=>by cases e)
 | .ext q s,L,g,hL,f=>AB _ (λh=>h) (λe=>by cases e) g hL f (λq' s' e=>by
   injection e with _ e;subst e;exact lK s _ g.2.2.2.2 (by have:=g.2.2.1; omega) f) (λ_ e=>by cases e)
 | .br ks,L,g,hL,f=>AB _ (λh=>h) (λe=>by cases e) g hL f (λ_ _ e=>by cases e) (λks' e i=>by
   injection e with e;subst e;exact lK (ks i) _ (g.2.2 i) (by omega) (f i))
open Ky
theorem Inv.after {M:Mp} {n:Nat} {w w':World} (h:Inv M w) (f:FrN M n w w') (g:dX M n w'):Inv M w' :=
 ⟨λk hk=>aH (h.lt_ k hk) f.size,λb t hm=>by
  have:=((h.toN (sz t+1)).after f g).part_ b t hm;exact ⟨this.1,this.2.1,this.2.2.2 (Nat.lt_succ_self _)⟩⟩
def rR (M:Mp) (w:World) (s:aK) (e:Ending) (w':World):Prop:=e = .returned (.string s)/\Fr M M w w'/\Inv M w'/\Tab w'
theorem sI (M:Mp) (p:aJ) (t:T) (L:Nat) (g:Tr.Good t L) (hL:L<=64) (f:Fine t) (w:World) (hi:Inv M w) (ht:IsT M p t) (hT:Tab w) :
  Calls prog 19 #[tv p] w (rR M w (jS t)):=by
 by_cases hn:dG t=0\/dG t = -1
 .have he:jS t=eB:=by
   cases t with
   | nil=>rfl
   | stub r=>rfl
   | leaf q v=>rcases hn with h | h <;> exact absurd h (by show ¬ ((_:Int)=_); simp [dG])
   | ext q s=>rcases hn with h | h <;> exact absurd h (by show ¬ ((_:Int)=_); simp [dG])
   | br ks=>rcases hn with h | h <;> exact absurd h (by show ¬ ((_:Int)=_); simp [dG])
  rw [he];refine (RV p (dG t) (by omega) (by omega) (by omega) w (λwx hbx=>dJ M p t wx (hi.below hbx) ht)).mono ?_;rintro e w' ⟨rfl,hb⟩;exact ⟨rfl,Fr.below M hb,hi.below hb,hT.below hb hT.pos⟩
 .have hs:¬ eX t:=λh=>by
   cases t with
   | stub r=>exact hn (Or.inr rfl)
   | _=>exact h.elim
  have hne:t ≠ .nil:=λe=>hn (Or.inl (by rw [e]; rfl));obtain ⟨b,rfl,hm⟩:=ht.at_ hne;obtain ⟨pa,pn,pc,ka,kn,kc,hB⟩:=(hi.part hm).body;refine (Mw M b t hm hs hne g hL f w (hi.toN _) hB hT (λq s e=>by
   subst e;exact lK s _ g.2.2.2.2 (by have:=g.2.2.1; omega) f) (λks e i=>by
   subst e;exact lK (ks i) _ (g.2.2 i) (by omega) (f i))).mono ?_
  rintro e w' ⟨rfl,hf,hi'⟩;exact ⟨rfl,hf.fr,hi.after hf hi',xD (hi.toN _) hf hT⟩
theorem tZ (M:Mp) (p:aJ) (t:T) (L:Nat) (g:Tr.Good t L) (hL:L<=64) (f:Fine t) (w:World) (hi:Inv M w) (ht:IsT M p t) (hT:Tab w) :
  Calls prog 28 #[tv p] w (rR M w (ref t)):=by
 refine (lK t L g hL f M w p (hi.toN _) ht hT).mono ?_;rintro e w' ⟨rfl,hf,hi'⟩;exact ⟨rfl,hf.fr,hi.after hf hi',xD (hi.toN _) hf hT⟩
theorem Bj (ps:List (aJ)) (a:aJ) (n cap:Nat) (w:World) (h:jD w a n cap ps) (hn:n<=1000000) :
  Calls prog 80 #[.slice a n cap,.func (Fn.func 7) #[] #[]] w λe w'=>∃ r:Int,e = .returned (.int .i64 r)/\Below w.heap.size w w'/\
   ((r = -1/\∀ p∈ps,p.isNone=false)\/∃ i:Nat,r=i/\i<n/\ps.getD i none=none/\∀ p∈ps.take i,p.isNone=false):=by
 have hm:=h.2.1;have hnc:=h.1;have hl:=h.2.2.1;unfold maxLen at hm;have H:=hid h;have HL:=hid hl;clear h hl;go_enter func80,ntmps80;go_wp2;go_loopw [8] (λi wr=>∃ j:Nat,j<=n/\i = .int .i64 j/\Hid (∀ p∈ps.take j,p.isNone=false)/\Hid (Below w.heap.size w wr)) (λi _=>n-(intOf i).toNat)
 case atStart=>exact ⟨0,Nat.zero_le _,rfl,hid (λp hp=>by simp at hp),hid aG⟩
 case round =>
  obtain ⟨j,hj,rfl,HJ,HB⟩:=hrel;by_cases hlt:j<n
  .obtain ⟨b,off,rfl,hblt,hc⟩:=H.out.2.2.2.2 j hlt;have hji:(j:Int)<n:=by omega
   have hc':=(Below.cell (p:=⟨b,off+j,none⟩) HB.out hblt).trans hc;have HS:Hid (ps.take (j+1)=ps.take j++[ps.getD j none]):=hid (by
    have hj':j<ps.length:=by rw [HL.out]; exact hlt
    have e:ps.getD j none=ps[j]:=by simp [List.getD,hj']
    rw [e,List.take_succ_eq_append_getElem hj'])
   obtain ⟨p,hp⟩:=av (ps.getD j none)
   rw [hp] at hc' HS;have HE:=hid (iJ p wr);have HP:=hid hp;clear hp hc;go_wp2_with (refine ay (aT hc' ⟨_,rfl,rfl⟩) ?_)
   refine HE.out.mono ?_;rintro e w5 ⟨rfl,hb5⟩;have ae:=hid (bst HB.out hb5);clear hb5 HE HB hc';cases hf:p.isNone with
   | false =>
    have FF:Hid (∀ q∈ps.take (j+1),q.isNone=false):=hid (λq hq=>by
     rw [HS.out,List.mem_append,List.mem_singleton] at hq;rcases hq with hq | rfl
     .exact HJ.out q hq
     .exact hf)
    clear hf;go_wp2;go_roundw
    case rel=>exact ⟨j+1,by omega,by go_num,FF,ae⟩
    case measure=>simp [intOf]; omega
   | true =>
    have hpn:p=none:=by simpa using hf
    clear hf;go_wp2;go_ret;exact ⟨(j:Int),rfl,ae.out,Or.inr ⟨j,rfl,hlt,by rw [HP.out]; exact hpn,HJ.out⟩⟩
  .obtain rfl:j=n:=by omega
   have HF:Hid (∀ p∈ps,p.isNone=false):=hid (by have:=HJ.out; rwa [List.take_of_length_le (by rw [HL.out]; exact aF)] at this);go_wp2;go_ret;exact ⟨-1,rfl,HB.out,Or.inl ⟨rfl,HF.out⟩⟩
def lQ (ps:List (aJ)):List (aJ):=ps.filter λp=>!p.isNone
theorem yO (l:List (aJ)) (p:aJ):lQ (l++[p])=lQ l++if p.isNone then [] else [p]:=by
 unfold lQ;rw [List.filter_append];cases p <;> rfl
theorem IY {l:List (aJ)} (h:∀ p∈l,p.isNone=false):lQ l=l:=List.filter_eq_self.2 λp hp=>by rw [h p hp]; rfl
theorem uR {w1 w2:World} {b:Nat} (h:Rg.Upd w b w1) (g:Rg.Upd w1 b w2):Rg.Upd w b w2:=⟨g.os.trans h.os,g.tape.trans h.tape,g.output.trans h.output,g.size.trans h.size,λk hk=>(g.block k hk).trans (h.block k hk)⟩
theorem GI (w:World) (b:Nat):Rg.Upd w b w:=⟨rfl,rfl,rfl,rfl,λ_ _=>rfl⟩
theorem xu {b:Nat} {t:TypeId}:∀ (vs:List Value) (o:Nat) (w:World) (cs:aM),Rg.Own w b cs t->∃ cs',Rg.Own (w.setCells b o vs) b cs' t/\cs'.size=cs.size/\∀ j,j<o->cs'[j]? = cs[j]?
 | [],_,_,cs,h=>⟨cs,h,rfl,λ_ _=>rfl⟩
 | v::r,o,w,cs,h=>by
  obtain ⟨cs',h1,h2,h3⟩:=xu r (o+1) _ _ (dS (o:=o) h v);refine ⟨cs',h1,by simpa using h2,λj hj=>?_⟩;rw [h3 j (by omega),Array.getElem?_setIfInBounds_ne (by omega)]
theorem xA (b:Nat):∀ (vs:List Value) (o:Nat) (w:World),Rg.Upd w b (w.setCells b o vs)
 | [],_,w=>GI w b
 | v::r,o,w=>uR (bW w b o v) (xA b r (o+1) _)
theorem QW (w:World):(zeroValue (prog.elem 57)).run prog w = .ok (.agg #[.pointer none]) w:=by kernel_rfl
theorem Kw (n:Nat):(Builtin.zeroCells #[Value.pointer none] n).toList=List.replicate n (Value.pointer none):=by
 simp [Builtin.zeroCells];apply List.ext_getElem
 .simp
 .intro i h1 h2;simp [Nat.mod_one]
theorem AL (ty:TypeId) {n:Nat} (hO:Rg.Own w g cur 31) (hs:cur.size=cap) (hi:i<=n) (hn:n<=cap) :
  ∃ w',(Builtin.clear_ #[57] ty #[.slice (bZ (some ⟨g,0,none⟩) cap i) (n-i) (cap-i)]).run prog w = .ok (.tuple #[]) w'/\Rg.Upd w g w'/\∃ cur',Rg.Own w' g cur' 31/\cur'.size=cap/\∀ j,j<i->cur'[j]? = cur[j]? := by
 by_cases hz:n-i=0
 .refine ⟨w,?_,GI w g,cur,hO,hs,λ_ _=>rfl⟩;rw [hz];cases bZ (some ⟨g,0,none⟩) cap i <;> simp [Builtin.clear_,run_underlying ni]
 .have hf:bZ (some ⟨g,0,none⟩) cap i=some ⟨g,i,none⟩:=by
   unfold bZ;rw [if_neg (by omega)];simp [Addr.add_mid]
  obtain ⟨cs',h1,h2,h3⟩:=xu (List.replicate (n-i) (Value.pointer none)) i w cur hO;refine ⟨_,?_,xA g (List.replicate (n-i) (Value.pointer none)) i w,cs',h1,by rw [h2,hs],h3⟩;rw [hf];have hst:=run_storeCells_cells (P:=prog) g i (List.replicate (n-i) (Value.pointer none)) 0 w (λj hj=>by
   have hj':j<n-i:=by simpa using hj
   rw [Nat.add_zero,cell_of_row w g _ _ _ _ hO.2,Array.getElem?_eq_getElem (by omega)];rfl) (λj hj=>jm hO) (by intro v hv'; rw [List.eq_of_mem_replicate hv']; rfl)
  simp only [Nat.add_zero] at hst;obtain ⟨m,hm⟩:∃ m,n-i=m+1:=⟨n-i-1,by omega⟩
  rw [hm] at hst ⊢;simp [Builtin.clear_,run_underlying ni,QW,Kw,Value.cells,hst]
theorem PY {rest:List Oper} {a:Act} {n:Nat} (hgd:o.guard=none)
  (ho:∃ s,o.op = .call { callee:=.builtin .clear,args:=#[s],argTypes:=#[57] }/\a.eval s = .slice (bZ (some ⟨g,0,none⟩) cap i) (n-i) (cap-i)) (hd:o.dst=none)
  (hO:Rg.Own w g cur 31) (hs:cur.size=cap) (hi:i<=n) (hn:n<=cap)
  (H:∀ w' cur',Rg.Own w' g cur' 31->cur'.size=cap->(∀ j,j<i->cur'[j]? = cur[j]?)->Rg.Upd w g w'->wpList prog ops Q rest a w'):wpList prog ops Q (o::rest) a w:=by
 obtain ⟨s,ho,hx⟩:=ho;refine wpList_plain hgd λK hK=>?_;obtain ⟨w',hr,hu,cur',h1,h2,h3⟩:=AL o.type hO hs hi hn;unfold Oper.wp execOp;simp only [ho,resolve,invoke,builtin,Sem.run_bind,Sem.run_pure,Result.andThen_ok,List.map_toArray,List.map_cons,List.map_nil,hx,hr];refine hK _ _ ?_;rw [show a.put o.dst (.tuple #[])=a by rw [hd]; rfl];exact H w' cur' h1 h2 h3 hu
theorem RowK.cell {qs:List (aJ)} (h:RowK w g cap qs) (hj:j<qs.length):w.cell? ⟨g,j,none⟩=some (.pointer (qs.getD j none)):=by
 obtain ⟨cur,hO,hs,hl,hm,hc⟩:=h;rw [cell_of_row w g _ _ _ _ hO.2];exact hc j hj
theorem RowK.cut {k:Nat} {qs:List (aJ)} (h:RowK w g cap qs) (hO:Rg.Own w g cur 31) (hk:k<=qs.length) (xl:Rg.Own w' g cur' 31) (hs:cur'.size=cap) (he:∀ j,j<k->cur'[j]? = cur[j]?):RowK w' g cap (qs.take k):=by
 obtain ⟨qi,aE,hs0,hl,hm,hc⟩:=h;have e:qi=cur:=by
  have:=aE.2.symm.trans hO.2;injection this with this;injection this
 subst e;refine ⟨cur',xl,hs,by rw [List.length_take]; omega,hm,λj hj=>?_⟩;have hjk:j<k:=by rw [List.length_take] at hj; omega
 have hjq:j<qs.length:=by omega
 rw [he j hjk,hc j hjq];simp [List.getD,hjk]
theorem RowK.own {qs:List (aJ)} (h:RowK w g cap qs):∃ cur,Rg.Own w g cur 31/\cur.size=cap/\qs.length<=cap/\cap<=maxLen:=by
 obtain ⟨qi,aE,hs0,hl,hm,hc⟩:=h;exact ⟨qi,aE,hs0,hl,hm⟩
theorem PS {qs ps:List (aJ)} (h:qs.drop j=ps.drop j):qs.getD j none=ps.getD j none/\qs.drop (j+1)=ps.drop (j+1):=by
 constructor
 .have:=congrArg (λl=>l[0]?) h;simp only [List.getElem?_drop,Nat.add_zero] at this;rw [List.getD_eq_getElem?_getD,List.getD_eq_getElem?_getD,this]
 .have:=congrArg (λl=>l.drop 1) h;simpa [List.drop_drop] using this
theorem Dk {qs:List (aJ)} {k:Nat} (hk:k<qs.length) (p:aJ):(qs.set k p).take (k+1)=qs.take k++[p]:=by
 rw [List.take_succ_eq_append_getElem (by simpa using hk),List.getElem_set_self,List.take_set_of_le (Nat.le_refl k)]
theorem Em {ps:List (aJ)} (h:j<ps.length):ps.take (j+1)=ps.take j++[ps.getD j none]:=by
 have e:ps.getD j none=ps[j]:=by simp [List.getD,h]
 rw [e,List.take_succ_eq_append_getElem h]
def ZL (w:World) (g cap:Nat) (ps:List (aJ)) (e:Ending) (w':World):Prop:=e = .returned (.slice (some ⟨g,0,none⟩) (lQ ps).length cap)/\RowK w' g cap (lQ ps)/\Bo g w w'
theorem GL (ps:List (aJ)) (g cap:Nat) (w:World) (h:RowK w g cap ps) (hn:ps.length<=1000000) :
  Calls prog 45 #[.slice (some ⟨g,0,none⟩) ps.length cap,.func (Fn.func 7) #[] #[]] w (ZL w g cap ps):=by
 obtain ⟨qi,aE,hs0,hlc,hm⟩:=h.own;unfold maxLen at hm;obtain ⟨n,hnl⟩:=av ps.length
 rw [hnl] at hn hlc;have HL:=hid hnl;have HX:=hid (Bj ps (some ⟨g,0,none⟩) ps.length cap w h.ptrs (by omega));rw [hnl] at HX ⊢;have HR:=hid h;have hgl:=h.lt;clear h aE hs0 hnl;go_enter func45,ntmps45;go_wp2_with fail
 refine HX.out.mono ?_;rintro e w1 ⟨r,rfl,hb1,hr⟩;have HB1:Hid (Bo g w w1):=hid (Bo.of hb1);have HR1:=hid (HR.out.below hb1);clear hb1 HX HR;rcases hr with ⟨rfl,hall⟩ | ⟨i,rfl,hi,hnone,hall⟩
 .have HK:=hid (IY hall);clear hall;go_wp2;go_ret;exact ⟨by rw [HK.out,HL.out]; rfl,(by rw [HK.out]; exact HR1.out),HB1.out⟩
 .have hne:decide ((i:Int) = -1)=false:=decide_eq_false (by omega);have hne2:((i:Int) == -1)=false:=by simp
  have HK:Hid (ps.take i=lQ (ps.take (i+1))):=hid (by
   rw [Em (by rw [HL.out]; exact hi),hnone,yO,IY hall];exact (List.append_nil _).symm)
  clear hall hnone;go_wp2_with fail
  go_loopw [5,6] (λvi vj wr=>∃ (k j:Nat) (qs:List (aJ)),vi = .int .i64 k/\vj = .int .i64 j/\k<=j/\j<=n/\qs.length=n/\Hid (RowK wr g cap qs)/\Hid (qs.take k=lQ (ps.take j))/\Hid (qs.drop j=ps.drop j)/\Hid (Bo g w wr)) (λ_ vj _=>n-(intOf vj).toNat)
  case atStart=>exact ⟨i,i+1,ps,rfl,by go_num,by omega,by omega,HL.out,HR1,HK,hid rfl,HB1⟩
  case round =>
   obtain ⟨k,j,qs,rfl,rfl,hkj,hj,Mn,kx,ky,im,HB⟩:=hrel;clear HK HR1 HB1;have hgr:g<wr.heap.size:=kx.out.lt;by_cases hlt:j<n
   .have hji:(j:Int)<n:=by omega
    have hki:(k:Int)<n:=by omega
    have hdd:=PS im.out;have hc:=kx.out.cell (j:=j) (by omega);rw [hdd.1] at hc;have CC:=hid hdd.2;have HS:=hid (Em (ps:=ps) (j:=j) (by rw [HL.out]; exact hlt));obtain ⟨p,hp⟩:=av (ps.getD j none)
    rw [hp] at hc HS;have hNew:=Rg.Own.new wr #[.pointer none] 31;have HN:=hid hNew;clear hdd hp hNew;go_wp2_with (first
     | (refine ay (aT hc ⟨_,rfl,rfl⟩) ?_)
     | (refine ay (aW _ _ _ wr.heap.size rfl rfl) ?_)
     | (refine aZ HN.out (by decide) p rfl _ _ rfl rfl rfl ?_; intro w5 b8 ax; have bz:=hid b8; have ae:Hid (Below wr.heap.size wr w5):=hid (ax.below (al1 _ _) aF); clear b8 ax)
     | (refine ay (aT (aU (j:=0) bz.out rfl) ⟨_,rfl,rfl⟩) ?_))
    refine (iJ p w5).mono ?_;rintro e w6 ⟨rfl,hb6⟩;have cq:Hid (Below wr.heap.size wr w6):=hid (bst ae.out hb6);have cS:=hid (bz.out.below hb6);have lw:=hid (kx.out.below cq.out);have y9:Hid (Bo g w w6):=hid (HB.out.then cq.out);clear hb6 ae bz hc HN;cases hf:p.isNone with
    | true =>
     have yb:Hid (qs.take k=lQ (ps.take (j+1))):=hid (by rw [HS.out,yO,hf,ky.out]; simp);clear hf;go_wp2_with fail
     go_roundw
     case rel=>exact ⟨k,j+1,qs,rfl,by go_num,by omega,by omega,Mn,lw,yb,CC,y9⟩
     case measure=>simp [intOf]; omega
    | false =>
     have yb:Hid ((qs.set k p).take (k+1)=lQ (ps.take (j+1))):=hid (by rw [HS.out,yO,hf,Dk (by omega),ky.out]; simp);have HD2:Hid ((qs.set k p).drop (j+1)=ps.drop (j+1)):=hid (by rw [List.drop_set_of_lt (by omega)]; exact CC.out);clear hf;go_wp2_with (first
      | (refine ay (aT (aU (j:=0) cS.out rfl) ⟨_,rfl,rfl⟩) ?_)
      | (refine uZ lw.out (i:=k) (by omega) p rfl _ _ rfl rfl rfl ?_; intro w7 iu ed; have sm:=hid iu; have FG:Hid (Bo g w w7):=hid (y9.out.upd ed); clear iu ed))
     go_roundw
     case rel=>exact ⟨k+1,j+1,qs.set k p,by go_num,by go_num,by omega,by omega,by simpa using Mn,sm,yb,HD2,FG⟩
     case measure=>simp [intOf]; omega
   .obtain rfl:j=n:=by omega
    have hT:=ky.out;rw [List.take_of_length_le (l:=ps) (by rw [HL.out]; exact aF)] at hT;have hkl:(lQ ps).length=k:=by rw [<-hT,List.length_take]; omega
    have HE:=hid hT;have cH:=hid hkl;obtain ⟨cur,hO,hs,_,_⟩:=kx.out.own;have HO:=hid hO;have qk:=hid (λ(w':World) (cur':aM) (h1:Rg.Own w' g cur' 31) (h2:cur'.size=cap) (h3:∀ j,j<k->cur'[j]? = cur[j]?)=>kx.out.cut hO (by omega) h1 h2 h3);clear hT hkl hO ky im kx;go_wp2_with (first
     | (refine ay (jI (a:=some ⟨g,0,none⟩) (n:=j) (c:=cap) (i:=k) ni yA hkj ⟨_,_,rfl,rfl,rfl⟩) ?_)
     | (refine ay (Aq (a:=some ⟨g,0,none⟩) (n:=j) (c:=cap) (j:=k) ni yA (by omega) ⟨_,_,rfl,rfl,rfl⟩) ?_)
     | (refine PY (i:=k) (n:=j) rfl ⟨_,rfl,rfl⟩ rfl HO.out hs hkj hlc ?_; intro w8 FO il FS bo kw; have yd:=hid (qk.out w8 FO il FS bo); have G0:Hid (Bo g w w8):=hid (HB.out.upd kw); clear il FS bo kw))
    go_ret;exact ⟨by rw [cH.out]; rfl,(by rw [<-HE.out]; exact yd.out),G0.out⟩
def wK (B:Nat) (w:World) (v:Value) (ps:List (aJ)):Prop:=(v = .slice none 0 0/\ps=[])\/∃ g cap,v = .slice (some ⟨g,0,none⟩) ps.length cap/\B<=g/\RowK w g cap ps
theorem wK.ptrs {B:Nat} {w:World} {v:Value} {ps:List (aJ)} (h:wK B w v ps):∃ a c,v = .slice a ps.length c/\jD w a ps.length c ps/\∀ ad,a=some ad->B<=ad.block:=by
 rcases h with ⟨rfl,rfl⟩ | ⟨g,cap,rfl,hB,hR⟩
 .exact ⟨none,0,rfl,⟨aF,Nat.zero_le _,rfl,λ_=>rfl,λ_ h=>absurd h (Nat.not_lt_zero _)⟩,λ_ e=>by cases e⟩
 .exact ⟨_,cap,rfl,hR.ptrs,λad e=>by cases e; exact hB⟩
theorem uL (a:aJ) (n cap:Nat) (ps:List (aJ)) (w:World) (h:jD w a n cap ps) (hn:n<=1000000) :
  Calls prog 46 #[.slice a n cap] w λe w'=>∃ v,e = .returned v/\wK w.heap.size w' v ps/\Below w.heap.size w w':=by
 cases a with
 | none =>
  have hc:cap=0:=h.2.2.2.1 rfl;have h1:=h.1;obtain rfl:n=0:=by omega
  subst hc;have hp:ps=[]:=List.eq_nil_of_length_eq_zero h.2.2.1;refine (Lf w).mono ?_;rintro e w' ⟨rfl,rfl⟩;exact ⟨_,rfl,Or.inl ⟨rfl,hp⟩,aG⟩
 | some ad =>
  refine (BA ad n cap ps w h hn).mono ?_;rintro e w' ⟨g,c,rfl,hg,hR,hb⟩;exact ⟨_,rfl,Or.inr ⟨g,c,rfl,hg,hR⟩,hb⟩
theorem Gw (w:World):Calls prog 45 #[.slice none 0 0,.func (Fn.func 7) #[] #[]] w λe w'=>e = .returned (.slice none 0 0)/\Below w.heap.size w w':=by
 have HX:=hid (Bj [] none 0 0 w ⟨aF,Nat.zero_le _,rfl,λ_=>rfl,λ_ h=>absurd h (Nat.not_lt_zero _)⟩ (by omega));go_enter func45,ntmps45;go_wp2_with fail
 refine HX.out.mono ?_;rintro e w1 ⟨r,rfl,hb1,hr⟩;rcases hr with ⟨rfl,_⟩ | ⟨i,rfl,hi,_⟩
 .have HB1:=hid hb1;clear hb1;go_wp2;go_ret;exact ⟨rfl,HB1.out⟩
 .omega
theorem KO (ps:List (aJ)) (v:Value) (w:World) (h:wK B w v ps) (hB:B<=w.heap.size) (hn:ps.length<=1000000) :
  Calls prog 45 #[v,.func (Fn.func 7) #[] #[]] w λe w'=>∃ v',e = .returned v'/\wK B w' v' (lQ ps)/\Below B w w':=by
 rcases h with ⟨rfl,rfl⟩ | ⟨g,cap,rfl,hg,hR⟩
 .refine (Gw w).mono ?_;rintro e w' ⟨rfl,hb⟩;exact ⟨_,rfl,Or.inl ⟨rfl,rfl⟩,hb.mono hB⟩
 .refine (GL ps g cap w hR hn).mono ?_;rintro e w' ⟨rfl,hR',T5⟩;exact ⟨_,rfl,Or.inr ⟨g,cap,rfl,hg,hR'⟩,T5.below aG hB hg⟩
theorem jD.upd {n:Nat} {ps:List (aJ)} (h:jD w a n c ps) (hu:Rg.Upd w g w') (hne:∀ ad,a=some ad->ad.block≠g):jD w' a n c ps:=by
 refine ⟨h.1,h.2.1,h.2.2.1,h.2.2.2.1,λj hj=>?_⟩;obtain ⟨b,off,e,hlt,hc⟩:=h.2.2.2.2 j hj;exact ⟨b,off,e,by rw [hu.size]; exact hlt,by rw [World.cell?_of_block (hu.block b (hne _ e))]; exact hc⟩
theorem Are.nil (M:Mp):Are M [] []:=⟨rfl,λ_ h=>absurd h (Nat.not_lt_zero _)⟩
theorem Io {M:Mp} {p:aJ} {t:T} {ps:List (aJ)} {l:List T}:Are M (p::ps) (t::l)↔IsT M p t/\Are M ps l:=by
 constructor
 .rintro ⟨h1,h2⟩;refine ⟨h2 0 (by simp),by simpa using h1,λj hj=>?_⟩;have:=h2 (j+1) (by simpa using hj);simpa using this
 .rintro ⟨h1,h2,h3⟩;refine ⟨by simp [h2],λj hj=>?_⟩;cases j with
  | zero=>exact h1
  | succ j =>
   have:=h3 j (by simpa using hj);simpa using this
theorem Are.keep {M:Mp}:∀ {ps:List (aJ)} {l:List T},Are M ps l->Are M (lQ ps) (l.filter λt=>!isNil t)
 | [],[],_=>Are.nil M
 | [],_::_,h=>absurd h.1 (by simp)
 | _::_,[],h=>absurd h.1 (by simp)
 | p::ps,t::l,h=>by
  obtain ⟨h1,h2⟩:=Io.1 h;have ih:=Are.keep h2;have hn:=h1.qR;cases p with
  | none =>
   obtain rfl:t = .nil:=hn.1 rfl;exact ih
  | some ad =>
   have ht:isNil t=false:=by
    cases t with
    | nil=>exact absurd (hn.2 rfl) (by simp)
    | _=>rfl
   have e1:lQ (some ad::ps)=some ad::lQ ps:=rfl;rw [e1,List.filter_cons_of_pos (by rw [ht]; rfl)];exact Io.2 ⟨h1,ih⟩
theorem Mi {t:T} {L:Nat} (g:Tr.Good t L):(fH t).filter (λt=>!isNil t)=bC t:=by
 cases t with
 | nil=>rfl
 | leaf q v=>rfl
 | stub r=>rfl
 | ext q s =>
  have hs:isNil s=false:=by
   have:=g.2.2.2.1;cases s with
   | nil=>exact absurd rfl (pQ this)
   | _=>rfl
  show List.filter _ [s]=[s]
  rw [List.filter_cons_of_pos (by rw [hs]; rfl)];rfl
 | br ks =>
  show List.filter _ ((List.finRange 16).map ks)=(eH ks).map ks;rw [List.filter_map];rfl
def TP (M:Mp) (w:World) (t:T) (e:Ending) (w':World):Prop:=∃ a n c ka kc ps,e = .returned (.tuple #[.agg (ndC (bM t) a n c),.slice ka ps.length kc])/\BsF w.heap.size w' a n c (bM t).p/\jD w' ka ps.length kc ps/\Are M ps (bC t)/\
 (∀ ad,ka=some ad->w.heap.size<=ad.block)/\Fr M M w w'/\Inv M w'/\Tab w'
def zf (M:Mp) (w:World) (t:T) (e:Ending) (w':World):Prop:=∃ a n c ka kc ps,e = .returned (.tuple #[.agg (ndC (bM t) a n c),.slice ka ps.length kc])/\wK w.heap.size w' (.slice ka ps.length kc) ps/\BsF w.heap.size w' a n c (bM t).p/\jD w' ka ps.length kc ps/\Are M ps (bC t)/\
 (∀ ad,ka=some ad->w.heap.size<=ad.block)/\Fr M M w w'/\Inv M w'/\Tab w'
theorem zf.p {M:Mp} {t:T} {e:Ending} (h:zf M w t e w'):TP M w t e w':=by
 obtain ⟨a,n,c,ka,kc,ps,he,_,hr⟩:=h;exact ⟨a,n,c,ka,kc,ps,he,hr⟩
theorem wK.late {B':Nat} {ps:List (aJ)} (h:wK B w v ps) (hB:B'<=B) (hu:Rg.Upd w g w') (hg:g<B):wK B' w' v ps:=by
 rcases h with h | ⟨k,cap,e,hk,hR⟩
 .exact .inl h
 .exact .inr ⟨k,cap,e,Nat.le_trans hB hk,hR.upd hu (by omega)⟩
theorem SC (M:Mp) (w:World) (hi:Inv M w) (hT:Tab w):Calls prog 22 #[tv none] w (zf M w .nil):=by
 obtain ⟨w2,hw2,aE,ag,hb2,hs2⟩:=yu w none;have HE:=hid (iJ none w2);have HO:=hid aE;have bc:=hid ag;have HB:=hid hb2;have HI:=hid hi;have HT:=hid hT;clear aE ag hb2 hi hT;subst hw2;have hgo:Calls prog 22 #[.agg #[.pointer none]] w (zf M w .nil):=by
  go_enter func22,ntmps22;go_wp2_with (first
   | (refine ay (aX _ _ _ (w.heap.size+1) (by simp) rfl) ?_)
   | (refine ay (aT (aU (j:=0) HO.out rfl) ⟨_,rfl,rfl⟩) ?_))
  refine HE.out.mono ?_;rintro e w3 ⟨rfl,hb3⟩;have HB3:=hid (bst HB.out hb3);have am:=hid (bc.out.below hb3);clear hb3 HE;go_wp2_with (first
   | (refine ay (bK rP ?_) ?_; · exact ⟨_,rfl,rfl⟩)
   | (refine bG am.out rfl nd0 none 0 0 rfl rfl _ _ rfl rfl rfl rfl ?_))
  have cA:=hid (bU HB3.out (show w.heap.size<=w.heap.size+1 by omega) (ndC nd0 none 0 0));exact bodyPost_ret (fA (p:=2) (u:=3) rfl _ rfl (dD am.out) rfl) rfl ⟨none,0,0,none,0,[],rfl,.inl ⟨rfl,rfl⟩,BsF.nil _ _,⟨aF,Nat.zero_le _,rfl,λ_=>rfl,λ_ h=>absurd h (Nat.not_lt_zero _)⟩,Are.nil M,λ_ e=>(by cases e),Fr.below M cA.out,HI.out.below cA.out,HT.out.below cA.out HT.out.pos⟩
 exact hgo
theorem Xf (M:Mp) (b:Nat) (t:T) (hm:M.at_ b=some t) (hn:t ≠ .nil) {L:Nat} (g:Tr.Good t L) (hL:L<=64) (w:World) (hi:dX M (sz t) w) {pa:aJ} {pn pc:Nat} {ka:aJ} {kn kc:Nat} (hB:Body M w b t pa pn pc ka kn kc) (hT:Tab w)
  (pL:∀ q s,t = .ext q s->nD s) (hR2:∀ ks,t = .br ks->∀ i,nD (ks i)) :
  Calls prog 41 #[.agg #[.pointer (some ⟨b,0,none⟩)]] w (nP M t w):=by
 by_cases hs:eX t
 .obtain ⟨r,rfl⟩:∃ r,t = .stub r:=by
   cases t with
   | stub r=>exact ⟨r,rfl⟩
   | _=>exact hs.elim
  refine (Ig (some ⟨b,0,none⟩) (-1) (by decide) (by decide) (by decide) w (λwx hbx=>nX b (-1) wx (aV hbx hB.c0))).mono ?_;rintro e w' ⟨rfl,hb⟩;exact ⟨none,0,0,rfl,BsF.nil _ _,FrN.below M _ hb,hi.below hb⟩
 .exact Nn M b t hm hs hn g hL w hi hB hT pL hR2
theorem sw (M:Mp) (p:aJ) (t:T) (L:Nat) (g:Tr.Good t L) (hL:L<=64) (f:Fine t) (w:World) (hi:Inv M w) (ht:IsT M p t) (hT:Tab w) :
  Calls prog 22 #[tv p] w (zf M w t):=by
 by_cases hne:t = .nil
 .subst hne;have:p=none:=ht.qR.2 rfl;subst this;exact SC M w hi hT
 obtain ⟨b,rfl,hm⟩:=ht.at_ hne;obtain ⟨pa,pn,pc,ka,kn,kc,hB⟩:=(hi.part hm).body;obtain ⟨w2,hw2,aE,ag,hb2,hs2⟩:=yu w (some ⟨b,0,none⟩);have hlb:=hi.lt hm;have hB2:=hB.below hb2;have hi2:=hi.below hb2;have kp:=hT.below hb2 hT.pos;have hkn:kn<=16:=by
  rw [<-hB.hk.len];cases t with
  | br ks=>rw [show fH (.br ks)=(List.finRange 16).map ks from rfl]; simp
  | ext q s=>show 1<=16; omega
  | _=>exact Nat.zero_le _
 have HE:Hid (∀ w3,Below w2.heap.size w2 w3->(w3.cell? ⟨w.heap.size,0,none⟩=some (.pointer (some ⟨b,0,none⟩))/\w3.cell? ⟨b,3,none⟩=some (.slice ka kn kc))/\
   Calls prog 41 #[.agg #[.pointer (some ⟨b,0,none⟩)]] w3.drew (nP M t w3.drew)/\
   ∀ w6 a6 n6 c6,BsF w3.heap.size w6 a6 n6 c6 (bM t).p->FrN M (sz t) w3.drew w6->dX M (sz t) w6->(w6.cell? ⟨w.heap.size,0,none⟩=some (.pointer (some ⟨b,0,none⟩))/\w6.cell? ⟨b,3,none⟩=some (.slice ka kn kc))/\
   ∃ ps,(Calls prog 46 #[.slice ka kn kc] w6 λe w'=>∃ v,e = .returned v/\wK w6.heap.size w' v ps/\Below w6.heap.size w6 w')/\
   ∀ w7 v7,wK w6.heap.size w7 v7 ps->Below w6.heap.size w6 w7->(w7.cell? ⟨w.heap.size,0,none⟩=some (.pointer (some ⟨b,0,none⟩))/\w7.cell? ⟨b,3,none⟩=some (.slice ka kn kc))/\
   (Calls prog 45 #[v7,.func (Fn.func 7) #[] #[]] w7 λe w'=>∃ v',e = .returned v'/\wK w6.heap.size w' v' (lQ ps)/\Below w6.heap.size w7 w')/\
   ∀ w8 v8,wK w6.heap.size w8 v8 (lQ ps)->Below w6.heap.size w7 w8->(w8.cell? ⟨w.heap.size,0,none⟩=some (.pointer (some ⟨b,0,none⟩))/\w8.cell? ⟨b,3,none⟩=some (.slice ka kn kc))/\dQ w8 (w.heap.size+1) nd0 none 0 0/\
   ∀ w9,Rg.Upd w8 (w.heap.size+1) w9->(w9.cell? ⟨w.heap.size,0,none⟩=some (.pointer (some ⟨b,0,none⟩))/\w9.cell? ⟨b,3,none⟩=some (.slice ka kn kc))/\zf M w t (.returned (.tuple #[.agg (ndC (bM t) a6 n6 c6),v8])) w9):=hid (λw3 hb3=>by
  have eR:Below w2.heap.size w2 w3.drew:=below_drewN hb3 1;have hi3:=hi2.below eR;have hB3:=hB2.below eR;have ye:=aE.below eR;have G4:=ag.below eR;have lm:=kp.below eR kp.pos;have hg0:M.at_ w.heap.size=none:=hi.out aF;have hg1:M.at_ (w.heap.size+1)=none:=hi.out (by omega);have hs3:=eR.size;refine ⟨⟨aU (j:=0) ye rfl,hB3.c3⟩,Xf M b t hm hne g hL w3.drew (hi3.toN _) hB3 lm (λq s e=>by
   subst e;exact lK s _ g.2.2.2.2 (by have:=g.2.2.1; omega) f) (λks e i=>by
   subst e;exact lK (ks i) _ (g.2.2 i) (by omega) (f i)),λw6 a6 n6 c6 vt ec mS=>?_⟩
  have sR:=zY ye ec hg0;have yf:=zY G4 ec hg1;have da:=hB3.frN (hi3.toN (sz t)) ec hm aF;have pM:=hi3.after ec mS;have mc:=xD (hi3.toN (sz t)) ec lm;obtain ⟨ps,hps,har⟩:=da.hk.ptrs;have hpl:ps.length=kn:=hps.2.2.1;have hs6:=ec.size;refine ⟨⟨aU (j:=0) sR rfl,da.c3⟩,ps,uL ka kn kc ps w6 hps (by omega),λw7 v7 hv7 cP=>?_⟩;have G5:=sR.below cP;have G6:=aV cP da.c3;refine ⟨⟨aU (j:=0) G5 rfl,G6⟩,KO ps v7 w7 hv7 cP.size (by omega),λw8 v8 yh cJ=>?_⟩;have j0:Below w6.heap.size w6 w8:=cP.trans cJ;have yi:=sR.below j0
  have yk:=yf.below j0;have hc38:=aV j0 da.c3;refine ⟨⟨aU (j:=0) yi rfl,hc38⟩,yk,λw9 aq=>?_⟩;have hne1:w.heap.size≠w.heap.size+1:=by omega
  have gi:=pM.below j0;have hnf:¬ M.ft (w.heap.size+1):=hi.free (by omega);have hrow:=yh;obtain ⟨k8,T6,rfl,T7,Mo⟩:=yh.ptrs;have FS:=j0.size;have Z8:w.heap.size+1<w6.heap.size:=yf.1;have vu:=mc.below j0 mc.pos;have sT:∀ ad,k8=some ad->ad.block≠w.heap.size+1:=λad e=>by have:=Mo ad e; omega
  refine ⟨⟨aU (j:=0) (yi.upd aq hne1) rfl,by rw [World.cell?_of_block (aq.block b (by omega))]; exact hc38⟩,a6,n6,c6,k8,T6,lQ ps,rfl,hrow.late (by omega) aq (by omega),⟨sN (vt.1.below j0) (eG yk (Jv _ _ _ _)) aq,λad e=>Nat.le_trans (Nat.le_trans hb2.size hb3.size) (vt.2 ad e)⟩,T7.upd aq sT,by rw [<-Mi g]; exact har.keep,λad e=>by have:=Mo ad e; omega,?_,gi.upd aq hnf,λi hi=>by rw [World.cell?_of_block (aq.block 0 (by have:=hT.pos; omega))]; exact vu i hi⟩
  exact ((((Fr.below M hb2).trans hi (Fr.below M eR)).trans hi ec.fr).trans hi (Fr.below M j0)).upd aq (by omega))
 have HL:=hid (dP t);obtain ⟨N,hN⟩:=av (bM t)
 rw [hN] at HL HE;have HN:=hid hN;have xT:=hid aE;have Mu:=hid (iJ (some ⟨b,0,none⟩) w2);have HW:Hid (_=_):=hid hw2;clear aE ag hb2 hB hB2 hi2 kp hi hT hm hN g f hne ht hkn hw2;have hgo:Calls prog 22 #[.agg #[.pointer (some ⟨b,0,none⟩)]] w (zf M w t):=by
  have sX:=xT;rw [HW.out] at sX;go_enter func22,ntmps22;go_wp2_with (first
   | (refine ay (aX _ _ _ (w.heap.size+1) (by simp) rfl) ?_)
   | (refine ay (aT (aU (j:=0) sX.out rfl) ⟨_,rfl,rfl⟩) ?_))
  rw [<-HW.out];refine Mu.out.mono ?_;rintro e w3 ⟨rfl,hb3⟩;obtain ⟨hS0,sY,HF⟩:=HE.out w3 hb3;replace sY:=hid sY;replace HF:=hid HF;clear hb3 HE HW xT sX Mu;go_wp2_with fail
  refine aB (S:=λw'=>w'.cell? ⟨w.heap.size,0,none⟩=some (.pointer (some ⟨b,0,none⟩))/\w'.cell? ⟨b,3,none⟩=some (.slice ka kn kc)) (hS0) λhld=>?_;refine ah 0 ?_ (hy:=by intro wz hSw; (refine aT hSw.1 ?_; exact ⟨_,rfl,rfl⟩));try simp only [Act.put,ak]
  refine ah 2 ?_;try simp only [Act.put,ak]
  refine ah 3 ?_ (hy:=by intro wz hSw; (obtain ⟨hcc,hcd⟩:=hSw; go_simp <;> with_reducible rfl));try simp only [Act.put,ak]
  refine ah 4 ?_;try simp only [Act.put,ak]
  refine ah 5 ?_;try simp only [Act.put,ak]
  refine ah 6 ?_ (hy:=by intro wz hSw; (obtain ⟨hcc,hcd⟩:=hSw; go_simp <;> with_reducible rfl));try simp only [Act.put,ak]
  refine aj 1 λK hK=>?_;go_simp;go_at_call 41
  (with_reducible refine sY.out.mono ?_)
  rintro e w6 ⟨a6,n6,c6,rfl,vt,ec,mS⟩;rw [HN.out] at vt ⊢;obtain ⟨o0,hH6⟩:=HF.out w6 a6 n6 c6 vt ec mS;have H6:=hid hH6;clear vt ec mS hH6;refine hK.out _ _ (o0) λhld=>?_;clear hK K;try simp only [Act.put,ak]
  refine aj 7 λK hK=>?_;go_simp;go_at_call 46
  obtain ⟨ps,My,hD7⟩:=H6.out;have HD7:=hid hD7
  (with_reducible refine My.mono ?_)
  rintro e w7 ⟨v7,rfl,hv7,cP⟩;obtain ⟨mT,yl,CT⟩:=HD7.out w7 v7 hv7 cP;have H7:=hid CT;have T8:=hid yl;clear hv7 cP yl CT hD7 My;refine hK.out _ _ (mT) λhld=>?_;clear hK K;try simp only [Act.put,ak]
  refine aj 8 λK hK=>?_;go_simp;go_at_call 45
  (with_reducible refine T8.out.mono ?_)
  rintro e w8 ⟨v8,rfl,yh,cJ⟩;obtain ⟨j1,il,Mz⟩:=H7.out w8 v8 yh cJ;have H8:=hid Mz;have lv:=hid il;clear yh cJ Mz il;refine hK.out _ _ (j1) λhld=>?_;clear hK K;try simp only [Act.put,ak]
  refine aj 9 λK hK=>?_;refine Rg.meetStore (by rfl) lv.out 56 (ndC N a6 n6 c6) ⟨_,_,rfl,rfl,rfl⟩ (lD _ _ _ _ HL.out) (by rw [eU _ _ _ _ jA,eU _ _ _ _ HL.out]) (qg _ _ _ _) ?_;intro w9 al aq;have bi:=hid al;obtain ⟨t7,MA⟩:=H8.out w9 aq;have H9:=hid MA;clear al aq MA;refine hK.out _ _ (t7) λhld=>?_;clear hK K;try simp only [Act.put,ak]
  refine ah 10 ?_;try simp only [Act.put,ak]
  refine aA ?_;go_wp2;exact bodyPost_ret (fA (p:=2) (u:=3) rfl _ rfl bi.out HL.out) rfl H9.out
 exact hgo
theorem open_row (M:Mp) (p:aJ) (t:T) (L:Nat) (g:Tr.Good t L) (hL:L<=64) (f:Fine t) (_:¬ eX t) (w:World) (hi:Inv M w) (ht:IsT M p t) (hT:Tab w) :
  Calls prog 22 #[tv p] w (zf M w t):=sw M p t L g hL f w hi ht hT
theorem Tt (M:Mp) (p:aJ) (t:T) (L:Nat) (g:Tr.Good t L) (hL:L<=64) (f:Fine t) (hs:¬ eX t) (w:World) (hi:Inv M w) (ht:IsT M p t) (hT:Tab w) :
  Calls prog 22 #[tv p] w (TP M w t):=(open_row M p t L g hL f hs w hi ht hT).mono λ_ _ h=>h.p
end Tm
end
section
open Go.RowKit
namespace Tm
open Tr Ni Pk
theorem PE (M:Mp) (b:Nat) (t:T) (hm:M.at_ b=some t) (k:Nat) (A:T) (hkl:k<(bV t).length) (me:(bV t).length<=1000) (hn:Nib (bV t)) (w:World) (hi:Inv M w)
  (hcut:∀ wx M',Inv M' wx->M'.at_ b=some t->Calls prog 159 #[.agg #[.pointer (some ⟨b,0,none⟩)],.int .i64 (k+1:Nat)] wx (dB M' wx A))
  (wa:aJ) (wn wc:Nat) (way:Pa) (v:aK) (hW:Bs M w wa wn wc way) (ym:k<way.length) (hwn:Nib way) (hw64:way.length<=1000) (hne:(bV t).getD k 0≠way.getD k 0) :
  Calls prog 129 #[.agg #[.pointer (some ⟨b,0,none⟩)],.int .i64 k,.slice wa wn wc,.string v] w (dB M w (wrap (way.take k) (two (nb ((bV t).getD k 0)) (nb (way.getD k 0)) A (.leaf (way.drop (k+1)) v)))):=by
 obtain ⟨w2,hw2,aE,ag,hb2,hs2⟩:=nG w (some ⟨b,0,none⟩);have hi2:=hi.below hb2;have hS2:St M w M w2:=⟨Fr.below M hb2,hi2,hb2,hi⟩
 have hX2:Bx M w2 (w.heap.size+1) #[.pointer none] 31:=⟨ag,hi.free (by omega),bX _⟩
 obtain ⟨pa,pn,pc,c1,hP⟩:=hi2.path hm;have hpn:(bV t).length=pn:=hP.1.len;have hwl:way.length=wn:=hW.1.len;rw [hpn] at hkl me;rw [hwl] at ym hw64;obtain ⟨pb,po,rfl,_,cx⟩:=hP.1.at' k hkl;have hW2:=hW.fr hi (Fr.below M hb2);obtain ⟨wb,wo,rfl,_,cy⟩:=hW2.1.at' k ym;have hx:((bV t).getD k 0).toNat<16:=by
  have:=hn ((bV t).getD k 0) (by rw [List.getD_eq_getElem?_getD,List.getElem?_eq_getElem (by omega)]; exact List.getElem_mem _);exact this
 have hy:(way.getD k 0).toNat<16:=by
  have:=hwn (way.getD k 0) (by rw [List.getD_eq_getElem?_getD,List.getElem?_eq_getElem (by omega)]; exact List.getElem_mem _);exact this
 have hnx:((nb ((bV t).getD k 0)).val:Nat)=((bV t).getD k 0).toNat:=Nat.mod_eq_of_lt hx;have hny:((nb (way.getD k 0)).val:Nat)=(way.getD k 0).toNat:=Nat.mod_eq_of_lt hy;have hnn:nb ((bV t).getD k 0)≠nb (way.getD k 0):=λe=>hne (tQ hx hy e);obtain ⟨X,hX⟩:=av (nb ((bV t).getD k 0))
 obtain ⟨Y,hY⟩:=av (nb (way.getD k 0))
 rw [hX] at hnx hnn ⊢;rw [hY] at hny hnn ⊢;obtain ⟨x,hxe⟩:=av (((bV t).getD k 0).toNat)
 obtain ⟨y,hye⟩:=av ((way.getD k 0).toNat)
 rw [hxe] at hx cx hnx;rw [hye] at hy cy hny;obtain ⟨w3,hw3⟩:=au (w2.alloc (.cells (oV uV) 31))
 have hb3:Below w2.heap.size w2 w3:=by rw [hw3]; exact al1 _ _
 have G7:Rx M w3 w2.heap.size uV:=⟨by rw [hw3]; exact Rg.Own.new _ _ _,hi2.free aF,by rw [qj]; simp [maxLen]⟩
 have hxi:(x:Int)<16:=by omega
 have hyi:(y:Int)<16:=by omega
 have lx:=hP.1.1;have hpm:=hP.1.2.1;have ly:=hW.1.1;have qn:=hW.1.2.1;unfold maxLen at hpm qn;have HAdd:Hid (IntKind.i64.wrap ((k:Int)+1)=((k+1:Nat):Int)):=hid (by simp only [IntKind.wrap_i64,wrap64]; omega);have G8:Hid (∀ wx,Below w2.heap.size w2 wx->Calls prog 159 #[.agg #[.pointer (some ⟨b,0,none⟩)],.int .i64 ((k:Int)+1)] wx (dB M wx A)):=hid (λwx hb=>hcut wx M (hi2.below hb) hm);obtain ⟨g,hg⟩:=av w2.heap.size
 rw [hg] at G7;have qq:Hid (∀ wx e w4,Below w3.heap.size w3 wx->Below w2.heap.size w2 wx->dB M wx A e w4->∃ p4 M4,e = .returned (tv p4)/\Below w2.heap.size w2 w4/\Rx M4 w4 g uV/\
   ∀ w5,Rx M4 w5 g (uV.set x p4)->Rg.Upd w4 g w5->Below w2.heap.size w2 w5/\Calls prog 96 #[.slice (bZ (some ⟨wb,wo,none⟩) wc (k+1)) (wn-(k+1)) (wc-(k+1)),.string v] w5.drew (dB M4 w5.drew (.leaf (way.drop (k+1)) v))/\
   ∀ e w6,dB M4 w5.drew (.leaf (way.drop (k+1)) v) e w6->∃ p6 M6,e = .returned (tv p6)/\Below w2.heap.size w2 w6/\Rx M6 w6 g (uV.set x p4)/\
   ∀ w7,Rx M6 w7 g ((uV.set x p4).set y p6)->Rg.Upd w6 g w7->∃ M7,Below w2.heap.size w2 w7/\Calls prog 128 #[.slice (some ⟨g,0,none⟩) 16 16] w7.drew (dB M7 w7.drew (two X Y A (.leaf (way.drop (k+1)) v)))/\
   ∀ e w8,dB M7 w7.drew (two X Y A (.leaf (way.drop (k+1)) v)) e w8->∃ p8 M8,e = .returned (tv p8)/\Below w2.heap.size w2 w8/\Calls prog 130 #[.slice (some ⟨wb,wo,none⟩) k wc,.agg #[.pointer p8]] w8 (dB M8 w8 (wrap (way.take k) (two X Y A (.leaf (way.drop (k+1)) v))))/\
   ∀ e w9,dB M8 w8 (wrap (way.take k) (two X Y A (.leaf (way.drop (k+1)) v))) e w9->∃ p9,e = .returned (tv p9)/\Below w2.heap.size w2 w9/\Rg.Own w9 (w.heap.size+1) #[.pointer none] 31/\
   ∀ ai,Rg.Upd w9 (w.heap.size+1) ai->Below w.heap.size w ai/\dB M w (wrap (way.take k) (two X Y A (.leaf (way.drop (k+1)) v))) (.returned (tv p9)) ai):=hid (by
  intro wx e w4 h3x h2x hG;have hsx:St M w M wx:=hS2.below h2x;obtain ⟨p4,M4,rfl,D0,T9,sq,hb4⟩:=hsx.got hG;have MD:=(G7.below h3x).got sq hb4;have n9:=(hX2.below h2x).got sq hb4;have mf:=bst h2x hb4;refine ⟨p4,M4,rfl,mf,MD,λw5 ej ax=>?_⟩;have hlo:w.heap.size<=g:=by omega
  have hS5:St M w M4 w5:=T9.upd ax hlo MD.n;have ml:=n9.upd ax (by omega);have yo:=ax.below mf (by omega);have Z9:Bs M4 w5 (some ⟨wb,wo,none⟩) wn wc way:=hW.fr hi hS5.f;have t8:=hS5.below (below_drewN aG 1);refine ⟨yo,oG M4 _ _ _ _ _ _ t8.i (hW.fr hi t8.f |>.from' (k+1) (by omega)),λe w6 Tb=>?_⟩;obtain ⟨p6,M6,rfl,mc,o0,ec,hb6⟩:=t8.got Tb;have ME:=(ej.below (below_drewN aG 1)).got ec hb6;have Th:=(ml.below (below_drewN aG 1)).got ec hb6;have yp:Below w2.heap.size w2 w6:=bst (yo.drew) hb6
  refine ⟨p6,M6,rfl,yp,ME,λw7 iu ed=>?_⟩;have mT:St M w M6 w7:=o0.upd ed hlo ME.n;have Tl:=Th.upd ed (by omega);have yq:=ed.below yp (by omega);have yr:=(mT.below (below_drewN aG 1)).plus (S:=λk=>k=g) (λk hk=>⟨Or.inl (by omega),by rw [hk]; exact iu.o.1⟩);have nv:Are M6 ((uV.set x p4).set y p6) (((List.replicate 16 T.nil).set x A).set y (.leaf (way.drop (k+1)) v)):=((Sw M6).set x (D0.mono ec.mono)).set y mc;rw [<-hnx,<-hny,WH X Y _ _ hnn] at nv;have MM:=(iu.below (below_drewN aG 1)).ks (by rw [<-hnx,<-hny]; exact nv)
  have hlen:((uV.set x p4).set y p6).length=16:=by simp [qj]
  rw [hlen] at MM;have G9:=(Tl.below (below_drewN (Below.refl w7.heap.size w7) 1)).plus (S:=λk=>k=g) (by omega);refine ⟨_,yq,kF _ _ _ _ _ _ yr.i MM,λe w8 To=>?_⟩;obtain ⟨p8,M8,rfl,vu,j1,Ts,cJ⟩:=yr.got To;have Tu:=G9.got Ts cJ;have yv:Below w2.heap.size w2 w8:=bst (yq.drew) cJ;refine ⟨p8,M8,rfl,yv,vQ M8 _ _ _ _ _ _ w8 j1.i ((hW.fr hi j1.f).upto k (by omega)) vu,λe w9 yy=>?_⟩;obtain ⟨p9,M9,rfl,yz,t7,yW,bj⟩:=j1.got yy;have rB:=Tu.got yW bj;refine ⟨p9,rfl,bst yv bj,rB.o,λai hu=>?_⟩;have dj:=t7.upd hu (by omega) rB.n
  exact ⟨dj.b,p9,M9,rfl,yz,dj.f,dj.i,dj.b⟩)
 have h0:=aU (j:=0) aE rfl;have hkp:k<pn:=hkl;have hkc:k<=wc:=by omega
 have Ge:k+1<=wn:=by omega
 have HB3:=hid hb3;obtain ⟨RR,hRR⟩:=av (wrap (way.take k) (two X Y A (.leaf (way.drop (k+1)) v)))
 rw [hRR] at qq ⊢;have F7:w2.heap.size=w.heap.size+2:=hs2;have z3:=aE;clear aE ag hb2 hs2 hi hi2 hP hW hW2 hS2 hX2 hcut hm hn hwn hne hnx hny hnn hX hY hxe hye G7 hb3 hRR hpn hwl;obtain rfl:g=w.heap.size+2:=by omega
 have Gk:=hid (λe w4 (h:Below w2.heap.size w2 w3.drew)=>qq.out w3.drew e w4 (below_drewN aG 1) h);have HW2:Hid (_=_):=hid hw2;have HW3:Hid (_=_):=hid hw3;have dm:Hid (Rg.Own w2 w.heap.size #[.pointer (some ⟨b,0,none⟩)] 31):=hid z3;clear qq hw2 hw3 z3;go_enter func129,ntmps129;go_wp2_with (first
  | (refine ay (aW _ _ _ (w.heap.size+1) (by simp) rfl) ?_)
  | (refine ay (DW (w.heap.size+2) (by simp) ⟨_,_,rfl,rfl,rfl⟩) ?_))
 rw [<-HW2.out,<-HW3.out];refine aB (S:=λw'=>Below w2.heap.size w2 w') (HB3.out.drew) λhld=>?_;refine ah 0 ?_;try simp only [Act.put,ak]
 refine ah 1 ?_;try simp only [Act.put,ak]
 refine aC 2 (λwz hSw=>aV hSw h0) ?_;try simp only [Act.put,ak]
 refine ah 3 ?_;try simp only [Act.put,ak]
 refine ah 4 ?_;try simp only [Act.put,ak]
 refine aC 5 (λwz hSw=>aV hSw c1) ?_;try simp only [Act.put,ak]
 refine ah 6 ?_;try simp only [Act.put,ak]
 refine ah 7 ?_;try simp only [Act.put,ak]
 refine aC 8 (λwz hSw=>aV hSw cx) ?_;try simp only [Act.put,ak]
 refine ah 9 ?_ (hy:=by intro wz hSw; (refine aT (aV hSw h0) ?_; exact ⟨_,rfl,rfl⟩));try simp only [Act.put,ak]
 refine ah 10 ?_;try simp only [Act.put,ak]
 refine ah 11 ?_ (hy:=by intro wz hSw; (have q0:=HAdd.out; go_simp <;> with_reducible rfl));try simp only [Act.put,ak]
 refine aj 12 λK hK=>?_;go_simp;go_at_call 159
 (with_reducible refine (G8.out _ hld).mono ?_)
 intro e w4 hG;obtain ⟨p4,M4,rfl,H4⟩:=Gk.out e w4 hld hG;replace H4:=hid H4;clear hG;have hB4:=H4.out.1;refine hK.out _ _ (hB4) λhld=>?_;clear hK K;try simp only [Act.put,ak]
 refine ah 13 ?_;try simp only [Act.put,ak]
 refine aj 14 λK hK=>?_;refine vB (by rfl) H4.out.2.1 (i:=x) (by simpa [qj] using hx) p4 ⟨_,_,rfl,rfl,rfl⟩ ?_;intro w5 ej ax;have H5:=hid (H4.out.2.2 w5 ej ax);clear ej ax;refine hK.out _ _ (H5.out.1) λhld=>?_;clear hK K;try simp only [Act.put,ak]
 refine aA ?_;go_wp2_with fail
 refine aB (S:=λw'=>Below w2.heap.size w2 w') (H5.out.1.drew) λhld=>?_;refine ah 0 ?_;try simp only [Act.put,ak]
 refine ah 1 ?_;try simp only [Act.put,ak]
 refine ah 2 ?_;try simp only [Act.put,ak]
 refine ah 3 ?_;try simp only [Act.put,ak]
 refine aC 4 (λwz hSw=>aV hSw cy) ?_;try simp only [Act.put,ak]
 refine ah 5 ?_;try simp only [Act.put,ak]
 refine ah 6 ?_;try simp only [Act.put,ak]
 refine ah 7 ?_ (hy:=by intro wz hSw; (have q0:=HAdd.out; go_simp <;> with_reducible rfl));try simp only [Act.put,ak]
 refine ah 8 ?_ (hy:=by intro wz hSw; (refine jI (a:=some ⟨wb,wo,none⟩) (n:=wn) (c:=wc) (i:=k+1) gY jf Ge ?_; exact ⟨_,_,rfl,rfl,rfl⟩));try simp only [Act.put,ak]
 refine ah 9 ?_;try simp only [Act.put,ak]
 refine aj 10 λK hK=>?_;go_simp;go_at_call 96
 (with_reducible refine (H5.out.2.1).mono ?_)
 intro e w6 hG;obtain ⟨p6,M6,rfl,H6⟩:=H5.out.2.2 e w6 hG;replace H6:=hid H6;clear hG;have da:=H6.out.1;refine hK.out _ _ (da) λhld=>?_;clear hK K;try simp only [Act.put,ak]
 refine ah 11 ?_;try simp only [Act.put,ak]
 refine aj 12 λK hK=>?_;refine vB (by rfl) H6.out.2.1 (i:=y) (by simpa [qj] using hy) p6 ⟨_,_,rfl,rfl,rfl⟩ ?_;intro w7 iu ed;obtain ⟨M7,H7⟩:=H6.out.2.2 w7 iu ed;replace H7:=hid H7;clear iu ed;refine hK.out _ _ (H7.out.1) λhld=>?_;clear hK K;try simp only [Act.put,ak]
 refine aA ?_;go_wp2_with fail
 refine aB (S:=λ_=>True) (trivial) λhld=>?_;refine ah 0 ?_;try simp only [Act.put,ak]
 refine ah 1 ?_;try simp only [Act.put,ak]
 refine ah 2 ?_ (hy:=by intro wz hSw; (refine Aq (a:=some ⟨wb,wo,none⟩) (n:=wn) (c:=wc) (j:=k) gY jf hkc ?_; exact ⟨_,_,rfl,rfl,rfl⟩));try simp only [Act.put,ak]
 refine ah 3 ?_;try simp only [Act.put,ak]
 refine aj 4 λK hK=>?_;go_simp;go_at_call 128
 (with_reducible refine (H7.out.2.1).mono ?_)
 intro e w8 hG;obtain ⟨p8,M8,rfl,H8⟩:=H7.out.2.2 e w8 hG;replace H8:=hid H8;clear hG;have Zs:=H8.out.1;refine hK.out _ _ ?_ (λhld=>?_)
 .trivial
 clear hK K;try simp only [Act.put,ak]
 refine aj 5 λK hK=>?_;go_simp;go_at_call 130
 (with_reducible refine (H8.out.2.1).mono ?_)
 intro e w9 hG;obtain ⟨p9,rfl,H9⟩:=H8.out.2.2 e w9 hG;replace H9:=hid H9;clear hG;have vx:=H9.out.1;refine hK.out _ _ ?_ (λhld=>?_)
 .trivial
 clear hK K;try simp only [Act.put,ak]
 refine aj 6 λK hK=>?_;refine aY (by rfl) H9.out.2.1 (off:=0) (by decide) p9 ⟨_,_,rfl,rfl,rfl⟩ ?_;intro ai aw az;have cF:=hid aw;have iv:=hid (H9.out.2.2 ai az);clear aw az;refine hK.out _ _ ?_ (λhld=>?_)
 .trivial
 clear hK K;try simp only [Act.put,ak]
 refine aA ?_;go_wp2;exact bodyPost_ret (eu rfl _ rfl cF.out) rfl iv.out.2
theorem parted {q p:Pa} (hl:q.length<=p.length) (h:¬ q<+:p):cp q p<q.length/\q.getD (cp q p) 0≠p.getD (cp q p) 0:=by
 refine ⟨xX h,?_⟩;have h2:¬ p<+:q:=λg=>h (by rw [g.eq_of_length (Nat.le_antisymm g.length_le hl)]; exact List.prefix_rfl);obtain ⟨s,a,b,q',p',e1,e2,hab,hc⟩:=qH q p h h2;rw [hc,e1,e2];have hg:∀ (x:UInt8) (r:Pa),(s++x::r).getD s.length 0=x:=λx r=>by simp [List.getD]
 rw [hg,hg];exact hab
structure Ahead (M:Mp) (w w2:World) (b:Nat) (t:T) (pa:aJ) (pn pc:Nat):Prop where
 b2:Below w.heap.size w w2
 i2:Inv M w2
 x2:Bx M w2 (w.heap.size+1) #[.pointer none] 31
 c0:w2.cell? ⟨w.heap.size,0,none⟩=some (.pointer (some ⟨b,0,none⟩))
 c1:w2.cell? ⟨b,1,none⟩=some (.slice pa pn pc)
 p:Bs M w2 pa pn pc (bV t)
theorem ahead (M:Mp) (b:Nat) (t:T) (hm:M.at_ b=some t) (w:World) (hi:Inv M w):∃ w2 pa pn pc,w2=(w.alloc (.cells #[.pointer (some ⟨b,0,none⟩)] 31)).alloc (.cells #[.pointer none] 31)/\Ahead M w w2 b t pa pn pc/\w2.heap.size=w.heap.size+2:=by
 obtain ⟨w2,hw2,aE,ag,hb2,hs2⟩:=nG w (some ⟨b,0,none⟩);have hi2:=hi.below hb2;obtain ⟨pa,pn,pc,c1,hP⟩:=hi2.path hm;exact ⟨w2,pa,pn,pc,hw2,⟨hb2,hi2,⟨ag,hi.free (by omega),bX _⟩,aU (j:=0) aE rfl,c1,hP⟩,hs2⟩
theorem zK (M:Mp) (b:Nat) (t:T) (hm:M.at_ b=some (t)) (w:World) (hi:Inv M w) (wa:aJ) (wn wc:Nat) (way:Pa) (v:aK) (hW:Bs M w wa wn wc way) (hw64:way.length<=64) (hle:(bV (t)).length<=way.length) (h:¬ bV t<+:way) (hn:Nib (bV t)) (hwn:Nib way) (A:T)
  (hcut:∀ wx M',Inv M' wx->M'.at_ b=some t->Calls prog 159 #[.agg #[.pointer (some ⟨b,0,none⟩)],.int .i64 (cp (bV t) way+1:Nat)] wx (dB M' wx A)) :
  Calls prog 95 #[.agg #[.pointer (some ⟨b,0,none⟩)],.slice wa wn wc,.string v] w (dB M w (wrap (way.take (cp (bV t) way)) (two (nb ((bV t).getD (cp (bV t) way) 0)) (nb (way.getD (cp (bV t) way) 0)) A (.leaf (way.drop (cp (bV t) way+1)) v)))):=by
 obtain ⟨w2,pa,pn,pc,hw2,hA,hs2⟩:=ahead M b _ hm w hi;have hpn:=hA.p.1.len;have hwl:way.length=wn:=hW.1.len;have lx:=hA.p.1.1;have hpm:=hA.p.1.2.1;have ly:=hW.1.1;have qn:=hW.1.2.1;unfold maxLen at hpm qn;obtain ⟨hk1,hk2⟩:=parted hle h;have gj:=hid (qB pa wa pn wn pc wc (bV t) way (by omega) (by omega) (by omega) w2 hA.p.1 (mI hi hW.1 (Fr.below M hA.b2)));obtain ⟨R,hR⟩:=av (wrap (way.take (cp (bV t) way)) (two (nb ((bV t).getD (cp (bV t) way) 0)) (nb (way.getD (cp (bV t) way) 0)) A (.leaf (way.drop (cp (bV t) way+1)) v)))
 rw [hR];have HS:Hid (∀ w3,Below w2.heap.size w2 w3->w3.cell? ⟨w.heap.size,0,none⟩=some (.pointer (some ⟨b,0,none⟩))/\Calls prog 129 #[.agg #[.pointer (some ⟨b,0,none⟩)],.int .i64 (cp (bV t) way:Nat),.slice wa wn wc,.string v] w3 (dB M w3 R)/\
   ∀ e w9,dB M w3 R e w9->∃ p,e = .returned (tv p)/\Rg.Own w9 (w.heap.size+1) #[.pointer none] 31/\∀ ai,Rg.Upd w9 (w.heap.size+1) ai->dB M w R (.returned (tv p)) ai):=hid (λw3 hb3 =>
  ⟨aV hb3 hA.c0,by rw [<-hR]; exact PE M b t hm (cp (bV t) way) A hk1 (by omega) hn w3 (hA.i2.below hb3) hcut wa wn wc way v (hW.fr hi (Fr.below M (bst hA.b2 hb3))) (by omega) hwn (by omega) hk2,
   λe w9 hG=>finish hi (Fr.below M (bst hA.b2 hb3)) (bst hA.b2 hb3) hG (hA.x2.o.below hb3) (bX _) (by omega) hA.x2.n⟩)
 have hlt:decide (((cp (bV t) way:Nat):Int)<(pn:Int))=true:=by simp; omega
 obtain ⟨k,hk⟩:=av (cp (bV t) way)
 rw [hk] at gj HS hlt;have hlt2:(k:Int)<(pn:Int):=by have:=of_decide_eq_true hlt; exact this
 have hlt3:k<pn:=by omega
 have h0:=hA.c0;have c1:=hA.c1;clear hR hk hA hW hi hm hle h hn hwn hcut hk1 hk2 hpn hwl;subst hw2;go_enter func95,ntmps95;go_wp2_with (refine ay (aW _ _ _ (w.heap.size+1) (by simp) rfl) ?_)
 refine gj.out.mono ?_;rintro e w3 ⟨rfl,hb3⟩;obtain ⟨d0,HC,HF⟩:=HS.out w3 hb3;replace HC:=hid HC;replace HF:=hid HF;clear hb3 HS gj h0 c1;go_wp2_with (refine ay (aT d0 ⟨_,rfl,rfl⟩) ?_)
 refine HC.out.mono ?_;intro e w9 hG;obtain ⟨p9,rfl,al,hE⟩:=HF.out e w9 hG;have bi:=hid al;have HE:=hid hE;clear hG al hE;go_wp2_with (refine aZ bi.out (by decide) p9 rfl _ _ rfl rfl rfl ?_; intro ai aw az; have cF:=hid aw; have eK:=hid az; clear aw az)
 exact bodyPost_ret (eu rfl _ rfl cF.out) rfl (HE.out ai eK.out)
theorem KX (M:Mp) (b:Nat) (u:aK) (q:Pa) (hm:M.at_ b=some (.leaf q u)) (w:World) (hi:Inv M w) (wa:aJ) (wn wc:Nat) (way:Pa) (v:aK) (hW:Bs M w wa wn wc way) (hw64:way.length<=64) (hle:(bV (.leaf q u)).length<=way.length) (h:q=way) :
  Calls prog 95 #[.agg #[.pointer (some ⟨b,0,none⟩)],.slice wa wn wc,.string v] w (dB M w (.leaf q v)):=by
 obtain ⟨w2,pa,pn,pc,hw2,hA,hs2⟩:=ahead M b _ hm w hi;have hpn:=hA.p.1.len;have hwl:way.length=wn:=hW.1.len;have lx:=hA.p.1.1;have hpm:=hA.p.1.2.1;have ly:=hW.1.1;have qn:=hW.1.2.1;unfold maxLen at hpm qn;have eo:q.length=pn:=hpn;subst h;obtain rfl:pn=wn:=by omega
 have gj:=hid (qB pa wa pn pn pc wc q q (by omega) (by omega) (by omega) w2 hA.p.1 (mI hi hW.1 (Fr.below M hA.b2)));rw [xZ (List.prefix_rfl),eo] at gj;have HS:Hid (∀ w3,Below w2.heap.size w2 w3->w3.cell? ⟨w.heap.size,0,none⟩=some (.pointer (some ⟨b,0,none⟩))/\Calls prog 53 #[.agg #[.pointer (some ⟨b,0,none⟩)]] w3 (λe w'=>e = .returned (.int .i64 1)/\Below w3.heap.size w3 w')/\
   ∀ w4,Below w3.heap.size w3 w4->Calls prog 96 #[.slice pa pn pc,.string v] w4 (dB M w4 (.leaf q v))/\
   ∀ e w9,dB M w4 (.leaf q v) e w9->∃ p,e = .returned (tv p)/\Rg.Own w9 (w.heap.size+1) #[.pointer none] 31/\∀ ai,Rg.Upd w9 (w.heap.size+1) ai->dB M w (.leaf q v) (.returned (tv p)) ai):=hid (λw3 hb3 =>
  ⟨aV hb3 hA.c0,dJ M _ _ w3 (hA.i2.below hb3) (kE (hA.i2.below hb3) hm),λw4 hb4=>⟨oG M _ _ _ _ _ w4 (hA.i2.below (bst hb3 hb4)) (hA.p.fr hA.i2 (Fr.below M (bst hb3 hb4))),
   λe w9 hG=>finish hi (Fr.below M (bst hA.b2 (bst hb3 hb4))) (bst hA.b2 (bst hb3 hb4)) hG (hA.x2.o.below (bst hb3 hb4)) (bX _) (by omega) hA.x2.n⟩⟩)
 have hlt:decide ((pn:Int)<(pn:Int))=false:=by simp
 have h0:=hA.c0;have c1:=hA.c1;clear hA hW hi hm hle hpn eo hwl;subst hw2;go_enter func95,ntmps95;go_wp2_with (refine ay (aW _ _ _ (w.heap.size+1) (by simp) rfl) ?_)
 refine gj.out.mono ?_;rintro e w3 ⟨rfl,hb3⟩;obtain ⟨d0,HK,H4⟩:=HS.out w3 hb3;replace HK:=hid HK;replace H4:=hid H4;clear hb3 HS gj h0 c1;go_wp2_with (refine ay (aT d0 ⟨_,rfl,rfl⟩) ?_)
 refine HK.out.mono ?_;rintro e w4 ⟨rfl,hb4⟩;obtain ⟨HC,HF⟩:=H4.out w4 hb4;replace HC:=hid HC;replace HF:=hid HF;clear hb4 H4 HK;go_wp2_with fail
 refine HC.out.mono ?_;intro e w9 hG;obtain ⟨p9,rfl,al,hE⟩:=HF.out e w9 hG;have bi:=hid al;have HE:=hid hE;clear hG al hE;go_wp2_with (refine aZ bi.out (by decide) p9 rfl _ _ rfl rfl rfl ?_; intro ai aw az; have cF:=hid aw; have eK:=hid az; clear aw az)
 exact bodyPost_ret (eu rfl _ rfl cF.out) rfl (HE.out ai eK.out)
theorem Py (M:Mp) (b:Nat) (q:Pa) (s:T) (hm:M.at_ b=some (.ext q s)) (w:World) (hi:Inv M w) (wa:aJ) (wn wc:Nat) (way:Pa) (v:aK) (hW:Bs M w wa wn wc way) (hw64:way.length<=64) (hle:(bV (.ext q s)).length<=way.length) (h:q<+:way) (hq:q≠[]) (hg:Tr.get s (way.drop q.length)≠none)
  (hS:∀ M' w' p a n c,Inv M' w'->IsT M' p s->Bs M' w' a n c (way.drop q.length)->Calls prog 58 #[.agg #[.pointer p],.slice a n c,.string v] w' (dB M' w' (put s (way.drop q.length) v))) :
  Calls prog 95 #[.agg #[.pointer (some ⟨b,0,none⟩)],.slice wa wn wc,.string v] w (dB M w (.ext q (put s (way.drop q.length) v))):=by
 obtain ⟨w2,pa,pn,pc,hw2,hA,hs2⟩:=ahead M b _ hm w hi;have hpn:=hA.p.1.len;have hwl:way.length=wn:=hW.1.len;have lx:=hA.p.1.1;have hpm:=hA.p.1.2.1;have ly:=hW.1.1;have qn:=hW.1.2.1;unfold maxLen at hpm qn;have eo:q.length=pn:=hpn;have gj:=hid (qB pa wa pn wn pc wc q way (by omega) (by omega) (by omega) w2 hA.p.1 (mI hi hW.1 (Fr.below M hA.b2)));rw [xZ h,eo] at gj;have hpw:pn<=wn:=by rw [<-eo,<-hwl]; exact hle
 rw [eo] at hS ⊢;obtain ⟨ka,kn,kc,c3,hK⟩:=hA.i2.kids hm;obtain ⟨kb,ko,p0,rfl,cI,fg,hk0,hT0⟩:=hK.at' 0 (by rw [<-hK.len]; exact Nat.one_pos);have hkn:kn=1:=hK.len.symm;have hkc:=hK.1;have hkm:=hK.2.1;unfold maxLen at hkm;rw [Nat.add_zero] at hk0;have cz:IsT M p0 s:=hT0;have hbl:=hi.lt hm;have nF:=hi.lt_ kb fg
 have HS:Hid (∀ w3,Below w2.heap.size w2 w3->w3.cell? ⟨w.heap.size,0,none⟩=some (.pointer (some ⟨b,0,none⟩))/\Calls prog 53 #[.agg #[.pointer (some ⟨b,0,none⟩)]] w3 (λe w'=>e = .returned (.int .i64 2)/\Below w3.heap.size w3 w')/\
   ∀ w4,Below w3.heap.size w3 w4->(w4.cell? ⟨w.heap.size,0,none⟩=some (.pointer (some ⟨b,0,none⟩))/\w4.cell? ⟨b,3,none⟩=some (.slice (some ⟨kb,ko,none⟩) kn kc)/\w4.cell? ⟨kb,ko,none⟩=some (.pointer p0))/\
   (∀ wx,Below w4.heap.size w4 wx->Calls prog 58 #[.agg #[.pointer p0],.slice (bZ wa wc pn) (wn-pn) (wc-pn),.string v] wx (dB M wx (put s (way.drop pn) v)))/\∀ wx,Below w4.heap.size w4 wx->∀ e w5,dB M wx (put s (way.drop pn) v) e w5->∃ p5 M5,e = .returned (tv p5)/\Below w4.heap.size w4 w5/\Calls prog 130 #[.slice pa pn pc,.agg #[.pointer p5]] w5 (dB M5 w5 (.ext q (put s (way.drop pn) v)))/\
    ∀ e w9,dB M5 w5 (.ext q (put s (way.drop pn) v)) e w9->∃ p9,e = .returned (tv p9)/\Below w4.heap.size w4 w9/\Rg.Own w9 (w.heap.size+1) #[.pointer none] 31/\∀ ai,Rg.Upd w9 (w.heap.size+1) ai->True/\dB M w (.ext q (put s (way.drop pn) v)) (.returned (tv p9)) ai):=hid (λw3 hb3 =>
  ⟨aV hb3 hA.c0,dJ M _ _ w3 (hA.i2.below hb3) (kE (hA.i2.below hb3) hm),λw4 hb4=>⟨⟨aV hb4 (aV hb3 hA.c0),aV hb4 (aV hb3 c3),aV hb4 (aV hb3 hk0)⟩,λwx hbx=>by
   have hB:=bst hA.b2 (bst (bst hb3 hb4) hbx);refine hS M wx p0 _ _ _ (hi.below hB) cz ?_;have:=(hW.fr hi (Fr.below M hB)).from' pn hpw;exact this,λwx hbx e w5 hG=>by
   have hB:=bst (bst hb3 hb4) hbx;have ta:St M w M wx:=⟨Fr.below M (bst hA.b2 hB),hi.below (bst hA.b2 hB),bst hA.b2 hB,hi⟩
   obtain ⟨p5,M5,rfl,m5,hS5,dc,hb5⟩:=ta.got hG;have ml:=(hA.x2.below hB).got dc hb5;have hwr:wrap q (put s (way.drop pn) v) = .ext q (put s (way.drop pn) v):=if_neg hq;have hbe:=vQ M5 pa pn pc q p5 (put s (way.drop pn) v) w5 hS5.i ((hA.p.fr hA.i2 (Fr.below M hB)).fr (hA.i2.below hB) dc) m5;rw [hwr] at hbe;refine ⟨p5,M5,rfl,bst hbx hb5,hbe,λe w9 yy=>?_⟩;obtain ⟨p9,M9,rfl,yz,t7,yW,bj⟩:=hS5.got yy;have rB:=ml.got yW bj;refine ⟨p9,rfl,bst (bst hbx hb5) bj,rB.o,λai hu=>?_⟩;have dj:=t7.upd hu (by omega) rB.n
   exact ⟨trivial,p9,M9,rfl,yz,dj.f,dj.i,dj.b⟩⟩⟩)
 have hlt:decide ((pn:Int)<(pn:Int))=false:=by simp
 have h0:=hA.c0;have c1:=hA.c1;clear hA hW hi hm hle hpn eo hwl hK hT0 cz c3 hk0 hS;subst hw2;go_enter func95,ntmps95;go_wp2_with (refine ay (aW _ _ _ (w.heap.size+1) (by simp) rfl) ?_)
 refine gj.out.mono ?_;rintro e w3 ⟨rfl,hb3⟩;obtain ⟨d0',HK,H4⟩:=HS.out w3 hb3;replace HK:=hid HK;replace H4:=hid H4;clear hb3 HS gj h0 c1;go_wp2_with (refine ay (aT d0' ⟨_,rfl,rfl⟩) ?_)
 refine HK.out.mono ?_;rintro e w4 ⟨rfl,hb4⟩;obtain ⟨⟨d0,d3,dk⟩,HC,HF⟩:=H4.out w4 hb4;replace HC:=hid HC;replace HF:=hid HF;clear hb4 H4 HK d0';go_wp2_with fail
 refine aB (S:=λw'=>Bo (w.heap.size+1) w4 w') (Bo.of (below_drewN aG 1)) λhld=>?_;refine ah 0 ?_;try simp only [Act.put,ak]
 refine ah 1 ?_;try simp only [Act.put,ak]
 refine aC 2 (λwz hSw=>gq hSw (by omega) d0) ?_;try simp only [Act.put,ak]
 refine ah 3 ?_;try simp only [Act.put,ak]
 refine ah 4 ?_;try simp only [Act.put,ak]
 refine aC 5 (λwz hSw=>gq hSw (by omega) d3) ?_;try simp only [Act.put,ak]
 refine ah 6 ?_;try simp only [Act.put,ak]
 refine ah 7 ?_ (hy:=by intro wz hSw; (refine aT (gq hSw (by omega) dk) ?_; exact ⟨_,rfl,rfl⟩));try simp only [Act.put,ak]
 refine ah 8 ?_;try simp only [Act.put,ak]
 refine ah 9 ?_;try simp only [Act.put,ak]
 refine ah 10 ?_ (hy:=by intro wz hSw; (refine jI (a:=wa) (n:=wn) (c:=wc) (i:=pn) gY jf hpw ?_; exact ⟨_,_,rfl,rfl,rfl⟩));try simp only [Act.put,ak]
 refine ah 11 ?_;try simp only [Act.put,ak]
 refine aj 12 λK hK=>?_;go_simp;go_at_call 58
 (with_reducible refine (HC.out w4.drew (below_drewN aG 1)).mono ?_)
 intro e w5 hG;obtain ⟨p5,M5,rfl,iz,H5⟩:=HF.out w4.drew (below_drewN aG 1) e w5 hG;replace H5:=hid H5;clear hG;refine hK.out _ _ (Bo.of iz) λhld=>?_;clear hK K;try simp only [Act.put,ak]
 refine aj 13 λK hK=>?_;go_simp;go_at_call 130
 (with_reducible refine (H5.out.1).mono ?_)
 intro e w9 hG;obtain ⟨p9,rfl,vx,H9⟩:=H5.out.2 e w9 hG;replace H9:=hid H9;clear hG;refine hK.out _ _ (Bo.of vx) λhld=>?_;clear hK K;try simp only [Act.put,ak]
 refine aj 14 λK hK=>?_;refine aY (by rfl) H9.out.1 (off:=0) (by decide) p9 ⟨_,_,rfl,rfl,rfl⟩ ?_;intro ai aw az;have cF:=hid aw;have iv:=hid (H9.out.2 ai az);clear aw;refine hK.out _ _ ((Bo.of vx).upd az) λhld=>?_;clear hK K;try simp only [Act.put,ak]
 refine aA ?_;go_wp2;exact bodyPost_ret (eu rfl _ rfl cF.out) rfl iv.out.2
theorem Le (M:Mp) (b:Nat) (q:Pa) (s:T) (hm:M.at_ b=some (.ext q s)) (w:World) (hi:Inv M w) (wa:aJ) (wn wc:Nat) (way:Pa) (v:aK) (hW:Bs M w wa wn wc way) (hw64:way.length<=64) (hle:(bV (.ext q s)).length<=way.length) (h:q<+:way)
  (hS:∀ M' w' p a n c,Inv M' w'->IsT M' p s->Bs M' w' a n c (way.drop q.length)->Calls prog 58 #[.agg #[.pointer p],.slice a n c,.string v] w' λe w''=>e = .panicked [fE 8]/\Below w'.heap.size w' w'') :
  Calls prog 95 #[.agg #[.pointer (some ⟨b,0,none⟩)],.slice wa wn wc,.string v] w (λe w'=>e = .panicked [fE 8]/\Below w.heap.size w w'):=by
 obtain ⟨w2,pa,pn,pc,hw2,hA,hs2⟩:=ahead M b _ hm w hi;have hpn:=hA.p.1.len;have hwl:way.length=wn:=hW.1.len;have lx:=hA.p.1.1;have hpm:=hA.p.1.2.1;have ly:=hW.1.1;have qn:=hW.1.2.1;unfold maxLen at hpm qn;have eo:q.length=pn:=hpn;have gj:=hid (qB pa wa pn wn pc wc q way (by omega) (by omega) (by omega) w2 hA.p.1 (mI hi hW.1 (Fr.below M hA.b2)));rw [xZ h,eo] at gj;have hpw:pn<=wn:=by rw [<-eo,<-hwl]; exact hle
 rw [eo] at hS ;obtain ⟨ka,kn,kc,c3,hK⟩:=hA.i2.kids hm;obtain ⟨kb,ko,p0,rfl,cI,fg,hk0,hT0⟩:=hK.at' 0 (by rw [<-hK.len]; exact Nat.one_pos);have hkn:kn=1:=hK.len.symm;have hkc:=hK.1;have hkm:=hK.2.1;unfold maxLen at hkm;rw [Nat.add_zero] at hk0;have cz:IsT M p0 s:=hT0;have hbl:=hi.lt hm;have nF:=hi.lt_ kb fg
 have HS:Hid (∀ w3,Below w2.heap.size w2 w3->w3.cell? ⟨w.heap.size,0,none⟩=some (.pointer (some ⟨b,0,none⟩))/\Calls prog 53 #[.agg #[.pointer (some ⟨b,0,none⟩)]] w3 (λe w'=>e = .returned (.int .i64 2)/\Below w3.heap.size w3 w')/\
   ∀ w4,Below w3.heap.size w3 w4->(w4.cell? ⟨w.heap.size,0,none⟩=some (.pointer (some ⟨b,0,none⟩))/\w4.cell? ⟨b,3,none⟩=some (.slice (some ⟨kb,ko,none⟩) kn kc)/\w4.cell? ⟨kb,ko,none⟩=some (.pointer p0))/\
   (∀ wx,Below w4.heap.size w4 wx->Calls prog 58 #[.agg #[.pointer p0],.slice (bZ wa wc pn) (wn-pn) (wc-pn),.string v] wx (λe w''=>e = .panicked [fE 8]/\Below wx.heap.size wx w''))/\∀ wx,Below w4.heap.size w4 wx->Below w.heap.size w wx):=hid (λw3 hb3 =>
  ⟨aV hb3 hA.c0,dJ M _ _ w3 (hA.i2.below hb3) (kE (hA.i2.below hb3) hm),λw4 hb4=>⟨⟨aV hb4 (aV hb3 hA.c0),aV hb4 (aV hb3 c3),aV hb4 (aV hb3 hk0)⟩,λwx hbx=>by
   have hB:=bst hA.b2 (bst (bst hb3 hb4) hbx);refine hS M wx p0 _ _ _ (hi.below hB) cz ?_;have:=(hW.fr hi (Fr.below M hB)).from' pn hpw;exact this,λwx hbx=>bst hA.b2 (bst (bst hb3 hb4) hbx)⟩⟩)
 have hlt:decide ((pn:Int)<(pn:Int))=false:=by simp
 have h0:=hA.c0;have c1:=hA.c1;clear hA hW hi hm hle hpn eo hwl hK hT0 cz c3 hk0 hS;subst hw2;go_enter func95,ntmps95;go_wp2_with (refine ay (aW _ _ _ (w.heap.size+1) (by simp) rfl) ?_)
 refine gj.out.mono ?_;rintro e w3 ⟨rfl,hb3⟩;obtain ⟨d0',HK,H4⟩:=HS.out w3 hb3;replace HK:=hid HK;replace H4:=hid H4;clear hb3 HS gj h0 c1;go_wp2_with (refine ay (aT d0' ⟨_,rfl,rfl⟩) ?_)
 refine HK.out.mono ?_;rintro e w4 ⟨rfl,hb4⟩;obtain ⟨⟨d0,d3,dk⟩,HC,HF⟩:=H4.out w4 hb4;replace HC:=hid HC;replace HF:=hid HF;clear hb4 H4 HK d0';go_wp2_with fail
 refine wp_region_held_drew (S:=λw'=>Bo (w.heap.size+1) w4 w') (by kernel_rfl) (Bo.of (below_drewN aG 1)) (λhld=>?_);refine ah 0 ?_;try simp only [Act.put,ak]
 refine ah 1 ?_;try simp only [Act.put,ak]
 refine aC 2 (λwz hSw=>gq hSw (by omega) d0) ?_;try simp only [Act.put,ak]
 refine ah 3 ?_;try simp only [Act.put,ak]
 refine ah 4 ?_;try simp only [Act.put,ak]
 refine aC 5 (λwz hSw=>gq hSw (by omega) d3) ?_;try simp only [Act.put,ak]
 refine ah 6 ?_;try simp only [Act.put,ak]
 refine ah 7 ?_ (hy:=by intro wz hSw; (refine aT (gq hSw (by omega) dk) ?_; exact ⟨_,rfl,rfl⟩));try simp only [Act.put,ak]
 refine ah 8 ?_;try simp only [Act.put,ak]
 refine ah 9 ?_;try simp only [Act.put,ak]
 refine ah 10 ?_ (hy:=by intro wz hSw; (refine jI (a:=wa) (n:=wn) (c:=wc) (i:=pn) gY jf hpw ?_; exact ⟨_,_,rfl,rfl,rfl⟩));try simp only [Act.put,ak]
 refine ah 11 ?_;try simp only [Act.put,ak]
 refine aj 12 λK hK=>?_;go_simp;go_at_call 58
 (with_reducible refine (HC.out w4.drew (below_drewN aG 1)).mono ?_)
 rintro e w5 ⟨rfl,hb5⟩;simp +zetaDelta [bodyPost,Exit.then];exact bst (HF.out w4.drew (below_drewN aG 1)) hb5
theorem VD (ks:Fin 16->T) (M:Mp) (b:Nat) (hm:M.at_ b=some (.br ks)) (w:World) (hi:Inv M w) (wa:aJ) (wn wc:Nat) (c0:UInt8) (r:Pa) (v:aK) (hW:Bs M w wa wn wc (c0::r)) (hc0:c0.toNat<16) (hlen:(c0::r).length<=64)
  (ih:∀ M' w' p a n c,Inv M' w'->IsT M' p (ks (nb c0))->Bs M' w' a n c r->Calls prog 58 #[.agg #[.pointer p],.slice a n c,.string v] w' (dB M' w' (put (ks (nb c0)) r v))) :
  Calls prog 58 #[.agg #[.pointer (some ⟨b,0,none⟩)],.slice wa wn wc,.string v] w (dB M w (.br λj=>if j=nb c0 then put (ks (nb c0)) r v else ks j)):=by
  obtain ⟨w2,hw2,aE,ag,hb2,hs2⟩:=nG w (some ⟨b,0,none⟩);have hi2:=hi.below hb2;have hX2:Bx M w2 (w.heap.size+1) #[.pointer none] 31:=⟨ag,hi.free (by omega),bX _⟩
  have hwl:(c0::r).length=wn:=hW.1.len;have z5:r.length+1=wn:=by rw [<-hwl]; rfl
  have h0:=aU (j:=0) aE rfl;have HK:=hid (dJ M _ _ w2 hi2 (kE hi2 hm));obtain ⟨ka,kn,kc,c3,hKs⟩:=hi2.kids hm;have hkn:kn=16:=by rw [<-hKs.len]; exact fI ks
  subst hkn;have hnx:((nb c0).val:Nat)=c0.toNat:=Nat.mod_eq_of_lt hc0;obtain ⟨kb,ko,p0,rfl,cI,fg,hk0,hT0⟩:=hKs.at' c0.toNat hc0;have cz:IsT M p0 (ks (nb c0)):=by
   rw [<-hnx,kI] at hT0;exact hT0
  have hbl:=hi.lt hm;have nF:=hi.lt_ kb fg;have hkc:=hKs.1;have hkm:=hKs.2.1;unfold maxLen at hkm;have hx16:c0.toNat<16:=hc0;have hxi:((c0.toNat:Nat):Int)<16:=by omega
  have HT:Hid (∀ w3,Below w2.heap.size w2 w3->w3.cell? ⟨w.heap.size,0,none⟩=some (.pointer (some ⟨b,0,none⟩))/\Calls prog 77 #[.slice wa wn wc] w3 (λe w'=>e = .returned (.tuple #[.int .u8 c0.toNat,.slice (bZ wa wc 1) (wn-1) (wc-1)])/\Below w3.heap.size w3 w')/\
    ∀ w4,Below w3.heap.size w3 w4->(w4.cell? ⟨w.heap.size,0,none⟩=some (.pointer (some ⟨b,0,none⟩))/\w4.cell? ⟨b,3,none⟩=some (.slice (some ⟨kb,ko,none⟩) 16 kc)/\w4.cell? ⟨kb,ko+c0.toNat,none⟩=some (.pointer p0))/\
    (∀ wx,Below w4.heap.size w4 wx->Calls prog 58 #[.agg #[.pointer p0],.slice (bZ wa wc 1) (wn-1) (wc-1),.string v] wx (dB M wx (put (ks (nb c0)) r v)))/\∀ wx,Below w4.heap.size w4 wx->∀ e w5,dB M wx (put (ks (nb c0)) r v) e w5->∃ p5 M5,e = .returned (tv p5)/\Below w4.heap.size w4 w5/\Calls prog 94 #[.agg #[.pointer (some ⟨b,0,none⟩)],.int .u8 c0.toNat,.agg #[.pointer p5]] w5 (dB M5 w5 (.br λj=>if j=nb c0 then put (ks (nb c0)) r v else ks j))/\
     ∀ e w9,dB M5 w5 (.br λj=>if j=nb c0 then put (ks (nb c0)) r v else ks j) e w9->∃ p9,e = .returned (tv p9)/\Below w4.heap.size w4 w9/\Rg.Own w9 (w.heap.size+1) #[.pointer none] 31/\∀ ai,Rg.Upd w9 (w.heap.size+1) ai->dB M w (.br λj=>if j=nb c0 then put (ks (nb c0)) r v else ks j) (.returned (tv p9)) ai):=hid (λw3 hb3 =>
   ⟨aV hb3 h0,lG wa wn wc (c0::r) (by omega) w3 (mI hi hW.1 (Fr.below M (bst hb2 hb3))),λw4 hb4=>⟨⟨aV hb4 (aV hb3 h0),aV hb4 (aV hb3 c3),aV hb4 (aV hb3 hk0)⟩,λwx hbx=>by
    have hB:=bst hb2 (bst (bst hb3 hb4) hbx);refine ih M wx p0 _ _ _ (hi.below hB) cz ?_;exact (hW.fr hi (Fr.below M hB)).from' 1 (by omega),λwx hbx e w5 hG=>by
    have hB:=bst (bst hb3 hb4) hbx;have ta:St M w M wx:=⟨Fr.below M (bst hb2 hB),hi.below (bst hb2 hB),bst hb2 hB,hi⟩
    obtain ⟨p5,M5,rfl,m5,hS5,dc,hb5⟩:=ta.got hG;have ml:=(hX2.below hB).got dc hb5;have hbe:=Kh M5 b ks (dc.mono b _ hm) (nb c0) p5 _ m5 w5 hS5.i;rw [hnx] at hbe;refine ⟨p5,M5,rfl,bst hbx hb5,hbe,λe w9 yy=>?_⟩;obtain ⟨p9,M9,rfl,yz,t7,yW,bj⟩:=hS5.got yy;have rB:=ml.got yW bj;refine ⟨p9,rfl,bst (bst hbx hb5) bj,rB.o,λai hu=>?_⟩;have dj:=t7.upd hu (by omega) rB.n;exact ⟨p9,M9,rfl,yz,dj.f,dj.i,dj.b⟩⟩⟩)
  have H0:=hid aE;clear aE ag hb2 hi hi2 hm hW hX2 hwl hKs hT0 cz c3 hk0 ih h0;subst hw2;clear hs2;go_enter func58,ntmps58;go_wp2_with (first | (refine ay (aW _ _ _ (w.heap.size+1) (by simp) rfl) ?_) | (refine ay (aT (aU (j:=0) H0.out rfl) ⟨_,rfl,rfl⟩) ?_))
  refine HK.out.mono ?_;rintro e w3 ⟨rfl,hb3⟩;obtain ⟨d0',e9,H4⟩:=HT.out w3 hb3;replace e9:=hid e9;replace H4:=hid H4;clear hb3 HT HK H0 d0';unfold dG;go_wp2_with fail
  refine e9.out.mono ?_;rintro e w4 ⟨rfl,hb4⟩;obtain ⟨⟨d0,d3,dk⟩,HC,HF⟩:=H4.out w4 hb4;replace HC:=hid HC;replace HF:=hid HF;clear hb4 H4 e9;go_wp2_with fail
  refine aB (S:=λw'=>Bo (w.heap.size+1) w4 w') (Bo.of (below_drewN aG 1)) λhld=>?_;refine ah 0 ?_ (hy:=by intro wz hSw; (refine aT (gq hSw (by omega) d0) ?_; exact ⟨_,rfl,rfl⟩));try simp only [Act.put,ak]
  refine ah 1 ?_;try simp only [Act.put,ak]
  refine ah 2 ?_;try simp only [Act.put,ak]
  refine aC 3 (λwz hSw=>gq hSw (by omega) d0) ?_;try simp only [Act.put,ak]
  refine ah 4 ?_;try simp only [Act.put,ak]
  refine ah 5 ?_;try simp only [Act.put,ak]
  refine aC 6 (λwz hSw=>gq hSw (by omega) d3) ?_;try simp only [Act.put,ak]
  refine ah 7 ?_;try simp only [Act.put,ak]
  refine ah 8 ?_ (hy:=by intro wz hSw; (have q0:=hxi; have q1:=hx16; go_simp <;> with_reducible rfl));try simp only [Act.put,ak]
  refine ah 9 ?_ (hy:=by intro wz hSw; (refine aT (gq hSw (by omega) dk) ?_; exact ⟨_,rfl,rfl⟩));try simp only [Act.put,ak]
  refine ah 10 ?_;try simp only [Act.put,ak]
  refine ah 11 ?_;try simp only [Act.put,ak]
  refine aj 12 λK hK=>?_;go_simp;go_at_call 58
  (with_reducible refine (HC.out w4.drew (below_drewN aG 1)).mono ?_)
  intro e w5 hG;obtain ⟨p5,M5,rfl,iz,H5⟩:=HF.out w4.drew (below_drewN aG 1) e w5 hG;replace H5:=hid H5;clear hG;refine hK.out _ _ (Bo.of iz) λhld=>?_;clear hK K;try simp only [Act.put,ak]
  refine aj 13 λK hK=>?_;go_simp;go_at_call 94
  (with_reducible refine (H5.out.1).mono ?_)
  intro e w9 hG;obtain ⟨p9,rfl,vx,H9⟩:=H5.out.2 e w9 hG;replace H9:=hid H9;clear hG;refine hK.out _ _ (Bo.of vx) λhld=>?_;clear hK K;try simp only [Act.put,ak]
  refine aj 14 λK hK=>?_;refine aY (by rfl) H9.out.1 (off:=0) (by decide) p9 ⟨_,_,rfl,rfl,rfl⟩ ?_;intro ai aw az;have cF:=hid aw;have iv:=hid (H9.out.2 ai az);clear aw;refine hK.out _ _ ((Bo.of vx).upd az) λhld=>?_;clear hK K;try simp only [Act.put,ak]
  refine aA ?_;go_wp2;exact bodyPost_ret (eu rfl _ rfl cF.out) rfl iv.out
theorem Fv (ks:Fin 16->T) (M:Mp) (b:Nat) (hm:M.at_ b=some (.br ks)) (w:World) (hi:Inv M w) (wa:aJ) (wn wc:Nat) (c0:UInt8) (r:Pa) (v:aK) (hW:Bs M w wa wn wc (c0::r)) (hc0:c0.toNat<16) (hlen:(c0::r).length<=64)
  (ih:∀ M' w' p a n c,Inv M' w'->IsT M' p (ks (nb c0))->Bs M' w' a n c r->Calls prog 58 #[.agg #[.pointer p],.slice a n c,.string v] w' (λe w''=>e = .panicked [fE 8]/\Below w'.heap.size w' w'')) :
  Calls prog 58 #[.agg #[.pointer (some ⟨b,0,none⟩)],.slice wa wn wc,.string v] w (λe w''=>e = .panicked [fE 8]/\Below w.heap.size w w''):=by
  obtain ⟨w2,hw2,aE,ag,hb2,hs2⟩:=nG w (some ⟨b,0,none⟩);have hi2:=hi.below hb2;have hX2:Bx M w2 (w.heap.size+1) #[.pointer none] 31:=⟨ag,hi.free (by omega),bX _⟩
  have hwl:(c0::r).length=wn:=hW.1.len;have z5:r.length+1=wn:=by rw [<-hwl]; rfl
  have h0:=aU (j:=0) aE rfl;have HK:=hid (dJ M _ _ w2 hi2 (kE hi2 hm));obtain ⟨ka,kn,kc,c3,hKs⟩:=hi2.kids hm;have hkn:kn=16:=by rw [<-hKs.len]; exact fI ks
  subst hkn;have hnx:((nb c0).val:Nat)=c0.toNat:=Nat.mod_eq_of_lt hc0;obtain ⟨kb,ko,p0,rfl,cI,fg,hk0,hT0⟩:=hKs.at' c0.toNat hc0;have cz:IsT M p0 (ks (nb c0)):=by
   rw [<-hnx,kI] at hT0;exact hT0
  have hbl:=hi.lt hm;have nF:=hi.lt_ kb fg;have hkc:=hKs.1;have hkm:=hKs.2.1;unfold maxLen at hkm;have hx16:c0.toNat<16:=hc0;have hxi:((c0.toNat:Nat):Int)<16:=by omega
  have HT:Hid (∀ w3,Below w2.heap.size w2 w3->w3.cell? ⟨w.heap.size,0,none⟩=some (.pointer (some ⟨b,0,none⟩))/\Calls prog 77 #[.slice wa wn wc] w3 (λe w'=>e = .returned (.tuple #[.int .u8 c0.toNat,.slice (bZ wa wc 1) (wn-1) (wc-1)])/\Below w3.heap.size w3 w')/\
    ∀ w4,Below w3.heap.size w3 w4->(w4.cell? ⟨w.heap.size,0,none⟩=some (.pointer (some ⟨b,0,none⟩))/\w4.cell? ⟨b,3,none⟩=some (.slice (some ⟨kb,ko,none⟩) 16 kc)/\w4.cell? ⟨kb,ko+c0.toNat,none⟩=some (.pointer p0))/\
    (∀ wx,Below w4.heap.size w4 wx->Calls prog 58 #[.agg #[.pointer p0],.slice (bZ wa wc 1) (wn-1) (wc-1),.string v] wx (λe w''=>e = .panicked [fE 8]/\Below wx.heap.size wx w''))/\∀ wx,Below w4.heap.size w4 wx->Below w.heap.size w wx):=hid (λw3 hb3 =>
   ⟨aV hb3 h0,lG wa wn wc (c0::r) (by omega) w3 (mI hi hW.1 (Fr.below M (bst hb2 hb3))),λw4 hb4=>⟨⟨aV hb4 (aV hb3 h0),aV hb4 (aV hb3 c3),aV hb4 (aV hb3 hk0)⟩,λwx hbx=>by
    have hB:=bst hb2 (bst (bst hb3 hb4) hbx);refine ih M wx p0 _ _ _ (hi.below hB) cz ?_;exact (hW.fr hi (Fr.below M hB)).from' 1 (by omega),λwx hbx=>bst hb2 (bst (bst hb3 hb4) hbx)⟩⟩)
  have H0:=hid aE;clear aE ag hb2 hi hi2 hm hW hX2 hwl hKs hT0 cz c3 hk0 ih h0;subst hw2;clear hs2;go_enter func58,ntmps58;go_wp2_with (first | (refine ay (aW _ _ _ (w.heap.size+1) (by simp) rfl) ?_) | (refine ay (aT (aU (j:=0) H0.out rfl) ⟨_,rfl,rfl⟩) ?_))
  refine HK.out.mono ?_;rintro e w3 ⟨rfl,hb3⟩;obtain ⟨d0',e9,H4⟩:=HT.out w3 hb3;replace e9:=hid e9;replace H4:=hid H4;clear hb3 HT HK H0 d0';unfold dG;go_wp2_with fail
  refine e9.out.mono ?_;rintro e w4 ⟨rfl,hb4⟩;obtain ⟨⟨d0,d3,dk⟩,HC,HF⟩:=H4.out w4 hb4;replace HC:=hid HC;replace HF:=hid HF;clear hb4 H4 e9;go_wp2_with fail
  refine wp_region_held_drew (S:=λw'=>Bo (w.heap.size+1) w4 w') (by kernel_rfl) (Bo.of (below_drewN aG 1)) (λhld=>?_);refine ah 0 ?_ (hy:=by intro wz hSw; (refine aT (gq hSw (by omega) d0) ?_; exact ⟨_,rfl,rfl⟩));try simp only [Act.put,ak]
  refine ah 1 ?_;try simp only [Act.put,ak]
  refine ah 2 ?_;try simp only [Act.put,ak]
  refine aC 3 (λwz hSw=>gq hSw (by omega) d0) ?_;try simp only [Act.put,ak]
  refine ah 4 ?_;try simp only [Act.put,ak]
  refine ah 5 ?_;try simp only [Act.put,ak]
  refine aC 6 (λwz hSw=>gq hSw (by omega) d3) ?_;try simp only [Act.put,ak]
  refine ah 7 ?_;try simp only [Act.put,ak]
  refine ah 8 ?_ (hy:=by intro wz hSw; (have q0:=hxi; have q1:=hx16; go_simp <;> with_reducible rfl));try simp only [Act.put,ak]
  refine ah 9 ?_ (hy:=by intro wz hSw; (refine aT (gq hSw (by omega) dk) ?_; exact ⟨_,rfl,rfl⟩));try simp only [Act.put,ak]
  refine ah 10 ?_;try simp only [Act.put,ak]
  refine ah 11 ?_;try simp only [Act.put,ak]
  refine aj 12 λK hK=>?_;go_simp;go_at_call 58
  (with_reducible refine (HC.out w4.drew (below_drewN aG 1)).mono ?_)
  rintro e w5 ⟨rfl,hb5⟩;simp +zetaDelta [bodyPost,Exit.then];exact bst (HF.out w4.drew (below_drewN aG 1)) hb5
theorem TH (M:Mp) (a:aJ) (n c:Nat) (way:Pa) (v:aK) (w:World) (hi:Inv M w) (hW:Bs M w a n c way):Calls prog 58 #[.agg #[.pointer none],.slice a n c,.string v] w (dB M w (.leaf way v)):=by
 obtain ⟨w2,hw2,aE,ag,hb2,hs2⟩:=nG w none;have hi2:=hi.below hb2;have HK:=hid (dJ M none .nil w2 hi2 rfl);have HT:Hid (∀ w3,Below w2.heap.size w2 w3->Calls prog 96 #[.slice a n c,.string v] w3 (dB M w3 (.leaf way v))/\∀ e w9,dB M w3 (.leaf way v) e w9->∃ p,e = .returned (tv p)/\Rg.Own w9 (w.heap.size+1) #[.pointer none] 31/\∀ ai,Rg.Upd w9 (w.heap.size+1) ai->dB M w (.leaf way v) (.returned (tv p)) ai):=hid (λw3 hb3 =>
  ⟨oG M _ _ _ _ _ w3 (hi2.below hb3) (hW.fr hi (Fr.below M (bst hb2 hb3))),λe w9 hG=>finish hi (Fr.below M (bst hb2 hb3)) (bst hb2 hb3) hG (ag.below hb3) (bX _) (by omega) (hi.free (by omega))⟩)
 have H0:=hid aE;clear aE ag hb2 hs2 hi hi2 hW;subst hw2;go_enter func58,ntmps58;go_wp2_with (first | (refine ay (aW _ _ _ (w.heap.size+1) (by simp) rfl) ?_) | (refine ay (aT (aU (j:=0) H0.out rfl) ⟨_,rfl,rfl⟩) ?_))
 refine HK.out.mono ?_;rintro e w3 ⟨rfl,hb3⟩;obtain ⟨HC,HF⟩:=HT.out w3 hb3;replace HC:=hid HC;replace HF:=hid HF;clear hb3 HT HK H0;unfold dG;go_wp2_with fail
 refine HC.out.mono ?_;intro e w9 hG;obtain ⟨p9,rfl,al,hE⟩:=HF.out e w9 hG;have bi:=hid al;have HE:=hid hE;clear hG al hE;go_wp2_with (refine aZ bi.out (by decide) p9 rfl _ _ rfl rfl rfl ?_; intro ai aw az; have cF:=hid aw; have eK:=hid az; clear aw az)
 exact bodyPost_ret (eu rfl _ rfl cF.out) rfl (HE.out ai eK.out)
theorem Pw (M:Mp) (b:Nat) (r:aK) (hm:M.at_ b=some (.stub r)) (a:aJ) (n c:Nat) (v:aK) (w:World) (hi:Inv M w):Calls prog 58 #[.agg #[.pointer (some ⟨b,0,none⟩)],.slice a n c,.string v] w (λe w'=>e = .panicked [fE 8]/\Below w.heap.size w w'):=by
 obtain ⟨w2,hw2,aE,ag,hb2,hs2⟩:=nG w (some ⟨b,0,none⟩);have hi2:=hi.below hb2;have HK:=hid (dJ M _ _ w2 hi2 (kE hi2 hm));have H0:=hid aE;have HB:Hid (∀ w3,Below w2.heap.size w2 w3->Below w.heap.size w w3):=hid (λw3 hb3=>bst hb2 hb3);clear aE ag hb2 hs2 hi hi2 hm;subst hw2;go_enter func58,ntmps58;go_wp2_with (first | (refine ay (aW _ _ _ (w.heap.size+1) (by simp) rfl) ?_) | (refine ay (aT (aU (j:=0) H0.out rfl) ⟨_,rfl,rfl⟩) ?_))
 refine HK.out.mono ?_;rintro e w3 ⟨rfl,hb3⟩;have HB3:=hid (HB.out w3 hb3);clear hb3 HB HK H0;unfold dG;go_wp2;simp +zetaDelta [bodyPost,Exit.then,fE];exact HB3.out
theorem vX (M:Mp) (b:Nat) (t:T) (hm:M.at_ b=some t) (hk:dG t=1\/dG t=2) (a:aJ) (n c:Nat) (v:aK) (R:T) (w:World) (hi:Inv M w)
  (hal:∀ w3,Below w.heap.size w w3->Calls prog 95 #[.agg #[.pointer (some ⟨b,0,none⟩)],.slice a n c,.string v] w3 (dB M w3 R)) :
  Calls prog 58 #[.agg #[.pointer (some ⟨b,0,none⟩)],.slice a n c,.string v] w (dB M w R):=by
 obtain ⟨w2,hw2,aE,ag,hb2,hs2⟩:=nG w (some ⟨b,0,none⟩);have hi2:=hi.below hb2;have HK:=hid (dJ M _ _ w2 hi2 (kE hi2 hm));have h0:=aU (j:=0) aE rfl
 have HT:Hid (∀ w3,Below w2.heap.size w2 w3->w3.cell? ⟨w.heap.size,0,none⟩=some (.pointer (some ⟨b,0,none⟩))/\Calls prog 95 #[.agg #[.pointer (some ⟨b,0,none⟩)],.slice a n c,.string v] w3 (dB M w3 R)/\∀ e w9,dB M w3 R e w9->∃ p,e = .returned (tv p)/\Rg.Own w9 (w.heap.size+1) #[.pointer none] 31/\∀ ai,Rg.Upd w9 (w.heap.size+1) ai->dB M w R (.returned (tv p)) ai):=hid (λw3 hb3 =>
  ⟨aV hb3 h0,hal w3 (bst hb2 hb3),λe w9 hG=>finish hi (Fr.below M (bst hb2 hb3)) (bst hb2 hb3) hG (ag.below hb3) (bX _) (by omega) (hi.free (by omega))⟩)
 have H0:=hid aE;obtain ⟨k,hkk⟩:=av (dG t)
 rw [hkk] at HK hk;clear aE ag hb2 hs2 hi hi2 hal hm hkk h0;subst hw2;rcases hk with rfl | rfl;all_goals
  go_enter func58,ntmps58;go_wp2_with (first | (refine ay (aW _ _ _ (w.heap.size+1) (by simp) rfl) ?_) | (refine ay (aT (aU (j:=0) H0.out rfl) ⟨_,rfl,rfl⟩) ?_))
  refine HK.out.mono ?_;rintro e w3 ⟨rfl,hb3⟩;obtain ⟨d0,HC,HF⟩:=HT.out w3 hb3;replace HC:=hid HC;replace HF:=hid HF;clear hb3 HT HK H0;go_wp2_with (refine ay (aT d0 ⟨_,rfl,rfl⟩) ?_)
  refine HC.out.mono ?_;intro e w9 hG;obtain ⟨p9,rfl,al,hE⟩:=HF.out e w9 hG;have bi:=hid al;have HE:=hid hE;clear hG al hE;go_wp2_with (refine aZ bi.out (by decide) p9 rfl _ _ rfl rfl rfl ?_; intro ai aw az; have cF:=hid aw; have eK:=hid az; clear aw az)
  exact bodyPost_ret (eu rfl _ rfl cF.out) rfl (HE.out ai eK.out)
theorem zQ (M:Mp) (b:Nat) (t:T) (hm:M.at_ b=some t) (hk:dG t=2) (a:aJ) (n c:Nat) (v:aK) (w:World) (hi:Inv M w)
  (hal:∀ w3,Below w.heap.size w w3->Calls prog 95 #[.agg #[.pointer (some ⟨b,0,none⟩)],.slice a n c,.string v] w3 (λe w'=>e = .panicked [fE 8]/\Below w3.heap.size w3 w')) :
  Calls prog 58 #[.agg #[.pointer (some ⟨b,0,none⟩)],.slice a n c,.string v] w (λe w'=>e = .panicked [fE 8]/\Below w.heap.size w w'):=by
 obtain ⟨w2,hw2,aE,ag,hb2,hs2⟩:=nG w (some ⟨b,0,none⟩);have hi2:=hi.below hb2;have HK:=hid (dJ M _ _ w2 hi2 (kE hi2 hm));rw [hk] at HK;have h0:=aU (j:=0) aE rfl;have HT:Hid (∀ w3,Below w2.heap.size w2 w3->w3.cell? ⟨w.heap.size,0,none⟩=some (.pointer (some ⟨b,0,none⟩))/\Calls prog 95 #[.agg #[.pointer (some ⟨b,0,none⟩)],.slice a n c,.string v] w3 (λe w'=>e = .panicked [fE 8]/\Below w3.heap.size w3 w')/\Below w.heap.size w w3):=hid (λw3 hb3 =>
  ⟨aV hb3 h0,hal w3 (bst hb2 hb3),bst hb2 hb3⟩)
 have H0:=hid aE;clear aE ag hb2 hs2 hi hi2 hal hm hk h0;subst hw2;go_enter func58,ntmps58;go_wp2_with (first | (refine ay (aW _ _ _ (w.heap.size+1) (by simp) rfl) ?_) | (refine ay (aT (aU (j:=0) H0.out rfl) ⟨_,rfl,rfl⟩) ?_))
 refine HK.out.mono ?_;rintro e w3 ⟨rfl,hb3⟩;obtain ⟨d0,HC,HB⟩:=HT.out w3 hb3;replace HC:=hid HC;replace HB:=hid HB;clear hb3 HT HK H0;go_wp2_with (refine ay (aT d0 ⟨_,rfl,rfl⟩) ?_)
 refine HC.out.mono ?_;rintro e w9 ⟨rfl,bj⟩;have cT:=hid (bst HB.out bj);clear bj HB;go_wp2;simp +zetaDelta [bodyPost,Exit.then];exact cT.out
theorem Nc (q way:Pa) (f:Pa->T) (v:aK):fork q f way v=wrap (way.take (cp q way)) (two (nb (q.getD (cp q way) 0)) (nb (way.getD (cp q way) 0)) (f (q.drop (cp q way+1))) (.leaf (way.drop (cp q way+1)) v)):=by
 unfold fork;rw [Ao _ _ _ aF]
def Zn (t:T):Prop:=∀ (M:Mp) (w:World) (p:aJ) (a:aJ) (n c:Nat) (way:Pa) (v:aK),Inv M w->IsT M p t->Bs M w a n c way->Tr.Good t way.length->Nib way->way.length<=64->
 (Tr.get t way=none->Calls prog 58 #[.agg #[.pointer p],.slice a n c,.string v] w λe w'=>e = .panicked [fE 8]/\Below w.heap.size w w')/\
 (Tr.get t way≠none->Calls prog 58 #[.agg #[.pointer p],.slice a n c,.string v] w (dB M w (put t way v)))
theorem Jp (t:T):Zn t:=by
 induction t with
 | nil =>
  intro M w p a n c way v hi ht hW hg hn hl;refine ⟨λh=>(by cases h),λ_=>?_⟩;obtain rfl:p=none:=ht.qR.2 rfl;exact TH M a n c way v w hi hW
 | stub r =>
  intro M w p a n c way v hi ht hW hg hn hl;refine ⟨λ_=>?_,λh=>absurd rfl h⟩;obtain ⟨b,rfl,hm⟩:=ht.at_ (λe=>by cases e);exact Pw M b r hm a n c v w hi
 | leaf q u =>
  intro M w p a n c way v hi ht hW hg hn hl;refine ⟨λh=>(by cases h),λ_=>?_⟩;obtain ⟨b,rfl,hm⟩:=ht.at_ (λe=>by cases e);refine vX M b _ hm (Or.inl rfl) a n c v _ w hi (λw3 hb3=>?_);have hi3:=hi.below hb3;have hW3:=hW.fr hi (Fr.below M hb3);by_cases e:q=way
  .have:put (.leaf q u) way v = .leaf q v:=by
    unfold put;rw [if_pos e,e]
   rw [this];exact KX M b u q hm w3 hi3 a n c way v hW3 hl (Nat.le_of_eq hg.1) e
  .have:put (.leaf q u) way v=fork q (λr=>.leaf r u) way v:=by
    unfold put;rw [if_neg e]
   rw [this,Nc];have hpre:¬ q<+:way:=λh=>e (h.eq_of_length hg.1);exact zK M b _ hm w3 hi3 a n c way v hW3 hl (Nat.le_of_eq hg.1) hpre hg.2 hn _ (λwx M' hix hmx=>TQ M' b q u hmx _ (Nat.succ_le_of_lt (xX hpre)) wx hix)
 | ext q s ih =>
  intro M w p a n c way v hi ht hW hg hn hl;obtain ⟨b,rfl,hm⟩:=ht.at_ (λe=>by cases e);obtain ⟨g1,g2,g3,g4,g5⟩:=hg;by_cases e:q<+:way
  .have hgs:Tr.Good s (way.drop q.length).length:=by rw [List.length_drop]; exact g5
   have hget:Tr.get (.ext q s) way=Tr.get s (way.drop q.length):=by
    show (if q<+:way then Tr.get s (way.drop q.length) else some none)=_;rw [if_pos e]
   rw [hget];have hld:(way.drop q.length).length<=64:=by rw [List.length_drop]; omega
   refine ⟨λh=>?_,λh=>?_⟩
   .refine zQ M b _ hm rfl a n c v w hi (λw3 hb3=>?_);exact Le M b q s hm w3 (hi.below hb3) a n c way v (hW.fr hi (Fr.below M hb3)) hl g3 e (λM' w' p' a' n' c' hi' ht' hW'=>(ih M' w' p' a' n' c' _ v hi' ht' hW' hgs (hn.drop _) hld).1 h)
   .have hput:put (.ext q s) way v = .ext q (put s (way.drop q.length) v):=by
     show (if q<+:way then _ else _)=_;rw [if_pos e]
    rw [hput];refine vX M b _ hm (Or.inr rfl) a n c v _ w hi (λw3 hb3=>?_);exact Py M b q s hm w3 (hi.below hb3) a n c way v (hW.fr hi (Fr.below M hb3)) hl g3 e g1 h (λM' w' p' a' n' c' hi' ht' hW'=>(ih M' w' p' a' n' c' _ v hi' ht' hW' hgs (hn.drop _) hld).2 h)
  .have hget:Tr.get (.ext q s) way=some none:=by
    show (if q<+:way then Tr.get s (way.drop q.length) else some none)=_;rw [if_neg e]
   rw [hget];refine ⟨λh=>(by cases h),λ_=>?_⟩;have hput:put (.ext q s) way v=fork q (λr=>wrap r s) way v:=by
    show (if q<+:way then _ else _)=_;rw [if_neg e]
   rw [hput,Nc];refine vX M b _ hm (Or.inr rfl) a n c v _ w hi (λw3 hb3=>?_);exact zK M b _ hm w3 (hi.below hb3) a n c way v (hW.fr hi (Fr.below M hb3)) hl g3 e g2 hn _ (λwx M' hix hmx=>WR M' b q s hmx _ (Nat.succ_le_of_lt (xX e)) wx hix)
 | br ks ih =>
  intro M w p a n c way v hi ht hW hg hn hl;obtain ⟨b,rfl,hm⟩:=ht.at_ (λe=>by cases e);cases way with
  | nil=>exact absurd hg.1 (Nat.lt_irrefl 0)
  | cons c0 r =>
   have hl':r.length<=64:=by simp at hl; omega
   have hgi:Tr.Good (ks (nb c0)) r.length:=hg.2.2 (nb c0);refine ⟨λh=>?_,λh=>?_⟩
   .exact Fv ks M b hm w hi a n c c0 r v hW hn.head hl (λM' w' p' a' n' c' hi' ht' hW'=>(ih (nb c0) M' w' p' a' n' c' r v hi' ht' hW' hgi hn.tail hl').1 h)
   .have hput:put (.br ks) (c0::r) v = .br λj=>if j=nb c0 then put (ks (nb c0)) r v else ks j:=by
     show T.br _=T.br _;congr 1;funext j;by_cases e:j=nb c0
     .subst e; rfl
     .rw [if_neg e,if_neg e]
    rw [hput];exact VD ks M b hm w hi a n c c0 r v hW hn.head hl (λM' w' p' a' n' c' hi' ht' hW'=>(ih (nb c0) M' w' p' a' n' c' r v hi' ht' hW' hgi hn.tail hl').2 h)
end Tm
end
end Go.Proofs.YtlcplcgigjagpaaGreatDoor
