/-
 Contracts of the plain answer's Node and Enc.
-/
import Derived.Test.YtlcplcgigjagpaaGreatDoorSg11
open Go.Lib (hid)
open Go.Proofs.Tryz
set_option linter.unusedSimpArgs false
set_option linter.unusedVariables false
set_option maxHeartbeats 40000000
set_option maxRecDepth 100000
namespace Go.Proofs.YtlcplcgigjagpaaGreatDoor
variable {w w':World} {a:aJ} {B L c cap g i j:Nat} {ops:Array Oper} {o:Oper} {act:Act} {Q:Exit->Act->World->Prop} {r:aK} {cur cur':aM} {v:Value}
section
open Go.RowKit
namespace Tm
open Tr Ni Pk Ky No Rf Rl
theorem MB {n:Nat} {l:aL} (h:bq w a n c l) (j:Nat) (hj:j<=n):bq w a j c (l.take j):=by
 have h1:=h.1;refine ⟨by omega,h.2.1,by rw [List.length_take,h.len]; omega,h.2.2.2.1,λi hi=>?_⟩;obtain ⟨b,off,e,hlt,hc⟩:=h.at' i (by omega);refine ⟨b,off,e,hlt,?_⟩;rw [hc];simp [List.getD,hi]
theorem VJ (N:Nd) (a:aJ) (n c i:Nat) (s:aK):(ndC N a n c).setIfInBounds (3+i) (.string s)=ndC ⟨N.kd,N.p,N.v,N.ks.set i s⟩ a n c:=by
 unfold ndC;rw [List.map_set,show 3+i=i+1+1+1 by omega];simp
theorem rQ {rest:List Oper} {b:Nat} {N:Nd} {n:Nat} (h:dJ w b N a n c) (hl:N.ks.length=16) (hi:i<16) (s:aK)
  (hgd:o.guard=none) (x y:Operand) (ho:o.op = .store 9 x y) (hx:act.eval x = .pointer (some ⟨b,3+i,none⟩)) (hy:act.eval y = .string s)
  (hQ:∀ w',dJ w' b ⟨N.kd,N.p,N.v,N.ks.set i s⟩ a n c->Rg.Upd w b w'->wpList prog ops Q rest (act.put o.dst undef) w'):wpList prog ops Q (o::rest) act w :=
 wpList_plain hgd λK hK=>by
  unfold Oper.wp execOp;simp only [ho,hx,hy,Sem.run_bind,Sem.run_pure,Result.andThen_ok,qO h (o:=3+i) (by rw [eP _ _ _ _ hl]; omega) s];refine hK _ _ (hQ _ ?_ (bV _ _ _ _));have:=dO (o:=3+i) h (.string s);rwa [VJ] at this
def rG (l:List Tr.In):Prop:=∀ x∈l,x.2.size≠0/\x.2.size<=65552
theorem rG.rest {l:List Tr.In} (h:rG l) (n:Nat):rG (bR l n):=λx hx=>by
 obtain ⟨y,hy,rfl⟩:=List.mem_map.1 hx;exact h y hy
theorem rG.begin {l:List Tr.In} (h:rG l) (c:Fin 16):rG (bI l c):=λx hx=>h x (lY.1 hx).1
theorem Mq {L:Nat} {l:List Tr.In} (hL:L<=64) (ok:Ok L l) (f:rG l):(eU (build L l)).size<=900000:=by
 by_cases hn:build L l = .nil
 .rw [hn]; exact Nat.zero_le _
 .have hs:=eD (nZ L l);have hm:=(eZ _ L (qF L l ok) hL (rz L l f) hn).1 hs;have e:eU (build L l)=iR (bH (build L l)):=by
   cases hb:build L l with
   | nil=>exact absurd hb hn
   | stub r=>rw [hb] at hs; exact absurd trivial hs
   | leaf p v=>rfl
   | ext q t=>rfl
   | br ks=>rfl
  rw [e,xJ];exact MW (dh _) hm
theorem Mt {l:List Tr.In}:ofP (eU (build L l))=ref (build L l):=(zN (eD (nZ L l))).symm
def NT (L:Nat):Prop:=∀ (l:List Tr.In),Ok L l->rG l->∀ (a:aJ) (n c:Nat) (w:World),dY w a n c l->n<=1000000->
 Calls prog 69 #[.slice a n c] w λe w'=>e = .returned (.string (eU (build L l)))/\Below w.heap.size w w'
def NH (w:World) (N:Nd) (e:Ending) (w':World):Prop:=∃ a n c,e = .returned (.tuple #[.agg (ndC N a n c),.bool true])/\bq w' a n c N.p/\Below w.heap.size w w'
theorem VR (w:World):∃ w1,w1=w.alloc (.cells (ndC nd0 none 0 0) 56)/\dJ w1 w.heap.size nd0 none 0 0/\Below w.heap.size w w1/\w1.heap.size=w.heap.size+1:=⟨_,rfl,Rg.Own.new _ _ _,al1 _ _,by simp⟩
theorem DJ (a:aJ) (c:Nat) (w:World):Calls prog 36 #[.slice a 0 c] w λe w'=>e = .returned (.tuple #[.agg (ndC nd0 none 0 0),.bool false])/\Below w.heap.size w w':=by
 obtain ⟨w1,hw1,af,hb1,hs1⟩:=VR w;have HO:=hid af;have HB:=hid hb1;clear af hb1;subst hw1;go_enter func36,ntmps36;go_wp2_with (first
  | (refine ay (aY _ _ _ w.heap.size rfl rfl) ?_)
  | (refine ay (bK qN ?_) ?_; · exact ⟨_,rfl,rfl⟩)
  | (refine bD HO.out rfl nd0 none 0 0 rfl rfl _ _ rfl rfl rfl rfl ?_))
 exact bodyPost_ret (fB (p:=2) (u:=3) rfl _ rfl (dz HO.out) rfl) rfl ⟨rfl,bS HB.out aF _⟩
theorem SK (x:Tr.In) (a:aJ) (c:Nat) (w:World) (h:dY w a 1 c [x]):Calls prog 36 #[.slice a 1 c] w (NH w ⟨1,x.1,x.2,zks⟩):=by
 obtain ⟨w1,hw1,af,hb1,hs1⟩:=VR w;obtain ⟨b,off,hd,rfl,hblt,hin,hbs⟩:=h.at' 0 (by omega);have hcap:=h.1;have hmx:=h.2.1;unfold maxLen at hmx;obtain ⟨p,v⟩:=x;obtain ⟨hp0,hp1,hp2⟩:=hd;simp only [Nat.zero_mul,Nat.add_zero] at hin;have hc0:=hin.1;have hc1:=hin.2;have lw:Hid (bq w hp0 hp1 hp2 p):=hid hbs;dsimp only at hc0 hc1;replace hc1:w.cell? ⟨b,off+1,none⟩=some (.string v):=hc1;have hn0:(0:Int)<(1:Nat):=by omega
 have oX:0<1:=by omega
 have HO:=hid af;have HB:=hid hb1;have HW:Hid (_=_):=hid hw1;clear af hb1 hw1 h hin hbs;go_enter func36,ntmps36;go_wp2_with (refine ay (aY _ _ _ w.heap.size rfl rfl) ?_)
 rw [<-HW.out];clear HW;go_wp2_with fail
 refine aB (S:=λw'=>Below w.heap.size w w') (below_drewN HB.out 1) λhld=>?_;refine ah 0 ?_;try simp only [Act.put,ak]
 refine ah 1 ?_ (hy:=by intro wz hSw; have q0:=hn0; have q1:=oX; (try dsimp only at hSw); go_simp <;> with_reducible rfl);try simp only [Act.put,ak]
 refine ah 2 ?_;try simp only [Act.put,ak]
 refine aC 3 (λwz hSw=>aV hSw hc0) ?_;try simp only [Act.put,ak]
 refine ah 4 ?_;try simp only [Act.put,ak]
 refine ah 5 ?_ (hy:=by intro wz hSw; have q0:=hn0; have q1:=oX; (try dsimp only at hSw); go_simp <;> with_reducible rfl);try simp only [Act.put,ak]
 refine ah 6 ?_;try simp only [Act.put,ak]
 refine aC 7 (λwz hSw=>aV hSw hc1) ?_;try simp only [Act.put,ak]
 refine ah 8 ?_ (hy:=by intro wz hSw; (refine bK (_root_.Go.Proofs.YtlcplcgigjagpaaGreatDoor.qW hp0 hp1 hp2 p v) ?_; exact ⟨_,rfl,rfl⟩));try simp only [Act.put,ak]
 refine aj 9 λK hK=>?_;refine Rg.meetStore (by rfl) HO.out.drew 56 (ndC ⟨1,p,v,zks⟩ hp0 hp1 hp2) ⟨_,_,rfl,rfl,rfl⟩ (kV _ _ _ _ rfl) (by rw [eP _ _ _ _ rfl,eP _ _ _ _ rfl]) (oP _ _ _ _) ?_;intro ap aq az;have ct:=hid aq;have my:Hid (Below w.heap.size w ap):=hid (az.below hld aF);clear aq az;refine hK.out _ _ (my.out) λhld=>?_;clear hK K;try simp only [Act.put,ak]
 refine ah 10 ?_;try simp only [Act.put,ak]
 refine aA ?_;go_wp2;exact bodyPost_ret (fB (p:=2) (u:=3) rfl _ rfl ct.out rfl) rfl ⟨hp0,hp1,hp2,rfl,lw.out.below my.out,my.out⟩
theorem dZ {rest:List Oper} {b:Nat} {N:Nd} {n:Nat} (h:dJ w b N a n c) (hl:N.ks.length=16) (M:Nd) (a':aJ) (n' c':Nat) (hm:M.ks.length=16)
  (hgd:o.guard=none) (x y:Operand) (ho:o.op = .store 56 x y) (hx:act.eval x = .pointer (some ⟨b,0,none⟩)) (hy:act.eval y = .agg (ndC M a' n' c')) (hd:o.dst=none)
  (hQ:∀ w',dJ w' b M a' n' c'->Rg.Upd w b w'->wpList prog ops Q rest act w'):wpList prog ops Q (o::rest) act w :=
 bD h hl M a' n' c' hm hgd x y ho hx hy hd (hQ _ (dz h) (Rg.Upd.set _ _ _))
theorem Ru {L:Nat} (hL:L<=64) (x y:Tr.In) (r:List Tr.In) (ok:Ok L (x::y::r)) (f:rG (x::y::r)) (h0:0<bF (x::y::r)) (hE:NT (L-bF (x::y::r))) (a:aJ) (n c:Nat) (w:World) (h:dY w a n c (x::y::r)) (hn:n<=1000000) :
  Calls prog 36 #[.slice a n c] w (NH w (bH (build L (x::y::r)))):=by
 obtain ⟨w1,hw1,af,hb1,hs1⟩:=VR w;have hlen:=h.len;have hn2:2<=n:=by rw [<-hlen]; simp
 obtain ⟨b,off,hd,rfl,hblt,hin,hbs⟩:=h.at' 0 (by omega);have hcl:=kH ok;have hall:∀ z∈x::y::r,z.1.length=L:=λz hz=>(ok.1 z hz).1;have hNe:bH (build L (x::y::r))=⟨2,x.1.take (bF (x::y::r)),eB,dI (ref (build (L-bF (x::y::r)) (bR (x::y::r) (bF (x::y::r)))))⟩:=by
  rw [build,dif_pos ⟨h0,by omega⟩]; rfl
 have hok':=tJ ok (Nat.le_of_lt hcl) (λz hz z' hz'=>by rw [iF hz,iF hz']);have hx1:((x::y::r).getD 0 ([],eB)).1=x.1:=rfl;have hxl:=hall x List.mem_cons_self;rw [hx1] at hbs;generalize x::y::r=l at *
 generalize x.1=p at *
 obtain ⟨p0,p1,p2⟩:=hd;simp only [Nat.zero_mul,Nat.add_zero] at hin;have hc0:=hin.1;dsimp only at hc0 hbs;have hpl:=hbs.len;have hcp:=hbs.1;obtain ⟨K,hK⟩:=av (bF l)
 have HC:=hid (λwz (hb:Below w.heap.size w wz)=>qV l (some ⟨b,off,none⟩) n c (λz hz=>by rw [hall z hz]; omega) (by omega) wz (h.below hb) hn);have jb:=hid (λwz (hb:Below w.heap.size w wz)=>xu l (some ⟨b,off,none⟩) n c K (λz hz=>by rw [hall z hz]; omega) wz (h.below hb) hn);rw [hK] at HC hok' hE h0 hcl hNe;have u2:=hid (hE (bR l K) hok' (f.rest K));have eV:=hid (λwz=>Jk (eU (build (L-K) (bR l K))) (Mq (by omega) hok' (f.rest K)) wz);rw [Mt] at eV;have hrl:(bR l K).length=n:=by unfold bR; rw [List.length_map,hlen]
 have u5:=hid hrl;obtain ⟨E,hE1⟩:=av (eU (build (L-K) (bR l K)))
 obtain ⟨R,oj⟩:=av (ref (build (L-K) (bR l K)))
 rw [hE1] at u2 eV;rw [oj] at eV hNe;have S8:=hid (MB hbs K (by omega));have io:=hid hNe;have hKc:K<=p2:=by omega
 have Lt:(0:Int)<K:=by omega
 have hcap:=h.1;have hmx:=h.2.1;unfold maxLen at hmx;have hn0:(0:Int)<n:=by omega
 have hnn:0<n:=by omega
 have e0:((n:Int)==0)=false:=by simp; omega
 have e1:((n:Int)==1)=false:=by simp; omega
 have d0:decide ((n:Int)=0)=false:=by simp; omega
 have d1:decide ((n:Int)=1)=false:=by simp; omega
 have HO:=hid af;have HB:=hid hb1;have HW:Hid (_=_):=hid hw1;clear af hb1 hw1 h hin hbs hE1 oj hrl hlen hok' hE hall ok f hx1 hNe hK hpl;go_enter func36,ntmps36;go_wp2_with (refine ay (aY _ _ _ w.heap.size rfl rfl) ?_)
 rw [<-HW.out];clear HW;refine (HC.out w1 HB.out).mono ?_;rintro e w3 ⟨rfl,hb3⟩;have HB3:=hid (bst HB.out hb3);have am:=hid (HO.out.below hb3);have k0:=aV (bst HB.out hb3) hc0;have hNew:=Rg.Own.new w3 (ndC nd0 none 0 0) 56;have HN:=hid hNew;have hs3:=hb3.size;clear hb3 HC HO hNew hc0;go_wp2_with (first
  | (refine ay (zB (a:=p0) (n:=p1) (c:=p2) (j:=K) iU jT hKc ⟨_,_,rfl,rfl,rfl⟩) ?_)
  | (refine ay (bK (KJ 2 p0 K p2 (p.take K)) ?_) ?_; · exact ⟨_,rfl,rfl⟩)
  | (refine ay (aY _ _ _ w3.heap.size rfl rfl) ?_)
  | (refine dZ HN.out rfl ⟨2,p.take K,eB,zks⟩ p0 K p2 rfl rfl _ _ rfl rfl rfl rfl ?_; intro w4 hO4 cX; have ch:=hid hO4; have cz:Hid (Below w3.heap.size w3 w4):=hid (cX.below (al1 _ _) aF); clear hO4 cX))
 refine (jb.out w4 (bst HB3.out cz.out)).mono ?_;rintro e w5 ⟨a5,n5,c5,rfl,r4,hb5⟩;have r5:n5=n:=by rw [<-r4.len]; exact u5.out
 subst r5;have p7:=hid r4;have ag:=hid hb5;clear r4 hb5 jb;go_wp2_with fail
 refine (u2.out a5 n5 c5 w5 p7.out hn).mono ?_;rintro e w6 ⟨rfl,hb6⟩;have cg:=hid (bst ag.out hb6);clear hb6 ag p7;go_wp2_with fail
 refine (eV.out w6).mono ?_;rintro e w7 ⟨rfl,cE⟩;have cq:=hid (bst cg.out cE);have kv:=hid (ch.out.below cq.out);clear cE cg;go_wp2_with (first
  | (refine rQ kv.out rfl (i:=0) (by decide) R rfl _ _ rfl rfl rfl ?_; intro w8 fS ip; have ol:Hid (dJ w8 w3.heap.size ⟨2,p.take K,eB,dI R⟩ p0 K p2):=hid fS; have rS:=hid ip; clear fS ip)
  | (refine ay (dn ol.out (fM R) ⟨_,rfl,rfl⟩) ?_)
  | (refine dZ (Rg.Own.upd (Rg.Own.below (Rg.Own.below am.out cz.out) cq.out) rS.out (by omega)) rfl ⟨2,p.take K,eB,dI R⟩ p0 K p2 (fM R) rfl _ _ rfl rfl rfl rfl ?_; intro w9 ai al; have bh:=hid ai; have s0:=hid al; clear ai al))
 have cD:Hid (Below w.heap.size w w9):=hid (s0.out.below (rS.out.below (bst (bst HB3.out cz.out) cq.out) (by have:=HB3.out.size; omega)) aF);exact bodyPost_ret (fB (p:=2) (u:=3) rfl _ rfl bh.out (fM R)) rfl ⟨p0,K,p2,by rw [io.out]; rfl,by rw [io.out]; exact S8.out.below cD.out,cD.out⟩
theorem VF {L:Nat} (hL:L<=64) (x y:Tr.In) (r:List Tr.In) (ok:Ok L (x::y::r)) (f:rG (x::y::r)) (h0:bF (x::y::r)=0) (hE:NT (L-1)) (a:aJ) (n c:Nat) (w:World) (h:dY w a n c (x::y::r)) (hn:n<=1000000) :
  Calls prog 36 #[.slice a n c] w (NH w (bH (build L (x::y::r)))):=by
 obtain ⟨w1,hw1,af,hb1,hs1⟩:=VR w;have hlen:=h.len;have hn2:2<=n:=by rw [<-hlen]; simp
 have hL0:0<L:=by have:=kH ok; omega
 have hall:∀ z∈x::y::r,z.1.length=L:=λz hz=>(ok.1 z hz).1;have hNe:bH (build L (x::y::r))=⟨3,[],eB,bU λd=>ref (build (L-1) (bR (bI (x::y::r) d) 1))⟩:=by
  rw [build,dif_neg (by omega),dif_pos hL0]; rfl
 generalize x::y::r=l at *
 have HC:=hid (λwz (hb:Below w.heap.size w wz)=>qV l a n c (λz hz=>by rw [hall z hz]; omega) (by omega) wz (h.below hb) hn);rw [h0] at HC;have u6:=hid (λ(d:Fin 16) wz (hb:Below w.heap.size w wz)=>Ei l a n c d (λz hz=>by rw [hall z hz]; omega) wz (h.below hb) hn);have jb:=hid (λ(d:Fin 16) a' n' c' wz (hi:dY wz a' n' c' (bI l d)) (h':n'<=1000000)=>xu (bI l d) a' n' c' 1 (λz hz=>by rw [hall z (lY.1 hz).1]; omega) wz hi h');have u2:=hid (λ(d:Fin 16)=>hE (bR (bI l d) 1) (og ok hL0 d) ((f.begin d).rest 1))
 have eV:=hid (λ(d:Fin 16) wz=>by have:=Jk (eU (build (L-1) (bR (bI l d) 1))) (Mq (by omega) (og ok hL0 d) ((f.begin d).rest 1)) wz; rw [Mt] at this; exact this);have dl:Hid (∀ d:Fin 16,(bI l d).length<=n):=hid (λd=>by
  have:=Dq l d n;rwa [List.take_of_length_le (by omega)] at this)
 have u5:Hid (∀ d:Fin 16,(bR (bI l d) 1).length=(bI l d).length):=hid (λd=>by unfold bR; rw [List.length_map]);obtain ⟨ks,hks⟩:∃ ks,(bU λd=>ref (build (L-1) (bR (bI l d) 1)))=ks:=⟨_,rfl⟩
 have hkl:ks.length=16:=by rw [<-hks]; exact mq _
 have hki:∀ j (hj:j<16),ref (build (L-1) (bR (bI l ⟨j,hj⟩) 1))=ks.getD j eB:=λj hj=>by
  rw [<-hks]; exact (kP (λd=>ref (build (L-1) (bR (bI l d) 1))) ⟨j,hj⟩).symm
 rw [hks] at hNe;have cY:=hid hkl;have S9:=hid hki;have io:=hid hNe;have hcap:=h.1;have hmx:=h.2.1;unfold maxLen at hmx;have hn0:(0:Int)<n:=by omega
 have hnn:0<n:=by omega
 have e0:((n:Int)==0)=false:=by simp; omega
 have e1:((n:Int)==1)=false:=by simp; omega
 have d0:decide ((n:Int)=0)=false:=by simp; omega
 have d1:decide ((n:Int)=1)=false:=by simp; omega
 have HO:=hid af;have HB:=hid hb1;have HW:Hid (_=_):=hid hw1;clear af hb1 hw1 h hlen hE hall ok f hNe hkl hki hks h0;go_enter func36,ntmps36;go_wp2_with (refine ay (aY _ _ _ w.heap.size rfl rfl) ?_)
 rw [<-HW.out];clear HW;refine (HC.out w1 HB.out).mono ?_;rintro e w3 ⟨rfl,hb3⟩;have HB3:=hid hb3;have hNew:=Rg.Own.new w3 (ndC nd0 none 0 0) 56;have HN:=hid hNew;have hs3:=hb3.size;clear hb3 HC hNew;go_wp2_with (first
  | (refine ay (bK (Sj 3) ?_) ?_; · exact ⟨_,rfl,rfl⟩)
  | (refine ay (aY _ _ _ w3.heap.size rfl rfl) ?_)
  | (refine dZ HN.out rfl ⟨3,[],eB,zks⟩ none 0 0 rfl rfl _ _ rfl rfl rfl rfl ?_; intro w4 hO4 cX; have ch:=hid hO4; have cz:Hid (Below w3.heap.size w3 w4):=hid (cX.below (al1 _ _) aF); clear hO4 cX))
 have wA:Hid (Below w1.heap.size w1 w4):=hid (bst HB3.out cz.out);have qS:Hid (dJ w4 w3.heap.size ⟨3,[],eB,iT ks 0⟩ none 0 0):=hid (by rw [yV]; exact ch.out);clear HB3 cz ch HN;obtain ⟨g,hg⟩:=av w3.heap.size
 rw [hg] at qS hs3 ⊢;clear hg;go_loopw [7] (λi wr=>∃ j:Nat,j<=16/\i = .int .i64 j/\Hid (dJ wr g ⟨3,[],eB,iT ks j⟩ none 0 0)/\Hid (Below w1.heap.size w1 wr)) (λi _=>16-(intOf i).toNat)
 case atStart=>exact ⟨0,Nat.zero_le _,rfl,qS,wA⟩
 case round =>
  obtain ⟨j,hj,rfl,r6,mr⟩:=hrel;clear qS wA;by_cases hlt:j<16
  .have hji:(j:Int)<16:=by omega
   have aw:Hid (Below w.heap.size w wr):=hid (bst HB.out mr.out);have HS:=hid (Bt cY.out hlt);have Sa:=hid (uU cY.out hj);go_wp2_with fail
   refine (u6.out ⟨j,hlt⟩ wr aw.out).mono ?_;rintro e w5 ⟨a5,n5,c5,rfl,r4,hb5⟩;have r5:n5<=1000000:=by rw [<-r4.len]; exact Nat.le_trans (dl.out ⟨j,hlt⟩) hn
   have hl5:=r4.len;have p7:=hid r4;have ag:=hid hb5;clear r4 hb5;go_wp2_with fail
   refine (jb.out ⟨j,hlt⟩ a5 n5 c5 w5 p7.out r5).mono ?_;rintro e w6 ⟨a6,n6,c6,rfl,r7,hb6⟩;have Se:n6<=1000000:=by rw [<-r7.len,u5.out,hl5]; exact r5
   have qT:=hid r7;have cg:=hid (bst ag.out hb6);clear r7 hb6 p7 ag;go_wp2_with fail
   refine (u2.out ⟨j,hlt⟩ a6 n6 c6 w6 qT.out Se).mono ?_;rintro e w7 ⟨rfl,cE⟩;have cq:=hid (bst cg.out cE);have pe:=hid (eV.out ⟨j,hlt⟩ w7);obtain ⟨E,hE⟩:=av (eU (build (L-1) (bR (bI l ⟨j,hlt⟩) 1)))
   rw [S9.out j hlt,hE] at pe;rw [hE];obtain ⟨R,hR⟩:=av (ks.getD j eB)
   rw [hR] at pe HS;clear cE cg qT hE hR;go_wp2_with fail
   refine pe.out.mono ?_;rintro e w8 ⟨rfl,ex⟩;have kq:=hid (bst cq.out ex);have So:=hid (r6.out.below kq.out);clear ex cq pe;go_wp2_with (refine rQ So.out Sa.out (i:=j) hlt R rfl _ _ rfl rfl rfl ?_; intro w9 ai al; have bh:=hid ai; have s0:=hid al; clear ai al)
   have hge:w1.heap.size<=g:=hs3;go_roundw
   case rel=>exact ⟨j+1,by omega,by go_num,hid (by rw [<-HS.out]; exact bh.out),hid (s0.out.below (mr.out.trans (kq.out.mono mr.out.size)) hge)⟩
   case measure=>simp [intOf]; omega
  .obtain rfl:j=16:=by omega
   have DQ:Hid (dJ wr g ⟨3,[],eB,ks⟩ none 0 0):=hid (by have:=r6.out; rwa [Bn cY.out] at this);clear r6;go_wp2_with (first
    | (refine ay (dn DQ.out cY.out ⟨_,rfl,rfl⟩) ?_)
    | (refine dZ (Rg.Own.below HO.out mr.out) rfl ⟨3,[],eB,ks⟩ none 0 0 cY.out rfl _ _ rfl rfl rfl rfl ?_; intro w9 ai al; have bh:=hid ai; have s0:=hid al; clear ai al))
   have cD:Hid (Below w.heap.size w w9):=hid (s0.out.below (bst HB.out mr.out) aF);exact bodyPost_ret (fB (p:=2) (u:=3) rfl _ rfl bh.out cY.out) rfl ⟨none,0,0,by rw [io.out]; rfl,by rw [io.out]; exact bq.nil _,cD.out⟩
theorem Jz {L:Nat} (hL:L<=64) (ih:∀ m,m<L->NT m) {l:List Tr.In} (ok:Ok L l) (f:rG l) (hne:l≠[]) (a:aJ) (n c:Nat) (w:World) (h:dY w a n c l) (hn:n<=1000000) :
  Calls prog 36 #[.slice a n c] w (NH w (bH (build L l))):=by
 match l,hne with
 | [x],_ =>
  obtain rfl:n=1:=h.len.symm;have:=SK x a c w h;rw [build];exact this
 | x::y::r,_ =>
  have hlt:=kH ok;by_cases h0:0<bF (x::y::r)
  .exact Ru hL x y r ok f h0 (ih _ (by omega)) a n c w h hn
  .exact VF hL x y r ok f (by omega) (ih _ (by omega)) a n c w h hn
theorem Yq {L:Nat} (hL:L<=64) (ih:∀ m,m<L->NT m):NT L:=λl ok f a n c w h hn=>by
 by_cases hne:l=[]
 .subst hne;obtain rfl:n=0:=h.len.symm;rw [build];have HC:=hid (DJ a c w);clear h;go_enter func69,ntmps69;go_wp2_with fail
  refine HC.out.mono ?_;rintro e w1 ⟨rfl,hb1⟩;have HB1:=hid hb1;have hNew:=Rg.Own.new w1 (ndC nd0 none 0 0) 56;have HN:=hid hNew;clear hb1 hNew;go_wp2_with (first
   | (refine ay (aY _ _ _ w1.heap.size rfl rfl) ?_)
   | (refine dZ HN.out rfl nd0 none 0 0 rfl rfl _ _ rfl rfl rfl rfl ?_; intro w4 hO4 cX; have cz:Hid (Below w1.heap.size w1 w4):=hid (cX.below (al1 _ _) aF); clear hO4 cX))
  go_ret;exact ⟨rfl,bst HB1.out cz.out⟩
 .have hb:=Bv ok hne;have hs:=eD (nZ L l);have hm:=(eZ _ L (qF L l ok) hL (rz L l f) hb).1 hs;have e:eU (build L l)=iR (bH (build L l)):=by
   cases hb':build L l with
   | nil=>exact absurd hb' hb
   | stub r=>rw [hb'] at hs; exact absurd trivial hs
   | leaf p v=>rfl
   | ext q t=>rfl
   | br ks=>rfl
  have HC:=hid (Jz hL ih ok f hne a n c w h hn);have hl:=dh (build L l);rw [e];generalize bH (build L l)=N at *
  have HM:=hid hm;have HL:=hid hl;clear h hm hl e hs hb;go_enter func69,ntmps69;go_wp2_with fail
  refine HC.out.mono ?_;rintro e w1 ⟨a1,n1,c1,rfl,hp1,hb1⟩;have HB1:=hid hb1;have hNew:=Rg.Own.new w1 (ndC nd0 none 0 0) 56;have HN:=hid hNew;have HP:=hid hp1;clear hb1 hNew hp1 HC;go_wp2_with (first
   | (refine ay (aY _ _ _ w1.heap.size rfl rfl) ?_)
   | (refine dZ HN.out rfl N a1 n1 c1 HL.out rfl _ _ rfl rfl rfl rfl ?_; intro w4 hO4 cX; have ch:=hid hO4; have cz:Hid (Below w1.heap.size w1 w4):=hid (cX.below (al1 _ _) aF); clear hO4 cX)
   | (refine ay (dn ch.out HL.out ⟨_,rfl,rfl⟩) ?_))
  refine (NG N a1 n1 c1 HL.out w4 (HP.out.below cz.out) HM.out).mono ?_;rintro e w5 ⟨rfl,hb5⟩;have ag:=hid (bst (bst HB1.out cz.out) hb5);clear hb5;go_wp2;go_ret;exact ⟨rfl,ag.out⟩
theorem Uw (L:Nat):L<=64->NT L:=by
 induction L using Nat.strongRecOn with
 | ind L ih=>exact λhL=>Yq hL λm hm=>ih m hm (by omega)
end Tm
end
section
open Go.RowKit
namespace Tm
open Tr Rf Rl Ni No Pk Sm
theorem Nv {t:T} (hs:¬ dH t):Gl t=eB:=by
 cases t with
 | stub r=>exact absurd trivial hs
 | _=>rfl
theorem QK {t:T} (hs:¬ dH t) (hn:t ≠ .nil):dD t=1\/dD t=2\/dD t=3:=by
 cases t with
 | stub r=>exact absurd trivial hs
 | nil=>exact absurd rfl hn
 | leaf q v=>exact Or.inl rfl
 | ext q s=>exact Or.inr (Or.inl rfl)
 | br ks=>exact Or.inr (Or.inr rfl)
theorem RG (b:Nat) (k:Int) (hk:k=1\/k=2\/k=3) (r:aK) (w:World) (hc:∀ wx,Below w.heap.size w wx->wx.cell? ⟨b,0,none⟩=some (.int .i64 k)) (P:World->Prop)
  (C8:∀ w3,Below w.heap.size w w3->w3.cell? ⟨w.heap.size,0,none⟩=some (.pointer (some ⟨b,0,none⟩))->Calls prog 54 #[.pointer (some ⟨b,4,none⟩),.func (.func 55) #[] #[.pointer (some ⟨w.heap.size,0,none⟩)]] w3 λe w'=>e = .returned (.tuple #[])/\w'.cell? ⟨w.heap.size,0,none⟩=some (.pointer (some ⟨b,0,none⟩))/\w'.cell? ⟨b,7,none⟩=some (.string r)/\P w') :
  Calls prog 28 #[.agg #[.pointer (some ⟨b,0,none⟩)]] w λe w'=>e = .returned (.string r)/\P w':=by
 have eR:∀ (fn:Fn) (first cap:aM) (w:World),(Instr.makeFunc fn first cap).run prog w = .ok (.func fn first cap) w:=λ_ _ _ _=>rfl;have h0:=fU w (some ⟨b,0,none⟩);have hA:=al1 w (.cells #[.pointer (some ⟨b,0,none⟩)] 31);have HK:=hid (nL b k _ (hc _ hA))
 have H3:Hid (∀ w3,Below (w.alloc (.cells #[.pointer (some ⟨b,0,none⟩)] 31)).heap.size (w.alloc (.cells #[.pointer (some ⟨b,0,none⟩)] 31)) w3->w3.cell? ⟨w.heap.size,0,none⟩=some (.pointer (some ⟨b,0,none⟩))/\Calls prog 54 #[.pointer (some ⟨b,4,none⟩),.func (.func 55) #[] #[.pointer (some ⟨w.heap.size,0,none⟩)]] w3 λe w'=>e = .returned (.tuple #[])/\w'.cell? ⟨w.heap.size,0,none⟩=some (.pointer (some ⟨b,0,none⟩))/\w'.cell? ⟨b,7,none⟩=some (.string r)/\P w'):=hid (λw3 hb3 =>
  ⟨aV hb3 h0,C8 w3 (bst hA hb3) (aV hb3 h0)⟩)
 clear hc C8 hA;rcases hk with rfl | rfl | rfl;all_goals
  go_enter func28,ntmps28;go_wp2_with (refine ay (aT h0 ⟨_,rfl,rfl⟩) ?_)
  refine HK.out.mono ?_;rintro e w3 ⟨rfl,hb3⟩;obtain ⟨d0,HD⟩:=H3.out w3 hb3;replace HD:=hid HD;clear hb3 H3 HK h0;go_wp2_with fail
  refine HD.out.mono ?_;rintro e w4 ⟨rfl,e0,e7,hP⟩;have HP:=hid hP;clear hP HD d0;go_wp2;go_ret;exact ⟨rfl,HP.out⟩
theorem VZ:mX .nil:=λM w p hi ht hT=>by
 obtain rfl:p=none:=ht.tV.2 rfl;have h0:=fU w none;have HE:=hid (iC none ((w.alloc (.cells #[.pointer none] 31)).alloc (.cells #[.pointer none] 31)));have hA:=al1 w (.cells #[.pointer none] 31);have HK:Hid (Calls prog 53 #[.agg #[.pointer none]] (w.alloc (.cells #[.pointer none] 31)) λe w'=>e = .returned (.int .i64 0)/\Below (w.alloc (.cells #[.pointer none] 31)).heap.size (w.alloc (.cells #[.pointer none] 31)) w'):=hid (dF M0 none .nil _ (Inv.zero _) rfl)
 have HF:Hid (∀ w3,Below (w.alloc (.cells #[.pointer none] 31)).heap.size (w.alloc (.cells #[.pointer none] 31)) w3->FrN M (sz .nil+1) w w3/\dR M (sz .nil+1) w3):=hid (λw3 hb3=>⟨FrN.below M _ (bst hA hb3),hi.below (bst hA hb3)⟩);clear hi hT hA HE;show Calls _ _ _ _ (λe w'=>e = .returned (.string eB)/\_);go_enter func28,ntmps28;go_wp2_with (refine ay (aT h0 ⟨_,rfl,rfl⟩) ?_)
 refine HK.out.mono ?_;rintro e w3 ⟨rfl,hb3⟩;have m7:=hid (HF.out w3 hb3);clear hb3 HF HK h0;go_wp2;go_ret;exact ⟨rfl,m7.out⟩
theorem Om {M:Mp} {b:Nat} (h:rE M w b (.stub r)):w.cell? ⟨b,0,none⟩=some (.int .i64 (-1))/\w.cell? ⟨b,7,none⟩=some (.string r):=by
 obtain ⟨a,n,c,ka,kn,kc,d,r',hb,_,_,hd⟩:=h;obtain ⟨⟨c0,_⟩,_,_,_,c7⟩:=kE hb;rcases hd with ⟨_,hr⟩ | ⟨_,hs,_⟩
 .rw [hr] at c7;exact ⟨c0,c7⟩
 .exact absurd trivial hs
theorem UG (r:aK):mX (.stub r):=λM w p hi ht hT=>by
 obtain ⟨b,rfl,hm⟩:=ht.at_ (λe=>by cases e);have hpart:=(hi.part_ b _ hm).2.2.2 (by omega);obtain ⟨k0,k7⟩:=Om hpart;have h0:=fU w (some ⟨b,0,none⟩);have hA:=al1 w (.cells #[.pointer (some ⟨b,0,none⟩)] 31);have HK:=hid (nL b (-1) _ (aV hA k0))
 have HF:Hid (∀ w3,Below (w.alloc (.cells #[.pointer (some ⟨b,0,none⟩)] 31)).heap.size (w.alloc (.cells #[.pointer (some ⟨b,0,none⟩)] 31)) w3->w3.cell? ⟨w.heap.size,0,none⟩=some (.pointer (some ⟨b,0,none⟩))/\w3.cell? ⟨b,7,none⟩=some (.string r)/\FrN M (sz (.stub r)+1) w w3/\dR M (sz (.stub r)+1) w3):=hid (λw3 hb3=>⟨aV hb3 h0,aV hb3 (aV hA k7),FrN.below M _ (bst hA hb3),hi.below (bst hA hb3)⟩);clear hi hT hA hpart k0 k7 hm;show Calls _ _ _ _ (λe w'=>e = .returned (.string r)/\_)
 go_enter func28,ntmps28;go_wp2_with (refine ay (aT h0 ⟨_,rfl,rfl⟩) ?_)
 refine HK.out.mono ?_;rintro e w3 ⟨rfl,hb3⟩;obtain ⟨d0,d7,Ly⟩:=HF.out w3 hb3;have m7:=hid Ly;clear hb3 HF HK h0 Ly;go_wp2;go_ret;exact ⟨rfl,m7.out⟩
theorem BD (t:T) (hs:¬ dH t) (hn:t ≠ .nil) (g:Tr.Good t L) (hL:L<=64) (f:Fine t) (oj:∀ q s,t = .ext q s->mX s) (hR2:∀ ks,t = .br ks->∀ i,mX (ks i)):mX t:=λM w p hi ht hT=>by
 obtain ⟨b,rfl,hm⟩:=ht.at_ hn;have hpw:=(hi.part_ b _ hm).2.2.2 (by omega);have hlb:=hi.lt_ b (hi.part_ b _ hm).2.1;obtain ⟨a,n,c,ka,kn,kc,d,r,hb,kw,hKs,hd⟩:=hpw;have Ss:Rg.Own w b (iq t a n c ka kn kc d r) 108:=⟨hlb,hb⟩
 have hbody:Body M w b t a n c ka kn kc:=by
  obtain ⟨⟨c0,c1,c2,c3⟩,_⟩:=kE hb;exact ⟨c0,c1,c2,c3,kw.1,hKs⟩
 refine RG b (dD t) (QK hs hn) (ref t) w (λwx hbx=>(hbody.below hbx).c0) (λw'=>FrN M (sz t+1) w w'/\dR M (sz t+1) w') (λw3 hb3 pf=>?_);have hO3:=Ss.below hb3;have hi3:=hi.below hb3;rcases hd with ⟨rfl,hr⟩ | ⟨rfl,_,hr⟩
 .-- not yet done
  rw [Nv hs] at hr;subst hr;have j9:=hT.below hb3 hT.pos;have ax:=bV w3 b 5 (.int .i32 1);have Lz:Rg.Own (w3.setCell ⟨b,5,none⟩ (.int .i32 1)) b (rM t a n c ka kn kc eB) 108:=dO (o:=5) hO3 (.int .i32 1);have Su:=OM Lz;have F0:dR M (sz t) w3:=hi3.mono (Nat.le_succ _);have hil:dR M (sz t) (w3.setCell ⟨b,5,none⟩ (.int .i32 1)):=F0.lock ax hm aF Su;have SD:(0:Nat)≠b:=λe=>by
   have:=IY hi3 j9;rw [e,hm] at this;cases this
  have LE:Tab (w3.setCell ⟨b,5,none⟩ (.int .i32 1)):=λi hi'=>by
   rw [<-j9 i hi'];exact World.cell?_of_block (w:=w3) (ax.block 0 SD)
  have s8:w.heap.size≠b:=by omega
  have xb:(w3.setCell ⟨b,5,none⟩ (.int .i32 1)).cell? ⟨w.heap.size,0,none⟩=some (.pointer (some ⟨b,0,none⟩)):=by
   rw [<-pf];exact World.cell?_of_block (w:=w3) (ax.block w.heap.size s8)
  have s9:Body M (w3.setCell ⟨b,5,none⟩ (.int .i32 1)) b t a n c ka kn kc:=(hbody.below hb3).upd (hi3.part_ b t hm).2.2.1 ax (λj hj=>World.cell?_setCell_other _ ⟨b,5,none⟩ ⟨b,j,none⟩ _ (λe=>by injection e with e1 e2 e3; omega));obtain ⟨h1,h2,h3,h4,h5,h6⟩:=uG g hL f hn hs;have hE:=Ny M b t hm hs hn g hL f (w3.setCell ⟨b,5,none⟩ (.int .i32 1)).drew (hil.below (below_drewN aG 1)) (s9.below (below_drewN aG 1)) LE oj hR2;have C8:=Yg M b t hm h3 w.heap.size _ xb s8 hil LE Lz hE
  have hD:∀ wx,(callFunc 55 #[.pointer (some ⟨w.heap.size,0,none⟩)]).run prog wx = .ok (.enter 55 #[.pointer (some ⟨w.heap.size,0,none⟩)]) wx:=by intro wx; kernel_rfl
  refine (On.Ry 55 _ hD b 4 w3 (λw'=>∃ w1,FrN M (sz t) (w3.setCell ⟨b,5,none⟩ (.int .i32 1)) w1/\dR M (sz t) w1/\Rg.Upd w1 b w'/\Rg.Own w' b (rM t a n c ka kn kc (ofP (eU t))) 108) (aU (j:=4) hO3 rfl) (aU (j:=5) hO3 rfl) (jk hO3) (C8.mono ?_)).mono ?_
  .rintro e w' ⟨rfl,w1,g1,g2,g3,g4⟩;exact ⟨rfl,⟨⟨aU (j:=4) g4 rfl,jk g4⟩,aU (j:=5) g4 rfl,jk g4⟩,w1,g1,g2,g3,g4⟩
  .rintro e w' ⟨rfl,w2,⟨w1,g1,g2,g3,g4⟩,rfl⟩;rw [<-zN hs] at g4;have jj:=bV w2.drew b 4 (.int .u32 1);have df:=bV (w2.drew.setCell ⟨b,4,none⟩ (.int .u32 1)) b 5 (.int .i32 0);have eL:Rg.Own ((w2.drew.setCell ⟨b,4,none⟩ (.int .u32 1)).setCell ⟨b,4+1,none⟩ (.int .i32 0)) b (iq t a n c ka kn kc 1 (ref t)) 108:=dO (o:=5) (dO (o:=4) g4.drew (.int .u32 1)) (.int .i32 0);obtain ⟨w7,hw7⟩:=av ((w2.drew.setCell ⟨b,4,none⟩ (.int .u32 1)).setCell ⟨b,4+1,none⟩ (.int .i32 0))
   rw [hw7] at eL ⊢;have kx:Rg.Upd w1 b w7:=by
    rw [<-hw7];exact ⟨g3.os,g3.tape,g3.output,by rw [df.size,jj.size]; exact g3.size,λk hk=>((df.block k hk).trans (jj.block k hk)).trans (g3.block k hk)⟩
   have pg:∀ k,k<w3.heap.size->k≠b->(M.at_ k=none\/∃ t',M.at_ k=some t'/\sz t<=sz t')->w7.heap[k]? = w3.heap[k]? := λk hk hkb hc=>(kx.block k hkb).trans ((g1.block k (by rw [ax.size]; exact hk) hc).trans (ax.block k hkb));have mz:w3.heap.size<=w7.heap.size:=by rw [kx.size]; exact Nat.le_trans (by rw [ax.size]; exact aF) g1.size
   have hnb:M.at_ w.heap.size=none:=hi.zy aF;have cE:w7.cell? ⟨w.heap.size,0,none⟩=some (.pointer (some ⟨b,0,none⟩)):=by
    rw [<-pf];exact World.cell?_of_block (w:=w3) (pg _ (World.block_lt_of_cell? w3 _ pf) s8 (Or.inl hnb))
   have hfr:FrN M (sz t+1) w3 w7:=⟨kx.os.trans (g1.os.trans ax.os),kx.tape.trans (g1.tape.trans ax.tape),kx.output.trans (g1.output.trans ax.output),mz,λk hk hc=>by
    refine pg k hk (λe=>?_) (hc.imp id (λ⟨t',e,hl⟩=>⟨t',e,by omega⟩));subst e;rcases hc with h | ⟨t',h,hl⟩
    .rw [hm] at h; cases h
    .rw [hm] at h;obtain rfl:=Option.some.inj h;omega⟩
   have SJ:FD w7 b:=Dy eL.2;have F1:dR M (sz t) w7:=g2.lock kx hm aF SJ;have hbyte:∀ k j v,k<w3.heap.size->w3.cell? ⟨k,j,none⟩=some v->((∃ x,v = .int .u8 x)\/∃ p,v = .pointer p)->w7.heap[k]? = w3.heap[k]? := λk j v hk hc hv=>by
    have hat:M.at_ k=none:=by
     rcases hv with ⟨x,rfl⟩ | ⟨p,rfl⟩
     .exact hi3.eu hc
     .exact hi3.lT hc
    exact pg k hk (λe=>by rw [e,hm] at hat; cases hat) (Or.inl hat)
   refine ⟨rfl,cE,aU (j:=7) eL rfl,(FrN.below M _ hb3).trans hfr,⟨λk hk=>aH (hi3.lt_ k hk) mz,λb' t' hm'=>?_⟩⟩;obtain ⟨q1,q2,q3,q4⟩:=F1.part_ b' t' hm';refine ⟨q1,q2,q3,λhl=>?_⟩;by_cases hlt:sz t'<sz t
   .exact q4 hlt
   .have hp3:=(hi3.part_ b' t' hm').2.2.2 hl;by_cases e:b'=b
    .subst e;obtain rfl:t=t':=by rw [hm] at hm'; exact Option.some.inj hm'
     refine ⟨a,n,c,ka,kn,kc,1,ref t,eL.2,?_,?_,Or.inr ⟨rfl,hs,rfl⟩⟩
     .have ee:=kw;refine ⟨⟨kw.1.1,kw.1.2.1,kw.1.2.2.1,kw.1.2.2.2.1,λj hj=>?_⟩,kw.2⟩;obtain ⟨b2,off,e2,hlt2,hc2⟩:=(kw.1.below hb3).2.2.2.2 j hj;exact ⟨b2,off,e2,aH hlt2 mz,by rw [World.cell?_of_block (hbyte b2 _ _ hlt2 hc2 (Or.inl ⟨_,rfl⟩))]; exact hc2⟩
     .refine ⟨hKs.1,hKs.2.1,hKs.2.2.1,hKs.2.2.2.1,λj hj=>?_⟩;obtain ⟨b2,off,p2,e2,hlt2,hf2,hc2,ht2⟩:=(hbody.below hb3).hk.at' j hj;exact ⟨b2,off,p2,e2,aH hlt2 mz,hf2,by rw [World.cell?_of_block (hbyte b2 _ _ hlt2 hc2 (Or.inr ⟨_,rfl⟩))]; exact hc2,ht2⟩
    .exact hp3.keep mz (pg b' (hi3.lt_ b' q2) e (Or.inr ⟨t',hm',by omega⟩)) hbyte
 .-- done already
  subst hr;refine (On.WJ ⟨b,4,none⟩ _ w3 (aU (j:=4) hO3 rfl)).mono ?_;rintro e w' ⟨rfl,rfl⟩;exact ⟨rfl,pf,aU (j:=7) hO3 rfl,FrN.below M _ hb3,hi3⟩
theorem kX:∀ (t:T) (L:Nat),Tr.Good t L->L<=64->Fine t->mX t
 | .nil,_,_,_,_=>VZ
 | .stub r,_,_,_,_=>UG r
 | .leaf q v,L,g,hL,f=>BD _ (λh=>h) (λe=>by cases e) g hL f (λ_ _ e=>by cases e) (λ_ e=>by cases e)
 | .ext q s,L,g,hL,f=>BD _ (λh=>h) (λe=>by cases e) g hL f (λq' s' e=>by
   injection e with _ e;subst e;exact kX s _ g.2.2.2.2 (by have:=g.2.2.1; omega) f) (λ_ e=>by cases e)
 | .br ks,L,g,hL,f=>BD _ (λh=>h) (λe=>by cases e) g hL f (λ_ _ e=>by cases e) (λks' e i=>by
   injection e with e;subst e;exact kX (ks i) _ (g.2.2 i) (by omega) (f i))
open Ky
theorem Inv.after {M:Mp} {n:Nat} {w w':World} (h:Inv M w) (f:FrN M n w w') (g:dR M n w'):Inv M w' :=
 ⟨λk hk=>aH (h.lt_ k hk) f.size,λb t hm=>by
  have:=((h.toN (sz t+1)).after f g).part_ b t hm;exact ⟨this.1,this.2.1,this.2.2.2 (Nat.lt_succ_self _)⟩⟩
def rH (M:Mp) (w:World) (s:aK) (e:Ending) (w':World):Prop:=e = .returned (.string s)/\Fr M M w w'/\Inv M w'/\Tab w'
theorem wB (M:Mp) (p:aJ) (t:T) (L:Nat) (g:Tr.Good t L) (hL:L<=64) (f:Fine t) (w:World) (hi:Inv M w) (ht:IsT M p t) (hT:Tab w) :
  Calls prog 19 #[tv p] w (rH M w (eU t)):=by
 by_cases hn:dD t=0\/dD t = -1
 .have he:eU t=eB:=by
   cases t with
   | nil=>rfl
   | stub r=>rfl
   | leaf q v=>rcases hn with h | h <;> exact absurd h (by show ¬ ((_:Int)=_); simp [dD])
   | ext q s=>rcases hn with h | h <;> exact absurd h (by show ¬ ((_:Int)=_); simp [dD])
   | br ks=>rcases hn with h | h <;> exact absurd h (by show ¬ ((_:Int)=_); simp [dD])
  rw [he];refine (Ug p (dD t) (by omega) (by omega) (by omega) w (λwx hbx=>dF M p t wx (hi.below hbx) ht)).mono ?_;rintro e w' ⟨rfl,hb⟩;exact ⟨rfl,Fr.below M hb,hi.below hb,hT.below hb hT.pos⟩
 .have hs:¬ dH t:=λh=>by
   cases t with
   | stub r=>exact hn (Or.inr rfl)
   | _=>exact h.elim
  have hne:t ≠ .nil:=λe=>hn (Or.inl (by rw [e]; rfl));obtain ⟨b,rfl,hm⟩:=ht.at_ hne;obtain ⟨pa,pn,pc,ka,kn,kc,hB⟩:=(hi.part hm).body;refine (Ny M b t hm hs hne g hL f w (hi.toN _) hB hT (λq s e=>by
   subst e;exact kX s _ g.2.2.2.2 (by have:=g.2.2.1; omega) f) (λks e i=>by
   subst e;exact kX (ks i) _ (g.2.2 i) (by omega) (f i))).mono ?_
  rintro e w' ⟨rfl,hf,hi'⟩;exact ⟨rfl,hf.fr,hi.after hf hi',xq (hi.toN _) hf hT⟩
theorem sD (M:Mp) (p:aJ) (t:T) (L:Nat) (g:Tr.Good t L) (hL:L<=64) (f:Fine t) (w:World) (hi:Inv M w) (ht:IsT M p t) (hT:Tab w) :
  Calls prog 28 #[tv p] w (rH M w (ref t)):=by
 refine (kX t L g hL f M w p (hi.toN _) ht hT).mono ?_;rintro e w' ⟨rfl,hf,hi'⟩;exact ⟨rfl,hf.fr,hi.after hf hi',xq (hi.toN _) hf hT⟩
theorem Ci (ps:List (aJ)) (a:aJ) (n cap:Nat) (w:World) (h:iV w a n cap ps) (hn:n<=1000000) :
  Calls prog 80 #[.slice a n cap,.func (Fn.func 7) #[] #[]] w λe w'=>∃ r:Int,e = .returned (.int .i64 r)/\Below w.heap.size w w'/\
   ((r = -1/\∀ p∈ps,p.isNone=false)\/∃ i:Nat,r=i/\i<n/\ps.getD i none=none/\∀ p∈ps.take i,p.isNone=false):=by
 have hm:=h.2.1;have hnc:=h.1;have hl:=h.2.2.1;unfold maxLen at hm;have H:=hid h;have HL:=hid hl;clear h hl;go_enter func80,ntmps80;go_wp2;go_loopw [8] (λi wr=>∃ j:Nat,j<=n/\i = .int .i64 j/\Hid (∀ p∈ps.take j,p.isNone=false)/\Hid (Below w.heap.size w wr)) (λi _=>n-(intOf i).toNat)
 case atStart=>exact ⟨0,Nat.zero_le _,rfl,hid (λp hp=>by simp at hp),hid aG⟩
 case round =>
  obtain ⟨j,hj,rfl,HJ,HB⟩:=hrel;by_cases hlt:j<n
  .obtain ⟨b,off,rfl,hblt,hc⟩:=H.out.2.2.2.2 j hlt;have hji:(j:Int)<n:=by omega
   have hc':=(Below.cell (p:=⟨b,off+j,none⟩) HB.out hblt).trans hc;have HS:Hid (ps.take (j+1)=ps.take j++[ps.getD j none]):=hid (by
    have hj':j<ps.length:=by rw [HL.out]; exact hlt
    have e:ps.getD j none=ps[j]:=by simp [List.getD,hj']
    rw [e,List.take_succ_eq_append_getElem hj'])
   obtain ⟨p,hp⟩:=av (ps.getD j none)
   rw [hp] at hc' HS;have HE:=hid (iC p wr);have HP:=hid hp;clear hp hc;go_wp2_with (refine ay (aT hc' ⟨_,rfl,rfl⟩) ?_)
   refine HE.out.mono ?_;rintro e w5 ⟨rfl,hb5⟩;have ag:=hid (bst HB.out hb5);clear hb5 HE HB hc';cases hf:p.isNone with
   | false =>
    have F2:Hid (∀ q∈ps.take (j+1),q.isNone=false):=hid (λq hq=>by
     rw [HS.out,List.mem_append,List.mem_singleton] at hq;rcases hq with hq | rfl
     .exact HJ.out q hq
     .exact hf)
    clear hf;go_wp2;go_roundw
    case rel=>exact ⟨j+1,by omega,by go_num,F2,ag⟩
    case measure=>simp [intOf]; omega
   | true =>
    have hpn:p=none:=by simpa using hf
    clear hf;go_wp2;go_ret;exact ⟨(j:Int),rfl,ag.out,Or.inr ⟨j,rfl,hlt,by rw [HP.out]; exact hpn,HJ.out⟩⟩
  .obtain rfl:j=n:=by omega
   have HF:Hid (∀ p∈ps,p.isNone=false):=hid (by have:=HJ.out; rwa [List.take_of_length_le (by rw [HL.out]; exact aF)] at this);go_wp2;go_ret;exact ⟨-1,rfl,HB.out,Or.inl ⟨rfl,HF.out⟩⟩
def lG (ps:List (aJ)):List (aJ):=ps.filter λp=>!p.isNone
theorem yt (l:List (aJ)) (p:aJ):lG (l++[p])=lG l++if p.isNone then [] else [p]:=by
 unfold lG;rw [List.filter_append];cases p <;> rfl
theorem Gg {l:List (aJ)} (h:∀ p∈l,p.isNone=false):lG l=l:=List.filter_eq_self.2 λp hp=>by rw [h p hp]; rfl
theorem tT {w1 w2:World} {b:Nat} (h:Rg.Upd w b w1) (g:Rg.Upd w1 b w2):Rg.Upd w b w2:=⟨g.os.trans h.os,g.tape.trans h.tape,g.output.trans h.output,g.size.trans h.size,λk hk=>(g.block k hk).trans (h.block k hk)⟩
theorem Gm (w:World) (b:Nat):Rg.Upd w b w:=⟨rfl,rfl,rfl,rfl,λ_ _=>rfl⟩
theorem vR {b:Nat} {t:TypeId}:∀ (vs:List Value) (o:Nat) (w:World) (cs:aM),Rg.Own w b cs t->∃ cs',Rg.Own (w.setCells b o vs) b cs' t/\cs'.size=cs.size/\∀ j,j<o->cs'[j]? = cs[j]?
 | [],_,_,cs,h=>⟨cs,h,rfl,λ_ _=>rfl⟩
 | v::r,o,w,cs,h=>by
  obtain ⟨cs',h1,h2,h3⟩:=vR r (o+1) _ _ (dO (o:=o) h v);refine ⟨cs',h1,by simpa using h2,λj hj=>?_⟩;rw [h3 j (by omega),Array.getElem?_setIfInBounds_ne (by omega)]
theorem wC (b:Nat):∀ (vs:List Value) (o:Nat) (w:World),Rg.Upd w b (w.setCells b o vs)
 | [],_,w=>Gm w b
 | v::r,o,w=>tT (bV w b o v) (wC b r (o+1) _)
theorem NK (w:World):(zeroValue (prog.elem 57)).run prog w = .ok (.agg #[.pointer none]) w:=by kernel_rfl
theorem Md (n:Nat):(Builtin.zeroCells #[Value.pointer none] n).toList=List.replicate n (Value.pointer none):=by
 simp [Builtin.zeroCells];apply List.ext_getElem
 .simp
 .intro i h1 h2;simp [Nat.mod_one]
theorem zX (ty:TypeId) {n:Nat} (hO:Rg.Own w g cur 31) (hs:cur.size=cap) (hi:i<=n) (hn:n<=cap) :
  ∃ w',(Builtin.clear_ #[57] ty #[.slice (dM (some ⟨g,0,none⟩) cap i) (n-i) (cap-i)]).run prog w = .ok (.tuple #[]) w'/\Rg.Upd w g w'/\∃ cur',Rg.Own w' g cur' 31/\cur'.size=cap/\∀ j,j<i->cur'[j]? = cur[j]? := by
 by_cases hz:n-i=0
 .refine ⟨w,?_,Gm w g,cur,hO,hs,λ_ _=>rfl⟩;rw [hz];cases dM (some ⟨g,0,none⟩) cap i <;> simp [Builtin.clear_,run_underlying mU]
 .have hf:dM (some ⟨g,0,none⟩) cap i=some ⟨g,i,none⟩:=by
   unfold dM;rw [if_neg (by omega)];simp [Addr.add_mid]
  obtain ⟨cs',h1,h2,h3⟩:=vR (List.replicate (n-i) (Value.pointer none)) i w cur hO;refine ⟨_,?_,wC g (List.replicate (n-i) (Value.pointer none)) i w,cs',h1,by rw [h2,hs],h3⟩;rw [hf];have hst:=run_storeCells_cells (P:=prog) g i (List.replicate (n-i) (Value.pointer none)) 0 w (λj hj=>by
   have hj':j<n-i:=by simpa using hj
   rw [Nat.add_zero,cell_of_row w g _ _ _ _ hO.2,Array.getElem?_eq_getElem (by omega)];rfl) (λj hj=>jk hO) (by intro v hv'; rw [List.eq_of_mem_replicate hv']; rfl)
  simp only [Nat.add_zero] at hst;obtain ⟨m,hm⟩:∃ m,n-i=m+1:=⟨n-i-1,by omega⟩
  rw [hm] at hst ⊢;simp [Builtin.clear_,run_underlying mU,NK,Md,Value.cells,hst]
theorem Px {rest:List Oper} {a:Act} {n:Nat} (hgd:o.guard=none)
  (ho:∃ s,o.op = .call { callee:=.builtin .clear,args:=#[s],argTypes:=#[57] }/\a.eval s = .slice (dM (some ⟨g,0,none⟩) cap i) (n-i) (cap-i)) (hd:o.dst=none)
  (hO:Rg.Own w g cur 31) (hs:cur.size=cap) (hi:i<=n) (hn:n<=cap)
  (H:∀ w' cur',Rg.Own w' g cur' 31->cur'.size=cap->(∀ j,j<i->cur'[j]? = cur[j]?)->Rg.Upd w g w'->wpList prog ops Q rest a w'):wpList prog ops Q (o::rest) a w:=by
 obtain ⟨s,ho,hx⟩:=ho;refine wpList_plain hgd λK hK=>?_;obtain ⟨w',hr,hu,cur',h1,h2,h3⟩:=zX o.type hO hs hi hn;unfold Oper.wp execOp;simp only [ho,resolve,invoke,builtin,Sem.run_bind,Sem.run_pure,Result.andThen_ok,List.map_toArray,List.map_cons,List.map_nil,hx,hr];refine hK _ _ ?_;rw [show a.put o.dst (.tuple #[])=a by rw [hd]; rfl];exact H w' cur' h1 h2 h3 hu
theorem RowK.cell {qs:List (aJ)} (h:RowK w g cap qs) (hj:j<qs.length):w.cell? ⟨g,j,none⟩=some (.pointer (qs.getD j none)):=by
 obtain ⟨cur,hO,hs,hl,hm,hc⟩:=h;rw [cell_of_row w g _ _ _ _ hO.2];exact hc j hj
theorem RowK.cut {k:Nat} {qs:List (aJ)} (h:RowK w g cap qs) (hO:Rg.Own w g cur 31) (hk:k<=qs.length) (vm:Rg.Own w' g cur' 31) (hs:cur'.size=cap) (he:∀ j,j<k->cur'[j]? = cur[j]?):RowK w' g cap (qs.take k):=by
 obtain ⟨ph,b8,hs0,hl,hm,hc⟩:=h;have e:ph=cur:=by
  have:=b8.2.symm.trans hO.2;injection this with this;injection this
 subst e;refine ⟨cur',vm,hs,by rw [List.length_take]; omega,hm,λj hj=>?_⟩;have hjk:j<k:=by rw [List.length_take] at hj; omega
 have hjq:j<qs.length:=by omega
 rw [he j hjk,hc j hjq];simp [List.getD,hjk]
theorem RowK.own {qs:List (aJ)} (h:RowK w g cap qs):∃ cur,Rg.Own w g cur 31/\cur.size=cap/\qs.length<=cap/\cap<=maxLen:=by
 obtain ⟨ph,b8,hs0,hl,hm,hc⟩:=h;exact ⟨ph,b8,hs0,hl,hm⟩
theorem Qu {qs ps:List (aJ)} (h:qs.drop j=ps.drop j):qs.getD j none=ps.getD j none/\qs.drop (j+1)=ps.drop (j+1):=by
 constructor
 .have:=congrArg (λl=>l[0]?) h;simp only [List.getElem?_drop,Nat.add_zero] at this;rw [List.getD_eq_getElem?_getD,List.getD_eq_getElem?_getD,this]
 .have:=congrArg (λl=>l.drop 1) h;simpa [List.drop_drop] using this
theorem Cv {qs:List (aJ)} {k:Nat} (hk:k<qs.length) (p:aJ):(qs.set k p).take (k+1)=qs.take k++[p]:=by
 rw [List.take_succ_eq_append_getElem (by simpa using hk),List.getElem_set_self,List.take_set_of_le (Nat.le_refl k)]
theorem Dh {ps:List (aJ)} (h:j<ps.length):ps.take (j+1)=ps.take j++[ps.getD j none]:=by
 have e:ps.getD j none=ps[j]:=by simp [List.getD,h]
 rw [e,List.take_succ_eq_append_getElem h]
def Zr (w:World) (g cap:Nat) (ps:List (aJ)) (e:Ending) (w':World):Prop:=e = .returned (.slice (some ⟨g,0,none⟩) (lG ps).length cap)/\RowK w' g cap (lG ps)/\Bo g w w'
theorem Jq (ps:List (aJ)) (g cap:Nat) (w:World) (h:RowK w g cap ps) (hn:ps.length<=1000000) :
  Calls prog 45 #[.slice (some ⟨g,0,none⟩) ps.length cap,.func (Fn.func 7) #[] #[]] w (Zr w g cap ps):=by
 obtain ⟨ph,b8,hs0,hlc,hm⟩:=h.own;unfold maxLen at hm;obtain ⟨n,hnl⟩:=av ps.length
 rw [hnl] at hn hlc;have HL:=hid hnl;have HX:=hid (Ci ps (some ⟨g,0,none⟩) ps.length cap w h.ptrs (by omega));rw [hnl] at HX ⊢;have HR:=hid h;have hgl:=h.lt;clear h b8 hs0 hnl;go_enter func45,ntmps45;go_wp2_with fail
 refine HX.out.mono ?_;rintro e w1 ⟨r,rfl,hb1,hr⟩;have HB1:Hid (Bo g w w1):=hid (Bo.of hb1);have HR1:=hid (HR.out.below hb1);clear hb1 HX HR;rcases hr with ⟨rfl,hall⟩ | ⟨i,rfl,hi,hnone,hall⟩
 .have HK:=hid (Gg hall);clear hall;go_wp2;go_ret;exact ⟨by rw [HK.out,HL.out]; rfl,(by rw [HK.out]; exact HR1.out),HB1.out⟩
 .have hne:decide ((i:Int) = -1)=false:=decide_eq_false (by omega);have hne2:((i:Int) == -1)=false:=by simp
  have HK:Hid (ps.take i=lG (ps.take (i+1))):=hid (by
   rw [Dh (by rw [HL.out]; exact hi),hnone,yt,Gg hall];exact (List.append_nil _).symm)
  clear hall hnone;go_wp2_with fail
  go_loopw [5,6] (λvi vj wr=>∃ (k j:Nat) (qs:List (aJ)),vi = .int .i64 k/\vj = .int .i64 j/\k<=j/\j<=n/\qs.length=n/\Hid (RowK wr g cap qs)/\Hid (qs.take k=lG (ps.take j))/\Hid (qs.drop j=ps.drop j)/\Hid (Bo g w wr)) (λ_ vj _=>n-(intOf vj).toNat)
  case atStart=>exact ⟨i,i+1,ps,rfl,by go_num,by omega,by omega,HL.out,HR1,HK,hid rfl,HB1⟩
  case round =>
   obtain ⟨k,j,qs,rfl,rfl,hkj,hj,LF,lx,ly,ir,HB⟩:=hrel;clear HK HR1 HB1;have hgr:g<wr.heap.size:=lx.out.lt;by_cases hlt:j<n
   .have hji:(j:Int)<n:=by omega
    have hki:(k:Int)<n:=by omega
    have hdd:=Qu ir.out;have hc:=lx.out.cell (j:=j) (by omega);rw [hdd.1] at hc;have C0:=hid hdd.2;have HS:=hid (Dh (ps:=ps) (j:=j) (by rw [HL.out]; exact hlt));obtain ⟨p,hp⟩:=av (ps.getD j none)
    rw [hp] at hc HS;have hNew:=Rg.Own.new wr #[.pointer none] 31;have HN:=hid hNew;clear hdd hp hNew;go_wp2_with (first
     | (refine ay (aT hc ⟨_,rfl,rfl⟩) ?_)
     | (refine ay (aW _ _ _ wr.heap.size rfl rfl) ?_)
     | (refine aX HN.out (by decide) p rfl _ _ rfl rfl rfl ?_; intro w5 aE ax; have cd:=hid aE; have ag:Hid (Below wr.heap.size wr w5):=hid (ax.below (al1 _ _) aF); clear aE ax)
     | (refine ay (aT (aU (j:=0) cd.out rfl) ⟨_,rfl,rfl⟩) ?_))
    refine (iC p w5).mono ?_;rintro e w6 ⟨rfl,hb6⟩;have cg:Hid (Below wr.heap.size wr w6):=hid (bst ag.out hb6);have cM:=hid (cd.out.below hb6);have fW:=hid (lx.out.below cg.out);have xd:Hid (Bo g w w6):=hid (HB.out.then cg.out);clear hb6 ag cd hc HN;cases hf:p.isNone with
    | true =>
     have xe:Hid (qs.take k=lG (ps.take (j+1))):=hid (by rw [HS.out,yt,hf,ly.out]; simp);clear hf;go_wp2_with fail
     go_roundw
     case rel=>exact ⟨k,j+1,qs,rfl,by go_num,by omega,by omega,LF,fW,xe,C0,xd⟩
     case measure=>simp [intOf]; omega
    | false =>
     have xe:Hid ((qs.set k p).take (k+1)=lG (ps.take (j+1))):=hid (by rw [HS.out,yt,hf,Cv (by omega),ly.out]; simp);have HD2:Hid ((qs.set k p).drop (j+1)=ps.drop (j+1)):=hid (by rw [List.drop_set_of_lt (by omega)]; exact C0.out);clear hf;go_wp2_with (first
      | (refine ay (aT (aU (j:=0) cM.out rfl) ⟨_,rfl,rfl⟩) ?_)
      | (refine uN fW.out (i:=k) (by omega) p rfl _ _ rfl rfl rfl ?_; intro w7 g8 df; have rB:=hid g8; have F3:Hid (Bo g w w7):=hid (xd.out.upd df); clear g8 df))
     go_roundw
     case rel=>exact ⟨k+1,j+1,qs.set k p,by go_num,by go_num,by omega,by omega,by simpa using LF,rB,xe,HD2,F3⟩
     case measure=>simp [intOf]; omega
   .obtain rfl:j=n:=by omega
    have hT:=ly.out;rw [List.take_of_length_le (l:=ps) (by rw [HL.out]; exact aF)] at hT;have hkl:(lG ps).length=k:=by rw [<-hT,List.length_take]; omega
    have HE:=hid hT;have cY:=hid hkl;obtain ⟨cur,hO,hs,_,_⟩:=lx.out.own;have HO:=hid hO;have SM:=hid (λ(w':World) (cur':aM) (h1:Rg.Own w' g cur' 31) (h2:cur'.size=cap) (h3:∀ j,j<k->cur'[j]? = cur[j]?)=>lx.out.cut hO (by omega) h1 h2 h3);clear hT hkl hO ly ir lx;go_wp2_with (first
     | (refine ay (lD (a:=some ⟨g,0,none⟩) (n:=j) (c:=cap) (i:=k) mU yC hkj ⟨_,_,rfl,rfl,rfl⟩) ?_)
     | (refine ay (zB (a:=some ⟨g,0,none⟩) (n:=j) (c:=cap) (j:=k) mU yC (by omega) ⟨_,_,rfl,rfl,rfl⟩) ?_)
     | (refine Px (i:=k) (n:=j) rfl ⟨_,rfl,rfl⟩ rfl HO.out hs hkj hlc ?_; intro w8 F4 fS F5 eW ip; have F6:=hid (SM.out w8 F4 fS F5 eW); have F7:Hid (Bo g w w8):=hid (HB.out.upd ip); clear fS F5 eW ip))
    go_ret;exact ⟨by rw [cY.out]; rfl,(by rw [<-HE.out]; exact F6.out),F7.out⟩
def vP (B:Nat) (w:World) (v:Value) (ps:List (aJ)):Prop:=(v = .slice none 0 0/\ps=[])\/∃ g cap,v = .slice (some ⟨g,0,none⟩) ps.length cap/\B<=g/\RowK w g cap ps
theorem vP.ptrs {B:Nat} {w:World} {v:Value} {ps:List (aJ)} (h:vP B w v ps):∃ a c,v = .slice a ps.length c/\iV w a ps.length c ps/\∀ ad,a=some ad->B<=ad.block:=by
 rcases h with ⟨rfl,rfl⟩ | ⟨g,cap,rfl,hB,hR⟩
 .exact ⟨none,0,rfl,⟨aF,Nat.zero_le _,rfl,λ_=>rfl,λ_ h=>absurd h (Nat.not_lt_zero _)⟩,λ_ e=>by cases e⟩
 .exact ⟨_,cap,rfl,hR.ptrs,λad e=>by cases e; exact hB⟩
theorem uf (a:aJ) (n cap:Nat) (ps:List (aJ)) (w:World) (h:iV w a n cap ps) (hn:n<=1000000) :
  Calls prog 46 #[.slice a n cap] w λe w'=>∃ v,e = .returned v/\vP w.heap.size w' v ps/\Below w.heap.size w w':=by
 cases a with
 | none =>
  have hc:cap=0:=h.2.2.2.1 rfl;have h1:=h.1;obtain rfl:n=0:=by omega
  subst hc;have hp:ps=[]:=List.eq_nil_of_length_eq_zero h.2.2.1;refine (JI w).mono ?_;rintro e w' ⟨rfl,rfl⟩;exact ⟨_,rfl,Or.inl ⟨rfl,hp⟩,aG⟩
 | some ad =>
  refine (Ah ad n cap ps w h hn).mono ?_;rintro e w' ⟨g,c,rfl,hg,hR,hb⟩;exact ⟨_,rfl,Or.inr ⟨g,c,rfl,hg,hR⟩,hb⟩
theorem Ja (w:World):Calls prog 45 #[.slice none 0 0,.func (Fn.func 7) #[] #[]] w λe w'=>e = .returned (.slice none 0 0)/\Below w.heap.size w w':=by
 have HX:=hid (Ci [] none 0 0 w ⟨aF,Nat.zero_le _,rfl,λ_=>rfl,λ_ h=>absurd h (Nat.not_lt_zero _)⟩ (by omega));go_enter func45,ntmps45;go_wp2_with fail
 refine HX.out.mono ?_;rintro e w1 ⟨r,rfl,hb1,hr⟩;rcases hr with ⟨rfl,_⟩ | ⟨i,rfl,hi,_⟩
 .have HB1:=hid hb1;clear hb1;go_wp2;go_ret;exact ⟨rfl,HB1.out⟩
 .omega
theorem KI (ps:List (aJ)) (v:Value) (w:World) (h:vP B w v ps) (hB:B<=w.heap.size) (hn:ps.length<=1000000) :
  Calls prog 45 #[v,.func (Fn.func 7) #[] #[]] w λe w'=>∃ v',e = .returned v'/\vP B w' v' (lG ps)/\Below B w w':=by
 rcases h with ⟨rfl,rfl⟩ | ⟨g,cap,rfl,hg,hR⟩
 .refine (Ja w).mono ?_;rintro e w' ⟨rfl,hb⟩;exact ⟨_,rfl,Or.inl ⟨rfl,rfl⟩,hb.mono hB⟩
 .refine (Jq ps g cap w hR hn).mono ?_;rintro e w' ⟨rfl,hR',SO⟩;exact ⟨_,rfl,Or.inr ⟨g,cap,rfl,hg,hR'⟩,SO.below aG hB hg⟩
theorem iV.upd {n:Nat} {ps:List (aJ)} (h:iV w a n c ps) (hu:Rg.Upd w g w') (hne:∀ ad,a=some ad->ad.block≠g):iV w' a n c ps:=by
 refine ⟨h.1,h.2.1,h.2.2.1,h.2.2.2.1,λj hj=>?_⟩;obtain ⟨b,off,e,hlt,hc⟩:=h.2.2.2.2 j hj;exact ⟨b,off,e,by rw [hu.size]; exact hlt,by rw [World.cell?_of_block (hu.block b (hne _ e))]; exact hc⟩
theorem Are.nil (M:Mp):Are M [] []:=⟨rfl,λ_ h=>absurd h (Nat.not_lt_zero _)⟩
theorem FX {M:Mp} {p:aJ} {t:T} {ps:List (aJ)} {l:List T}:Are M (p::ps) (t::l)↔IsT M p t/\Are M ps l:=by
 constructor
 .rintro ⟨h1,h2⟩;refine ⟨h2 0 (by simp),by simpa using h1,λj hj=>?_⟩;have:=h2 (j+1) (by simpa using hj);simpa using this
 .rintro ⟨h1,h2,h3⟩;refine ⟨by simp [h2],λj hj=>?_⟩;cases j with
  | zero=>exact h1
  | succ j =>
   have:=h3 j (by simpa using hj);simpa using this
theorem Are.keep {M:Mp}:∀ {ps:List (aJ)} {l:List T},Are M ps l->Are M (lG ps) (l.filter λt=>!isNil t)
 | [],[],_=>Are.nil M
 | [],_::_,h=>absurd h.1 (by simp)
 | _::_,[],h=>absurd h.1 (by simp)
 | p::ps,t::l,h=>by
  obtain ⟨h1,h2⟩:=FX.1 h;have ih:=Are.keep h2;have hn:=h1.tV;cases p with
  | none =>
   obtain rfl:t = .nil:=hn.1 rfl;exact ih
  | some ad =>
   have ht:isNil t=false:=by
    cases t with
    | nil=>exact absurd (hn.2 rfl) (by simp)
    | _=>rfl
   have e1:lG (some ad::ps)=some ad::lG ps:=rfl;rw [e1,List.filter_cons_of_pos (by rw [ht]; rfl)];exact FX.2 ⟨h1,ih⟩
theorem Li {t:T} {L:Nat} (g:Tr.Good t L):(fI t).filter (λt=>!isNil t)=aZ t:=by
 cases t with
 | nil=>rfl
 | leaf q v=>rfl
 | stub r=>rfl
 | ext q s =>
  have hs:isNil s=false:=by
   have:=g.2.2.2.1;cases s with
   | nil=>exact absurd rfl (qM this)
   | _=>rfl
  show List.filter _ [s]=[s]
  rw [List.filter_cons_of_pos (by rw [hs]; rfl)];rfl
 | br ks =>
  show List.filter _ ((List.finRange 16).map ks)=(dU ks).map ks;rw [List.filter_map];rfl
def MX (M:Mp) (w:World) (t:T) (e:Ending) (w':World):Prop:=∃ a n c ka kc ps,e = .returned (.tuple #[.agg (ndC (bH t) a n c),.slice ka ps.length kc])/\BsF w.heap.size w' a n c (bH t).p/\iV w' ka ps.length kc ps/\Are M ps (aZ t)/\
 (∀ ad,ka=some ad->w.heap.size<=ad.block)/\Fr M M w w'/\Inv M w'/\Tab w'
def zf (M:Mp) (w:World) (t:T) (e:Ending) (w':World):Prop:=∃ a n c ka kc ps,e = .returned (.tuple #[.agg (ndC (bH t) a n c),.slice ka ps.length kc])/\vP w.heap.size w' (.slice ka ps.length kc) ps/\BsF w.heap.size w' a n c (bH t).p/\iV w' ka ps.length kc ps/\Are M ps (aZ t)/\
 (∀ ad,ka=some ad->w.heap.size<=ad.block)/\Fr M M w w'/\Inv M w'/\Tab w'
theorem zf.p {M:Mp} {t:T} {e:Ending} (h:zf M w t e w'):MX M w t e w':=by
 obtain ⟨a,n,c,ka,kc,ps,he,_,hr⟩:=h;exact ⟨a,n,c,ka,kc,ps,he,hr⟩
theorem vP.late {B':Nat} {ps:List (aJ)} (h:vP B w v ps) (hB:B'<=B) (hu:Rg.Upd w g w') (hg:g<B):vP B' w' v ps:=by
 rcases h with h | ⟨k,cap,e,hk,hR⟩
 .exact .inl h
 .exact .inr ⟨k,cap,e,Nat.le_trans hB hk,hR.upd hu (by omega)⟩
theorem RI (M:Mp) (w:World) (hi:Inv M w) (hT:Tab w):Calls prog 22 #[tv none] w (zf M w .nil):=by
 obtain ⟨w2,hw2,b8,af,hb2,hs2⟩:=xE w none;have HE:=hid (iC none w2);have HO:=hid b8;have bd:=hid af;have HB:=hid hb2;have HI:=hid hi;have HT:=hid hT;clear b8 af hb2 hi hT;subst hw2;have hgo:Calls prog 22 #[.agg #[.pointer none]] w (zf M w .nil):=by
  go_enter func22,ntmps22;go_wp2_with (first
   | (refine ay (aY _ _ _ (w.heap.size+1) (by simp) rfl) ?_)
   | (refine ay (aT (aU (j:=0) HO.out rfl) ⟨_,rfl,rfl⟩) ?_))
  refine HE.out.mono ?_;rintro e w3 ⟨rfl,hb3⟩;have HB3:=hid (bst HB.out hb3);have am:=hid (bd.out.below hb3);clear hb3 HE;go_wp2_with (first
   | (refine ay (bK qN ?_) ?_; · exact ⟨_,rfl,rfl⟩)
   | (refine bD am.out rfl nd0 none 0 0 rfl rfl _ _ rfl rfl rfl rfl ?_))
  have cD:=hid (bS HB3.out (show w.heap.size<=w.heap.size+1 by omega) (ndC nd0 none 0 0));exact bodyPost_ret (fB (p:=2) (u:=3) rfl _ rfl (dz am.out) rfl) rfl ⟨none,0,0,none,0,[],rfl,.inl ⟨rfl,rfl⟩,BsF.nil _ _,⟨aF,Nat.zero_le _,rfl,λ_=>rfl,λ_ h=>absurd h (Nat.not_lt_zero _)⟩,Are.nil M,λ_ e=>(by cases e),Fr.below M cD.out,HI.out.below cD.out,HT.out.below cD.out HT.out.pos⟩
 exact hgo
theorem VU (M:Mp) (b:Nat) (t:T) (hm:M.at_ b=some t) (hn:t ≠ .nil) {L:Nat} (g:Tr.Good t L) (hL:L<=64) (w:World) (hi:dR M (sz t) w) {pa:aJ} {pn pc:Nat} {ka:aJ} {kn kc:Nat} (hB:Body M w b t pa pn pc ka kn kc) (hT:Tab w)
  (oj:∀ q s,t = .ext q s->mX s) (hR2:∀ ks,t = .br ks->∀ i,mX (ks i)) :
  Calls prog 41 #[.agg #[.pointer (some ⟨b,0,none⟩)]] w (nG M t w):=by
 by_cases hs:dH t
 .obtain ⟨r,rfl⟩:∃ r,t = .stub r:=by
   cases t with
   | stub r=>exact ⟨r,rfl⟩
   | _=>exact hs.elim
  refine (GY (some ⟨b,0,none⟩) (-1) (by decide) (by decide) (by decide) w (λwx hbx=>nL b (-1) wx (aV hbx hB.c0))).mono ?_;rintro e w' ⟨rfl,hb⟩;exact ⟨none,0,0,rfl,BsF.nil _ _,FrN.below M _ hb,hi.below hb⟩
 .exact NA M b t hm hs hn g hL w hi hB hT oj hR2
theorem tu (M:Mp) (p:aJ) (t:T) (L:Nat) (g:Tr.Good t L) (hL:L<=64) (f:Fine t) (w:World) (hi:Inv M w) (ht:IsT M p t) (hT:Tab w) :
  Calls prog 22 #[tv p] w (zf M w t):=by
 by_cases hne:t = .nil
 .subst hne;have:p=none:=ht.tV.2 rfl;subst this;exact RI M w hi hT
 obtain ⟨b,rfl,hm⟩:=ht.at_ hne;obtain ⟨pa,pn,pc,ka,kn,kc,hB⟩:=(hi.part hm).body;obtain ⟨w2,hw2,b8,af,hb2,hs2⟩:=xE w (some ⟨b,0,none⟩);have hlb:=hi.lt hm;have hB2:=hB.below hb2;have hi2:=hi.below hb2;have il:=hT.below hb2 hT.pos;have hkn:kn<=16:=by
  rw [<-hB.hk.len];cases t with
  | br ks=>rw [show fI (.br ks)=(List.finRange 16).map ks from rfl]; simp
  | ext q s=>show 1<=16; omega
  | _=>exact Nat.zero_le _
 have HE:Hid (∀ w3,Below w2.heap.size w2 w3->(w3.cell? ⟨w.heap.size,0,none⟩=some (.pointer (some ⟨b,0,none⟩))/\w3.cell? ⟨b,3,none⟩=some (.slice ka kn kc))/\
   Calls prog 41 #[.agg #[.pointer (some ⟨b,0,none⟩)]] w3.drew (nG M t w3.drew)/\
   ∀ w6 a6 n6 c6,BsF w3.heap.size w6 a6 n6 c6 (bH t).p->FrN M (sz t) w3.drew w6->dR M (sz t) w6->(w6.cell? ⟨w.heap.size,0,none⟩=some (.pointer (some ⟨b,0,none⟩))/\w6.cell? ⟨b,3,none⟩=some (.slice ka kn kc))/\
   ∃ ps,(Calls prog 46 #[.slice ka kn kc] w6 λe w'=>∃ v,e = .returned v/\vP w6.heap.size w' v ps/\Below w6.heap.size w6 w')/\
   ∀ w7 v7,vP w6.heap.size w7 v7 ps->Below w6.heap.size w6 w7->(w7.cell? ⟨w.heap.size,0,none⟩=some (.pointer (some ⟨b,0,none⟩))/\w7.cell? ⟨b,3,none⟩=some (.slice ka kn kc))/\
   (Calls prog 45 #[v7,.func (Fn.func 7) #[] #[]] w7 λe w'=>∃ v',e = .returned v'/\vP w6.heap.size w' v' (lG ps)/\Below w6.heap.size w7 w')/\
   ∀ w8 v8,vP w6.heap.size w8 v8 (lG ps)->Below w6.heap.size w7 w8->(w8.cell? ⟨w.heap.size,0,none⟩=some (.pointer (some ⟨b,0,none⟩))/\w8.cell? ⟨b,3,none⟩=some (.slice ka kn kc))/\dJ w8 (w.heap.size+1) nd0 none 0 0/\
   ∀ w9,Rg.Upd w8 (w.heap.size+1) w9->(w9.cell? ⟨w.heap.size,0,none⟩=some (.pointer (some ⟨b,0,none⟩))/\w9.cell? ⟨b,3,none⟩=some (.slice ka kn kc))/\zf M w t (.returned (.tuple #[.agg (ndC (bH t) a6 n6 c6),v8])) w9):=hid (λw3 hb3=>by
  have ee:Below w2.heap.size w2 w3.drew:=below_drewN hb3 1;have hi3:=hi2.below ee;have hB3:=hB2.below ee;have xf:=b8.below ee;have F8:=af.below ee;have j9:=il.below ee il.pos;have hg0:M.at_ w.heap.size=none:=hi.out aF;have hg1:M.at_ (w.heap.size+1)=none:=hi.out (by omega);have hs3:=ee.size;refine ⟨⟨aU (j:=0) xf rfl,hB3.c3⟩,VU M b t hm hne g hL w3.drew (hi3.toN _) hB3 j9 (λq s e=>by
   subst e;exact kX s _ g.2.2.2.2 (by have:=g.2.2.1; omega) f) (λks e i=>by
   subst e;exact kX (ks i) _ (g.2.2 i) (by omega) (f i)),λw6 a6 n6 c6 u9 de lv=>?_⟩
  have sa:=zQ xf de hg0;have xh:=zQ F8 de hg1;have cL:=hB3.frN (hi3.toN (sz t)) de hm aF;have r7:=hi3.after de lv;have ky:=xq (hi3.toN (sz t)) de j9;obtain ⟨ps,hps,har⟩:=cL.hk.ptrs;have hpl:ps.length=kn:=hps.2.2.1;have hs6:=de.size;refine ⟨⟨aU (j:=0) sa rfl,cL.c3⟩,ps,uf ka kn kc ps w6 hps (by omega),λw7 v7 hv7 cE=>?_⟩;have F9:=sa.below cE;have Fc:=aV cE cL.c3;refine ⟨⟨aU (j:=0) F9 rfl,Fc⟩,KI ps v7 w7 hv7 cE.size (by omega),λw8 v8 xi ex=>?_⟩;have gf:Below w6.heap.size w6 w8:=cE.trans ex;have xj:=sa.below gf
  have xl:=xh.below gf;have hc38:=aV gf cL.c3;refine ⟨⟨aU (j:=0) xj rfl,hc38⟩,xl,λw9 al=>?_⟩;have hne1:w.heap.size≠w.heap.size+1:=by omega
  have C9:=r7.below gf;have hnf:¬ M.ft (w.heap.size+1):=hi.free (by omega);have hrow:=xi;obtain ⟨k8,SR,rfl,ST,LI⟩:=xi.ptrs;have F5:=gf.size;have Z5:w.heap.size+1<w6.heap.size:=xh.1;have ua:=ky.below gf ky.pos;have kB:∀ ad,k8=some ad->ad.block≠w.heap.size+1:=λad e=>by have:=LI ad e; omega
  refine ⟨⟨aU (j:=0) (xj.upd al hne1) rfl,by rw [World.cell?_of_block (al.block b (by omega))]; exact hc38⟩,a6,n6,c6,k8,SR,lG ps,rfl,hrow.late (by omega) al (by omega),⟨wW (u9.1.below gf) (eu xl (FV _ _ _ _)) al,λad e=>Nat.le_trans (Nat.le_trans hb2.size hb3.size) (u9.2 ad e)⟩,ST.upd al kB,by rw [<-Li g]; exact har.keep,λad e=>by have:=LI ad e; omega,?_,C9.upd al hnf,λi hi=>by rw [World.cell?_of_block (al.block 0 (by have:=hT.pos; omega))]; exact ua i hi⟩
  exact ((((Fr.below M hb2).trans hi (Fr.below M ee)).trans hi de.fr).trans hi (Fr.below M gf)).upd al (by omega))
 have HL:=hid (dh t);obtain ⟨N,hN⟩:=av (bH t)
 rw [hN] at HL HE;have HN:=hid hN;have wh:=hid b8;have LL:=hid (iC (some ⟨b,0,none⟩) w2);have HW:Hid (_=_):=hid hw2;clear b8 af hb2 hB hB2 hi2 il hi hT hm hN g f hne ht hkn hw2;have hgo:Calls prog 22 #[.agg #[.pointer (some ⟨b,0,none⟩)]] w (zf M w t):=by
  have sb:=wh;rw [HW.out] at sb;go_enter func22,ntmps22;go_wp2_with (first
   | (refine ay (aY _ _ _ (w.heap.size+1) (by simp) rfl) ?_)
   | (refine ay (aT (aU (j:=0) sb.out rfl) ⟨_,rfl,rfl⟩) ?_))
  rw [<-HW.out];refine LL.out.mono ?_;rintro e w3 ⟨rfl,hb3⟩;obtain ⟨hS0,sc,HF⟩:=HE.out w3 hb3;replace sc:=hid sc;replace HF:=hid HF;clear hb3 HE HW wh sb LL;go_wp2_with fail
  refine aB (S:=λw'=>w'.cell? ⟨w.heap.size,0,none⟩=some (.pointer (some ⟨b,0,none⟩))/\w'.cell? ⟨b,3,none⟩=some (.slice ka kn kc)) (hS0) λhld=>?_;refine ah 0 ?_ (hy:=by intro wz hSw; (refine aT hSw.1 ?_; exact ⟨_,rfl,rfl⟩));try simp only [Act.put,ak]
  refine ah 2 ?_;try simp only [Act.put,ak]
  refine ah 3 ?_ (hy:=by intro wz hSw; (obtain ⟨hcc,hcd⟩:=hSw; go_simp <;> with_reducible rfl));try simp only [Act.put,ak]
  refine ah 4 ?_;try simp only [Act.put,ak]
  refine ah 5 ?_;try simp only [Act.put,ak]
  refine ah 6 ?_ (hy:=by intro wz hSw; (obtain ⟨hcc,hcd⟩:=hSw; go_simp <;> with_reducible rfl));try simp only [Act.put,ak]
  refine aj 1 λK hK=>?_;go_simp;go_at_call 41
  (with_reducible refine sc.out.mono ?_)
  rintro e w6 ⟨a6,n6,c6,rfl,u9,de,lv⟩;rw [HN.out] at u9 ⊢;obtain ⟨ml,hH6⟩:=HF.out w6 a6 n6 c6 u9 de lv;have H6:=hid hH6;clear u9 de lv hH6;refine hK.out _ _ (ml) λhld=>?_;clear hK K;try simp only [Act.put,ak]
  refine aj 7 λK hK=>?_;go_simp;go_at_call 46
  obtain ⟨ps,LN,hD7⟩:=H6.out;have HD7:=hid hD7
  (with_reducible refine LN.mono ?_)
  rintro e w7 ⟨v7,rfl,hv7,cE⟩;obtain ⟨lz,xm,Cd⟩:=HD7.out w7 v7 hv7 cE;have H7:=hid Cd;have SU:=hid xm;clear hv7 cE xm Cd hD7 LN;refine hK.out _ _ (lz) λhld=>?_;clear hK K;try simp only [Act.put,ak]
  refine aj 8 λK hK=>?_;go_simp;go_at_call 45
  (with_reducible refine SU.out.mono ?_)
  rintro e w8 ⟨v8,rfl,xi,ex⟩;obtain ⟨gh,fS,LO⟩:=H7.out w8 v8 xi ex;have H8:=hid LO;have ol:=hid fS;clear xi ex LO fS;refine hK.out _ _ (gh) λhld=>?_;clear hK K;try simp only [Act.put,ak]
  refine aj 9 λK hK=>?_;refine Rg.meetStore (by rfl) ol.out 56 (ndC N a6 n6 c6) ⟨_,_,rfl,rfl,rfl⟩ (kV _ _ _ _ HL.out) (by rw [eP _ _ _ _ jl,eP _ _ _ _ HL.out]) (oP _ _ _ _) ?_;intro w9 ai al;have bh:=hid ai;obtain ⟨sd,LR⟩:=H8.out w9 al;have H9:=hid LR;clear ai al LR;refine hK.out _ _ (sd) λhld=>?_;clear hK K;try simp only [Act.put,ak]
  refine ah 10 ?_;try simp only [Act.put,ak]
  refine aA ?_;go_wp2;exact bodyPost_ret (fB (p:=2) (u:=3) rfl _ rfl bh.out HL.out) rfl H9.out
 exact hgo
theorem open_row (M:Mp) (p:aJ) (t:T) (L:Nat) (g:Tr.Good t L) (hL:L<=64) (f:Fine t) (_:¬ dH t) (w:World) (hi:Inv M w) (ht:IsT M p t) (hT:Tab w) :
  Calls prog 22 #[tv p] w (zf M w t):=tu M p t L g hL f w hi ht hT
theorem Jh (M:Mp) (p:aJ) (t:T) (L:Nat) (g:Tr.Good t L) (hL:L<=64) (f:Fine t) (hs:¬ dH t) (w:World) (hi:Inv M w) (ht:IsT M p t) (hT:Tab w) :
  Calls prog 22 #[tv p] w (MX M w t):=(open_row M p t L g hL f hs w hi ht hT).mono λ_ _ h=>h.p
end Tm
end
section
open Go.RowKit
namespace Tm
open Tr Ni Pk
theorem Qs (M:Mp) (b:Nat) (t:T) (hm:M.at_ b=some t) (k:Nat) (A:T) (hkl:k<(bT t).length) (kO:(bT t).length<=1000) (hn:Nib (bT t)) (w:World) (hi:Inv M w)
  (hcut:∀ wx M',Inv M' wx->M'.at_ b=some t->Calls prog 159 #[.agg #[.pointer (some ⟨b,0,none⟩)],.int .i64 (k+1:Nat)] wx (dA M' wx A))
  (wa:aJ) (wn wc:Nat) (way:Pa) (v:aK) (hW:Bs M w wa wn wc way) (xo:k<way.length) (hwn:Nib way) (hw64:way.length<=1000) (hne:(bT t).getD k 0≠way.getD k 0) :
  Calls prog 129 #[.agg #[.pointer (some ⟨b,0,none⟩)],.int .i64 k,.slice wa wn wc,.string v] w (dA M w (wrap (way.take k) (two (nb ((bT t).getD k 0)) (nb (way.getD k 0)) A (.leaf (way.drop (k+1)) v)))):=by
 obtain ⟨w2,hw2,b8,af,hb2,hs2⟩:=mZ w (some ⟨b,0,none⟩);have hi2:=hi.below hb2;have hS2:St M w M w2:=⟨Fr.below M hb2,hi2,hb2,hi⟩
 have hX2:Bx M w2 (w.heap.size+1) #[.pointer none] 31:=⟨af,hi.free (by omega),cZ _⟩
 obtain ⟨pa,pn,pc,c1,hP⟩:=hi2.path hm;have hpn:(bT t).length=pn:=hP.1.len;have hwl:way.length=wn:=hW.1.len;rw [hpn] at hkl kO;rw [hwl] at xo hw64;obtain ⟨pb,po,rfl,_,cx⟩:=hP.1.at' k hkl;have hW2:=hW.fr hi (Fr.below M hb2);obtain ⟨wb,wo,rfl,_,cy⟩:=hW2.1.at' k xo;have hx:((bT t).getD k 0).toNat<16:=by
  have:=hn ((bT t).getD k 0) (by rw [List.getD_eq_getElem?_getD,List.getElem?_eq_getElem (by omega)]; exact List.getElem_mem _);exact this
 have hy:(way.getD k 0).toNat<16:=by
  have:=hwn (way.getD k 0) (by rw [List.getD_eq_getElem?_getD,List.getElem?_eq_getElem (by omega)]; exact List.getElem_mem _);exact this
 have hnx:((nb ((bT t).getD k 0)).val:Nat)=((bT t).getD k 0).toNat:=Nat.mod_eq_of_lt hx;have hny:((nb (way.getD k 0)).val:Nat)=(way.getD k 0).toNat:=Nat.mod_eq_of_lt hy;have hnn:nb ((bT t).getD k 0)≠nb (way.getD k 0):=λe=>hne (tq hx hy e);obtain ⟨X,hX⟩:=av (nb ((bT t).getD k 0))
 obtain ⟨Y,hY⟩:=av (nb (way.getD k 0))
 rw [hX] at hnx hnn ⊢;rw [hY] at hny hnn ⊢;obtain ⟨x,hxe⟩:=av (((bT t).getD k 0).toNat)
 obtain ⟨y,hye⟩:=av ((way.getD k 0).toNat)
 rw [hxe] at hx cx hnx;rw [hye] at hy cy hny;obtain ⟨w3,hw3⟩:=au (w2.alloc (.cells (oq uK) 31))
 have hb3:Below w2.heap.size w2 w3:=by rw [hw3]; exact al1 _ _
 have Fd:Rx M w3 w2.heap.size uK:=⟨by rw [hw3]; exact Rg.Own.new _ _ _,hi2.free aF,by rw [oL]; simp [maxLen]⟩
 have hxi:(x:Int)<16:=by omega
 have hyi:(y:Int)<16:=by omega
 have jn:=hP.1.1;have hpm:=hP.1.2.1;have jp:=hW.1.1;have pi:=hW.1.2.1;unfold maxLen at hpm pi;have HAdd:Hid (IntKind.i64.wrap ((k:Int)+1)=((k+1:Nat):Int)):=hid (by simp only [IntKind.wrap_i64,wrap64]; omega);have Ff:Hid (∀ wx,Below w2.heap.size w2 wx->Calls prog 159 #[.agg #[.pointer (some ⟨b,0,none⟩)],.int .i64 ((k:Int)+1)] wx (dA M wx A)):=hid (λwx hb=>hcut wx M (hi2.below hb) hm);obtain ⟨g,hg⟩:=av w2.heap.size
 rw [hg] at Fd;have pj:Hid (∀ wx e w4,Below w3.heap.size w3 wx->Below w2.heap.size w2 wx->dA M wx A e w4->∃ p4 M4,e = .returned (tv p4)/\Below w2.heap.size w2 w4/\Rx M4 w4 g uK/\
   ∀ w5,Rx M4 w5 g (uK.set x p4)->Rg.Upd w4 g w5->Below w2.heap.size w2 w5/\Calls prog 96 #[.slice (dM (some ⟨wb,wo,none⟩) wc (k+1)) (wn-(k+1)) (wc-(k+1)),.string v] w5.drew (dA M4 w5.drew (.leaf (way.drop (k+1)) v))/\
   ∀ e w6,dA M4 w5.drew (.leaf (way.drop (k+1)) v) e w6->∃ p6 M6,e = .returned (tv p6)/\Below w2.heap.size w2 w6/\Rx M6 w6 g (uK.set x p4)/\
   ∀ w7,Rx M6 w7 g ((uK.set x p4).set y p6)->Rg.Upd w6 g w7->∃ M7,Below w2.heap.size w2 w7/\Calls prog 128 #[.slice (some ⟨g,0,none⟩) 16 16] w7.drew (dA M7 w7.drew (two X Y A (.leaf (way.drop (k+1)) v)))/\
   ∀ e w8,dA M7 w7.drew (two X Y A (.leaf (way.drop (k+1)) v)) e w8->∃ p8 M8,e = .returned (tv p8)/\Below w2.heap.size w2 w8/\Calls prog 130 #[.slice (some ⟨wb,wo,none⟩) k wc,.agg #[.pointer p8]] w8 (dA M8 w8 (wrap (way.take k) (two X Y A (.leaf (way.drop (k+1)) v))))/\
   ∀ e w9,dA M8 w8 (wrap (way.take k) (two X Y A (.leaf (way.drop (k+1)) v))) e w9->∃ p9,e = .returned (tv p9)/\Below w2.heap.size w2 w9/\Rg.Own w9 (w.heap.size+1) #[.pointer none] 31/\
   ∀ ap,Rg.Upd w9 (w.heap.size+1) ap->Below w.heap.size w ap/\dA M w (wrap (way.take k) (two X Y A (.leaf (way.drop (k+1)) v))) (.returned (tv p9)) ap):=hid (by
  intro wx e w4 h3x h2x hG;have hsx:St M w M wx:=hS2.below h2x;obtain ⟨p4,M4,rfl,Cf,SW,rL,hb4⟩:=hsx.got hG;have LS:=(Fd.below h3x).got rL hb4;have lA:=(hX2.below h2x).got rL hb4;have l9:=bst h2x hb4;refine ⟨p4,M4,rfl,l9,LS,λw5 eo ax=>?_⟩;have hlo:w.heap.size<=g:=by omega
  have hS5:St M w M4 w5:=SW.upd ax hlo LS.n;have lb:=lA.upd ax (by omega);have xp:=ax.below l9 (by omega);have Z6:Bs M4 w5 (some ⟨wb,wo,none⟩) wn wc way:=hW.fr hi hS5.f;have se:=hS5.below (below_drewN aG 1);refine ⟨xp,nV M4 _ _ _ _ _ _ se.i (hW.fr hi se.f |>.from' (k+1) (by omega)),λe w6 SZ=>?_⟩;obtain ⟨p6,M6,rfl,ky,ml,de,hb6⟩:=se.got SZ;have xr:=(eo.below (below_drewN aG 1)).got de hb6;have T3:=(lb.below (below_drewN aG 1)).got de hb6;have xt:Below w2.heap.size w2 w6:=bst (xp.drew) hb6
  refine ⟨p6,M6,rfl,xt,xr,λw7 g8 df=>?_⟩;have lz:St M w M6 w7:=ml.upd df hlo xr.n;have T4:=T3.upd df (by omega);have xv:=df.below xt (by omega);have xw:=(lz.below (below_drewN aG 1)).plus (S:=λk=>k=g) (λk hk=>⟨Or.inl (by omega),by rw [hk]; exact g8.o.1⟩);have m8:Are M6 ((uK.set x p4).set y p6) (((List.replicate 16 T.nil).set x A).set y (.leaf (way.drop (k+1)) v)):=((Ti M6).set x (Cf.mono de.mono)).set y ky;rw [<-hnx,<-hny,VT X Y _ _ hnn] at m8;have LT:=(g8.below (below_drewN aG 1)).ks (by rw [<-hnx,<-hny]; exact m8)
  have hlen:((uK.set x p4).set y p6).length=16:=by simp [oL]
  rw [hlen] at LT;have Fi:=(T4.below (below_drewN (Below.refl w7.heap.size w7) 1)).plus (S:=λk=>k=g) (by omega);refine ⟨_,xv,jV _ _ _ _ _ _ xw.i LT,λe w8 T5=>?_⟩;obtain ⟨p8,M8,rfl,ua,gh,T6,ex⟩:=xw.got T5;have T7:=Fi.got T6 ex;have xx:Below w2.heap.size w2 w8:=bst (xv.drew) ex;refine ⟨p8,M8,rfl,xx,vE M8 _ _ _ _ _ _ w8 gh.i ((hW.fr hi gh.f).upto k (by omega)) ua,λe w9 xy=>?_⟩;obtain ⟨p9,M9,rfl,xz,sd,xF,ed⟩:=gh.got xy;have r8:=T7.got xF ed;refine ⟨p9,rfl,bst xx ed,r8.o,λap hu=>?_⟩;have cQ:=sd.upd hu (by omega) r8.n
  exact ⟨cQ.b,p9,M9,rfl,xz,cQ.f,cQ.i,cQ.b⟩)
 have h0:=aU (j:=0) b8 rfl;have hkp:k<pn:=hkl;have hkc:k<=wc:=by omega
 have Fl:k+1<=wn:=by omega
 have HB3:=hid hb3;obtain ⟨RR,hRR⟩:=av (wrap (way.take k) (two X Y A (.leaf (way.drop (k+1)) v)))
 rw [hRR] at pj ⊢;have E3:w2.heap.size=w.heap.size+2:=hs2;have xT:=b8;clear b8 af hb2 hs2 hi hi2 hP hW hW2 hS2 hX2 hcut hm hn hwn hne hnx hny hnn hX hY hxe hye Fd hb3 hRR hpn hwl;obtain rfl:g=w.heap.size+2:=by omega
 have Fm:=hid (λe w4 (h:Below w2.heap.size w2 w3.drew)=>pj.out w3.drew e w4 (below_drewN aG 1) h);have HW2:Hid (_=_):=hid hw2;have HW3:Hid (_=_):=hid hw3;have d8:Hid (Rg.Own w2 w.heap.size #[.pointer (some ⟨b,0,none⟩)] 31):=hid xT;clear pj hw2 hw3 xT;go_enter func129,ntmps129;go_wp2_with (first
  | (refine ay (aW _ _ _ (w.heap.size+1) (by simp) rfl) ?_)
  | (refine ay (CX (w.heap.size+2) (by simp) ⟨_,_,rfl,rfl,rfl⟩) ?_))
 rw [<-HW2.out,<-HW3.out];refine aB (S:=λw'=>Below w2.heap.size w2 w') (HB3.out.drew) λhld=>?_;refine ah 0 ?_;try simp only [Act.put,ak]
 refine ah 1 ?_;try simp only [Act.put,ak]
 refine aC 2 (λwz hSw=>aV hSw h0) ?_;try simp only [Act.put,ak]
 refine ah 3 ?_;try simp only [Act.put,ak]
 refine ah 4 ?_;try simp only [Act.put,ak]
 refine aC 5 (λwz hSw=>aV hSw c1) ?_;try simp only [Act.put,ak]
 refine ah 6 ?_;try simp only [Act.put,ak]
 refine ah 7 ?_;try simp only [Act.put,ak]
 refine aC 8 (λwz hSw=>aV hSw cx) ?_;try simp only [Act.put,ak]
 refine ah 9 ?_ (hy:=by intro wz hSw; (refine aT (aV hSw h0) ?_; exact ⟨_,rfl,rfl⟩));try simp only [Act.put,ak]
 refine ah 10 ?_;try simp only [Act.put,ak]
 refine ah 11 ?_ (hy:=by intro wz hSw; (have q0:=HAdd.out; go_simp <;> with_reducible rfl));try simp only [Act.put,ak]
 refine aj 12 λK hK=>?_;go_simp;go_at_call 159
 (with_reducible refine (Ff.out _ hld).mono ?_)
 intro e w4 hG;obtain ⟨p4,M4,rfl,H4⟩:=Fm.out e w4 hld hG;replace H4:=hid H4;clear hG;have hB4:=H4.out.1;refine hK.out _ _ (hB4) λhld=>?_;clear hK K;try simp only [Act.put,ak]
 refine ah 13 ?_;try simp only [Act.put,ak]
 refine aj 14 λK hK=>?_;refine uR (by rfl) H4.out.2.1 (i:=x) (by simpa [oL] using hx) p4 ⟨_,_,rfl,rfl,rfl⟩ ?_;intro w5 eo ax;have H5:=hid (H4.out.2.2 w5 eo ax);clear eo ax;refine hK.out _ _ (H5.out.1) λhld=>?_;clear hK K;try simp only [Act.put,ak]
 refine aA ?_;go_wp2_with fail
 refine aB (S:=λw'=>Below w2.heap.size w2 w') (H5.out.1.drew) λhld=>?_;refine ah 0 ?_;try simp only [Act.put,ak]
 refine ah 1 ?_;try simp only [Act.put,ak]
 refine ah 2 ?_;try simp only [Act.put,ak]
 refine ah 3 ?_;try simp only [Act.put,ak]
 refine aC 4 (λwz hSw=>aV hSw cy) ?_;try simp only [Act.put,ak]
 refine ah 5 ?_;try simp only [Act.put,ak]
 refine ah 6 ?_;try simp only [Act.put,ak]
 refine ah 7 ?_ (hy:=by intro wz hSw; (have q0:=HAdd.out; go_simp <;> with_reducible rfl));try simp only [Act.put,ak]
 refine ah 8 ?_ (hy:=by intro wz hSw; (refine lD (a:=some ⟨wb,wo,none⟩) (n:=wn) (c:=wc) (i:=k+1) iU jT Fl ?_; exact ⟨_,_,rfl,rfl,rfl⟩));try simp only [Act.put,ak]
 refine ah 9 ?_;try simp only [Act.put,ak]
 refine aj 10 λK hK=>?_;go_simp;go_at_call 96
 (with_reducible refine (H5.out.2.1).mono ?_)
 intro e w6 hG;obtain ⟨p6,M6,rfl,H6⟩:=H5.out.2.2 e w6 hG;replace H6:=hid H6;clear hG;have cL:=H6.out.1;refine hK.out _ _ (cL) λhld=>?_;clear hK K;try simp only [Act.put,ak]
 refine ah 11 ?_;try simp only [Act.put,ak]
 refine aj 12 λK hK=>?_;refine uR (by rfl) H6.out.2.1 (i:=y) (by simpa [oL] using hy) p6 ⟨_,_,rfl,rfl,rfl⟩ ?_;intro w7 g8 df;obtain ⟨M7,H7⟩:=H6.out.2.2 w7 g8 df;replace H7:=hid H7;clear g8 df;refine hK.out _ _ (H7.out.1) λhld=>?_;clear hK K;try simp only [Act.put,ak]
 refine aA ?_;go_wp2_with fail
 refine aB (S:=λ_=>True) (trivial) λhld=>?_;refine ah 0 ?_;try simp only [Act.put,ak]
 refine ah 1 ?_;try simp only [Act.put,ak]
 refine ah 2 ?_ (hy:=by intro wz hSw; (refine zB (a:=some ⟨wb,wo,none⟩) (n:=wn) (c:=wc) (j:=k) iU jT hkc ?_; exact ⟨_,_,rfl,rfl,rfl⟩));try simp only [Act.put,ak]
 refine ah 3 ?_;try simp only [Act.put,ak]
 refine aj 4 λK hK=>?_;go_simp;go_at_call 128
 (with_reducible refine (H7.out.2.1).mono ?_)
 intro e w8 hG;obtain ⟨p8,M8,rfl,H8⟩:=H7.out.2.2 e w8 hG;replace H8:=hid H8;clear hG;have Z7:=H8.out.1;refine hK.out _ _ ?_ (λhld=>?_)
 .trivial
 clear hK K;try simp only [Act.put,ak]
 refine aj 5 λK hK=>?_;go_simp;go_at_call 130
 (with_reducible refine (H8.out.2.1).mono ?_)
 intro e w9 hG;obtain ⟨p9,rfl,H9⟩:=H8.out.2.2 e w9 hG;replace H9:=hid H9;clear hG;have ub:=H9.out.1;refine hK.out _ _ ?_ (λhld=>?_)
 .trivial
 clear hK K;try simp only [Act.put,ak]
 refine aj 6 λK hK=>?_;refine cK (by rfl) H9.out.2.1 (off:=0) (by decide) p9 ⟨_,_,rfl,rfl,rfl⟩ ?_;intro ap aq az;have ct:=hid aq;have g9:=hid (H9.out.2.2 ap az);clear aq az;refine hK.out _ _ ?_ (λhld=>?_)
 .trivial
 clear hK K;try simp only [Act.put,ak]
 refine aA ?_;go_wp2;exact bodyPost_ret (dW rfl _ rfl ct.out) rfl g9.out.2
theorem parted {q p:Pa} (hl:q.length<=p.length) (h:¬ q<+:p):cp q p<q.length/\q.getD (cp q p) 0≠p.getD (cp q p) 0:=by
 refine ⟨Co h,?_⟩;have h2:¬ p<+:q:=λg=>h (by rw [g.eq_of_length (Nat.le_antisymm g.length_le hl)]; exact List.prefix_rfl);obtain ⟨s,a,b,q',p',e1,e2,hab,hc⟩:=pX q p h h2;rw [hc,e1,e2];have hg:∀ (x:UInt8) (r:Pa),(s++x::r).getD s.length 0=x:=λx r=>by simp [List.getD]
 rw [hg,hg];exact hab
structure Ahead (M:Mp) (w w2:World) (b:Nat) (t:T) (pa:aJ) (pn pc:Nat):Prop where
 b2:Below w.heap.size w w2
 i2:Inv M w2
 x2:Bx M w2 (w.heap.size+1) #[.pointer none] 31
 c0:w2.cell? ⟨w.heap.size,0,none⟩=some (.pointer (some ⟨b,0,none⟩))
 c1:w2.cell? ⟨b,1,none⟩=some (.slice pa pn pc)
 p:Bs M w2 pa pn pc (bT t)
theorem ahead (M:Mp) (b:Nat) (t:T) (hm:M.at_ b=some t) (w:World) (hi:Inv M w):∃ w2 pa pn pc,w2=(w.alloc (.cells #[.pointer (some ⟨b,0,none⟩)] 31)).alloc (.cells #[.pointer none] 31)/\Ahead M w w2 b t pa pn pc/\w2.heap.size=w.heap.size+2:=by
 obtain ⟨w2,hw2,b8,af,hb2,hs2⟩:=mZ w (some ⟨b,0,none⟩);have hi2:=hi.below hb2;obtain ⟨pa,pn,pc,c1,hP⟩:=hi2.path hm;exact ⟨w2,pa,pn,pc,hw2,⟨hb2,hi2,⟨af,hi.free (by omega),cZ _⟩,aU (j:=0) b8 rfl,c1,hP⟩,hs2⟩
theorem yP (M:Mp) (b:Nat) (t:T) (hm:M.at_ b=some (t)) (w:World) (hi:Inv M w) (wa:aJ) (wn wc:Nat) (way:Pa) (v:aK) (hW:Bs M w wa wn wc way) (hw64:way.length<=64) (hle:(bT (t)).length<=way.length) (h:¬ bT t<+:way) (hn:Nib (bT t)) (hwn:Nib way) (A:T)
  (hcut:∀ wx M',Inv M' wx->M'.at_ b=some t->Calls prog 159 #[.agg #[.pointer (some ⟨b,0,none⟩)],.int .i64 (cp (bT t) way+1:Nat)] wx (dA M' wx A)) :
  Calls prog 95 #[.agg #[.pointer (some ⟨b,0,none⟩)],.slice wa wn wc,.string v] w (dA M w (wrap (way.take (cp (bT t) way)) (two (nb ((bT t).getD (cp (bT t) way) 0)) (nb (way.getD (cp (bT t) way) 0)) A (.leaf (way.drop (cp (bT t) way+1)) v)))):=by
 obtain ⟨w2,pa,pn,pc,hw2,hA,hs2⟩:=ahead M b _ hm w hi;have hpn:=hA.p.1.len;have hwl:way.length=wn:=hW.1.len;have jn:=hA.p.1.1;have hpm:=hA.p.1.2.1;have jp:=hW.1.1;have pi:=hW.1.2.1;unfold maxLen at hpm pi;obtain ⟨hk1,hk2⟩:=parted hle h;have fg:=hid (qd pa wa pn wn pc wc (bT t) way (by omega) (by omega) (by omega) w2 hA.p.1 (oV hi hW.1 (Fr.below M hA.b2)));obtain ⟨R,hR⟩:=av (wrap (way.take (cp (bT t) way)) (two (nb ((bT t).getD (cp (bT t) way) 0)) (nb (way.getD (cp (bT t) way) 0)) A (.leaf (way.drop (cp (bT t) way+1)) v)))
 rw [hR];have HS:Hid (∀ w3,Below w2.heap.size w2 w3->w3.cell? ⟨w.heap.size,0,none⟩=some (.pointer (some ⟨b,0,none⟩))/\Calls prog 129 #[.agg #[.pointer (some ⟨b,0,none⟩)],.int .i64 (cp (bT t) way:Nat),.slice wa wn wc,.string v] w3 (dA M w3 R)/\
   ∀ e w9,dA M w3 R e w9->∃ p,e = .returned (tv p)/\Rg.Own w9 (w.heap.size+1) #[.pointer none] 31/\∀ ap,Rg.Upd w9 (w.heap.size+1) ap->dA M w R (.returned (tv p)) ap):=hid (λw3 hb3 =>
  ⟨aV hb3 hA.c0,by rw [<-hR]; exact Qs M b t hm (cp (bT t) way) A hk1 (by omega) hn w3 (hA.i2.below hb3) hcut wa wn wc way v (hW.fr hi (Fr.below M (bst hA.b2 hb3))) (by omega) hwn (by omega) hk2,
   λe w9 hG=>finish hi (Fr.below M (bst hA.b2 hb3)) (bst hA.b2 hb3) hG (hA.x2.o.below hb3) (cZ _) (by omega) hA.x2.n⟩)
 have hlt:decide (((cp (bT t) way:Nat):Int)<(pn:Int))=true:=by simp; omega
 obtain ⟨k,hk⟩:=av (cp (bT t) way)
 rw [hk] at fg HS hlt;have hlt2:(k:Int)<(pn:Int):=by have:=of_decide_eq_true hlt; exact this
 have hlt3:k<pn:=by omega
 have h0:=hA.c0;have c1:=hA.c1;clear hR hk hA hW hi hm hle h hn hwn hcut hk1 hk2 hpn hwl;subst hw2;go_enter func95,ntmps95;go_wp2_with (refine ay (aW _ _ _ (w.heap.size+1) (by simp) rfl) ?_)
 refine fg.out.mono ?_;rintro e w3 ⟨rfl,hb3⟩;obtain ⟨d0,HC,HF⟩:=HS.out w3 hb3;replace HC:=hid HC;replace HF:=hid HF;clear hb3 HS fg h0 c1;go_wp2_with (refine ay (aT d0 ⟨_,rfl,rfl⟩) ?_)
 refine HC.out.mono ?_;intro e w9 hG;obtain ⟨p9,rfl,ai,hE⟩:=HF.out e w9 hG;have bh:=hid ai;have HE:=hid hE;clear hG ai hE;go_wp2_with (refine aX bh.out (by decide) p9 rfl _ _ rfl rfl rfl ?_; intro ap aq az; have ct:=hid aq; have e8:=hid az; clear aq az)
 exact bodyPost_ret (dW rfl _ rfl ct.out) rfl (HE.out ap e8.out)
theorem JR (M:Mp) (b:Nat) (u:aK) (q:Pa) (hm:M.at_ b=some (.leaf q u)) (w:World) (hi:Inv M w) (wa:aJ) (wn wc:Nat) (way:Pa) (v:aK) (hW:Bs M w wa wn wc way) (hw64:way.length<=64) (hle:(bT (.leaf q u)).length<=way.length) (h:q=way) :
  Calls prog 95 #[.agg #[.pointer (some ⟨b,0,none⟩)],.slice wa wn wc,.string v] w (dA M w (.leaf q v)):=by
 obtain ⟨w2,pa,pn,pc,hw2,hA,hs2⟩:=ahead M b _ hm w hi;have hpn:=hA.p.1.len;have hwl:way.length=wn:=hW.1.len;have jn:=hA.p.1.1;have hpm:=hA.p.1.2.1;have jp:=hW.1.1;have pi:=hW.1.2.1;unfold maxLen at hpm pi;have dq:q.length=pn:=hpn;subst h;obtain rfl:pn=wn:=by omega
 have fg:=hid (qd pa wa pn pn pc wc q q (by omega) (by omega) (by omega) w2 hA.p.1 (oV hi hW.1 (Fr.below M hA.b2)));rw [Ad (List.prefix_rfl),dq] at fg;have HS:Hid (∀ w3,Below w2.heap.size w2 w3->w3.cell? ⟨w.heap.size,0,none⟩=some (.pointer (some ⟨b,0,none⟩))/\Calls prog 53 #[.agg #[.pointer (some ⟨b,0,none⟩)]] w3 (λe w'=>e = .returned (.int .i64 1)/\Below w3.heap.size w3 w')/\
   ∀ w4,Below w3.heap.size w3 w4->Calls prog 96 #[.slice pa pn pc,.string v] w4 (dA M w4 (.leaf q v))/\
   ∀ e w9,dA M w4 (.leaf q v) e w9->∃ p,e = .returned (tv p)/\Rg.Own w9 (w.heap.size+1) #[.pointer none] 31/\∀ ap,Rg.Upd w9 (w.heap.size+1) ap->dA M w (.leaf q v) (.returned (tv p)) ap):=hid (λw3 hb3 =>
  ⟨aV hb3 hA.c0,dF M _ _ w3 (hA.i2.below hb3) (kD (hA.i2.below hb3) hm),λw4 hb4=>⟨nV M _ _ _ _ _ w4 (hA.i2.below (bst hb3 hb4)) (hA.p.fr hA.i2 (Fr.below M (bst hb3 hb4))),
   λe w9 hG=>finish hi (Fr.below M (bst hA.b2 (bst hb3 hb4))) (bst hA.b2 (bst hb3 hb4)) hG (hA.x2.o.below (bst hb3 hb4)) (cZ _) (by omega) hA.x2.n⟩⟩)
 have hlt:decide ((pn:Int)<(pn:Int))=false:=by simp
 have h0:=hA.c0;have c1:=hA.c1;clear hA hW hi hm hle hpn dq hwl;subst hw2;go_enter func95,ntmps95;go_wp2_with (refine ay (aW _ _ _ (w.heap.size+1) (by simp) rfl) ?_)
 refine fg.out.mono ?_;rintro e w3 ⟨rfl,hb3⟩;obtain ⟨d0,HK,H4⟩:=HS.out w3 hb3;replace HK:=hid HK;replace H4:=hid H4;clear hb3 HS fg h0 c1;go_wp2_with (refine ay (aT d0 ⟨_,rfl,rfl⟩) ?_)
 refine HK.out.mono ?_;rintro e w4 ⟨rfl,hb4⟩;obtain ⟨HC,HF⟩:=H4.out w4 hb4;replace HC:=hid HC;replace HF:=hid HF;clear hb4 H4 HK;go_wp2_with fail
 refine HC.out.mono ?_;intro e w9 hG;obtain ⟨p9,rfl,ai,hE⟩:=HF.out e w9 hG;have bh:=hid ai;have HE:=hid hE;clear hG ai hE;go_wp2_with (refine aX bh.out (by decide) p9 rfl _ _ rfl rfl rfl ?_; intro ap aq az; have ct:=hid aq; have e8:=hid az; clear aq az)
 exact bodyPost_ret (dW rfl _ rfl ct.out) rfl (HE.out ap e8.out)
theorem NZ (M:Mp) (b:Nat) (q:Pa) (s:T) (hm:M.at_ b=some (.ext q s)) (w:World) (hi:Inv M w) (wa:aJ) (wn wc:Nat) (way:Pa) (v:aK) (hW:Bs M w wa wn wc way) (hw64:way.length<=64) (hle:(bT (.ext q s)).length<=way.length) (h:q<+:way) (hq:q≠[]) (hg:Tr.get s (way.drop q.length)≠none)
  (hS:∀ M' w' p a n c,Inv M' w'->IsT M' p s->Bs M' w' a n c (way.drop q.length)->Calls prog 58 #[.agg #[.pointer p],.slice a n c,.string v] w' (dA M' w' (put s (way.drop q.length) v))) :
  Calls prog 95 #[.agg #[.pointer (some ⟨b,0,none⟩)],.slice wa wn wc,.string v] w (dA M w (.ext q (put s (way.drop q.length) v))):=by
 obtain ⟨w2,pa,pn,pc,hw2,hA,hs2⟩:=ahead M b _ hm w hi;have hpn:=hA.p.1.len;have hwl:way.length=wn:=hW.1.len;have jn:=hA.p.1.1;have hpm:=hA.p.1.2.1;have jp:=hW.1.1;have pi:=hW.1.2.1;unfold maxLen at hpm pi;have dq:q.length=pn:=hpn;have fg:=hid (qd pa wa pn wn pc wc q way (by omega) (by omega) (by omega) w2 hA.p.1 (oV hi hW.1 (Fr.below M hA.b2)));rw [Ad h,dq] at fg;have hpw:pn<=wn:=by rw [<-dq,<-hwl]; exact hle
 rw [dq] at hS ⊢;obtain ⟨ka,kn,kc,c3,hK⟩:=hA.i2.kids hm;obtain ⟨kb,ko,p0,rfl,cA,el,hk0,hT0⟩:=hK.at' 0 (by rw [<-hK.len]; exact Nat.one_pos);have hkn:kn=1:=hK.len.symm;have hkc:=hK.1;have hkm:=hK.2.1;unfold maxLen at hkm;rw [Nat.add_zero] at hk0;have cn:IsT M p0 s:=hT0;have hbl:=hi.lt hm;have mf:=hi.lt_ kb el
 have HS:Hid (∀ w3,Below w2.heap.size w2 w3->w3.cell? ⟨w.heap.size,0,none⟩=some (.pointer (some ⟨b,0,none⟩))/\Calls prog 53 #[.agg #[.pointer (some ⟨b,0,none⟩)]] w3 (λe w'=>e = .returned (.int .i64 2)/\Below w3.heap.size w3 w')/\
   ∀ w4,Below w3.heap.size w3 w4->(w4.cell? ⟨w.heap.size,0,none⟩=some (.pointer (some ⟨b,0,none⟩))/\w4.cell? ⟨b,3,none⟩=some (.slice (some ⟨kb,ko,none⟩) kn kc)/\w4.cell? ⟨kb,ko,none⟩=some (.pointer p0))/\
   (∀ wx,Below w4.heap.size w4 wx->Calls prog 58 #[.agg #[.pointer p0],.slice (dM wa wc pn) (wn-pn) (wc-pn),.string v] wx (dA M wx (put s (way.drop pn) v)))/\∀ wx,Below w4.heap.size w4 wx->∀ e w5,dA M wx (put s (way.drop pn) v) e w5->∃ p5 M5,e = .returned (tv p5)/\Below w4.heap.size w4 w5/\Calls prog 130 #[.slice pa pn pc,.agg #[.pointer p5]] w5 (dA M5 w5 (.ext q (put s (way.drop pn) v)))/\
    ∀ e w9,dA M5 w5 (.ext q (put s (way.drop pn) v)) e w9->∃ p9,e = .returned (tv p9)/\Below w4.heap.size w4 w9/\Rg.Own w9 (w.heap.size+1) #[.pointer none] 31/\∀ ap,Rg.Upd w9 (w.heap.size+1) ap->True/\dA M w (.ext q (put s (way.drop pn) v)) (.returned (tv p9)) ap):=hid (λw3 hb3 =>
  ⟨aV hb3 hA.c0,dF M _ _ w3 (hA.i2.below hb3) (kD (hA.i2.below hb3) hm),λw4 hb4=>⟨⟨aV hb4 (aV hb3 hA.c0),aV hb4 (aV hb3 c3),aV hb4 (aV hb3 hk0)⟩,λwx hbx=>by
   have hB:=bst hA.b2 (bst (bst hb3 hb4) hbx);refine hS M wx p0 _ _ _ (hi.below hB) cn ?_;have:=(hW.fr hi (Fr.below M hB)).from' pn hpw;exact this,λwx hbx e w5 hG=>by
   have hB:=bst (bst hb3 hb4) hbx;have sf:St M w M wx:=⟨Fr.below M (bst hA.b2 hB),hi.below (bst hA.b2 hB),bst hA.b2 hB,hi⟩
   obtain ⟨p5,M5,rfl,hZ,hS5,cN,hb5⟩:=sf.got hG;have lb:=(hA.x2.below hB).got cN hb5;have hwr:wrap q (put s (way.drop pn) v) = .ext q (put s (way.drop pn) v):=if_neg hq;have hbe:=vE M5 pa pn pc q p5 (put s (way.drop pn) v) w5 hS5.i ((hA.p.fr hA.i2 (Fr.below M hB)).fr (hA.i2.below hB) cN) hZ;rw [hwr] at hbe;refine ⟨p5,M5,rfl,bst hbx hb5,hbe,λe w9 xy=>?_⟩;obtain ⟨p9,M9,rfl,xz,sd,xF,ed⟩:=hS5.got xy;have r8:=lb.got xF ed;refine ⟨p9,rfl,bst (bst hbx hb5) ed,r8.o,λap hu=>?_⟩;have cQ:=sd.upd hu (by omega) r8.n
   exact ⟨trivial,p9,M9,rfl,xz,cQ.f,cQ.i,cQ.b⟩⟩⟩)
 have hlt:decide ((pn:Int)<(pn:Int))=false:=by simp
 have h0:=hA.c0;have c1:=hA.c1;clear hA hW hi hm hle hpn dq hwl hK hT0 cn c3 hk0 hS;subst hw2;go_enter func95,ntmps95;go_wp2_with (refine ay (aW _ _ _ (w.heap.size+1) (by simp) rfl) ?_)
 refine fg.out.mono ?_;rintro e w3 ⟨rfl,hb3⟩;obtain ⟨d0',HK,H4⟩:=HS.out w3 hb3;replace HK:=hid HK;replace H4:=hid H4;clear hb3 HS fg h0 c1;go_wp2_with (refine ay (aT d0' ⟨_,rfl,rfl⟩) ?_)
 refine HK.out.mono ?_;rintro e w4 ⟨rfl,hb4⟩;obtain ⟨⟨d0,d3,dk⟩,HC,HF⟩:=H4.out w4 hb4;replace HC:=hid HC;replace HF:=hid HF;clear hb4 H4 HK d0';go_wp2_with fail
 refine aB (S:=λw'=>Bo (w.heap.size+1) w4 w') (Bo.of (below_drewN aG 1)) λhld=>?_;refine ah 0 ?_;try simp only [Act.put,ak]
 refine ah 1 ?_;try simp only [Act.put,ak]
 refine aC 2 (λwz hSw=>fZ hSw (by omega) d0) ?_;try simp only [Act.put,ak]
 refine ah 3 ?_;try simp only [Act.put,ak]
 refine ah 4 ?_;try simp only [Act.put,ak]
 refine aC 5 (λwz hSw=>fZ hSw (by omega) d3) ?_;try simp only [Act.put,ak]
 refine ah 6 ?_;try simp only [Act.put,ak]
 refine ah 7 ?_ (hy:=by intro wz hSw; (refine aT (fZ hSw (by omega) dk) ?_; exact ⟨_,rfl,rfl⟩));try simp only [Act.put,ak]
 refine ah 8 ?_;try simp only [Act.put,ak]
 refine ah 9 ?_;try simp only [Act.put,ak]
 refine ah 10 ?_ (hy:=by intro wz hSw; (refine lD (a:=wa) (n:=wn) (c:=wc) (i:=pn) iU jT hpw ?_; exact ⟨_,_,rfl,rfl,rfl⟩));try simp only [Act.put,ak]
 refine ah 11 ?_;try simp only [Act.put,ak]
 refine aj 12 λK hK=>?_;go_simp;go_at_call 58
 (with_reducible refine (HC.out w4.drew (below_drewN aG 1)).mono ?_)
 intro e w5 hG;obtain ⟨p5,M5,rfl,ge,H5⟩:=HF.out w4.drew (below_drewN aG 1) e w5 hG;replace H5:=hid H5;clear hG;refine hK.out _ _ (Bo.of ge) λhld=>?_;clear hK K;try simp only [Act.put,ak]
 refine aj 13 λK hK=>?_;go_simp;go_at_call 130
 (with_reducible refine (H5.out.1).mono ?_)
 intro e w9 hG;obtain ⟨p9,rfl,ub,H9⟩:=H5.out.2 e w9 hG;replace H9:=hid H9;clear hG;refine hK.out _ _ (Bo.of ub) λhld=>?_;clear hK K;try simp only [Act.put,ak]
 refine aj 14 λK hK=>?_;refine cK (by rfl) H9.out.1 (off:=0) (by decide) p9 ⟨_,_,rfl,rfl,rfl⟩ ?_;intro ap aq az;have ct:=hid aq;have g9:=hid (H9.out.2 ap az);clear aq;refine hK.out _ _ ((Bo.of ub).upd az) λhld=>?_;clear hK K;try simp only [Act.put,ak]
 refine aA ?_;go_wp2;exact bodyPost_ret (dW rfl _ rfl ct.out) rfl g9.out.2
theorem Kh (M:Mp) (b:Nat) (q:Pa) (s:T) (hm:M.at_ b=some (.ext q s)) (w:World) (hi:Inv M w) (wa:aJ) (wn wc:Nat) (way:Pa) (v:aK) (hW:Bs M w wa wn wc way) (hw64:way.length<=64) (hle:(bT (.ext q s)).length<=way.length) (h:q<+:way)
  (hS:∀ M' w' p a n c,Inv M' w'->IsT M' p s->Bs M' w' a n c (way.drop q.length)->Calls prog 58 #[.agg #[.pointer p],.slice a n c,.string v] w' λe w''=>e = .panicked [fF 8]/\Below w'.heap.size w' w'') :
  Calls prog 95 #[.agg #[.pointer (some ⟨b,0,none⟩)],.slice wa wn wc,.string v] w (λe w'=>e = .panicked [fF 8]/\Below w.heap.size w w'):=by
 obtain ⟨w2,pa,pn,pc,hw2,hA,hs2⟩:=ahead M b _ hm w hi;have hpn:=hA.p.1.len;have hwl:way.length=wn:=hW.1.len;have jn:=hA.p.1.1;have hpm:=hA.p.1.2.1;have jp:=hW.1.1;have pi:=hW.1.2.1;unfold maxLen at hpm pi;have dq:q.length=pn:=hpn;have fg:=hid (qd pa wa pn wn pc wc q way (by omega) (by omega) (by omega) w2 hA.p.1 (oV hi hW.1 (Fr.below M hA.b2)));rw [Ad h,dq] at fg;have hpw:pn<=wn:=by rw [<-dq,<-hwl]; exact hle
 rw [dq] at hS ;obtain ⟨ka,kn,kc,c3,hK⟩:=hA.i2.kids hm;obtain ⟨kb,ko,p0,rfl,cA,el,hk0,hT0⟩:=hK.at' 0 (by rw [<-hK.len]; exact Nat.one_pos);have hkn:kn=1:=hK.len.symm;have hkc:=hK.1;have hkm:=hK.2.1;unfold maxLen at hkm;rw [Nat.add_zero] at hk0;have cn:IsT M p0 s:=hT0;have hbl:=hi.lt hm;have mf:=hi.lt_ kb el
 have HS:Hid (∀ w3,Below w2.heap.size w2 w3->w3.cell? ⟨w.heap.size,0,none⟩=some (.pointer (some ⟨b,0,none⟩))/\Calls prog 53 #[.agg #[.pointer (some ⟨b,0,none⟩)]] w3 (λe w'=>e = .returned (.int .i64 2)/\Below w3.heap.size w3 w')/\
   ∀ w4,Below w3.heap.size w3 w4->(w4.cell? ⟨w.heap.size,0,none⟩=some (.pointer (some ⟨b,0,none⟩))/\w4.cell? ⟨b,3,none⟩=some (.slice (some ⟨kb,ko,none⟩) kn kc)/\w4.cell? ⟨kb,ko,none⟩=some (.pointer p0))/\
   (∀ wx,Below w4.heap.size w4 wx->Calls prog 58 #[.agg #[.pointer p0],.slice (dM wa wc pn) (wn-pn) (wc-pn),.string v] wx (λe w''=>e = .panicked [fF 8]/\Below wx.heap.size wx w''))/\∀ wx,Below w4.heap.size w4 wx->Below w.heap.size w wx):=hid (λw3 hb3 =>
  ⟨aV hb3 hA.c0,dF M _ _ w3 (hA.i2.below hb3) (kD (hA.i2.below hb3) hm),λw4 hb4=>⟨⟨aV hb4 (aV hb3 hA.c0),aV hb4 (aV hb3 c3),aV hb4 (aV hb3 hk0)⟩,λwx hbx=>by
   have hB:=bst hA.b2 (bst (bst hb3 hb4) hbx);refine hS M wx p0 _ _ _ (hi.below hB) cn ?_;have:=(hW.fr hi (Fr.below M hB)).from' pn hpw;exact this,λwx hbx=>bst hA.b2 (bst (bst hb3 hb4) hbx)⟩⟩)
 have hlt:decide ((pn:Int)<(pn:Int))=false:=by simp
 have h0:=hA.c0;have c1:=hA.c1;clear hA hW hi hm hle hpn dq hwl hK hT0 cn c3 hk0 hS;subst hw2;go_enter func95,ntmps95;go_wp2_with (refine ay (aW _ _ _ (w.heap.size+1) (by simp) rfl) ?_)
 refine fg.out.mono ?_;rintro e w3 ⟨rfl,hb3⟩;obtain ⟨d0',HK,H4⟩:=HS.out w3 hb3;replace HK:=hid HK;replace H4:=hid H4;clear hb3 HS fg h0 c1;go_wp2_with (refine ay (aT d0' ⟨_,rfl,rfl⟩) ?_)
 refine HK.out.mono ?_;rintro e w4 ⟨rfl,hb4⟩;obtain ⟨⟨d0,d3,dk⟩,HC,HF⟩:=H4.out w4 hb4;replace HC:=hid HC;replace HF:=hid HF;clear hb4 H4 HK d0';go_wp2_with fail
 refine wp_region_held_drew (S:=λw'=>Bo (w.heap.size+1) w4 w') (by kernel_rfl) (Bo.of (below_drewN aG 1)) (λhld=>?_);refine ah 0 ?_;try simp only [Act.put,ak]
 refine ah 1 ?_;try simp only [Act.put,ak]
 refine aC 2 (λwz hSw=>fZ hSw (by omega) d0) ?_;try simp only [Act.put,ak]
 refine ah 3 ?_;try simp only [Act.put,ak]
 refine ah 4 ?_;try simp only [Act.put,ak]
 refine aC 5 (λwz hSw=>fZ hSw (by omega) d3) ?_;try simp only [Act.put,ak]
 refine ah 6 ?_;try simp only [Act.put,ak]
 refine ah 7 ?_ (hy:=by intro wz hSw; (refine aT (fZ hSw (by omega) dk) ?_; exact ⟨_,rfl,rfl⟩));try simp only [Act.put,ak]
 refine ah 8 ?_;try simp only [Act.put,ak]
 refine ah 9 ?_;try simp only [Act.put,ak]
 refine ah 10 ?_ (hy:=by intro wz hSw; (refine lD (a:=wa) (n:=wn) (c:=wc) (i:=pn) iU jT hpw ?_; exact ⟨_,_,rfl,rfl,rfl⟩));try simp only [Act.put,ak]
 refine ah 11 ?_;try simp only [Act.put,ak]
 refine aj 12 λK hK=>?_;go_simp;go_at_call 58
 (with_reducible refine (HC.out w4.drew (below_drewN aG 1)).mono ?_)
 rintro e w5 ⟨rfl,hb5⟩;simp +zetaDelta [bodyPost,Exit.then];exact bst (HF.out w4.drew (below_drewN aG 1)) hb5
theorem Xl (ks:Fin 16->T) (M:Mp) (b:Nat) (hm:M.at_ b=some (.br ks)) (w:World) (hi:Inv M w) (wa:aJ) (wn wc:Nat) (c0:UInt8) (r:Pa) (v:aK) (hW:Bs M w wa wn wc (c0::r)) (hc0:c0.toNat<16) (hlen:(c0::r).length<=64)
  (ih:∀ M' w' p a n c,Inv M' w'->IsT M' p (ks (nb c0))->Bs M' w' a n c r->Calls prog 58 #[.agg #[.pointer p],.slice a n c,.string v] w' (dA M' w' (put (ks (nb c0)) r v))) :
  Calls prog 58 #[.agg #[.pointer (some ⟨b,0,none⟩)],.slice wa wn wc,.string v] w (dA M w (.br λj=>if j=nb c0 then put (ks (nb c0)) r v else ks j)):=by
  obtain ⟨w2,hw2,b8,af,hb2,hs2⟩:=mZ w (some ⟨b,0,none⟩);have hi2:=hi.below hb2;have hX2:Bx M w2 (w.heap.size+1) #[.pointer none] 31:=⟨af,hi.free (by omega),cZ _⟩
  have hwl:(c0::r).length=wn:=hW.1.len;have y0:r.length+1=wn:=by rw [<-hwl]; rfl
  have h0:=aU (j:=0) b8 rfl;have HK:=hid (dF M _ _ w2 hi2 (kD hi2 hm));obtain ⟨ka,kn,kc,c3,hKs⟩:=hi2.kids hm;have hkn:kn=16:=by rw [<-hKs.len]; exact fK ks
  subst hkn;have hnx:((nb c0).val:Nat)=c0.toNat:=Nat.mod_eq_of_lt hc0;obtain ⟨kb,ko,p0,rfl,cA,el,hk0,hT0⟩:=hKs.at' c0.toNat hc0;have cn:IsT M p0 (ks (nb c0)):=by
   rw [<-hnx,kJ] at hT0;exact hT0
  have hbl:=hi.lt hm;have mf:=hi.lt_ kb el;have hkc:=hKs.1;have hkm:=hKs.2.1;unfold maxLen at hkm;have hx16:c0.toNat<16:=hc0;have hxi:((c0.toNat:Nat):Int)<16:=by omega
  have HT:Hid (∀ w3,Below w2.heap.size w2 w3->w3.cell? ⟨w.heap.size,0,none⟩=some (.pointer (some ⟨b,0,none⟩))/\Calls prog 77 #[.slice wa wn wc] w3 (λe w'=>e = .returned (.tuple #[.int .u8 c0.toNat,.slice (dM wa wc 1) (wn-1) (wc-1)])/\Below w3.heap.size w3 w')/\
    ∀ w4,Below w3.heap.size w3 w4->(w4.cell? ⟨w.heap.size,0,none⟩=some (.pointer (some ⟨b,0,none⟩))/\w4.cell? ⟨b,3,none⟩=some (.slice (some ⟨kb,ko,none⟩) 16 kc)/\w4.cell? ⟨kb,ko+c0.toNat,none⟩=some (.pointer p0))/\
    (∀ wx,Below w4.heap.size w4 wx->Calls prog 58 #[.agg #[.pointer p0],.slice (dM wa wc 1) (wn-1) (wc-1),.string v] wx (dA M wx (put (ks (nb c0)) r v)))/\∀ wx,Below w4.heap.size w4 wx->∀ e w5,dA M wx (put (ks (nb c0)) r v) e w5->∃ p5 M5,e = .returned (tv p5)/\Below w4.heap.size w4 w5/\Calls prog 94 #[.agg #[.pointer (some ⟨b,0,none⟩)],.int .u8 c0.toNat,.agg #[.pointer p5]] w5 (dA M5 w5 (.br λj=>if j=nb c0 then put (ks (nb c0)) r v else ks j))/\
     ∀ e w9,dA M5 w5 (.br λj=>if j=nb c0 then put (ks (nb c0)) r v else ks j) e w9->∃ p9,e = .returned (tv p9)/\Below w4.heap.size w4 w9/\Rg.Own w9 (w.heap.size+1) #[.pointer none] 31/\∀ ap,Rg.Upd w9 (w.heap.size+1) ap->dA M w (.br λj=>if j=nb c0 then put (ks (nb c0)) r v else ks j) (.returned (tv p9)) ap):=hid (λw3 hb3 =>
   ⟨aV hb3 h0,kT wa wn wc (c0::r) (by omega) w3 (oV hi hW.1 (Fr.below M (bst hb2 hb3))),λw4 hb4=>⟨⟨aV hb4 (aV hb3 h0),aV hb4 (aV hb3 c3),aV hb4 (aV hb3 hk0)⟩,λwx hbx=>by
    have hB:=bst hb2 (bst (bst hb3 hb4) hbx);refine ih M wx p0 _ _ _ (hi.below hB) cn ?_;exact (hW.fr hi (Fr.below M hB)).from' 1 (by omega),λwx hbx e w5 hG=>by
    have hB:=bst (bst hb3 hb4) hbx;have sf:St M w M wx:=⟨Fr.below M (bst hb2 hB),hi.below (bst hb2 hB),bst hb2 hB,hi⟩
    obtain ⟨p5,M5,rfl,hZ,hS5,cN,hb5⟩:=sf.got hG;have lb:=(hX2.below hB).got cN hb5;have hbe:=KG M5 b ks (cN.mono b _ hm) (nb c0) p5 _ hZ w5 hS5.i;rw [hnx] at hbe;refine ⟨p5,M5,rfl,bst hbx hb5,hbe,λe w9 xy=>?_⟩;obtain ⟨p9,M9,rfl,xz,sd,xF,ed⟩:=hS5.got xy;have r8:=lb.got xF ed;refine ⟨p9,rfl,bst (bst hbx hb5) ed,r8.o,λap hu=>?_⟩;have cQ:=sd.upd hu (by omega) r8.n;exact ⟨p9,M9,rfl,xz,cQ.f,cQ.i,cQ.b⟩⟩⟩)
  have H0:=hid b8;clear b8 af hb2 hi hi2 hm hW hX2 hwl hKs hT0 cn c3 hk0 ih h0;subst hw2;clear hs2;go_enter func58,ntmps58;go_wp2_with (first | (refine ay (aW _ _ _ (w.heap.size+1) (by simp) rfl) ?_) | (refine ay (aT (aU (j:=0) H0.out rfl) ⟨_,rfl,rfl⟩) ?_))
  refine HK.out.mono ?_;rintro e w3 ⟨rfl,hb3⟩;obtain ⟨d0',dd,H4⟩:=HT.out w3 hb3;replace dd:=hid dd;replace H4:=hid H4;clear hb3 HT HK H0 d0';unfold dD;go_wp2_with fail
  refine dd.out.mono ?_;rintro e w4 ⟨rfl,hb4⟩;obtain ⟨⟨d0,d3,dk⟩,HC,HF⟩:=H4.out w4 hb4;replace HC:=hid HC;replace HF:=hid HF;clear hb4 H4 dd;go_wp2_with fail
  refine aB (S:=λw'=>Bo (w.heap.size+1) w4 w') (Bo.of (below_drewN aG 1)) λhld=>?_;refine ah 0 ?_ (hy:=by intro wz hSw; (refine aT (fZ hSw (by omega) d0) ?_; exact ⟨_,rfl,rfl⟩));try simp only [Act.put,ak]
  refine ah 1 ?_;try simp only [Act.put,ak]
  refine ah 2 ?_;try simp only [Act.put,ak]
  refine aC 3 (λwz hSw=>fZ hSw (by omega) d0) ?_;try simp only [Act.put,ak]
  refine ah 4 ?_;try simp only [Act.put,ak]
  refine ah 5 ?_;try simp only [Act.put,ak]
  refine aC 6 (λwz hSw=>fZ hSw (by omega) d3) ?_;try simp only [Act.put,ak]
  refine ah 7 ?_;try simp only [Act.put,ak]
  refine ah 8 ?_ (hy:=by intro wz hSw; (have q0:=hxi; have q1:=hx16; go_simp <;> with_reducible rfl));try simp only [Act.put,ak]
  refine ah 9 ?_ (hy:=by intro wz hSw; (refine aT (fZ hSw (by omega) dk) ?_; exact ⟨_,rfl,rfl⟩));try simp only [Act.put,ak]
  refine ah 10 ?_;try simp only [Act.put,ak]
  refine ah 11 ?_;try simp only [Act.put,ak]
  refine aj 12 λK hK=>?_;go_simp;go_at_call 58
  (with_reducible refine (HC.out w4.drew (below_drewN aG 1)).mono ?_)
  intro e w5 hG;obtain ⟨p5,M5,rfl,ge,H5⟩:=HF.out w4.drew (below_drewN aG 1) e w5 hG;replace H5:=hid H5;clear hG;refine hK.out _ _ (Bo.of ge) λhld=>?_;clear hK K;try simp only [Act.put,ak]
  refine aj 13 λK hK=>?_;go_simp;go_at_call 94
  (with_reducible refine (H5.out.1).mono ?_)
  intro e w9 hG;obtain ⟨p9,rfl,ub,H9⟩:=H5.out.2 e w9 hG;replace H9:=hid H9;clear hG;refine hK.out _ _ (Bo.of ub) λhld=>?_;clear hK K;try simp only [Act.put,ak]
  refine aj 14 λK hK=>?_;refine cK (by rfl) H9.out.1 (off:=0) (by decide) p9 ⟨_,_,rfl,rfl,rfl⟩ ?_;intro ap aq az;have ct:=hid aq;have g9:=hid (H9.out.2 ap az);clear aq;refine hK.out _ _ ((Bo.of ub).upd az) λhld=>?_;clear hK K;try simp only [Act.put,ak]
  refine aA ?_;go_wp2;exact bodyPost_ret (dW rfl _ rfl ct.out) rfl g9.out
theorem FL (ks:Fin 16->T) (M:Mp) (b:Nat) (hm:M.at_ b=some (.br ks)) (w:World) (hi:Inv M w) (wa:aJ) (wn wc:Nat) (c0:UInt8) (r:Pa) (v:aK) (hW:Bs M w wa wn wc (c0::r)) (hc0:c0.toNat<16) (hlen:(c0::r).length<=64)
  (ih:∀ M' w' p a n c,Inv M' w'->IsT M' p (ks (nb c0))->Bs M' w' a n c r->Calls prog 58 #[.agg #[.pointer p],.slice a n c,.string v] w' (λe w''=>e = .panicked [fF 8]/\Below w'.heap.size w' w'')) :
  Calls prog 58 #[.agg #[.pointer (some ⟨b,0,none⟩)],.slice wa wn wc,.string v] w (λe w''=>e = .panicked [fF 8]/\Below w.heap.size w w''):=by
  obtain ⟨w2,hw2,b8,af,hb2,hs2⟩:=mZ w (some ⟨b,0,none⟩);have hi2:=hi.below hb2;have hX2:Bx M w2 (w.heap.size+1) #[.pointer none] 31:=⟨af,hi.free (by omega),cZ _⟩
  have hwl:(c0::r).length=wn:=hW.1.len;have y0:r.length+1=wn:=by rw [<-hwl]; rfl
  have h0:=aU (j:=0) b8 rfl;have HK:=hid (dF M _ _ w2 hi2 (kD hi2 hm));obtain ⟨ka,kn,kc,c3,hKs⟩:=hi2.kids hm;have hkn:kn=16:=by rw [<-hKs.len]; exact fK ks
  subst hkn;have hnx:((nb c0).val:Nat)=c0.toNat:=Nat.mod_eq_of_lt hc0;obtain ⟨kb,ko,p0,rfl,cA,el,hk0,hT0⟩:=hKs.at' c0.toNat hc0;have cn:IsT M p0 (ks (nb c0)):=by
   rw [<-hnx,kJ] at hT0;exact hT0
  have hbl:=hi.lt hm;have mf:=hi.lt_ kb el;have hkc:=hKs.1;have hkm:=hKs.2.1;unfold maxLen at hkm;have hx16:c0.toNat<16:=hc0;have hxi:((c0.toNat:Nat):Int)<16:=by omega
  have HT:Hid (∀ w3,Below w2.heap.size w2 w3->w3.cell? ⟨w.heap.size,0,none⟩=some (.pointer (some ⟨b,0,none⟩))/\Calls prog 77 #[.slice wa wn wc] w3 (λe w'=>e = .returned (.tuple #[.int .u8 c0.toNat,.slice (dM wa wc 1) (wn-1) (wc-1)])/\Below w3.heap.size w3 w')/\
    ∀ w4,Below w3.heap.size w3 w4->(w4.cell? ⟨w.heap.size,0,none⟩=some (.pointer (some ⟨b,0,none⟩))/\w4.cell? ⟨b,3,none⟩=some (.slice (some ⟨kb,ko,none⟩) 16 kc)/\w4.cell? ⟨kb,ko+c0.toNat,none⟩=some (.pointer p0))/\
    (∀ wx,Below w4.heap.size w4 wx->Calls prog 58 #[.agg #[.pointer p0],.slice (dM wa wc 1) (wn-1) (wc-1),.string v] wx (λe w''=>e = .panicked [fF 8]/\Below wx.heap.size wx w''))/\∀ wx,Below w4.heap.size w4 wx->Below w.heap.size w wx):=hid (λw3 hb3 =>
   ⟨aV hb3 h0,kT wa wn wc (c0::r) (by omega) w3 (oV hi hW.1 (Fr.below M (bst hb2 hb3))),λw4 hb4=>⟨⟨aV hb4 (aV hb3 h0),aV hb4 (aV hb3 c3),aV hb4 (aV hb3 hk0)⟩,λwx hbx=>by
    have hB:=bst hb2 (bst (bst hb3 hb4) hbx);refine ih M wx p0 _ _ _ (hi.below hB) cn ?_;exact (hW.fr hi (Fr.below M hB)).from' 1 (by omega),λwx hbx=>bst hb2 (bst (bst hb3 hb4) hbx)⟩⟩)
  have H0:=hid b8;clear b8 af hb2 hi hi2 hm hW hX2 hwl hKs hT0 cn c3 hk0 ih h0;subst hw2;clear hs2;go_enter func58,ntmps58;go_wp2_with (first | (refine ay (aW _ _ _ (w.heap.size+1) (by simp) rfl) ?_) | (refine ay (aT (aU (j:=0) H0.out rfl) ⟨_,rfl,rfl⟩) ?_))
  refine HK.out.mono ?_;rintro e w3 ⟨rfl,hb3⟩;obtain ⟨d0',dd,H4⟩:=HT.out w3 hb3;replace dd:=hid dd;replace H4:=hid H4;clear hb3 HT HK H0 d0';unfold dD;go_wp2_with fail
  refine dd.out.mono ?_;rintro e w4 ⟨rfl,hb4⟩;obtain ⟨⟨d0,d3,dk⟩,HC,HF⟩:=H4.out w4 hb4;replace HC:=hid HC;replace HF:=hid HF;clear hb4 H4 dd;go_wp2_with fail
  refine wp_region_held_drew (S:=λw'=>Bo (w.heap.size+1) w4 w') (by kernel_rfl) (Bo.of (below_drewN aG 1)) (λhld=>?_);refine ah 0 ?_ (hy:=by intro wz hSw; (refine aT (fZ hSw (by omega) d0) ?_; exact ⟨_,rfl,rfl⟩));try simp only [Act.put,ak]
  refine ah 1 ?_;try simp only [Act.put,ak]
  refine ah 2 ?_;try simp only [Act.put,ak]
  refine aC 3 (λwz hSw=>fZ hSw (by omega) d0) ?_;try simp only [Act.put,ak]
  refine ah 4 ?_;try simp only [Act.put,ak]
  refine ah 5 ?_;try simp only [Act.put,ak]
  refine aC 6 (λwz hSw=>fZ hSw (by omega) d3) ?_;try simp only [Act.put,ak]
  refine ah 7 ?_;try simp only [Act.put,ak]
  refine ah 8 ?_ (hy:=by intro wz hSw; (have q0:=hxi; have q1:=hx16; go_simp <;> with_reducible rfl));try simp only [Act.put,ak]
  refine ah 9 ?_ (hy:=by intro wz hSw; (refine aT (fZ hSw (by omega) dk) ?_; exact ⟨_,rfl,rfl⟩));try simp only [Act.put,ak]
  refine ah 10 ?_;try simp only [Act.put,ak]
  refine ah 11 ?_;try simp only [Act.put,ak]
  refine aj 12 λK hK=>?_;go_simp;go_at_call 58
  (with_reducible refine (HC.out w4.drew (below_drewN aG 1)).mono ?_)
  rintro e w5 ⟨rfl,hb5⟩;simp +zetaDelta [bodyPost,Exit.then];exact bst (HF.out w4.drew (below_drewN aG 1)) hb5
theorem UN (M:Mp) (a:aJ) (n c:Nat) (way:Pa) (v:aK) (w:World) (hi:Inv M w) (hW:Bs M w a n c way):Calls prog 58 #[.agg #[.pointer none],.slice a n c,.string v] w (dA M w (.leaf way v)):=by
 obtain ⟨w2,hw2,b8,af,hb2,hs2⟩:=mZ w none;have hi2:=hi.below hb2;have HK:=hid (dF M none .nil w2 hi2 rfl);have HT:Hid (∀ w3,Below w2.heap.size w2 w3->Calls prog 96 #[.slice a n c,.string v] w3 (dA M w3 (.leaf way v))/\∀ e w9,dA M w3 (.leaf way v) e w9->∃ p,e = .returned (tv p)/\Rg.Own w9 (w.heap.size+1) #[.pointer none] 31/\∀ ap,Rg.Upd w9 (w.heap.size+1) ap->dA M w (.leaf way v) (.returned (tv p)) ap):=hid (λw3 hb3 =>
  ⟨nV M _ _ _ _ _ w3 (hi2.below hb3) (hW.fr hi (Fr.below M (bst hb2 hb3))),λe w9 hG=>finish hi (Fr.below M (bst hb2 hb3)) (bst hb2 hb3) hG (af.below hb3) (cZ _) (by omega) (hi.free (by omega))⟩)
 have H0:=hid b8;clear b8 af hb2 hs2 hi hi2 hW;subst hw2;go_enter func58,ntmps58;go_wp2_with (first | (refine ay (aW _ _ _ (w.heap.size+1) (by simp) rfl) ?_) | (refine ay (aT (aU (j:=0) H0.out rfl) ⟨_,rfl,rfl⟩) ?_))
 refine HK.out.mono ?_;rintro e w3 ⟨rfl,hb3⟩;obtain ⟨HC,HF⟩:=HT.out w3 hb3;replace HC:=hid HC;replace HF:=hid HF;clear hb3 HT HK H0;unfold dD;go_wp2_with fail
 refine HC.out.mono ?_;intro e w9 hG;obtain ⟨p9,rfl,ai,hE⟩:=HF.out e w9 hG;have bh:=hid ai;have HE:=hid hE;clear hG ai hE;go_wp2_with (refine aX bh.out (by decide) p9 rfl _ _ rfl rfl rfl ?_; intro ap aq az; have ct:=hid aq; have e8:=hid az; clear aq az)
 exact bodyPost_ret (dW rfl _ rfl ct.out) rfl (HE.out ap e8.out)
theorem OA (M:Mp) (b:Nat) (r:aK) (hm:M.at_ b=some (.stub r)) (a:aJ) (n c:Nat) (v:aK) (w:World) (hi:Inv M w):Calls prog 58 #[.agg #[.pointer (some ⟨b,0,none⟩)],.slice a n c,.string v] w (λe w'=>e = .panicked [fF 8]/\Below w.heap.size w w'):=by
 obtain ⟨w2,hw2,b8,af,hb2,hs2⟩:=mZ w (some ⟨b,0,none⟩);have hi2:=hi.below hb2;have HK:=hid (dF M _ _ w2 hi2 (kD hi2 hm));have H0:=hid b8;have HB:Hid (∀ w3,Below w2.heap.size w2 w3->Below w.heap.size w w3):=hid (λw3 hb3=>bst hb2 hb3);clear b8 af hb2 hs2 hi hi2 hm;subst hw2;go_enter func58,ntmps58;go_wp2_with (first | (refine ay (aW _ _ _ (w.heap.size+1) (by simp) rfl) ?_) | (refine ay (aT (aU (j:=0) H0.out rfl) ⟨_,rfl,rfl⟩) ?_))
 refine HK.out.mono ?_;rintro e w3 ⟨rfl,hb3⟩;have HB3:=hid (HB.out w3 hb3);clear hb3 HB HK H0;unfold dD;go_wp2;simp +zetaDelta [bodyPost,Exit.then,fF];exact HB3.out
theorem uY (M:Mp) (b:Nat) (t:T) (hm:M.at_ b=some t) (hk:dD t=1\/dD t=2) (a:aJ) (n c:Nat) (v:aK) (R:T) (w:World) (hi:Inv M w)
  (hal:∀ w3,Below w.heap.size w w3->Calls prog 95 #[.agg #[.pointer (some ⟨b,0,none⟩)],.slice a n c,.string v] w3 (dA M w3 R)) :
  Calls prog 58 #[.agg #[.pointer (some ⟨b,0,none⟩)],.slice a n c,.string v] w (dA M w R):=by
 obtain ⟨w2,hw2,b8,af,hb2,hs2⟩:=mZ w (some ⟨b,0,none⟩);have hi2:=hi.below hb2;have HK:=hid (dF M _ _ w2 hi2 (kD hi2 hm));have h0:=aU (j:=0) b8 rfl
 have HT:Hid (∀ w3,Below w2.heap.size w2 w3->w3.cell? ⟨w.heap.size,0,none⟩=some (.pointer (some ⟨b,0,none⟩))/\Calls prog 95 #[.agg #[.pointer (some ⟨b,0,none⟩)],.slice a n c,.string v] w3 (dA M w3 R)/\∀ e w9,dA M w3 R e w9->∃ p,e = .returned (tv p)/\Rg.Own w9 (w.heap.size+1) #[.pointer none] 31/\∀ ap,Rg.Upd w9 (w.heap.size+1) ap->dA M w R (.returned (tv p)) ap):=hid (λw3 hb3 =>
  ⟨aV hb3 h0,hal w3 (bst hb2 hb3),λe w9 hG=>finish hi (Fr.below M (bst hb2 hb3)) (bst hb2 hb3) hG (af.below hb3) (cZ _) (by omega) (hi.free (by omega))⟩)
 have H0:=hid b8;obtain ⟨k,hkk⟩:=av (dD t)
 rw [hkk] at HK hk;clear b8 af hb2 hs2 hi hi2 hal hm hkk h0;subst hw2;rcases hk with rfl | rfl;all_goals
  go_enter func58,ntmps58;go_wp2_with (first | (refine ay (aW _ _ _ (w.heap.size+1) (by simp) rfl) ?_) | (refine ay (aT (aU (j:=0) H0.out rfl) ⟨_,rfl,rfl⟩) ?_))
  refine HK.out.mono ?_;rintro e w3 ⟨rfl,hb3⟩;obtain ⟨d0,HC,HF⟩:=HT.out w3 hb3;replace HC:=hid HC;replace HF:=hid HF;clear hb3 HT HK H0;go_wp2_with (refine ay (aT d0 ⟨_,rfl,rfl⟩) ?_)
  refine HC.out.mono ?_;intro e w9 hG;obtain ⟨p9,rfl,ai,hE⟩:=HF.out e w9 hG;have bh:=hid ai;have HE:=hid hE;clear hG ai hE;go_wp2_with (refine aX bh.out (by decide) p9 rfl _ _ rfl rfl rfl ?_; intro ap aq az; have ct:=hid aq; have e8:=hid az; clear aq az)
  exact bodyPost_ret (dW rfl _ rfl ct.out) rfl (HE.out ap e8.out)
theorem zq (M:Mp) (b:Nat) (t:T) (hm:M.at_ b=some t) (hk:dD t=2) (a:aJ) (n c:Nat) (v:aK) (w:World) (hi:Inv M w)
  (hal:∀ w3,Below w.heap.size w w3->Calls prog 95 #[.agg #[.pointer (some ⟨b,0,none⟩)],.slice a n c,.string v] w3 (λe w'=>e = .panicked [fF 8]/\Below w3.heap.size w3 w')) :
  Calls prog 58 #[.agg #[.pointer (some ⟨b,0,none⟩)],.slice a n c,.string v] w (λe w'=>e = .panicked [fF 8]/\Below w.heap.size w w'):=by
 obtain ⟨w2,hw2,b8,af,hb2,hs2⟩:=mZ w (some ⟨b,0,none⟩);have hi2:=hi.below hb2;have HK:=hid (dF M _ _ w2 hi2 (kD hi2 hm));rw [hk] at HK;have h0:=aU (j:=0) b8 rfl;have HT:Hid (∀ w3,Below w2.heap.size w2 w3->w3.cell? ⟨w.heap.size,0,none⟩=some (.pointer (some ⟨b,0,none⟩))/\Calls prog 95 #[.agg #[.pointer (some ⟨b,0,none⟩)],.slice a n c,.string v] w3 (λe w'=>e = .panicked [fF 8]/\Below w3.heap.size w3 w')/\Below w.heap.size w w3):=hid (λw3 hb3 =>
  ⟨aV hb3 h0,hal w3 (bst hb2 hb3),bst hb2 hb3⟩)
 have H0:=hid b8;clear b8 af hb2 hs2 hi hi2 hal hm hk h0;subst hw2;go_enter func58,ntmps58;go_wp2_with (first | (refine ay (aW _ _ _ (w.heap.size+1) (by simp) rfl) ?_) | (refine ay (aT (aU (j:=0) H0.out rfl) ⟨_,rfl,rfl⟩) ?_))
 refine HK.out.mono ?_;rintro e w3 ⟨rfl,hb3⟩;obtain ⟨d0,HC,HB⟩:=HT.out w3 hb3;replace HC:=hid HC;replace HB:=hid HB;clear hb3 HT HK H0;go_wp2_with (refine ay (aT d0 ⟨_,rfl,rfl⟩) ?_)
 refine HC.out.mono ?_;rintro e w9 ⟨rfl,ed⟩;have fR:=hid (bst HB.out ed);clear ed HB;go_wp2;simp +zetaDelta [bodyPost,Exit.then];exact fR.out
theorem Np (q way:Pa) (f:Pa->T) (v:aK):fork q f way v=wrap (way.take (cp q way)) (two (nb (q.getD (cp q way) 0)) (nb (way.getD (cp q way) 0)) (f (q.drop (cp q way+1))) (.leaf (way.drop (cp q way+1)) v)):=by
 unfold fork;rw [zR _ _ _ aF]
def YG (t:T):Prop:=∀ (M:Mp) (w:World) (p:aJ) (a:aJ) (n c:Nat) (way:Pa) (v:aK),Inv M w->IsT M p t->Bs M w a n c way->Tr.Good t way.length->Nib way->way.length<=64->
 (Tr.get t way=none->Calls prog 58 #[.agg #[.pointer p],.slice a n c,.string v] w λe w'=>e = .panicked [fF 8]/\Below w.heap.size w w')/\
 (Tr.get t way≠none->Calls prog 58 #[.agg #[.pointer p],.slice a n c,.string v] w (dA M w (put t way v)))
theorem Ic (t:T):YG t:=by
 induction t with
 | nil =>
  intro M w p a n c way v hi ht hW hg hn hl;refine ⟨λh=>(by cases h),λ_=>?_⟩;obtain rfl:p=none:=ht.tV.2 rfl;exact UN M a n c way v w hi hW
 | stub r =>
  intro M w p a n c way v hi ht hW hg hn hl;refine ⟨λ_=>?_,λh=>absurd rfl h⟩;obtain ⟨b,rfl,hm⟩:=ht.at_ (λe=>by cases e);exact OA M b r hm a n c v w hi
 | leaf q u =>
  intro M w p a n c way v hi ht hW hg hn hl;refine ⟨λh=>(by cases h),λ_=>?_⟩;obtain ⟨b,rfl,hm⟩:=ht.at_ (λe=>by cases e);refine uY M b _ hm (Or.inl rfl) a n c v _ w hi (λw3 hb3=>?_);have hi3:=hi.below hb3;have hW3:=hW.fr hi (Fr.below M hb3);by_cases e:q=way
  .have:put (.leaf q u) way v = .leaf q v:=by
    unfold put;rw [if_pos e,e]
   rw [this];exact JR M b u q hm w3 hi3 a n c way v hW3 hl (Nat.le_of_eq hg.1) e
  .have:put (.leaf q u) way v=fork q (λr=>.leaf r u) way v:=by
    unfold put;rw [if_neg e]
   rw [this,Np];have hpre:¬ q<+:way:=λh=>e (h.eq_of_length hg.1);exact yP M b _ hm w3 hi3 a n c way v hW3 hl (Nat.le_of_eq hg.1) hpre hg.2 hn _ (λwx M' hix hmx=>Tq M' b q u hmx _ (Nat.succ_le_of_lt (Co hpre)) wx hix)
 | ext q s ih =>
  intro M w p a n c way v hi ht hW hg hn hl;obtain ⟨b,rfl,hm⟩:=ht.at_ (λe=>by cases e);obtain ⟨g1,g2,g3,g4,g5⟩:=hg;by_cases e:q<+:way
  .have hgs:Tr.Good s (way.drop q.length).length:=by rw [List.length_drop]; exact g5
   have hget:Tr.get (.ext q s) way=Tr.get s (way.drop q.length):=by
    show (if q<+:way then Tr.get s (way.drop q.length) else some none)=_;rw [if_pos e]
   rw [hget];have hld:(way.drop q.length).length<=64:=by rw [List.length_drop]; omega
   refine ⟨λh=>?_,λh=>?_⟩
   .refine zq M b _ hm rfl a n c v w hi (λw3 hb3=>?_);exact Kh M b q s hm w3 (hi.below hb3) a n c way v (hW.fr hi (Fr.below M hb3)) hl g3 e (λM' w' p' a' n' c' hi' ht' hW'=>(ih M' w' p' a' n' c' _ v hi' ht' hW' hgs (hn.drop _) hld).1 h)
   .have hput:put (.ext q s) way v = .ext q (put s (way.drop q.length) v):=by
     show (if q<+:way then _ else _)=_;rw [if_pos e]
    rw [hput];refine uY M b _ hm (Or.inr rfl) a n c v _ w hi (λw3 hb3=>?_);exact NZ M b q s hm w3 (hi.below hb3) a n c way v (hW.fr hi (Fr.below M hb3)) hl g3 e g1 h (λM' w' p' a' n' c' hi' ht' hW'=>(ih M' w' p' a' n' c' _ v hi' ht' hW' hgs (hn.drop _) hld).2 h)
  .have hget:Tr.get (.ext q s) way=some none:=by
    show (if q<+:way then Tr.get s (way.drop q.length) else some none)=_;rw [if_neg e]
   rw [hget];refine ⟨λh=>(by cases h),λ_=>?_⟩;have hput:put (.ext q s) way v=fork q (λr=>wrap r s) way v:=by
    show (if q<+:way then _ else _)=_;rw [if_neg e]
   rw [hput,Np];refine uY M b _ hm (Or.inr rfl) a n c v _ w hi (λw3 hb3=>?_);exact yP M b _ hm w3 (hi.below hb3) a n c way v (hW.fr hi (Fr.below M hb3)) hl g3 e g2 hn _ (λwx M' hix hmx=>Vz M' b q s hmx _ (Nat.succ_le_of_lt (Co e)) wx hix)
 | br ks ih =>
  intro M w p a n c way v hi ht hW hg hn hl;obtain ⟨b,rfl,hm⟩:=ht.at_ (λe=>by cases e);cases way with
  | nil=>exact absurd hg.1 (Nat.lt_irrefl 0)
  | cons c0 r =>
   have hl':r.length<=64:=by simp at hl; omega
   have hgi:Tr.Good (ks (nb c0)) r.length:=hg.2.2 (nb c0);refine ⟨λh=>?_,λh=>?_⟩
   .exact FL ks M b hm w hi a n c c0 r v hW hn.head hl (λM' w' p' a' n' c' hi' ht' hW'=>(ih (nb c0) M' w' p' a' n' c' r v hi' ht' hW' hgi hn.tail hl').1 h)
   .have hput:put (.br ks) (c0::r) v = .br λj=>if j=nb c0 then put (ks (nb c0)) r v else ks j:=by
     show T.br _=T.br _;congr 1;funext j;by_cases e:j=nb c0
     .subst e; rfl
     .rw [if_neg e,if_neg e]
    rw [hput];exact Xl ks M b hm w hi a n c c0 r v hW hn.head hl (λM' w' p' a' n' c' hi' ht' hW'=>(ih (nb c0) M' w' p' a' n' c' r v hi' ht' hW' hgi hn.tail hl').2 h)
end Tm
end
end Go.Proofs.YtlcplcgigjagpaaGreatDoor
