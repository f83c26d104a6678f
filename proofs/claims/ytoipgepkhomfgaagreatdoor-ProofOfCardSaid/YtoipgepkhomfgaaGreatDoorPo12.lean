/-
 The contract of Of: the tree of pairs.
-/
import Derived.Test.YtoipgepkhomfgaaGreatDoorPo11
import Derived.Lib.HexFns2
open Go.Lib (hid)
open Go.Proofs.Tryz
set_option linter.unusedSimpArgs false
set_option linter.unusedVariables false
set_option maxHeartbeats 40000000
set_option maxRecDepth 100000
namespace Go.Proofs.YtoipgepkhomfgaaGreatDoor
variable {B base g i:Nat} {w1 w2:World} {ops:Array Oper} {o:Oper} {act:Act} {Q:Exit->Act->World->Prop} {ev:Operand->Value} {e:TypeId} {r:aL} {P:Program}
section
open Go.RowKit
namespace Tm
open Tr Ni Pk Ky
theorem Bx.fr {M M':Mp} {w w':World} {cs:aN} {t:TypeId} (h:Bx M w g cs t) (f:Fr M M' w w') (b:Below w.heap.size w w'):Bx M' w' g cs t:=h.got f b
theorem St.te {M M1:Mp} {w:World} {t:T} {c:Int} {e:Ending} (s:St M w M1 w1) (h:Jd M1 w1 t c e w2):∃ p M2,e = .returned (.tuple #[tv p,.int .i64 c])/\IsT M2 p t/\St M w M2 w2/\Fr M1 M2 w1 w2/\Below w1.heap.size w1 w2:=by
 obtain ⟨p,M2,he,ht,f,i,b⟩:=h;exact ⟨p,M2,he,ht,⟨s.f.trans s.i0 f,i,bst s.b b,s.i0⟩,f,b⟩
def Gy (l:List Tr.Pair):Prop:=(∀ x∈l,x.1.length=32)/\∀ x∈l,x.2.size≠0/\x.2.size<=65552
theorem Gy.has {l:List Tr.Pair} (h:Gy l):Has (bL .nil l) (iw l):=NI l.length l rfl h.1 h.2
theorem Gy.take {l:List Tr.Pair} (h:Gy l) (j:Nat):Gy (l.take j):=⟨λx hx=>h.1 x (List.mem_of_mem_take hx),λx hx=>h.2 x (List.mem_of_mem_take hx)⟩
theorem Xr {t:T} {m:Tr.Key->Option aL} (h:Has t m) {k:Tr.Key} (hk:k.length=32):Tr.get t (path k)≠none:=by
 rw [h.get k hk];intro e;cases e
theorem EN (M:Mp) (a:aK) (n c:Nat) (l:List Tr.Pair) (hok:Gy l) (w:World) (hi:Inv M w) (h:nu w a n c l) (hn:n<=1000000) :
  Calls prog 9 #[.slice a n c] w (dF M w (bL .nil l)):=by
 obtain ⟨w2,hw2,am,af,hb2,hs2⟩:=nG w none;have hS2:St M w M w2:=(St.refl hi).below hb2;have hX0:Bx M w2 w.heap.size #[.pointer none] 35:=⟨am,hi.free (by omega),iY _⟩
 have hX1:Bx M w2 (w.heap.size+1) #[.pointer none] 35:=⟨af,hi.free (by omega),iY _⟩
 have hl:=h.len;have hcap:=h.1;have hmx:=h.2.1;unfold maxLen at hmx;have H:=hid h;have io:=hid hok;have HL:=hid hl;have HS2:=hid hS2;have HX0:=hid hX0;have lz:=hid hX1;have HW2:Hid (_=_):=hid hw2;clear am af hb2 hs2 hw2 hS2 hX0 hX1 h hok hl hi;go_enter func9,ntmps9;go_wp2_with (first | (refine aA (aX _ _ _ w.heap.size rfl rfl) ?_) | (refine aA (aX _ _ _ (w.heap.size+1) (by simp) rfl) ?_))
 rw [<-HW2.out];clear HW2;go_loopw [10] (λi wr=>∃ (j:Nat) (p:aK) (Mr:Mp),j<=n/\i = .int .i64 j/\Hid (St M w Mr wr)/\Hid (Bx Mr wr w.heap.size #[.pointer none] 35)/\Hid (Bx Mr wr (w.heap.size+1) #[.pointer p] 35)/\Hid (IsT Mr p (bL .nil (l.take j)))) (λi _=>n-(intOf i).toNat)
 case atStart=>exact ⟨0,none,M,Nat.zero_le _,rfl,HS2,HX0,lz,hid rfl⟩
 case round =>
  obtain ⟨j,p,Mr,hj,rfl,HS,HA,HB,HT⟩:=hrel;clear HS2 HX0 lz;by_cases hlt:j<n
  .obtain ⟨b,off,rfl,hblt,hpa,hk⟩:=H.out.at' j hlt;have HE:Hid (l.getD j ([],eB)∈l/\l.take (j+1)=l.take j++[l.getD j ([],eB)]):=hid (by
    have hjl:j<l.length:=by rw [HL.out]; exact hlt
    have e:l.getD j ([],eB)=l[j]:=by simp [List.getD,hjl]
    rw [e];exact ⟨List.getElem_mem _,List.take_succ_eq_append_getElem hjl⟩)
   obtain ⟨x,hx⟩:=ay (l.getD j ([],eB))
   rw [hx] at hpa hk HE;have hpr:=hpa.below HS.out.b;have hx2:=io.out.2 x HE.out.1;have hh:=(io.out.take j).has;have oA:=HS.out.b.size;have gp:=hid (λw5 (h5:Inv Mr w5)=>(zx Mr p _ x.1 hk x.2 hx2.1 hx2.2 w5 h5 HT.out hh.good).2 (Xr hh hk));rw [<-yJ,<-HE.out.2] at gp;have uv:=hid hpr;have qv:=hid hk;have hNew:=Rg.Own.new wr (gQ (List.replicate 32 0,eB)) 60;have HN:=hid hNew;have X2:=hid hx2;obtain ⟨k,v⟩:=x;clear hx hpa hk hpr hx2 hh hNew HE HT;dsimp only at gp qv;go_wp2_with (first
    | (refine aA (gK qv.out uv.out ⟨_,rfl,rfl⟩) ?_)
    | (refine aA (kZ _ _ _ wr.heap.size rfl rfl) ?_)
    | (refine jy HN.out (by simp) (k,v) qv.out rfl _ _ rfl rfl rfl rfl ?_; intro w5 aE bd; have bh:=hid aE; have ae:Hid (Below wr.heap.size wr w5):=hid (bd.below (al1 _ _) aG); clear aE bd)
    | (refine aA (aU (aV (j:=0) (HB.out.o.below ae.out) rfl) ⟨_,rfl,rfl⟩) ?_)
    | (refine aA (fF qv.out (dA.own bh.out).key ⟨_,rfl,rfl⟩) ?_)
    | (refine aA (dW (s:=v) ((dA.own bh.out).val qv.out) ⟨_,rfl,rfl⟩) ?_))
   have hS5:=HS.out.below ae.out;have hA5:=HA.out.below ae.out;have ed:=HB.out.below ae.out;refine (gp.out w5 hS5.i).mono ?_;intro e w6 hG;obtain ⟨p6,M6,rfl,nt,ii,dd,hb6⟩:=hS5.te hG;have hA6:=hA5.fr dd hb6;have cA:=ed.fr dd hb6;have ux:=hid nt;have ff:=hid ii;have j5:=hid hA6;have ap:=hid cA;have hs6:=ii.b.size;have hlb:=cA.o.1;have hNew:=Rg.Own.new w6 #[.pointer none] 35;have oB:=hid hNew;clear hG nt ii dd hb6 hA6 cA hS5 hA5 ed gp bh ae HN uv X2 hNew HS HA HB;go_wp2_with (first
    | (refine aA (aX _ _ _ w6.heap.size rfl rfl) ?_)
    | (refine bg oB.out (by decide) p6 rfl _ _ rfl rfl rfl ?_; intro w7 ei dc; have dl:=hid ei; have bc:Hid (Below w6.heap.size w6 w7):=hid (dc.below (al1 _ _) aG); clear ei dc)
    | (refine aA (aU (aV (j:=0) dl.out rfl) ⟨_,rfl,rfl⟩) ?_)
    | (refine bg (ap.out.o.below bc.out) (by simp) p6 rfl _ _ rfl rfl rfl ?_; intro w8 eh gd; have kz:=hid eh; have oc:=hid gd; clear eh gd))
   have y0:=ff.out.below bc.out;have hA7:=j5.out.below bc.out;have ss:=ap.out.below bc.out;go_roundw
   case rel=>exact ⟨j+1,p6,M6,by omega,by go_num,hid (y0.upd oc.out (by omega) ss.n),hid (hA7.upd oc.out (by omega)),hid ⟨kz.out,ss.n,iY _⟩,ux⟩
   case measure=>simp [intOf]; omega
  .obtain rfl:j=n:=by omega
   have ol:Hid (IsT Mr p (bL .nil l)):=hid (by
    have:=HT.out;rwa [List.take_of_length_le (by rw [HL.out]; exact aG)] at this)
   clear HT;go_wp2_with (first
    | (refine aA (aU (aV (j:=0) HB.out.o rfl) ⟨_,rfl,rfl⟩) ?_)
    | (refine bg HA.out.o (by decide) p rfl _ _ rfl rfl rfl ?_; intro w8 eh gd; have kz:=hid eh; have oc:=hid gd; clear eh gd))
   have ov:=HS.out.upd oc.out aG HA.out.n;exact bodyPost_ret (eY rfl _ rfl kz.out) rfl ⟨p,Mr,rfl,ol.out,ov.f,ov.i,ov.b⟩
open No
open Rf
open Rl
open Sm (Tab)
structure Lw (w0:World) (M:Mp) (w:World):Prop where
 f:Fr M0 M w0 w
 i:Inv M w
 t:Tab w
 z:0<w0.heap.size
theorem Lw.start {w:World} (hT:Tab w):Lw w M0 w:=⟨Fr.refl _ _,Inv.zero w,hT,hT.pos⟩
theorem Lw.b {w0 w:World} {M:Mp} (h:Lw w0 M w):Below w0.heap.size w0 w:=h.f.all
theorem Lw.below {w0 w w':World} {M:Mp} (h:Lw w0 M w) (hb:Below w.heap.size w w'):Lw w0 M w':=⟨h.f.trans (Inv.zero _) (Fr.below M hb),h.i.below hb,h.t.below hb h.t.pos,h.z⟩
theorem Lw.fr {w0 w w':World} {M M':Mp} (h:Lw w0 M w) (f:Fr M M' w w') (i:Inv M' w') (t:Tab w'):Lw w0 M' w':=⟨h.f.trans (Inv.zero _) f,i,t,h.z⟩
theorem Lw.got {w0 w w':World} {M:Mp} {t:T} {e:Ending} (h:Lw w0 M w) (g:dF M w t e w'):∃ p M',e = .returned (tv p)/\IsT M' p t/\Lw w0 M' w'/\Fr M M' w w'/\Below w.heap.size w w':=by
 obtain ⟨p,M',he,ht,f,i,b⟩:=g;exact ⟨p,M',he,ht,h.fr f i (h.t.below b h.t.pos),f,b⟩
theorem Lw.upd {w0 w w':World} {M:Mp} {g:Nat} (h:Lw w0 M w) (hu:Rg.Upd w g w') (hg:w0.heap.size<=g) (hf:¬ M.ft g):Lw w0 M w' :=
 ⟨h.f.upd hu hg,h.i.upd hu hf,λi hi=>by rw [World.cell?_of_block (hu.block 0 (by have:=h.z; omega))]; exact h.t i hi,h.z⟩
theorem mq {M M':Mp} {w w':World} {cs:aN} {t:TypeId} (h:Rg.Own w g cs t) (f:Fr M M' w w') (hm:M.at_ g=none):Rg.Own w' g cs t:=⟨aI h.1 f.size,(f.block g h.1 hm).trans h.2⟩
theorem Iw {M:Mp} {w:World} (hi:Inv M w) {g:Nat} (h:¬ M.ft g):M.at_ g=none:=by
 cases hm:M.at_ g with
 | none=>rfl
 | some t=>exact absurd (hi.part_ g t hm).2.1 h
theorem Bx.frm {M M':Mp} {w w':World} {cs:aN} {t:TypeId} (h:Bx M w g cs t) (hi:Inv M w) (f:Fr M M' w w'):Bx M' w' g cs t:=⟨mq h.o f (Iw hi h.n),f.box h.n h.o.1 (dH h.o h.h),h.h⟩
theorem yQ {M M':Mp} {w w':World} {j:Nat} {x:Int} {cs:aN} {t:TypeId} (h:Rg.Own w g cs t) (hx:cs[j]? = some (.int .u8 x)) (hi:Inv M w) (f:Fr M M' w w'):Rg.Own w' g cs t:=mq h f (hi.dH (aV h hx))
theorem MX {k:aM} (hk:k.length=32):(kc k)[0]? = some (.int .u8 (k.getD 0 0).toNat):=by
 simp [kc,List.getD,hk]
theorem jX.frm {M M':Mp} {w w':World} {a:aK} {n c:Nat} {ps:List (aK)} (h:jX w a n c ps) (hi:Inv M w) (f:Fr M M' w w'):jX w' a n c ps:=by
 refine ⟨h.1,h.2.1,h.2.2.1,h.2.2.2.1,λj hj=>?_⟩;obtain ⟨b,off,e,hlt,hc⟩:=h.2.2.2.2 j hj;exact ⟨b,off,e,aI hlt f.size,by rw [f.cell hlt (hi.pW hc)]; exact hc⟩
theorem TD {w:World} {b:Nat} {t:TypeId} {l:List Tr.Pair} (h:Rg.Own w b (rowP l).toArray t) (hk:∀ x∈l,x.1.length=32) (hn:l.length<=1000000):nu w (some ⟨b,0,none⟩) l.length l.length l:=by
 refine ⟨aG,by unfold maxLen; omega,rfl,λe=>(by cases e),hk,λj hj=>⟨b,0,rfl,h.1,λi v hv=>?_⟩⟩;have hkj:(l.getD j ([],eB)).1.length=32:=hk _ (BN hj);have hi:i<33:=by
  have:=(List.getElem?_eq_some_iff.1 hv).1;rwa [fQ hkj] at this
 refine aV h ?_;rw [Nat.zero_add];simpa [Gc l hk j i hj hi] using hv
theorem FM {rest:List Oper} {w:World} {b off:Nat} {cs:aN} {t:TypeId} (h:Rg.Own w b cs t) (hof:off<cs.size) (x:Int)
  (hgd:o.guard=none) (p q:Operand) (ho:o.op = .store 5 p q) (hx:act.eval p = .pointer (some ⟨b,off,none⟩)) (hy:act.eval q = .int .u8 x)
  (hQ:∀ w',Rg.Own w' b (cs.setIfInBounds off (.int .u8 x)) t->Rg.Upd w b w'->wpList prog ops Q rest (act.put o.dst undef) w'):wpList prog ops Q (o::rest) act w :=
 wpList_plain hgd λK hK=>by
  have hc:w.cell? ⟨b,off,none⟩=some cs[off]:=aV h (Array.getElem?_eq_getElem hof);have hz:w.frozen? ⟨b,off,none⟩=false:=gV h;have hst:(Instr.storeAt 5 (.pointer (some ⟨b,off,none⟩)) (.int .u8 x)).run prog w = .ok () (w.setCell ⟨b,off,none⟩ (.int .u8 x)):=by
   simp [go_sem,hc,hz]
  unfold Oper.wp execOp;simp only [ho,hx,hy,Sem.run_bind,Sem.run_pure,Result.andThen_ok,hst];exact hK _ _ (hQ _ (dx h _) (bO _ _ _ _))
theorem Yp (k:aM) (i:Nat) (x:UInt8):(kc k).setIfInBounds i (.int .u8 x.toNat)=kc (k.set i x):=by
 unfold kc;rw [List.map_set];simp
theorem Fy {w:World} {x z:Tr.Pair} (hk:x.1.length=32) (hz:z.1.length=32) (b:Nat) (hb:b=w.heap.size) (ho:∃ p q,o.op = .buildSlice 22 2 #[(0,p),(1,q)]/\ev p = .agg (gQ x)/\ev q = .agg (gQ z)) :
  (execOp ev o).run prog w = .ok (.value (.slice (some ⟨b,0,none⟩) 2 2)) (w.alloc (.cells (rowP [x,z]).toArray 60)):=by
 obtain ⟨p,q,ho,hx,hy⟩:=ho;obtain ⟨k,v⟩:=x;obtain ⟨k',v'⟩:=z;subst hb;unfold execOp;simp only [ho,List.map_toArray,List.map_cons,List.map_nil,hx,hy];obtain ⟨a0,a1,a2,a3,a4,a5,a6,a7,b0,b1,b2,b3,b4,b5,b6,b7,c0,c1,c2,c3,c4,c5,c6,c7,d0,d1,d2,d3,d4,d5,d6,d7,rfl⟩:=tQ k hk;obtain ⟨e0,e1,e2,e3,e4,e5,e6,e7,f0,f1,f2,f3,f4,f5,f6,f7,g0,g1,g2,g3,g4,g5,g6,g7,h0,h1,h2,h3,h4,h5,h6,h7,rfl⟩:=tQ k' hz;kernel_rfl
def ka:aM:=zk
def kb:aM:=zk.set 0 16
def sx:aL:=⟨#[120]⟩
def sy:aL:=⟨#[121]⟩
def lAB:List Tr.Pair:=[(ka,sx),(kb,sy)]
def lB:List Tr.Pair:=[(kb,sy)]
theorem LP:ka.length=32:=rfl
theorem yc:kb.length=32:=rfl
theorem YF:Gy lAB:=⟨λx hx=>by rcases List.mem_cons.1 hx with rfl | hx; exact LP; rw [List.mem_singleton.1 hx]; exact yc,λx hx=>by rcases List.mem_cons.1 hx with rfl | hx; exact ⟨by decide,by decide⟩; rw [List.mem_singleton.1 hx]; exact ⟨by decide,by decide⟩⟩
theorem lastB (k:aM):iw lB k=if kb=k then some sy else none:=rfl
theorem YL (k:aM):iw lAB k=if kb=k then some sy else if ka=k then some sx else none:=by
 show (match iw lB k with | some v=>some v | none=>if ka=k then some sx else none)=_;rw [lastB];by_cases h:kb=k
 .rw [if_pos h,if_pos h]
 .rw [if_neg h,if_neg h]
theorem uP:Has (bL .nil lAB) (iw lAB):=YF.has
theorem XK:Tr.get (bL .nil lAB) (path kb)=some (some sy):=by rw [uP.get kb yc,YL,if_pos rfl]
end Tm
end
section
namespace Tr
open Rf Rl Ni No
def nC:T->List aL
 | .nil=>[]
 | .leaf p v=>[bF (.leaf p v)]
 | .ext q t=>bF (.ext q t)::nC t
 | .br ks=>bF (.br ks)::((List.finRange 16).map λi=>nC (ks i)).flatten
 | .stub _=>[]
def iB:T->Pa->List (Pa × aL)
 | .nil,_=>[]
 | .leaf p v,a=>[(a++p,v)]
 | .ext q t,a=>iB t (a++q)
 | .br ks,a=>((List.finRange 16).map λi=>iB (ks i) (a++[bY i])).flatten
 | .stub _,_=>[]
def ltP:aM->aM->Bool
 | a::p,b::q=>if a=b then ltP p q else decide (a.toNat<b.toNat)
 | _,_=>false
theorem AU:∀ p:aM,ltP p p=false
 | []=>rfl
 | a::p=>by simp [ltP,AU p]
theorem BQ:∀ (a p q:aM),ltP (a++p) (a++q)=ltP p q
 | [],_,_=>rfl
 | c::a,p,q=>by simp [ltP,BQ a p q]
theorem Tj (a:aM) {x y:UInt8} (h:x.toNat<y.toNat) (p q:aM):ltP (a++x::p) (a++y::q)=true:=by
 rw [BQ];have:x≠y:=by rintro rfl; omega
 simp [ltP,this,h]
def xI {α:Type} (l:List (aM × α)):Prop:=l.Pairwise λx y=>ltP x.1 y.1=true
theorem oh:∀ (t:T) (L:Nat) (a:Pa),Good t L->Full t->∀ (p:Pa) (v:aL),(p,v)∈iB t a↔∃ r:Pa,p=a++r/\r.length=L/\Nib r/\get t r=some (some v)
 | .nil,L,a,_,_,p,v=>by
  constructor
  .intro h; cases h
  .rintro ⟨r,_,_,_,h⟩; cases h
 | .leaf q u,L,a,g,_,p,v=>by
  constructor
  .intro h;have e:=List.mem_singleton.1 h;obtain ⟨e1,e2⟩:=Prod.mk.inj e;refine ⟨q,e1,g.1,g.2,?_⟩;rw [e2]; simp [get]
  .rintro ⟨r,h1,h2,h3,h4⟩;have:q=r/\u=v:=by
    simp only [get] at h4;by_cases e:q=r
    .rw [if_pos e] at h4;exact ⟨e,Option.some.inj (Option.some.inj h4)⟩
    .rw [if_neg e] at h4; cases h4
   obtain ⟨rfl,rfl⟩:=this;rw [h1];exact List.mem_singleton.2 rfl
 | .ext q t,L,a,g,f,p,v=>by
  obtain ⟨g1,g2,g3,g4,g5⟩:=g;show (p,v)∈iB t (a++q)↔_;rw [oh t _ (a++q) g5 f p v];constructor
  .rintro ⟨r,h1,h2,h3,h4⟩;exact ⟨q++r,by rw [h1,List.append_assoc],by rw [List.length_append]; omega,g2.append h3,by rw [ji]; exact h4⟩
  .rintro ⟨r,h1,h2,h3,h4⟩;by_cases e:q<+:r
   .obtain ⟨s,rfl⟩:=e;rw [List.length_append] at h2;rw [ji] at h4;exact ⟨s,by rw [h1,List.append_assoc],by omega,h3.right,h4⟩
   .rw [iR _ e] at h4; cases h4
 | .br ks,L,a,g,f,p,v=>by
  have hL:=g.1;show (p,v)∈((List.finRange 16).map λi=>iB (ks i) (a++[bY i])).flatten↔_;rw [List.mem_flatten];constructor
  .rintro ⟨l,hl,h⟩;obtain ⟨i,_,rfl⟩:=List.mem_map.1 hl;obtain ⟨r,h1,h2,h3,h4⟩:=(oh (ks i) _ _ (g.2.2 i) (f i) p v).1 h;exact ⟨bY i::r,by rw [h1]; simp,by rw [List.length_cons]; omega,.cons (iH i) h3,by rw [xq]; exact h4⟩
  .rintro ⟨r,h1,h2,h3,h4⟩;cases r with
   | nil=>simp at h2; omega
   | cons c s =>
    rw [List.length_cons] at h2;refine ⟨_,List.mem_map.2 ⟨nb c,List.mem_finRange _,rfl⟩,(oh (ks (nb c)) _ _ (g.2.2 _) (f _) p v).2 ⟨s,?_,by omega,h3.tail,h4⟩⟩;rw [h1,MB h3.head];simp
 | .stub _,_,_,_,f,_,_=>absurd f id
theorem Df {α:Type} {l m:List (aM × α)} (h1:xI l) (h2:xI m) (h:∀ x∈l,∀ y∈m,ltP x.1 y.1=true):xI (l++m):=List.pairwise_append.2 ⟨h1,h2,h⟩
theorem qI:∀ (t:T) (L:Nat) (a:Pa),Good t L->Full t->xI (iB t a)
 | .nil,_,_,_,_=>List.Pairwise.nil
 | .leaf _ _,_,_,_,_=>List.pairwise_singleton _ _
 | .ext q t,L,a,g,f=>qI t _ (a++q) g.2.2.2.2 f
 | .br ks,L,a,g,f=>by
  have key:∀ l:List (Fin 16),l.Pairwise (· < ·)->xI (l.map λi=>iB (ks i) (a++[bY i])).flatten:=by
   intro l
   induction l with
   | nil=>intro _; exact List.Pairwise.nil
   | cons i l ih =>
    intro h;obtain ⟨h1,h2⟩:=List.pairwise_cons.1 h;rw [List.map_cons,List.flatten_cons];refine Df (qI (ks i) _ _ (g.2.2 i) (f i)) (ih h2) (λx hx y hy=>?_);obtain ⟨m,hm,hy⟩:=List.mem_flatten.1 hy;obtain ⟨j,hj,rfl⟩:=List.mem_map.1 hm;obtain ⟨x1,x2⟩:=x;obtain ⟨y1,y2⟩:=y;obtain ⟨r,e1,_⟩:=(oh (ks i) _ _ (g.2.2 i) (f i) x1 x2).1 hx;obtain ⟨s,e2,_⟩:=(oh (ks j) _ _ (g.2.2 j) (f j) y1 y2).1 hy;have hij:i<j:=h1 j hj;have:=Tj a (x:=bY i) (y:=bY j) (by rw [jA,jA]; exact hij) r s;show ltP x1 y1=true;rw [e1,e2];simpa using this
  refine key _ ?_;exact List.pairwise_lt_finRange 16
 | .stub _,_,_,_,f=>absurd f id
end Tr
end
section
open Go.RowKit
namespace No
open Rl (Ay rC oW FH)
theorem Oh {w:World} (s:aL) (h:∃ x y,o.op = .binOp .eql 9 x y 9/\ev x = .string s/\ev y = .string s) :
  (execOp ev o).run prog w = .ok (.value (.bool true)) w:=by
 obtain ⟨x,y,ho,hx,hy⟩:=h;have:(binOp .eql 9 (.string s) (.string s)).run prog w = .ok (.bool true) w:=by
  unfold binOp;simp [go_sem,Op.stringOp]
 unfold execOp;simp [ho,hx,hy,go_sem]
theorem IY (a b:aK) (n m c d:Nat) (x y:List aL) (w:World) (hx:fH w a n c x) (hy:fH w b m d y) :
  Calls prog 11 #[.slice a n c,.slice b m d] w λe w'=>e = .returned (.bool (Ay x y))/\Below w.heap.size w w':=by
 have hm:=hx.2.1;have hnc:=hx.1;have hm2:=hy.2.1;have X3:=hy.1;unfold maxLen at hm hm2;have H1:=hid hx;have H2:=hid hy;clear hx hy;by_cases hnm:n=m
 .subst hnm;go_enter func11,ntmps11;go_wp2;go_loopw [5] (λi wr=>∃ (q:Nat),q<=n/\i = .int .i64 q/\Hid (∀ j,j<q->x.getD j eB=y.getD j eB)/\Below w.heap.size w wr) (λi _=>n-(intOf i).toNat)
  case atStart=>exact ⟨0,Nat.zero_le _,rfl,hid (λj hj=>absurd hj (Nat.not_lt_zero _)),aH⟩
  case round =>
   obtain ⟨q,hq,rfl,HK,hB⟩:=hrel;have HB:=hid hB;clear hB;by_cases hlt:q<n
   .obtain ⟨b1,off1,rfl,hb1,hc1⟩:=H1.out.at' q hlt;obtain ⟨b2,off2,rfl,hb2,hc2⟩:=H2.out.at' q hlt;have e1:wr.cell? ⟨b1,off1+q,none⟩=some (.string (x.getD q eB)):=by rw [HB.out.cell (p:=⟨b1,off1+q,none⟩) hb1]; exact hc1
    have e2:wr.cell? ⟨b2,off2+q,none⟩=some (.string (y.getD q eB)):=by rw [HB.out.cell (p:=⟨b2,off2+q,none⟩) hb2]; exact hc2
    obtain ⟨u,hu⟩:=ay (x.getD q eB)
    obtain ⟨v,hv⟩:=ay (y.getD q eB)
    have HU:=hid hu;have HV:=hid hv;rw [hu] at e1;rw [hv] at e2;clear hc1 hc2 hu hv;by_cases huv:u=v
    .have X4:Hid (∀ j,j<q+1->x.getD j eB=y.getD j eB):=hid (λj hj=>by
      by_cases e:j=q
      .subst e; rw [HU.out,HV.out,huv]
      .exact HK.out j (by omega))
     subst huv;go_wp2_with (go_quiet (fail))
     go_roundw
     case rel=>exact ⟨q+1,by omega,by go_num,hid X4.out,below_drewN HB.out _⟩
     case measure=>simp [intOf]; omega
    .have hne:=FH huv;have HN:Hid (x≠y):=hid (by
      rintro rfl;exact huv (HU.out.symm.trans HV.out))
     go_wp2_with (go_quiet (fail))
     go_ret;exact ⟨by rw [oW HN.out]; rfl,below_drewN HB.out _⟩
   .obtain rfl:q=n:=by omega
    have HE:Hid (x=y):=hid (by
     apply List.ext_getElem (by rw [H1.out.len,H2.out.len]);intro j h1 h2;have:=HK.out j (by rw [<-H1.out.len]; exact h1);simpa [List.getD,h1,h2] using this)
    go_wp2;go_ret;exact ⟨by rw [rC HE.out]; rfl,HB.out⟩
 .have HE:Hid (x≠y):=hid (by
   rintro rfl;exact hnm (H1.out.len.symm.trans H2.out.len))
  have hd:((n:Int) != (m:Int))=true:=by simp; omega
  go_enter func11,ntmps11;go_wp2;go_ret;exact ⟨by rw [oW HE.out]; rfl,aH⟩
end No
end
section
open Go.RowKit
namespace Rf
open Rl Ni No
theorem RQ (N:Nd) (a:aK) (n c:Nat) (hl:N.ks.length=16) (w:World):Calls prog 133 #[.agg (ndC N a n c)] w (λe w'=>∃ (a':aK) (n' cap':Nat),e = .returned (.slice a' n' cap')/\fH w' a' n' cap' (bI N.ks)/\(∀ b off,a'=some ⟨b,off,none⟩->w.heap.size<=b)/\Below w.heap.size w w'):=by
 obtain ⟨i0,hi,hz0,hz1,hz2⟩:=fP;have HI:Hid (_/\_/\_/\_):=hid ⟨hi,hz0,hz1,hz2⟩;have HO:Hid (dI (w.alloc (.cells (ndC N a n c) 69)) w.heap.size N a n c):=hid (Rg.Own.new _ _ _);have HL:=hid hl;clear hi hz0 hz1 hz2 hl;go_enter func133,ntmps133;go_wp2_with (refine aA (mg HO.out HL.out ⟨_,rfl,rfl⟩) ?_)
 go_loopw [3,8] (λv i wr=>∃ j:Nat,j<=16/\i = .int .i64 j/\Hid (wr.ownsRow (w.heap.size+1) 9 1 v (bI (N.ks.take j)).length ((bI (N.ks.take j)).map Value.string))/\Below (w.heap.size+1) (w.alloc (.cells (ndC N a n c) 69)) wr) (λ_ i _=>16-(intOf i).toNat)
 case atStart=>exact ⟨0,Nat.zero_le _,rfl,hid (World.ownsRow_nil _ _ _ _),aH⟩
 case round =>
  obtain ⟨j,hj,rfl,HR,hB⟩:=hrel;have hsz:w.heap.size+1<=wr.heap.size:=by have:=hB.size; simp at this; omega
  by_cases hlt:j<16
  .have HS:=hid (qY N.ks j (by rw [HL.out]; exact hlt));have hkl:=xX N.ks j;obtain ⟨L,hL⟩:=ay (bI (N.ks.take j))
   rw [hL] at HS hkl HR;clear hL;by_cases hk:(N.ks.getD j eB).size=0
   .have cC:Hid (bI (N.ks.take (j+1))=L):=hid (by rw [HS.out,if_neg (by simpa using hk),List.append_nil]);have HE:Hid (N.ks.getD j eB=eB):=hid (dQ hk);clear hk;go_wp2_with (refine Rg.run rfl (.string (N.ks.getD j eB)) _ (eG HL.out hlt ⟨_,_,rfl,rfl,rfl⟩) ?_; rw [HE.out])
    go_roundw
    case rel=>exact ⟨j+1,by omega,by go_num,by rw [cC.out]; exact HR,hB⟩
    case measure=>simp [intOf]; omega
   .have cC:Hid (bI (N.ks.take (j+1))=L++[N.ks.getD j eB]):=hid (by rw [HS.out,if_pos hk]);have hne:=Ni.dJ (s:=N.ks.getD j eB) (by omega);obtain ⟨K,hK⟩:=ay (N.ks.getD j eB)
    have HK:=hid hK;rw [hK] at hne cC;clear hK hk HS;go_wp2_with (first
     | (refine Rg.run rfl (.string (N.ks.getD j eB)) _ (eG HL.out hlt ⟨_,_,rfl,rfl,rfl⟩) ?_; rw [HK.out])
     | (at_builtin; refine wpList_append_own _ rfl _ _ 28 rfl (w.heap.size+1) 9 i0 (.string ⟨#[]⟩) 1 16 underlying28 HI.out.1 HI.out.2.1 HI.out.2.2.1 HI.out.2.2.2 rfl (by decide) _ _ _ rfl (HR.out.alloc _) ⟨wr.heap.size,0,none⟩ 1 1 [.string K] rfl rfl ?d1 ?d2 ?d3 ?d4 ?d5 ?_))
    case d1=>exact Bu.cell_one_new' _ _ _ _
    case d2=>intro u hu; simp at hu; subst hu; rfl
    case d3=>unfold maxLen; omega
    case d4=>omega
    case d5=>simp; omega
    intro v' w2 hown2 hgrow _;have hlt':=HR.out.lt;go_wp2;go_roundw
    case rel=>exact ⟨j+1,by omega,by go_num,hid (by rw [cC.out,List.length_append,List.map_append]; exact hown2),(hB.alloc hsz _).grown hgrow (by simp; omega) (λg hg=>(hlt' g hg).1)⟩
    case measure=>simp [intOf]; omega
  .obtain rfl:j=16:=by omega
   have hO:=HR.out;rw [List.take_of_length_le (by rw [HL.out]; exact aG)] at hO;obtain ⟨a',cap',rfl,hb⟩:=fH.mQ hO;have hlt2:=hO.lt;have HF:Hid (∀ b off,a'=some ⟨b,off,none⟩->w.heap.size<=b):=hid (λb off e=>by
    subst e;have:=(hlt2 b rfl).1;omega)
   have HB:=hid hb;have ef:Hid (Below w.heap.size w wr):=hid (oG hB);clear hO hb hlt2;go_wp2;go_ret;exact ⟨a',_,cap',rfl,HB.out,HF.out,ef.out⟩
theorem qA {n:Nat} {w w':World} {v:Value} {xs:List Value} (h:w.ownsRow B e 1 v n xs) (hb:Below w.heap.size w w'):w'.ownsRow B e 1 v n xs:=h.kept (Bu.iT hb) (by cases v.ownBlock <;> simp)
end Rf
end
section
open Go.RowKit
namespace Tm
open Tr Ni Pk Ky No Rf Rl
open Sm (Tab)
def YP (M:Mp) (w:World) (e:Ending) (w':World):Prop:=e = .returned (.bool true)/\Fr M M w w'/\Inv M w'/\Tab w'
theorem Qs (M:Mp) (p:aK) (t:T) (L:Nat) (g:Tr.Good t L) (hL:L<=64) (f:Fine t) (w:World) (hi:Inv M w) (ht:IsT M p t) (hT:Tab w) :
  Calls prog 190 #[tv p,.string (ref t)] w (YP M w):=by
 obtain ⟨w1,hw1⟩:=au (w.alloc (.cells #[.pointer p] 35))
 have af:Rg.Own w1 w.heap.size #[.pointer p] 35:=by rw [hw1]; exact Rg.Own.new _ _ _
 have hb1:Below w.heap.size w w1:=by rw [hw1]; exact al1 _ _
 have HO:=hid af;have HC:=hid (Uu M p t L g hL f w1 (hi.below hb1) ht (hT.below hb1 hT.pos));have HI:=hid hi;have HF:Hid (Fr M M w w1):=hid (Fr.below M hb1);obtain ⟨s,hs⟩:=ay (ref t)
 rw [hs] at HC ⊢;clear af hb1 hi ht hT f g hs;subst hw1;go_enter func190,ntmps190;go_wp2_with (refine aA (aU (aV (j:=0) HO.out rfl) ⟨_,rfl,rfl⟩) ?_)
 refine HC.out.mono ?_;rintro e w2 ⟨rfl,hf,hi2,db⟩;have HY:Hid (Fr M M w w2/\Inv M w2/\Tab w2):=hid ⟨HF.out.trans HI.out hf,hi2,db⟩;clear hf hi2 db HC HF;go_wp2_with (refine aA (Oh s ⟨_,_,rfl,rfl,rfl⟩) ?_)
 go_ret;exact ⟨rfl,HY.out.1,HY.out.2.1,HY.out.2.2⟩
theorem fH.frm {M M':Mp} {w w':World} {a:aK} {n c:Nat} {xs:List aL} (h:fH w a n c xs) (f:Fr M M' w w') (hm:∀ b off,a=some ⟨b,off,none⟩->M.at_ b=none):fH w' a n c xs:=by
 refine ⟨h.1,h.2.1,h.2.2.1,λj hj=>?_⟩;obtain ⟨b,off,h1,h2,h3⟩:=h.2.2.2 j hj;exact ⟨b,off,h1,aI h2 f.size,by rw [World.cell?_of_block (w:=w) (a:=⟨b,off+j,none⟩) (f.block b h2 (hm b off h1))]; exact h3⟩
theorem QH (M:Mp) (ps:List (aK)) (ts:List T) (a:aK) (n c:Nat) (b:aK) (m d:Nat) (w:World) (hP:jX w a n c ps) (hA:Are M ps ts) (hts:∀ s∈ts,∃ L,Tr.Good s L/\L<=64/\Fine s)
  (hS:fH w b m d (ts.map ref)) (hnew:∀ g off,b=some ⟨g,off,none⟩->M.at_ g=none) (hn:n<=1000000) (hi:Inv M w) (hT:Tab w) :
  Calls prog 189 #[.slice a n c,.slice b m d,.func (Fn.func 190) #[] #[]] w (YP M w):=by
 have hm:=hP.2.1;have hnc:=hP.1;have hl:=hP.2.2.1;have hmn:m=n:=by rw [<-hS.2.2.1,List.length_map,<-hA.1,hl]
 subst hmn;unfold maxLen at hm;have H:=hid hP;have HA:=hid hA;have X5:=hid hts;have HS:=hid hS;have HN:=hid hnew;have HI:=hid hi;have HL:=hid hl;have HT:=hid hT;clear hP hA hts hS hnew hi hT hl;go_enter func189,ntmps189;go_wp2_with fail
 go_loopw [17] (λi wr=>∃ j:Nat,j<=m/\i = .int .i64 j/\Hid (Fr M M w wr/\Inv M wr/\Tab wr)) (λi _=>m-(intOf i).toNat)
 case atStart=>exact ⟨0,Nat.zero_le _,rfl,hid ⟨Fr.refl _ _,HI.out,HT.out⟩⟩
 case round =>
  obtain ⟨j,hj,rfl,HF⟩:=hrel;by_cases hlt:j<m
  .have hji:(j:Int)<m:=by omega
   obtain ⟨g1,off1,rfl,hblt,hc⟩:=(H.out.frm HI.out HF.out.1).2.2.2.2 j hlt;obtain ⟨g2,off2,rfl,qS,hc2⟩:=(fH.frm HS.out HF.out.1 HN.out).2.2.2 j hlt;have hjt:j<ts.length:=by rw [<-HA.out.1,HL.out]; exact hlt
   have ht:=HA.out.2 j (by rw [HL.out]; exact hlt);have he:(ts.map ref).getD j eB=ref (ts.getD j .nil):=by
    simp [List.getD,hjt]
   have hmem:ts.getD j .nil∈ts:=by
    rw [List.getD_eq_getElem?_getD,List.getElem?_eq_getElem hjt];exact List.getElem_mem _
   obtain ⟨L,hg,hL,hf⟩:=X5.out _ hmem;rw [he] at hc2;obtain ⟨t,uA⟩:=ay (ts.getD j .nil)
   obtain ⟨p,hp⟩:=ay (ps.getD j none)
   rw [hp] at hc ht;rw [uA] at hc2 ht hg hf;have hNew:=Rg.Own.new wr #[.pointer none] 35;have X6:=hid hNew;have HC:Hid (∀ w5,Below wr.heap.size wr w5->Calls prog 190 #[tv p,.string (ref t)] w5 (YP M w5)):=hid (λw5 hb5=>Qs M p t L hg hL hf w5 (HF.out.2.1.below hb5) ht (HF.out.2.2.below hb5 HF.out.2.2.pos));obtain ⟨s,hs⟩:=ay (ref t)
   rw [hs] at HC hc2;have P1:Hid (∀ w5,Below wr.heap.size wr w5->w5.cell? ⟨g2,off2+j,none⟩=some (.string s)):=hid (λw5 hb5=>aW hb5 hc2);clear he hmem hg hL hf uA hp hs hNew ht hc2 hjt;go_wp2_with (first
    | (refine aA (aU hc ⟨_,rfl,rfl⟩) ?_)
    | (refine aA (aX _ _ _ wr.heap.size rfl rfl) ?_)
    | (refine bg X6.out (by decide) _ rfl _ _ rfl rfl rfl ?_; intro w5 aE bd; have bh:=hid aE; have ae:Hid (Below wr.heap.size wr w5):=hid (bd.below (al1 _ _) aG); have c2:=P1.out w5 ae.out; clear aE bd P1)
    | (refine aA (aU (aV (j:=0) bh.out rfl) ⟨_,rfl,rfl⟩) ?_)
    | (refine aA (dW c2 ⟨_,rfl,rfl⟩) ?_))
   refine (HC.out w5 ae.out).mono ?_;rintro e w6 ⟨rfl,dd,kB,nt⟩;have Ha:Hid (Fr M M w w6/\Inv M w6/\Tab w6):=hid ⟨(HF.out.1.trans HI.out (Fr.below M ae.out)).trans HI.out dd,kB,nt⟩;clear dd kB nt HC HF hc c2;go_wp2_with fail
   go_roundw
   case rel=>exact ⟨j+1,by omega,by go_num,Ha⟩
   case measure=>simp [intOf]; omega
  .obtain rfl:j=m:=by omega
   go_wp2_with fail
   go_ret;exact ⟨rfl,HF.out.1,HF.out.2.1,HF.out.2.2⟩
theorem ZE (w:World):∃ w1,w1=w.alloc (.cells #[.pointer none] 35)/\Rg.Own w1 w.heap.size #[.pointer none] 35/\Below w.heap.size w w1/\w1.heap.size=w.heap.size+1:=⟨_,rfl,Rg.Own.new _ _ _,al1 _ _,by simp⟩
def YI (M:Mp) (w:World) (t:T) (e:Ending) (w':World):Prop:=∃ p M',e = .returned (.agg #[.pointer p])/\IsT M' p t/\Fr M M' w w'/\Inv M' w'/\Below w.heap.size w w'/\∀ k,k<w.heap.size->M'.ft k->M.ft k
theorem PG {M:Mp} {w w':World} {b:Nat} (hi:Inv M w) (hb:Below w.heap.size w w') (hB:w.heap.size<=b)
  (hc:w'.heap[b]? = some (.cells (iL (.stub r) none 0 0 none 0 0 0 r) 135 (0,0))) :
  YI M w (.stub r) (.returned (.agg #[.pointer (some ⟨b,0,none⟩)])) w':=by
 have hn:T.stub r ≠ .nil:=λe=>by cases e
 have f:=Fr.more hi hb b (.stub r) hB;have hlt:b<w'.heap.size:=(Array.getElem?_eq_some_iff.1 hc).1;refine ⟨_,Tm.more M b (.stub r) w.heap.size w'.heap.size,rfl,⟨b,rfl,zH _ _ _ _ _,hn⟩,f,⟨λk hk=>hk.elim (λh=>aI (hi.lt_ k h) hb.size) (λh=>h.2),λk u hm=>?_⟩,hb,λk hk h=>h.elim (λh=>h) (λh=>absurd h.1 (by omega))⟩;by_cases e:k=b
 .subst e;rw [zH] at hm;obtain rfl:=Option.some.inj hm;exact ⟨hn,Or.inr ⟨hB,hlt⟩,none,0,0,none,0,0,0,_,hc,Bs.nil _ _,Ks.nil _ _,Or.inl ⟨rfl,rfl⟩⟩
 .rw [vO e] at hm;have hlt:=hi.lt hm;obtain ⟨h1,h2,a,n,c,ka,kn,kc,d,r,g1,g2,g3,g4⟩:=hi.part_ k u hm;exact ⟨h1,Or.inl h2,a,n,c,ka,kn,kc,d,r,(hb.block k hlt).trans g1,g2.fr hi f,g3.fr hi f,g4⟩
theorem Qi (M:Mp) (r:aL) (hr:r.size<=maxLen) (hk:uG r=1\/uG r=2) (w:World) (hi:Inv M w) :
  Calls prog 127 #[.string r] w (YI M w (.stub r)):=by
 obtain ⟨w1,hw1,af,hb1,hs1⟩:=ZE w;have HK:=hid (Rf.dN r hr w1);have HO:Hid (∀ w2,Below w1.heap.size w1 w2->Rg.Own (w2.alloc (.cells (iL (.stub r) none 0 0 none 0 0 0 r) 135)) w.heap.size #[.pointer none] 35):=hid (λw2 hb2=>(af.below hb2).below (al1 _ _));have HE:Hid (∀ w2,Below w1.heap.size w1 w2->∀ w3,Rg.Upd (w2.alloc (.cells (iL (.stub r) none 0 0 none 0 0 0 r) 135)) w.heap.size w3->YI M w (.stub r) (.returned (tv (some ⟨w2.heap.size,0,none⟩))) w3):=hid (λw2 hb2 w3 hu=>by
  have hb:=hu.below (bst (bst hb1 hb2) (al1 _ _)) aG;have hs2:=hb2.size;have hP:Rg.Own (w2.alloc (.cells (iL (.stub r) none 0 0 none 0 0 0 r) 135)) w2.heap.size (iL (.stub r) none 0 0 none 0 0 0 r) 135:=Rg.Own.new _ _ _;exact PG hi hb (by omega) (zW hP hu (by omega)))
 clear af hb1 hs1 hi hr;subst hw1;go_enter func127,ntmps127;go_wp2_with (refine aA (aX _ _ _ _ rfl rfl) ?_)
 refine HK.out.mono ?_;rintro e w2 ⟨rfl,hb2⟩;have da:=hid (HO.out w2 hb2);have HE2:=hid (HE.out w2 hb2);clear hb2 HO HE HK;rcases hk with hk | hk
 .rw [hk];go_wp2_with (first
   | (refine aA (bV (BO r) ⟨_,rfl,rfl⟩) ?_)
   | (refine aA (kP (t:=.stub r) ⟨_,rfl,rfl⟩) ?_)
   | (refine bg da.out (by decide) (some ⟨w2.heap.size,0,none⟩) rfl _ _ rfl rfl rfl ?_; intro w3 hO3 hu3; have aq:=hid hO3; have lA:=hid hu3; clear hO3 hu3))
  exact bodyPost_ret (eY rfl _ rfl aq.out) rfl (HE2.out w3 lA.out)
 .rw [hk];go_wp2_with (first
   | (refine aA (bV (BO r) ⟨_,rfl,rfl⟩) ?_)
   | (refine aA (kP (t:=.stub r) ⟨_,rfl,rfl⟩) ?_)
   | (refine bg da.out (by decide) (some ⟨w2.heap.size,0,none⟩) rfl _ _ rfl rfl rfl ?_; intro w3 hO3 hu3; have aq:=hid hO3; have lA:=hid hu3; clear hO3 hu3))
  exact bodyPost_ret (eY rfl _ rfl aq.out) rfl (HE2.out w3 lA.out)
def yH (ks:List aL) (ps:List (aK)) (i:Nat):aK:=if (ks.getD i eB).size=0 then none else ps.getD (bI (ks.take i)).length none
def gF (ks:List aL) (ps:List (aK)) (j:Nat):List (aK):=(List.range 16).map λi=>if i<j then yH ks ps i else none
section
variable {ks:List aL} {ps:List (aK)} {j:Nat}
theorem iM:(gF ks ps j).length=16:=by simp [gF]
theorem Fw:gF ks ps 0=uw:=rfl
theorem JA (hj:j<16):gF ks ps (j+1)=(gF ks ps j).set j (yH ks ps j):=by
 apply List.ext_getElem
 .rw [List.length_set,iM,iM]
 .intro i h1 h2;rw [iM] at h1;rw [List.getElem_set];simp only [gF,List.getElem_map,List.getElem_range];by_cases e:j=i
  .subst e;rw [if_pos rfl,if_pos (Nat.lt_succ_self _)]
  .rw [if_neg e];by_cases h:i<j
   .rw [if_pos h,if_pos (by omega)]
   .rw [if_neg h,if_neg (by omega)]
theorem Fj (hj:j<16) (h:yH ks ps j=none):gF ks ps (j+1)=gF ks ps j:=by
 apply List.ext_getElem
 .rw [iM,iM]
 .intro i h1 h2;simp only [gF,List.getElem_map,List.getElem_range];by_cases e:i=j
  .subst e;rw [if_pos (Nat.lt_succ_self _),if_neg (Nat.lt_irrefl _),h]
  .by_cases h:i<j
   .rw [if_pos h,if_pos (by omega)]
   .rw [if_neg h,if_neg (by omega)]
theorem KV (i:Nat) (hi:i<16):(gF ks ps 16).getD i none=yH ks ps i:=by
 have:i<(gF ks ps 16).length:=by rw [iM]; exact hi
 rw [List.getD_eq_getElem?_getD,List.getElem?_eq_getElem this];simp [gF,hi]
theorem Kw (q:Nat):(bI (ks.take q)).length<=(bI ks).length:=by
 unfold bI;exact ((List.take_sublist q ks).filter _).length_le
end
theorem jX.from' {w:World} {a:aK} {n c:Nat} {ps:List (aK)} (h:jX w a n c ps) (i:Nat) (hi:i<=n):jX w (dY a c i) (n-i) (c-i) (ps.drop i):=by
 have h1:=h.1;have h2:=h.2.1;refine ⟨by omega,by omega,by rw [List.length_drop,h.2.2.1],λe=>?_,λj hj=>?_⟩
 .unfold dY at e;split at e
  .omega
  .have:a=none:=by simpa using e
   have:=h.2.2.2.1 this;omega
 .obtain ⟨b,off,e,hlt,hc⟩:=h.2.2.2.2 (i+j) (by omega);refine ⟨b,off+i,?_,hlt,?_⟩
  .unfold dY;rw [if_neg (by omega),e];simp [Addr.add_mid]
  .rw [Nat.add_assoc,hc];simp [List.getD]
theorem FR (N:Nd) (hk:N.kd≠3) (hl:N.ks.length=16) (pa:aK) (pn pc:Nat) (ps:List (aK)) (ka:aK) (kn kc:Nat) (w:World) (h:jX w ka kn kc ps) (hn:kn<=1000000) :
  Calls prog 191 #[.agg (ndC N pa pn pc),.slice ka kn kc] w λe w'=>∃ v,e = .returned v/\uZ w.heap.size w' v ps/\Below w.heap.size w w':=by
 obtain ⟨w1,hw1,af,hb1,hs1⟩:∃ w1,w1=w.alloc (.cells (ndC N pa pn pc) 69)/\dI w1 w.heap.size N pa pn pc/\Below w.heap.size w w1/\w1.heap.size=w.heap.size+1:=⟨_,rfl,Rg.Own.new _ _ _,al1 _ _,by simp⟩
 have c0:=(dz af).1;have k1:(N.kd==3)=false:=by rw [beq_eq_false_iff_ne]; exact hk
 have k2:decide (N.kd=3)=false:=decide_eq_false hk;have HC:=hid (tL ka kn kc ps w1 (h.below hb1) hn);have HB:=hid hb1;have HS:=hid hs1;clear h af hb1 hs1;subst hw1;go_enter func191,ntmps191;go_wp2_with fail
 refine HC.out.mono ?_;rintro e w2 ⟨v,rfl,hR,hb2⟩;have HR:=hid hR;have HB2:=hid hb2;clear hR hb2 HC;go_wp2_with fail
 go_ret;have hrr:=HR.out;refine ⟨v,rfl,?_,bst HB.out HB2.out⟩;rcases hrr with h | ⟨g,cap,h1,h2,h3⟩
 .exact .inl h
 .exact .inr ⟨g,cap,h1,by rw [HS.out] at h2; omega,h3⟩
theorem OE (N:Nd) (hk:N.kd=3) (hl:N.ks.length=16) (pa:aK) (pn pc:Nat) (ps:List (aK)) (ka:aK) (kn kc:Nat) (w:World) (h:jX w ka kn kc ps) (hn:kn=(bI N.ks).length) :
  Calls prog 191 #[.agg (ndC N pa pn pc),.slice ka kn kc] w λe w'=>∃ g,e = .returned (.slice (some ⟨g,0,none⟩) 16 16)/\w.heap.size<=g/\Rg.Own w' g (ou (gF N.ks ps 16)) 35/\Below w.heap.size w w':=by
 obtain ⟨w1,hw1,af,hb1,hs1⟩:∃ w1,w1=w.alloc (.cells (ndC N pa pn pc) 69)/\dI w1 w.heap.size N pa pn pc/\Below w.heap.size w w1/\w1.heap.size=w.heap.size+1:=⟨_,rfl,Rg.Own.new _ _ _,al1 _ _,by simp⟩
 obtain ⟨w2,hw2,hO2,hb2⟩:∃ w2,w2=w1.alloc (.cells (ou uw) 35)/\Rg.Own w2 (w.heap.size+1) (ou uw) 35/\Below w1.heap.size w1 w2:=⟨_,rfl,by rw [<-hs1]; exact Rg.Own.new _ _ _,al1 _ _⟩
 have c0:=(dz af).1;rw [hk] at c0;have c1:=c0;rw [hw1] at c1;have hkm:=h.2.1;have hkc:=h.1;unfold maxLen at hkm;have HO:=hid (af.below hb2);have ie:=hid hO2;have HL:=hid hl;have HB1:=hid hb1;have HB2:Hid (Below (w.heap.size+1) w1 w2):=hid (by rw [<-hs1]; exact hb2);have HH:=hid (h.below hb1);have HHw:=hid h;have HW2:Hid (_=_):=hid hw2;have HS:=hid hs1;have hgen:∀ q,(bI (N.ks.take q)).length<=kn:=λq=>by rw [hn]; exact Kw q
 have HG:=hid hgen;have HW1:Hid (_=_):=hid hw1;clear h af hb1 hs1 hO2 hb2 hw2 hl hgen hw1 hn hk;go_enter func191,ntmps191;go_wp2_with (first
  | (rw [<-HW1.out]; refine aA (EB (w.heap.size+1) HS.out.symm ⟨_,_,rfl,rfl,rfl⟩) ?_; rw [<-HW2.out])
  | (refine aA (mg HO.out HL.out ⟨_,rfl,rfl⟩) ?_))
 clear HW2 c0 c1;go_loopw [1,16] (λv i wr=>∃ (j r:Nat) (a:aK) (m c:Nat),j<=16/\r+m=kn/\i = .int .i64 j/\v = .slice a m c/\r=(bI (N.ks.take j)).length/\Hid (jX w1 a m c (ps.drop r))/\Hid (Rg.Own wr (w.heap.size+1) (ou (gF N.ks ps j)) 35)/\Hid (Below (w.heap.size+1) w1 wr)) (λ_ i _=>16-(intOf i).toNat)
 case atStart=>exact ⟨0,0,ka,kn,kc,Nat.zero_le _,Nat.zero_add _,rfl,rfl,rfl,HH,hid (by rw [Fw]; exact ie.out),HB2⟩
 case round =>
  obtain ⟨j,r,a,m0,c,hj,hrm,rfl,rfl,hr,HP,fR,HB⟩:=hrel;clear ie HB2 HH;by_cases hlt:j<16
  .have i1:(j:Int)<16:=by omega
   have qT:=hid (qY N.ks j (by rw [HL.out]; exact hlt));have hg1:=HG.out (j+1);by_cases hkz:(N.ks.getD j eB).size=0
   .have DB:Hid (bI (N.ks.take (j+1))=bI (N.ks.take j)):=hid (by rw [qT.out,if_neg (by simpa using hkz),List.append_nil]);have X7:Hid (gF N.ks ps (j+1)=gF N.ks ps j):=hid (Fj hlt (if_pos hkz));have HE:Hid (N.ks.getD j eB=eB):=hid (dQ hkz);clear hkz;go_wp2_with (refine Rg.run rfl (.string (N.ks.getD j eB)) _ (eG HL.out hlt ⟨_,_,rfl,rfl,rfl⟩) ?_; rw [HE.out])
    go_roundw
    case rel=>exact ⟨j+1,r,_,_,_,by omega,hrm,by go_num,rfl,by rw [DB.out]; exact hr,HP,hid (by rw [X7.out]; exact fR.out),HB⟩
    case measure=>simp [intOf]; omega
   .replace qT:Hid (bI (N.ks.take (j+1))=bI (N.ks.take j)++[N.ks.getD j eB]):=hid (by rw [qT.out,if_pos hkz]);rw [qT.out,List.length_append,List.length_singleton,<-hr] at hg1;obtain ⟨m,rfl⟩:∃ m,m0=m+1:=⟨m0-1,by omega⟩
    have hne:=Ni.dJ (s:=N.ks.getD j eB) (by omega);obtain ⟨b,off,rfl,hblt,hcc⟩:=HP.out.2.2.2.2 0 (by omega);have hpp:(ps.drop r).getD 0 none=yH N.ks ps j:=by
     unfold yH;rw [if_neg hkz,<-hr];simp [List.getD]
    rw [hpp,Nat.add_zero] at hcc;have ul:=hid (JA (ks:=N.ks) (ps:=ps) hlt);obtain ⟨p,hp⟩:=ay (yH N.ks ps j)
    rw [hp] at hcc ul;have HC:Hid (∀ wz,Below (w.heap.size+1) w1 wz->wz.cell? ⟨b,off,none⟩=some (.pointer p)):=hid (λwz hb=>(Below.cell (p:=⟨b,off,none⟩) hb (by rw [<-HS.out]; exact hblt)).trans hcc);have X8:Hid (jX w1 (dY (some ⟨b,off,none⟩) c 1) (m+1-1) (c-1) (ps.drop (r+1))):=hid (by
     have:=HP.out.from' 1 (by omega);rwa [List.drop_drop] at this)
    have hm0:(0:Int)<((m+1:Nat):Int):=by omega
    have hcm:=HP.out.1;have hcx:=HP.out.2.1;unfold maxLen at hcx;obtain ⟨K,hK⟩:=ay (N.ks.getD j eB)
    have HK:=hid hK;rw [hK] at hne qT;clear hkz hpp hp hcc hblt hK;go_wp2_with (refine Rg.run rfl (.string (N.ks.getD j eB)) _ (eG HL.out hlt ⟨_,_,rfl,rfl,rfl⟩) ?_; rw [HK.out])
    have h0:=fR.out;refine aC (S:=λw'=>Below (w.heap.size+1) w1 w') (HB.out.drew) λhld=>?_;replace h0:=h0.drew;refine ah 0 ?_;try simp only [Act.put,ak]
    refine ah 1 ?_;try simp only [Act.put,ak]
    refine ah 2 ?_;try simp only [Act.put,ak]
    refine ah 3 ?_ (hy:=by intro wz hSw; (have q0:=hm0; go_simp <;> with_reducible rfl));try simp only [Act.put,ak]
    refine ah 4 ?_ (hy:=by intro wz hSw; (refine aU (HC.out wz hSw) ?_; exact ⟨_,rfl,rfl⟩));try simp only [Act.put,ak]
    refine ah 5 ?_;try simp only [Act.put,ak]
    refine ah 6 ?_ (hy:=by intro wz hSw; (refine jL nA xu (a:=some ⟨b,off,none⟩) (n:=m+1) (c:=c) (i:=1) (by omega:1<=m+1) ?_; exact ⟨_,_,rfl,rfl,rfl⟩));try simp only [Act.put,ak]
    refine ah 7 ?_ (hy:=by intro wz hSw; (have q0:=i1; go_simp <;> with_reducible rfl));try simp only [Act.put,ak]
    refine aj 8 λK hK=>?_;refine fD (by rfl) h0 (off:=j) (by simpa [ou,iM] using hlt) p ⟨_,_,rfl,rfl,rfl⟩ ?_;rintro w6 hn hu;have ap:Hid (Below (w.heap.size+1) w1 w6):=hid (hu.below hld aG);rw [Ja] at hn;replace h0:=hn;clear hn hu;refine hK.out _ _ (ap.out) λhld=>?_;clear hK K;try simp only [Act.put,ak]
    refine ah 9 ?_;try simp only [Act.put,ak]
    refine aB ?_;have cf:=hid h0;clear h0 hld;go_wp2;go_roundw
    case rel=>exact ⟨j+1,r+1,_,_,_,by omega,by omega,by go_num,rfl,by rw [qT.out,List.length_append,List.length_singleton,hr],X8,hid (by rw [ul.out]; exact cf.out),ap⟩
    case measure=>simp [intOf]; omega
  .obtain rfl:j=16:=by omega
   go_wp2_with fail
   go_ret;exact ⟨w.heap.size+1,rfl,by omega,fR.out,HB1.out.trans (Below.mono HB.out (by omega))⟩
namespace Aw
variable {w0:World} {M M':Mp} {w w':World} {gu gb gn:Nat} {pu:aK} {C:aN} {KB:aM}
end Aw
end Tm
end
section
open Go.RowKit Go.ChangeShapes Go.WideShapes
theorem XW {n:Int} (h:(Lit.int .u8 n).wf=true):0<=n/\n<256:=by
 have:=bounds_u8 h;omega
end
section
open Go.RowKit Go.ChangeShapes Go.WideShapes
namespace Ky
def byteOf:Value->UInt8
 | .int _ n=>UInt8.ofNat n.toNat
 | _=>0
theorem SY {H:Type} {enc:TypeId × Value->H} {w:World} {t:TypeId} {v:Value} {d:DataW H} {p:List MemPlace}
  (ht:P.underlying t=some (.array 32 e)) (he:P.underlying e=some (.int .u8)) (hc:P.cellsOf e=1) (hct:P.cellsOf t=32)
  (hv:Value.okWide P w .any base t v) (h:DataW.Trod enc P w 0 (λ_=>true) true t v d p):∃ k:aM,v = .agg (kc k)/\k.length=32:=by
 unfold Value.okWide at hv;rw [ht] at hv;obtain ⟨cs,rfl,hsz,_⟩:=hv;rw [hct] at hsz;obtain ⟨fuel,hf⟩:=h;obtain ⟨xs,m,rfl,_,hcs,hxl,hel⟩:=DataW.trod_array ht hf;have each:∀ i,i<32->∃ n:Int,cs.toList[i]? = some (.int .u8 n)/\0<=n/\n<256:=λi hi=>by
  have hi':=hel i hi;rw [hc,Nat.mul_one] at hi';have hx:i<xs.length:=by omega
  rw [List.getElem?_eq_getElem hx] at hi';obtain ⟨n,hn,_,hw⟩:=DataW.trod_int he hi';have hlen:i<cs.toList.length:=by simpa [hsz] using hi
  have e1:(cs.toList.drop i).take 1=[cs.toList[i]]:=by
   rw [List.drop_eq_getElem_cons hlen]; rfl
  have e2:(Value.agg cs).cells.toList=cs.toList:=rfl;rw [e2,e1] at hn;injection hn with hn;refine ⟨n,?_,XW hw⟩;rw [List.getElem?_eq_getElem hlen,hn]
 refine ⟨cs.toList.map byteOf,?_,by simp [hsz]⟩;congr 1;apply Array.ext';unfold kc;rw [List.map_map];apply List.ext_getElem?;intro i;by_cases hi:i<32
 .obtain ⟨n,hn,h0,h1⟩:=each i hi;rw [hn];simp only [List.getElem?_map,hn,Option.map_some,Function.comp,byteOf];have:((UInt8.ofNat n.toNat).toNat:Int)=n:=by simp only [UInt8.toNat_ofNat']; omega
  rw [this]
 .rw [List.getElem?_eq_none (by simp [hsz]; omega),List.getElem?_eq_none (by simp [hsz]; omega)]
end Ky
end
section
open Go.RowKit Go.ChangeShapes Go.WideShapes Go.Deep
namespace Tm
open Tr Ni Pk Ky
section
variable {H:Type} {enc:TypeId × Value->H} {w:World} {fuel:Nat} {cs:List Value} {x:DataW H × List MemPlace}
theorem Ez:prog.cellsOf 24=32:=by kernel_rfl
theorem QB:prog.cellsOf 5=1:=by kernel_rfl
theorem QN:prog.cellsOf 9=1:=by kernel_rfl
theorem Bw:prog.cellsOf 60=33:=by kernel_rfl
theorem Yl (h:DataW.trod enc prog w 0 (λ_=>true) true fuel 24 cs=some x):∃ k:aM,k.length=32/\cs=k.map λb=>Value.int .u8 b.toNat:=by
 obtain ⟨xs,m,rfl,_,hcs,hxl,hel⟩:=DataW.trod_array underlying24 h;rw [Ez] at hcs;have each:∀ i,i<32->∃ n:Int,cs[i]? = some (.int .u8 n)/\0<=n/\n<256:=λi hi=>by
  have hi':=hel i hi;rw [QB,Nat.mul_one] at hi';have hx:i<xs.length:=by omega
  rw [List.getElem?_eq_getElem hx] at hi';obtain ⟨n,hn,_,hw⟩:=DataW.trod_int underlying5 hi';have hlen:i<cs.length:=by omega
  have e1:(cs.drop i).take 1=[cs[i]]:=by
   rw [List.drop_eq_getElem_cons hlen]; rfl
  rw [e1] at hn;injection hn with hn;exact ⟨n,by rw [List.getElem?_eq_getElem hlen,hn],XW hw⟩
 refine ⟨cs.map Ky.byteOf,by simp [hcs],?_⟩;rw [List.map_map];apply List.ext_getElem?;intro i;by_cases hi:i<32
 .obtain ⟨n,hn,h0,h1⟩:=each i hi;rw [List.getElem?_map,hn];simp only [Option.map_some,Function.comp,Ky.byteOf];have:((UInt8.ofNat n.toNat).toNat:Int)=n:=by simp only [UInt8.toNat_ofNat']; omega
  rw [this]
 .rw [List.getElem?_eq_none (by omega),List.getElem?_eq_none (by simp [hcs]; omega)]
theorem CO {cs:List Value} {v:Value} (h:(cs.drop i).take 1=[v]) (hl:cs.length=i+1):cs=cs.take i++[v]:=by
 have e:(cs.drop i).take 1=cs.drop i:=List.take_of_length_le (by rw [List.length_drop]; omega);rw [<-h,e,List.take_append_drop]
theorem XL (h:DataW.trod enc prog w 0 (λ_=>true) true fuel 60 cs=some x):∃ y:Tr.Pair,y.1.length=32/\cs=jk y:=by
 obtain ⟨xs,m,rfl,_,hcs,hxl,hf⟩:=DataW.trod_struct underlying60 h;rw [Bw] at hcs;have X9:xs.length=2:=hxl;have g0:=hf 0 _ rfl;have g1:=hf 1 _ rfl;rw [List.getElem?_eq_getElem (by omega)] at g0 g1;obtain ⟨k,hk,e0⟩:=Yl g0;obtain ⟨s,e1,_,_⟩:=DataW.trod_string underlying9 g1;have P2:(cs.drop 0).take (prog.cellsOf 24)=k.map λb=>Value.int .u8 b.toNat:=e0;have P3:(cs.drop 32).take (prog.cellsOf 9)=[Value.string s]:=e1;rw [Ez,List.drop_zero] at P2;rw [QN] at P3;refine ⟨(k,s),hk,?_⟩;unfold jk
 have:=CO P3 (by omega);rw [this,P2]
theorem WG (h:DataW.trod enc prog w 0 (λ_=>true) true fuel 22 cs=some x):∃ a n cap l,cs=[.slice a n cap]/\nu w a n cap l:=by
 rcases open_slice underlying22 h with ⟨rfl,_⟩ | ⟨ad,len,cap,m,n,D,Pl,rfl,_,hl,hm,hmm,_,hel⟩
 .exact ⟨none,0,0,[],rfl,nu.nil w⟩
 .have hmm':m=cap:=by simpa using hmm
  subst hmm';have cell:∀ i,i<m->∃ y:Tr.Pair,y.1.length=32/\∀ j,j<33->w.cell? ((ad.add (i*33)).add j)=(jk y)[j]? := λi hi=>by
   obtain ⟨cs',h1,h2⟩:=hel i hi;obtain ⟨y,hy,rfl⟩:=XL h2;obtain ⟨_,hcl,hat⟩:=World.cells?_some h1;rw [Bw] at hat;exact ⟨y,hy,hat⟩
  obtain ⟨F,hF⟩:=choose_lt (α:=Tr.Pair) cell;refine ⟨some ad,len,m,(List.range len).map F,rfl,hl,hm,by simp,λe=>(by cases e),λx hx=>?_,λj hj=>?_⟩
  .obtain ⟨i,hi,rfl⟩:=List.mem_map.1 hx;exact (hF i (by have:=List.mem_range.1 hi; omega)).1
  .have Hb:=hF j (by omega);have P4:=hF 0 (by omega);obtain ⟨b,off,spot⟩:=ad;have hc0:=P4.2 0 (by omega);have hp0:(jk (F 0))[0]? = some ((jk (F 0))[0]'(by rw [fQ P4.1]; omega)):=List.getElem?_eq_getElem _;rw [hp0] at hc0;have hspot:spot=none:=by simpa [Addr.add] using World.cell?_spot hc0
   subst hspot;have hget:((List.range len).map F).getD j ([],eB)=F j:=by simp [List.getD,hj]
   rw [hget];have hat:dA w b (off+j*33) (F j):=λi v hv=>by
    have hi:i<33:=by
     have:=(List.getElem?_eq_some_iff.1 hv).1;rwa [fQ Hb.1] at this
    have:=Hb.2 i hi;rw [Addr.add_mid,Addr.add_mid] at this;rw [this,hv]
   refine ⟨b,off,rfl,?_,hat⟩;have hz:=hat 0 ((jk (F j))[0]'(by rw [fQ Hb.1]; omega)) (List.getElem?_eq_getElem _);exact World.block_lt_of_cell? w _ hz
end
end Tm
end
section
open Go.RowKit
namespace Tm
open Tr Ni Pk Ky No Rf Rl
open Sm (Tab)
namespace Do
variable {w0:World} {M M':Mp} {w w':World} {p p':aK} {t t':T} {W W':List Tr.Pair} {a a':aK} {c c' j:Nat}
end Do
theorem FZ:∀ (l:List Tr.Pair),(lG l).length<=l.length
 | []=>aG
 | x::r=>by
  have ih:=FZ r;unfold lG;split
  .rw [List.length_cons]; omega
  .rw [List.length_cons,List.length_cons]; omega
end Tm
end
section
namespace Tr
open Rf Rl Ni No
def sv:aL:=⟨#[118]⟩
def FE (x:Pair):Pair:=(x.1,if x.2.size=0 then sv else if 100<x.2.size then x.2.extract 0 100 else x.2)
def eZ (l:List Pair):List Pair:=(l.take 24).map FE
theorem TI (x:Pair):(FE x).2.size≠0/\(FE x).2.size<=65552:=by
 unfold FE;dsimp only;split
 .exact ⟨by decide,by decide⟩
 .split
  .rw [ByteArray.size_extract]; omega
  .omega
theorem Dm (l:List Pair):(eZ l).length<=24:=by
 unfold eZ;rw [List.length_map,List.length_take];omega
theorem IK {l:List Pair} (h:∀ x∈l,x.1.length=32):(∀ x∈eZ l,x.1.length=32)/\∀ x∈eZ l,x.2.size≠0/\x.2.size<=65552:=by
 constructor
 .intro x hx;obtain ⟨y,hy,rfl⟩:=List.mem_map.1 hx;exact h y (List.mem_of_mem_take hy)
 .intro x hx;obtain ⟨y,_,rfl⟩:=List.mem_map.1 hx;exact TI y
end Tr
end
section
open Go.RowKit
namespace Tm
open Tr Ni Pk Ky
theorem rz {l:List Tr.Pair} {j:Nat} (hj:j<l.length) (h24:j<24):eZ (l.take (j+1))=eZ (l.take j)++[FE (l.getD j ([],eB))]:=by
 unfold eZ;rw [List.take_take,List.take_take,show min 24 (j+1)=j+1 by omega,show min 24 j=j by omega,take_at hj,List.map_append];rfl
theorem Qk {l:List Tr.Pair}:eZ (l.take 24)=eZ l:=by
 unfold eZ;rw [List.take_take,Nat.min_self]
theorem xg (l:List Tr.Pair) (a:aK) (n c:Nat) (w:World) (h:nu w a n c l) :
  Calls prog 6 #[.slice a n c] w (Ye w (eZ l)):=by
 obtain ⟨i0,z0,hi,hz,hsz,hby,hzc⟩:=zw;have HI:Hid (_/\_/\_/\_/\_):=hid ⟨hi,hz,hsz,hby,hzc⟩;have hcap:=h.1;have hmx:=h.2.1;unfold maxLen at hmx;have H:=hid h;have HL:=hid h.len;clear h hi hz hsz hby hzc;go_enter func6,ntmps6;go_wp2_with fail
 go_loopw [3,4] (λv i wr=>∃ j:Nat,j<=n/\j<=24/\i = .int .i64 j/\Hid (wr.ownsRow w.heap.size 60 33 v (eZ (l.take j)).length (rowP (eZ (l.take j))))/\Hid (Below w.heap.size w wr)) (λ_ i _=>n-(intOf i).toNat)
 case atStart=>exact ⟨0,Nat.zero_le _,Nat.zero_le _,rfl,hid (World.ownsRow_nil _ _ _ _),hid aH⟩
 case round =>
  obtain ⟨j,hjn,P5,rfl,HR,HB⟩:=hrel;have hlen:(eZ (l.take j)).length<=24:=Dm _;by_cases hlt:j<n/\j<24
  .obtain ⟨hlt,oE⟩:=hlt;have i1:(j:Int)<n:=by omega
   have i2:(j:Int)<24:=by omega
   have HJ:Hid (j<l.length):=hid (by rw [HL.out]; exact hlt);obtain ⟨b,off,rfl,hblt,hpa,hk⟩:=H.out.at' j hlt;obtain ⟨x,hx⟩:=ay (l.getD j ([],eB))
   rw [hx] at hpa hk;have HX:=hid hx;have uv:=hid (hpa.below HB.out);have hNew:=Rg.Own.new wr (gQ (List.replicate 32 0,eB)) 60;have HN:=hid hNew;have HZ:Hid (((List.replicate 32 0,eB):Tr.Pair).1.length=32):=hid rfl;obtain ⟨k,v⟩:=x;have cq:Hid (k.length=32):=hid hk;clear hx hpa hk hNew hblt;by_cases hv0:v.size=0
   .obtain rfl:=No.dQ hv0;have s1:decide ((100:Int)<(sv.size:Int))=false:=rfl;have HF:Hid (eZ (l.take (j+1))=eZ (l.take j)++[(k,sv)]):=hid (by rw [rz HJ.out oE,HX.out]; unfold FE; simp [hv0]);go_wp2_with (first
     | (refine aA (gK (x:=(k,eB)) cq.out uv.out ⟨_,rfl,rfl⟩) ?_)
     | (refine aA (kZ _ _ _ wr.heap.size rfl rfl) ?_)
     | (refine jy HN.out HZ.out (k,eB) cq.out rfl _ _ rfl rfl rfl rfl ?_; intro w5 aE bd; have bh:=hid aE; have ae:Hid (Below wr.heap.size wr w5):=hid (bd.below (al1 _ _) aG); have c32:w5.cell? ⟨wr.heap.size,32,none⟩=some (.string _):=(dA.own aE).val cq.out; clear aE bd)
     | (refine aA (dW c32 ⟨_,rfl,rfl⟩) ?_)
     | (refine aA (fF cq.out (dA.own bh.out).key ⟨_,rfl,rfl⟩) ?_)
     | (refine aA (bV (oK k sv cq.out) ⟨_,rfl,rfl⟩) ?_)
     | (refine jy bh.out cq.out (k,sv) cq.out rfl _ _ rfl rfl rfl rfl ?_; intro w6 cr d9; have cf:=hid cr; have ap:Hid (Below wr.heap.size wr w6):=hid (d9.below ae.out aG); have dp:=hid (tC HR.out ap.out); have d32:w6.cell? ⟨wr.heap.size,32,none⟩=some (.string _):=(dA.own cr).val cq.out; clear cr d9)
     | (refine aA (dW d32 ⟨_,rfl,rfl⟩) ?_)
     | (refine aA (gK (x:=(k,sv)) cq.out (dA.own cf.out) ⟨_,rfl,rfl⟩) ?_)
     | (refine aA (pz (x:=(k,sv)) cq.out _ rfl ⟨_,rfl,rfl⟩) ?_)
     | (at_builtin; refine wpList_append_own _ rfl _ _ 22 rfl w.heap.size 60 i0 z0 33 48 underlying22 HI.out.1 HI.out.2.1 HI.out.2.2.1 HI.out.2.2.2.1 HI.out.2.2.2.2 (by decide) _ _ _ rfl (dp.out.alloc _) ⟨_,0,none⟩ 1 1 (jk (k,sv)) rfl (fQ (x:=(k,sv)) cq.out) ?d1 (qd _) ?d3 ?d4 ?d5 ?_))
    case d1 =>
     intro q u hu;first | (simpa [gQ] using hu) | (rw [Addr.add_mid]; exact (dA.own (Rg.Own.new _ (gQ (k,sv)) 60)) q u hu)
    case d3=>unfold maxLen; omega
    case d4=>omega
    case d5=>have:=HB.out.size; have:=ap.out.size; simp; omega
    intro v' w7 cD hgrow _;have hlt':=dp.out.lt;have bc:Hid (Below w.heap.size w w7):=hid (((bst HB.out ap.out).alloc (by have:=HB.out.size; have:=ap.out.size; omega) _).grown hgrow (by have:=HB.out.size; have:=ap.out.size; simp; omega) (λg hg=>(hlt' g hg).1));go_wp2;go_roundw
    case rel=>exact ⟨j+1,by omega,by omega,by go_num,hid (by rw [HF.out,uj,List.length_append]; exact cD),bc⟩
    case measure=>simp [intOf]; omega
   .by_cases hv2:100<v.size
    .have hv1:=Ni.dJ (s:=v) (by omega);have r4:(100:Int)<=(v.size:Int):=by omega
     have s1:decide ((100:Int)<(v.size:Int))=true:=aJ (by omega);go_wp2_with (first
 | (refine aA (gK (x:=(k,v)) cq.out uv.out ⟨_,rfl,rfl⟩) ?_)
      | (refine aA (kZ _ _ _ wr.heap.size rfl rfl) ?_)
      | (refine jy HN.out HZ.out (k,v) cq.out rfl _ _ rfl rfl rfl rfl ?_; intro w5 aE bd; have bh:=hid aE; have ae:Hid (Below wr.heap.size wr w5):=hid (bd.below (al1 _ _) aG); have c32:w5.cell? ⟨wr.heap.size,32,none⟩=some (.string _):=(dA.own aE).val cq.out; clear aE bd)
      | (refine aA (dW c32 ⟨_,rfl,rfl⟩) ?_)
     )
     have P6:wr.heap.size<=wr.heap.size:=aG;have h0:=bh.out;refine aC (S:=λw'=>Below wr.heap.size wr w') (ae.out.drew) λhld=>?_;replace h0:=h0.drew;refine ah 0 ?_;try simp only [Act.put,ak]
     refine ah 2 ?_;try simp only [Act.put,ak]
     refine wpAnyH_ready (rs:=[1,3]) (by kernel_rfl) (by simp) ?_;refine Rg.readyC (i:=1) rfl (λK hK=>?_) (Rg.readyL (i:=3) rfl (λK hK=>?_))
     .refine Rg.meet (by rfl) _ _ (fF cq.out (dA.own h0).key ?_) ?_
      .exact ⟨_,rfl,rfl⟩
      refine hK.out _ _ (hld) λhld=>?_;clear hK K;try simp only [Act.put,ak]
      refine aj 3 λK hK=>?_;refine Rg.meet (by rfl) _ _ (dW (dA.val (dA.own h0) cq.out) ?_) ?_
      .exact ⟨_,rfl,rfl⟩
      refine hK.out _ _ (hld) λhld=>?_;clear hK K;try simp only [Act.put,ak]
      refine ah 4 ?_ (hy:=by intro wz hSw; (have q0:=r4; go_simp <;> with_reducible rfl));try simp only [Act.put,ak]
      refine ah 5 ?_ (hy:=by intro wz hSw; (refine bV (oK k (v.extract 0 100) cq.out) ?_; exact ⟨_,rfl,rfl⟩));try simp only [Act.put,ak]
      refine aj 6 λK hK=>?_;refine Rg.meetStore (by rfl) h0 60 (gQ (k,v.extract 0 100)) ⟨_,_,rfl,rfl,rfl⟩ (uQ cq.out) (by rw [kE cq.out,kE cq.out]) (xD _) ?_;rintro cJ hn hu;refine hK.out _ _ ?_ (λhld=>?_)
      .exact hu.below hld P6
      replace h0:=hn;clear hK K hn hu;try simp only [Act.put]
      refine aB ?_;have bh:=hid h0;have eo:Hid (Below wr.heap.size wr _):=hid hld;clear h0 hld;have HF:Hid (eZ (l.take (j+1))=eZ (l.take j)++[(k,v.extract 0 100)]):=hid (by rw [rz HJ.out oE,HX.out]; unfold FE; simp [hv0,hv2]);have dp:=hid (tC HR.out eo.out);go_wp2_with (first
       | (refine aA (gK (x:=(k,v.extract 0 100)) cq.out (dA.own bh.out) ⟨_,rfl,rfl⟩) ?_)
       | (refine aA (pz (x:=(k,v.extract 0 100)) cq.out _ rfl ⟨_,rfl,rfl⟩) ?_)
       | (at_builtin; refine wpList_append_own _ rfl _ _ 22 rfl w.heap.size 60 i0 z0 33 48 underlying22 HI.out.1 HI.out.2.1 HI.out.2.2.1 HI.out.2.2.2.1 HI.out.2.2.2.2 (by decide) _ _ _ rfl (dp.out.alloc _) ⟨_,0,none⟩ 1 1 (jk (k,v.extract 0 100)) rfl (fQ (x:=(k,v.extract 0 100)) cq.out) ?d1 (qd _) ?d3 ?d4 ?d5 ?_))
      case d1 =>
       intro q u hu;first | (simpa [gQ] using hu) | (rw [Addr.add_mid]; exact (dA.own (Rg.Own.new _ (gQ (k,v.extract 0 100)) 60)) q u hu)
      case d3=>unfold maxLen; omega
      case d4=>omega
      case d5=>have:=HB.out.size; have:=eo.out.size; simp; omega
      intro v' w7 cD hgrow _;have hlt':=dp.out.lt;have bc:Hid (Below w.heap.size w w7):=hid (((bst HB.out eo.out).alloc (by have:=HB.out.size; have:=eo.out.size; omega) _).grown hgrow (by have:=HB.out.size; have:=eo.out.size; simp; omega) (λg hg=>(hlt' g hg).1));go_wp2;go_roundw
      case rel=>exact ⟨j+1,by omega,by omega,by go_num,hid (by rw [HF.out,uj,List.length_append]; exact cD),bc⟩
      case measure=>simp [intOf]; omega
     .refine Rg.meet (by rfl) _ _ (dW (dA.val (dA.own h0) cq.out) ?_) ?_
      .exact ⟨_,rfl,rfl⟩
      refine hK.out _ _ (hld) λhld=>?_;clear hK K;try simp only [Act.put,ak]
      refine ah 4 ?_ (hy:=by intro wz hSw; (have q0:=r4; go_simp <;> with_reducible rfl));try simp only [Act.put,ak]
      refine aj 1 λK hK=>?_;refine Rg.meet (by rfl) _ _ (fF cq.out (dA.own h0).key ?_) ?_
      .exact ⟨_,rfl,rfl⟩
      refine hK.out _ _ (hld) λhld=>?_;clear hK K;try simp only [Act.put,ak]
      refine ah 5 ?_ (hy:=by intro wz hSw; (refine bV (oK k (v.extract 0 100) cq.out) ?_; exact ⟨_,rfl,rfl⟩));try simp only [Act.put,ak]
      refine aj 6 λK hK=>?_;refine Rg.meetStore (by rfl) h0 60 (gQ (k,v.extract 0 100)) ⟨_,_,rfl,rfl,rfl⟩ (uQ cq.out) (by rw [kE cq.out,kE cq.out]) (xD _) ?_;rintro cJ hn hu;refine hK.out _ _ ?_ (λhld=>?_)
      .exact hu.below hld P6
      replace h0:=hn;clear hK K hn hu;try simp only [Act.put]
      refine aB ?_;have bh:=hid h0;have eo:Hid (Below wr.heap.size wr _):=hid hld;clear h0 hld;have HF:Hid (eZ (l.take (j+1))=eZ (l.take j)++[(k,v.extract 0 100)]):=hid (by rw [rz HJ.out oE,HX.out]; unfold FE; simp [hv0,hv2]);have dp:=hid (tC HR.out eo.out);go_wp2_with (first
       | (refine aA (gK (x:=(k,v.extract 0 100)) cq.out (dA.own bh.out) ⟨_,rfl,rfl⟩) ?_)
       | (refine aA (pz (x:=(k,v.extract 0 100)) cq.out _ rfl ⟨_,rfl,rfl⟩) ?_)
       | (at_builtin; refine wpList_append_own _ rfl _ _ 22 rfl w.heap.size 60 i0 z0 33 48 underlying22 HI.out.1 HI.out.2.1 HI.out.2.2.1 HI.out.2.2.2.1 HI.out.2.2.2.2 (by decide) _ _ _ rfl (dp.out.alloc _) ⟨_,0,none⟩ 1 1 (jk (k,v.extract 0 100)) rfl (fQ (x:=(k,v.extract 0 100)) cq.out) ?d1 (qd _) ?d3 ?d4 ?d5 ?_))
      case d1 =>
       intro q u hu;first | (simpa [gQ] using hu) | (rw [Addr.add_mid]; exact (dA.own (Rg.Own.new _ (gQ (k,v.extract 0 100)) 60)) q u hu)
      case d3=>unfold maxLen; omega
      case d4=>omega
      case d5=>have:=HB.out.size; have:=eo.out.size; simp; omega
      intro v' w7 cD hgrow _;have hlt':=dp.out.lt;have bc:Hid (Below w.heap.size w w7):=hid (((bst HB.out eo.out).alloc (by have:=HB.out.size; have:=eo.out.size; omega) _).grown hgrow (by have:=HB.out.size; have:=eo.out.size; simp; omega) (λg hg=>(hlt' g hg).1));go_wp2;go_roundw
      case rel=>exact ⟨j+1,by omega,by omega,by go_num,hid (by rw [HF.out,uj,List.length_append]; exact cD),bc⟩
      case measure=>simp [intOf]; omega
    .have hv1:=Ni.dJ (s:=v) (by omega);have s1:decide ((100:Int)<(v.size:Int))=false:=decide_eq_false (by omega);have HF:Hid (eZ (l.take (j+1))=eZ (l.take j)++[(k,v)]):=hid (by rw [rz HJ.out oE,HX.out]; unfold FE; simp [hv0,hv2]);go_wp2_with (first
      | (refine aA (gK (x:=(k,v)) cq.out uv.out ⟨_,rfl,rfl⟩) ?_)
      | (refine aA (kZ _ _ _ wr.heap.size rfl rfl) ?_)
      | (refine jy HN.out HZ.out (k,v) cq.out rfl _ _ rfl rfl rfl rfl ?_; intro w5 aE bd; have bh:=hid aE; have ae:Hid (Below wr.heap.size wr w5):=hid (bd.below (al1 _ _) aG); have dp:=hid (tC HR.out ae.out); have c32:w5.cell? ⟨wr.heap.size,32,none⟩=some (.string _):=(dA.own aE).val cq.out; clear aE bd)
      | (refine aA (dW c32 ⟨_,rfl,rfl⟩) ?_)
      | (refine aA (gK (x:=(k,v)) cq.out (dA.own bh.out) ⟨_,rfl,rfl⟩) ?_)
      | (refine aA (pz (x:=(k,v)) cq.out _ rfl ⟨_,rfl,rfl⟩) ?_)
      | (at_builtin; refine wpList_append_own _ rfl _ _ 22 rfl w.heap.size 60 i0 z0 33 48 underlying22 HI.out.1 HI.out.2.1 HI.out.2.2.1 HI.out.2.2.2.1 HI.out.2.2.2.2 (by decide) _ _ _ rfl (dp.out.alloc _) ⟨_,0,none⟩ 1 1 (jk (k,v)) rfl (fQ (x:=(k,v)) cq.out) ?d1 (qd _) ?d3 ?d4 ?d5 ?_))
     case d1 =>
      intro q u hu;first | (simpa [gQ] using hu) | (rw [Addr.add_mid]; exact (dA.own (Rg.Own.new _ (gQ (k,v)) 60)) q u hu)
     case d3=>unfold maxLen; omega
     case d4=>omega
     case d5=>have:=HB.out.size; have:=ae.out.size; simp; omega
     intro v' w7 cD hgrow _;have hlt':=dp.out.lt;have bc:Hid (Below w.heap.size w w7):=hid (((bst HB.out ae.out).alloc (by have:=HB.out.size; have:=ae.out.size; omega) _).grown hgrow (by have:=HB.out.size; have:=ae.out.size; simp; omega) (λg hg=>(hlt' g hg).1));go_wp2;go_roundw
     case rel=>exact ⟨j+1,by omega,by omega,by go_num,hid (by rw [HF.out,uj,List.length_append]; exact cD),bc⟩
     case measure=>simp [intOf]; omega
  .have bj:Hid (eZ (l.take j)=eZ l):=hid (by
    rcases Nat.lt_or_ge j n with h1 | h1
    .obtain rfl:j=24:=by omega
     exact Qk
    .obtain rfl:j=n:=by omega
     rw [List.take_of_length_le (by rw [HL.out]; exact aG)])
   have HK:=hid (IK H.out.keys);have hf:¬ ((j:Int)<n/\(j:Int)<24):=by omega
   rw [bj.out] at HR;rcases Nat.lt_or_ge j n with h1 | h1
   .obtain rfl:j=24:=by omega
    have i1:((24:Nat):Int)<n:=by omega
    go_wp2_with fail
    go_ret;exact zX.ps HK.out.1 ⟨_,rfl,HR.out,HB.out⟩
   .obtain rfl:j=n:=by omega
    go_wp2_with fail
    go_ret;exact zX.ps HK.out.1 ⟨_,rfl,HR.out,HB.out⟩
open No
open Rf
open Rl
open Sm (Tab)
section
variable {k:aM} {j:Nat}
end
namespace Xs
variable {w0:World} {M M':Mp} {w w':World} {b0 b1:Nat} {p p' q q':aK} {t t' s s':T}
end Xs
theorem Ks0.below {M:Mp} {lo:Nat} {w w':World} {a:aK} {n c:Nat} {l:List T} (h:Ks0 M lo w a n c l) (hb:Below w.heap.size w w'):Ks0 M lo w' a n c l :=
 ⟨h.1,h.2.1,h.2.2.1,h.2.2.2.1,λj hj=>by
  obtain ⟨b,off,p,e,hlt,hf,hc,ht⟩:=h.2.2.2.2 j hj;exact ⟨b,off,p,e,aI hlt hb.size,hf,aW hb hc,ht⟩⟩
theorem Ks0.lo {M:Mp} {lo lo':Nat} {w:World} {a:aK} {n c:Nat} {l:List T} (h:Ks0 M lo w a n c l) (hl:lo'<=lo):Ks0 M lo' w a n c l :=
 ⟨h.1,h.2.1,h.2.2.1,h.2.2.2.1,λj hj=>by
  obtain ⟨b,off,p,e,hlt,hf,hc,ht⟩:=h.2.2.2.2 j hj;exact ⟨b,off,p,e,hlt,hf.elim Or.inl (λh=>Or.inr (Nat.le_trans hl h)),hc,ht⟩⟩
theorem jX.ks0 {M:Mp} {lo:Nat} {w:World} {a:aK} {n c:Nat} {ps:List (aK)} {ts:List T} (h:jX w a n c ps) (hA:Are M ps ts) (hlo:∀ ad,a=some ad->lo<=ad.block):Ks0 M lo w a n c ts :=
 ⟨h.1,h.2.1,by rw [<-hA.1]; exact h.2.2.1,h.2.2.2.1,λj hj=>by
  obtain ⟨b,off,e,hlt,hc⟩:=h.2.2.2.2 j hj;exact ⟨b,off,_,e,hlt,Or.inr (hlo _ e),hc,hA.2 j (by rw [h.2.2.1]; exact hj)⟩⟩
theorem Ub (f:Fin 16->T) (j:Nat) (hj:j<16):(fU (.br f)).getD j .nil=f ⟨j,hj⟩:=by
 show ((List.finRange 16).map f).getD j .nil=_;rw [List.getD_eq_getElem?_getD,List.getElem?_map,List.getElem?_eq_getElem (by simpa using hj)];simp
theorem Kq (M:Mp) (N:Nd) (hl:N.ks.length=16) (pa:aK) (pn pc:Nat) (ps:List (aK)) (ts:List T) (hA:Are M ps ts)
  (hkd:N.kd=1/\ts=[]\/N.kd=2/\(∃ s,ts=[s])\/N.kd=3/\ts.length=(bI N.ks).length) (ka:aK) (kn kc:Nat) (w:World) (h:jX w ka kn kc ps) (hn:kn<=1000000) :
  Calls prog 191 #[.agg (ndC N pa pn pc),.slice ka kn kc] w λe w'=>∃ va vn vc,e = .returned (.slice va vn vc)/\Ks0 M w.heap.size w' va vn vc (fU (makeT N ts))/\Below w.heap.size w w':=by
 by_cases hk:N.kd=3
 .have hlen:ts.length=(bI N.ks).length:=by rcases hkd with ⟨h1,_⟩ | ⟨h1,_⟩ | ⟨_,h2⟩; omega; omega; exact h2
  have hpl:ps.length=kn:=h.2.2.1;refine (OE N hk hl pa pn pc ps ka kn kc w h (by rw [<-hlen,<-hA.1,hpl])).mono ?_;rintro e w' ⟨g,rfl,hg,hO,hb⟩;have hm:makeT N ts = .br (DY N.ks ts):=by unfold makeT; rw [if_neg (by omega),if_neg (by omega)]
  have h16:(gF N.ks ps 16).length=16:=iM;have hks:=Ks0.row (M:=M) (lo:=w.heap.size) (l:=fU (makeT N ts)) hg hO (by rw [h16,hm]; simp [fU]) (by rw [h16]; unfold maxLen; omega) (λj hj=>by
   rw [h16] at hj;rw [KV j hj,hm,Ub _ j hj];unfold yH DY;by_cases h0:(N.ks.getD j eB).size=0
   .rw [if_pos h0,if_pos h0]; rfl
   .rw [if_neg h0,if_neg h0];by_cases hx:(bI (N.ks.take j)).length<ps.length
    .exact hA.2 _ hx
    .have e1:ps.getD (bI (N.ks.take j)).length none=none:=by rw [List.getD_eq_getElem?_getD,List.getElem?_eq_none (by omega)]; rfl
     have e2:ts.getD (bI (N.ks.take j)).length .nil = .nil:=by rw [List.getD_eq_getElem?_getD,List.getElem?_eq_none (by rw [<-hA.1]; omega)]; rfl
     rw [e1,e2];rfl)
  rw [h16] at hks;exact ⟨_,_,_,rfl,hks,hb⟩
 .refine (FR N hk hl pa pn pc ps ka kn kc w h hn).mono ?_;rintro e w' ⟨v,rfl,hR,hb⟩;obtain ⟨a,c,rfl,hP,hlo⟩:=hR.ptrs;refine ⟨_,_,_,rfl,?_,hb⟩;have hm:fU (makeT N ts)=ts:=by
   unfold makeT;rcases hkd with ⟨h1,rfl⟩ | ⟨h1,s,rfl⟩ | ⟨h1,_⟩
   .rw [if_pos h1]; rfl
   .rw [if_neg (by omega),if_pos h1]; rfl
   .exact absurd h1 hk
  rw [hm];exact hP.ks0 hA hlo
def MG (M:Mp) (w:World) (t:T) (c:Int) (e:Ending) (w':World):Prop:=∃ p M',e = .returned (.tuple #[tv p,.int .i64 c])/\IsT M' p t/\Fr M M' w w'/\Inv M' w'/\Tab w'
theorem KI (t:T) (k:Int) (v:aL) (hk:dO t=k) (hv:ER t=v) (hs:¬ eP t) (a:aK) (n c:Nat) (ka:aK) (kn kc:Nat) :
  prog.built 135 [(0,.int .i64 k),(1,.slice a n c),(2,.string v),(3,.slice ka kn kc)]=some (iL t a n c ka kn kc 0 (MF t)):=by
 subst hk hv;rw [NS hs];unfold iL;generalize dO t=k;generalize ER t=v;kernel_rfl
theorem UE {M:Mp} {w w5 w8:World} {t:T} {e:Ending} (hi:Inv M w) (hz:0<w.heap.size) (hb2:Below w.heap.size w w2) (hO2:Rg.Own w2 g #[.pointer none] 35) (hg:w.heap.size<=g) (f5:Fr M M w2 w5) (t5:Tab w5) (hG:dF M w5 t e w8) :
  ∃ p,e = .returned (tv p)/\∀ w9,Rg.Upd w8 g w9->MG M w t 0 (.returned (.tuple #[tv p,.int .i64 0])) w9:=by
 obtain ⟨p,M',he,ht,f,i,b⟩:=hG;have f28:=f5.trans (hi.below hb2) f;have hn:¬ M'.ft g:=f28.box (hi.free hg) hO2.1 (dH hO2 (iY _));have f8:=(Fr.below M hb2).trans hi f28;exact ⟨p,he,λw9 hu=>⟨p,M',rfl,ht,f8.upd hu hg,i.upd hu hn,λi hi=>by rw [World.cell?_of_block (hu.block 0 (by omega))]; exact (t5.below b t5.pos) i hi⟩⟩
structure Mk (N:Nd) (ts:List T):Prop where
 ks:N.ks.length=16
 may:fq bP N=true
 v:N.v.size<=maxLen
 pl:N.p.length<=64
 few:∀ k∈N.ks,k.size<=100
 fine:∀ s∈ts,∃ L,Tr.Good s L/\L<=64/\Fine s
 refs:bI N.ks=ts.map ref
 kd:N.kd=1/\ts=[]\/N.kd=2/\(∃ s,ts=[s]/\dO s≠1/\dO s≠2)\/N.kd=3/\ts.length=(bI N.ks).length
 k:dO (makeT N ts)=N.kd
 mv:ER (makeT N ts)=N.v
 mp:bW (makeT N ts)=N.p
 ms:¬ eP (makeT N ts)
 mn:makeT N ts ≠ .nil
theorem Mk.kd' {N:Nd} {ts:List T} (h:Mk N ts):N.kd=1/\ts=[]\/N.kd=2/\(∃ s,ts=[s])\/N.kd=3/\ts.length=(bI N.ks).length:=by
 rcases h.kd with h | ⟨h,s,e,_⟩ | h
 .exact .inl h
 .exact .inr (.inl ⟨h,s,e⟩)
 .exact .inr (.inr h)
theorem Qa {N:Nd} (hl:N.ks.length=16) (hmay:fq bP N=true) (hv:N.v.size<=maxLen) (hks:∀ k∈N.ks,k.size<=100) (a:aK) (n c:Nat) (w:World) (hB:aZ w a n c N.p) :
  Calls prog 50 #[.agg (ndC N a n c)] w λe w'=>e = .returned (.int .i64 0)/\Below w.heap.size w w':=by
 have:=qb N a n c hl w hB hv (λk hk=>No.lD k (by have:=hks k hk; omega));rw [hmay] at this;exact this
end Tm
end
section
open Go.RowKit
namespace No
open Rl Ni
end No
end
section
open Go.RowKit
namespace Rl
end Rl
end
section
open Go.RowKit
namespace No
open Ni
open Rl
end No
end
section
open Go.RowKit
namespace Tm
open Tr Ni Pk Ky No Rf Rl
open Sm (Tab)
theorem mF {ks:Fin 16->T} {s:T} (h:s∈(dG ks).map ks):∃ i,s=ks i/\ks i ≠ .nil:=by
 obtain ⟨i,hi,rfl⟩:=List.mem_map.1 h;refine ⟨i,rfl,λe=>?_⟩;have:=(List.mem_filter.1 hi).2;rw [dD.2 e] at this;cases this
theorem DK {t:T} {L:Nat} (g:Tr.Good t L) (f:Fine t):∀ s∈bZ t,s ≠ .nil/\Fine s/\(Tr.Full t->Tr.Full s)/\∃ L',L'<L/\Tr.Good s L':=by
 intro s hs;cases t with
 | nil=>cases hs
 | leaf p v=>cases hs
 | stub r=>cases hs
 | ext q u =>
  obtain rfl:s=u:=by
   have:s∈[u]:=hs;simpa using this
  obtain ⟨g1,_,g3,g4,g5⟩:=g;have hq:0<q.length:=List.length_pos_iff.2 g1;exact ⟨jZ g4,f,λh=>h,L-q.length,by omega,g5⟩
 | br ks =>
  obtain ⟨i,rfl,hn⟩:=mF hs;obtain ⟨g1,_,g3⟩:=g;exact ⟨hn,f i,λh=>h i,L-1,by omega,g3 i⟩
theorem Pn {t:T} (hs:¬ eP t):dO t=(bC t).kd/\ER t=(bC t).v/\bW t=(bC t).p:=by
 cases t with
 | stub r=>exact absurd trivial hs
 | _=>exact ⟨rfl,rfl,rfl⟩
theorem Zr {t:T} {L:Nat} (g:Tr.Good t L) (hL:L<=64) (f:Fine t) (hn:t ≠ .nil) (hs:¬ eP t) {ts:List T} (hr:ts.map ref=(bZ t).map ref) (hf:∀ s∈ts,∃ L,Tr.Good s L/\L<=64/\Fine s)
  (hk:∀ q s,t = .ext q s->∀ u∈ts,dO u≠1/\dO u≠2) {t':T} (hm:makeT (bC t) ts=t') (hx:bC t'=bC t) (hs':¬ eP t') (hn':t' ≠ .nil):Mk (bC t) ts:=by
 obtain ⟨h1,_,_,h4,h5,h6⟩:=iF g hL f hn hs;have hrf:bI (bC t).ks=ts.map ref:=by rw [hr]; exact yg g hL f
 have hlen:ts.length=(bZ t).length:=by have:=congrArg List.length hr; simpa using this
 obtain ⟨k1,k2,k3⟩:=Pn hs';refine ⟨cu t,h1,h4,h5,h6,hf,hrf,?_,by rw [hm,k1,hx],by rw [hm,k2,hx],by rw [hm,k3,hx],by rw [hm]; exact hs',by rw [hm]; exact hn'⟩;cases t with
 | nil=>exact absurd rfl hn
 | stub r=>exact absurd trivial hs
 | leaf p v=>exact .inl ⟨rfl,List.eq_nil_of_length_eq_zero hlen⟩
 | ext q u =>
  have h1:ts.length=1:=hlen;obtain ⟨s,rfl⟩:=List.length_eq_one_iff.1 h1;exact .inr (.inl ⟨rfl,s,rfl,hk q u rfl s (by simp)⟩)
 | br ks=>exact .inr (.inr ⟨rfl,by rw [hrf,List.length_map]⟩)
theorem Xa {t:T} {L:Nat} (g:Tr.Good t L) (hL:L<=64) (f:Fine t) (hn:t ≠ .nil) (hs:¬ eP t):Mk (bC t) (bZ t) :=
 Zr g hL f hn hs rfl (λs h=>by
  obtain ⟨_,hf,_,L',hl,hg⟩:=DK g f s h;exact ⟨L',hg,by omega,hf⟩) (λq s e u hu=>by
  subst e;obtain rfl:u=s:=by
   have:u∈[s]:=hu;simpa using this
  have:=g.2.2.2.1;cases u with
  | br ks=>exact ⟨by show (3:Int)≠1; decide,by show (3:Int)≠2; decide⟩
  | stub r=>exact ⟨by show (-1:Int)≠1; decide,by show (-1:Int)≠2; decide⟩
  | _=>exact absurd this (λh=>h)) (DF g hL f hn hs) rfl hs hn
theorem vK (t:T):(bZ t).length<=16:=by
 cases t with
 | ext q s=>show 1<=16; omega
 | br ks =>
  show ((dG ks).map ks).length<=16;rw [List.length_map];exact Nat.le_trans (List.length_filter_le _ _) (by simp)
 | _=>exact Nat.zero_le _
namespace XN
variable {w0:World} {M M':Mp} {w w':World} {bk bt:Nat} {K:aM} {p p':aK} {t t':T}
end XN
namespace XX
variable {w0:World} {M M':Mp} {w w':World} {bk bt:Nat} {K:aM} {p:aK} {t:T} {bn:Nat} {N:Nd} {a:aK} {n c:Nat} {ka:aK} {kc':Nat} {ps:List (aK)}
end XX
end Tm
end
section
namespace Tm
open Tr Rf Rl Ni No
def eX (l:List aL):Nat:=(l.map ByteArray.size).sum
theorem yS (l:List aL) (j:Nat) (hj:j<l.length):eX (l.take (j+1))=eX (l.take j)+(l.getD j eB).size:=by
 unfold eX;have e2:l.getD j eB=l[j]:=by simp [List.getD,hj]
 rw [List.take_add_one,List.getElem?_eq_getElem hj,List.map_append,List.sum_append,e2];simp
theorem qV (l:List aL) (h:∀ s∈l,s.size<=900000) (j:Nat):eX (l.take j)<=l.length*900000:=by
 have key:∀ l:List aL,(∀ s∈l,s.size<=900000)->eX l<=l.length*900000:=by
  intro l
  induction l with
  | nil=>intro _; exact Nat.zero_le _
  | cons x r ih =>
   intro h;have h1:=h x List.mem_cons_self;have h2:=ih λs hs=>h s (List.mem_cons_of_mem _ hs);unfold eX at h2 ⊢;rw [List.map_cons,List.sum_cons,List.length_cons];omega
 have h1:=key (l.take j) λs hs=>h s (List.mem_of_mem_take hs);rw [List.length_take] at h1;have:min j l.length*900000<=l.length*900000:=Nat.mul_le_mul_right _ (Nat.min_le_right _ _);exact Nat.le_trans h1 this
structure Whl (t:T):Prop where
 fine:Fine t
 full:Tr.Full t
 good:∃ L,L<=64/\Tr.Good t L
theorem Whl.kids {t:T} (h:Whl t):∀ s∈bZ t,s ≠ .nil/\Whl s:=λs hs=>by
 obtain ⟨L,hL,g⟩:=h.good;obtain ⟨h1,h2,h3,L',hl,h4⟩:=DK g h.fine s hs;exact ⟨h1,h2,h3 h.full,L',by omega,h4⟩
theorem Whl.ns {t:T} (h:Whl t):¬ eP t:=tH h.full
theorem Whl.enc {t:T} (h:Whl t) (hn:t ≠ .nil):bF t≠eB/\(bF t).size<=900000:=by
 obtain ⟨L,hL,g⟩:=h.good;obtain ⟨h1,h2,h3,_⟩:=iF g hL h.fine hn h.ns;refine ⟨λe=>?_,h3⟩;have h4:=put_pos (cu _) h1;rw [h2] at e;have:=congrArg ByteArray.size e;rw [eU] at this;have h5:eB.size=0:=rfl;omega
theorem DL:∀ l:List Tr.In,((List.finRange 16).map λc=>(bJ l c).length).sum<=l.length
 | []=>by
  have e:((List.finRange 16).map λc=>(bJ [] c).length)=(List.finRange 16).map λ_=>0:=rfl;rw [e];decide
 | x::r=>by
  have ih:=DL r;have key:∀ (cs:List (Fin 16)),cs.Nodup->(cs.map λc=>(bJ (x::r) c).length).sum<=(cs.map λc=>(bJ r c).length).sum+if ∃ c∈cs,(x.1.getD 0 0).toNat=c.val then 1 else 0:=by
   intro cs
   induction cs with
   | nil=>intro _; simp
   | cons c cs ih2 =>
    intro hd;obtain ⟨hc,hd'⟩:=List.nodup_cons.1 hd;have i2:=ih2 hd';rw [List.map_cons,List.map_cons,List.sum_cons,List.sum_cons];by_cases h:(x.1.getD 0 0).toNat=c.val
    .have h1:(bJ (x::r) c).length=(bJ r c).length+1:=by
      unfold bJ;rw [List.filter_cons,if_pos (by simpa using h)];rfl
     have h2:¬ ∃ d∈cs,(x.1.getD 0 0).toNat=d.val:=λ⟨d,hd,e⟩=>hc (by
      have:c=d:=Fin.ext (by omega);rw [this]; exact hd)
     rw [if_neg h2] at i2;rw [if_pos ⟨c,List.mem_cons_self,h⟩,h1];omega
    .have h1:(bJ (x::r) c).length=(bJ r c).length:=by
      unfold bJ;rw [List.filter_cons,if_neg (by simpa using h)]
     rw [h1];by_cases h2:∃ d∈cs,(x.1.getD 0 0).toNat=d.val
     .obtain ⟨d,hd,e⟩:=h2;rw [if_pos ⟨d,hd,e⟩] at i2;rw [if_pos ⟨d,List.mem_cons_of_mem _ hd,e⟩];omega
     .rw [if_neg h2] at i2;omega
  have:=key (List.finRange 16) (List.nodup_finRange 16);rw [List.length_cons];split at this <;> omega
theorem Ox:∀ (L:Nat) (l:List Tr.In),Ok L l->(nC (build L l)).length<=(L+1)*l.length:=by
 intro L
 induction L using Nat.strongRecOn with
 | ind L ih =>
  intro l ok
  match l,ok with
  | [],_=>rw [build]; exact Nat.zero_le _
  | [x],_ =>
   rw [build];show 1<=(L+1)*1;omega
  | x::y::r,ok =>
   have hcl:=jJ ok;rw [build];by_cases h:0<bE (x::y::r)/\0<L
   .rw [dif_pos h];have i1:=ih (L-bE (x::y::r)) (by omega) (bN (x::y::r) (bE (x::y::r))) (tZ ok (by omega) (λa ha b hb=>by rw [iD ha,iD hb]));show (nC _).length+1<=_;have e:(bN (x::y::r) (bE (x::y::r))).length=(x::y::r).length:=by unfold bN; rw [List.length_map]
    rw [e] at i1;have h2:(L-bE (x::y::r)+1)*(x::y::r).length<=L*(x::y::r).length:=Nat.mul_le_mul_right _ (by omega);have h3:2<=(x::y::r).length:=by simp
    have h4:(L+1)*(x::y::r).length=L*(x::y::r).length+(x::y::r).length:=Nat.succ_mul _ _;omega
   .rw [dif_neg h];by_cases h2:0<L
    .rw [dif_pos h2];show ((List.finRange 16).map λi=>nC (build (L-1) (bN (bJ (x::y::r) i) 1))).flatten.length+1<=_;have hb:∀ cs:List (Fin 16),(cs.map λi=>nC (build (L-1) (bN (bJ (x::y::r) i) 1))).flatten.length<=L*(cs.map λc=>(bJ (x::y::r) c).length).sum:=by
      intro cs
      induction cs with
      | nil=>exact Nat.zero_le _
      | cons c cs ih2 =>
       have i1:=ih (L-1) (by omega) (bN (bJ (x::y::r) c) 1) (oD ok h2 c);have e:(bN (bJ (x::y::r) c) 1).length=(bJ (x::y::r) c).length:=by unfold bN; rw [List.length_map]
       rw [e,show L-1+1=L by omega] at i1;rw [List.map_cons,List.map_cons,List.flatten_cons,List.sum_cons,List.length_append,Nat.mul_add];omega
     have h3:=hb (List.finRange 16);have h4:=DL (x::y::r);have h5:L*((List.finRange 16).map λc=>(bJ (x::y::r) c).length).sum<=L*(x::y::r).length:=Nat.mul_le_mul_left _ h4;have h6:(L+1)*(x::y::r).length=L*(x::y::r).length+(x::y::r).length:=Nat.succ_mul _ _;have h7:2<=(x::y::r).length:=by simp
     omega
    .rw [dif_neg h2];exact Nat.zero_le _
end Tm
end
section
open Go.RowKit
namespace Tm
open Tr Ni Pk Ky No Rf Rl
open Sm (Tab)
structure FrK (M:Mp) (K:Nat->Prop) (w w':World):Prop where
 os:w'.os=w.os
 tape:w'.tape=w.tape
 output:w'.output=w.output
 size:w.heap.size<=w'.heap.size
 block:∀ k,k<w.heap.size->M.at_ k=none->¬ K k->w'.heap[k]? = w.heap[k]?
theorem FrK.refl (M:Mp) (K:Nat->Prop) (w:World):FrK M K w w:=⟨rfl,rfl,rfl,aG,λ_ _ _ _=>rfl⟩
theorem FrK.trans {M:Mp} {K K1:Nat->Prop} {w w1 w2:World} (h:FrK M K w w1) (g:FrK M K1 w1 w2) (hk:∀ k,K1 k->K k\/w.heap.size<=k):FrK M K w w2 :=
 ⟨g.os.trans h.os,g.tape.trans h.tape,g.output.trans h.output,Nat.le_trans h.size g.size,λk hl hm hn=>(g.block k (aI hl h.size) hm λh1=>(hk k h1).elim hn (by omega)).trans (h.block k hl hm hn)⟩
theorem FrK.of {M:Mp} {K:Nat->Prop} {w w':World} (f:Fr M M w w'):FrK M K w w':=⟨f.os,f.tape,f.output,f.size,λk hl hm _=>f.block k hl hm⟩
theorem FrK.below {M:Mp} {K:Nat->Prop} {w:World} (h:FrK M K w w1) (hb:Below B w1 w2) (hB:w.heap.size<=B):FrK M K w w2 :=
 ⟨hb.os.trans h.os,hb.tape.trans h.tape,hb.output.trans h.output,Nat.le_trans h.size hb.size,λk hl hm hn=>(hb.block k (by omega)).trans (h.block k hl hm hn)⟩
theorem Inv.keep {M:Mp} {w w':World} (h:Inv M w) (hs:w.heap.size<=w'.heap.size) (hk:∀ k,M.ft k->w'.heap[k]? = w.heap[k]?):Inv M w':=by
 refine ⟨λk hk=>aI (h.lt_ k hk) hs,λb t hm=>?_⟩;obtain ⟨h1,h2,h3⟩:=h.part_ b t hm;refine ⟨h1,h2,?_⟩;obtain ⟨a,n,c,ka,kn,kc,d,r,hb,hB,hK,hd⟩:=h3;refine ⟨a,n,c,ka,kn,kc,d,r,(hk b h2).trans hb,⟨⟨hB.1.1,hB.1.2.1,hB.1.2.2.1,hB.1.2.2.2.1,λj hj=>?_⟩,hB.2⟩,⟨hK.1,hK.2.1,hK.2.2.1,hK.2.2.2.1,λj hj=>?_⟩,hd⟩
 .obtain ⟨b',off,e,hlt,hc⟩:=hB.1.2.2.2.2 j hj;exact ⟨b',off,e,aI hlt hs,by rw [World.cell?_of_block (hk b' (hB.2 _ e (by omega)))]; exact hc⟩
 .obtain ⟨b',off,p,e,hlt,hf,hc,ht⟩:=hK.at' j hj;exact ⟨b',off,p,e,aI hlt hs,hf,by rw [World.cell?_of_block (hk b' hf)]; exact hc,ht⟩
theorem dU {sz n:Nat} {w w':World} {v:Value} {xs:List Value} (h:w.ownsRow B e sz v n xs) (hk:∀ k,v.ownBlock=some k->w'.heap[k]? = w.heap[k]?):w'.ownsRow B e sz v n xs:=by
 obtain ⟨h1,h2⟩:=h;refine ⟨h1,?_⟩;rcases h2 with h2 | ⟨g,cap,cur,rfl,hg,hh,hr⟩
 .exact .inl h2
 .exact .inr ⟨g,cap,cur,rfl,hg,(hk g rfl).trans hh,hr⟩
theorem gY {sz n:Nat} {w:World} {v:Value} {xs:List Value} (h:w.ownsRow B e sz v n xs):∃ a c,v = .slice a n c:=by
 rcases h.2 with ⟨rfl,rfl⟩ | ⟨g,cap,cur,rfl,_⟩
 .exact ⟨_,_,rfl⟩
 .exact ⟨_,_,rfl⟩
def NT (M:Mp):aK->T
 | none=>.nil
 | some ad=>(M.at_ ad.block).getD .nil
theorem IsT.NT {M:Mp} {p:aK} {t:T} (h:IsT M p t):Tm.NT M p=t:=by
 cases p with
 | none=>exact Eq.symm h
 | some ad =>
  obtain ⟨b,rfl,hm,_⟩:=h;show (M.at_ b).getD .nil=t;rw [hm]; rfl
theorem Qh {w:World} {n cap:Nat} {ps:List (aK)} (h:w.ownsRow B 35 1 (.slice (some ⟨g,0,none⟩) n cap) n (ps.map Value.pointer)):ps.length=n/\B<=g/\g<w.heap.size/\n<=cap/\cap<=maxLen/\∀ j,j<n->w.cell? ⟨g,j,none⟩=some (.pointer (ps.getD j none)):=by
 obtain ⟨h1,h2⟩:=h;have hl:ps.length=n:=by simpa using h1
 rcases h2 with ⟨h2,_⟩ | ⟨g',cap',cur,e,hg,hh,hnc,hcm,hsz,htk⟩
 .cases h2
 .injection e with e1 e2 e3;injection e1 with e1;injection e1 with e1;subst e1 e3;refine ⟨hl,hg,(Array.getElem?_eq_some_iff.1 hh).1,hnc,hcm,λj hj=>?_⟩;rw [cell_of_row w g _ _ _ _ hh];have h3:cur.toList[j]? = (ps.map Value.pointer)[j]? := by
   rw [<-htk,List.getElem?_take_of_lt (by omega)]
  rw [<-Array.getElem?_toList,h3];simp [List.getD,show j<ps.length by omega]
theorem Are.snoc {M:Mp} {ps qs:List (aK)} {S R:List T} (h:Are M ps S) (g:Are M qs R):Are M (ps++qs) (S++R):=by
 refine ⟨by simp [h.1,g.1],λj hj=>?_⟩;by_cases hl:j<ps.length
 .have:=h.2 j hl;simpa [List.getD,List.getElem?_append_left hl,List.getElem?_append_left (show j<S.length by rw [<-h.1]; exact hl)] using this
 .have hs:=h.1;have:=g.2 (j-ps.length) (by rw [List.length_append] at hj; omega);simpa [List.getD,List.getElem?_append_right (show ps.length<=j by omega),List.getElem?_append_right (show S.length<=j by omega),hs] using this
section
variable {M:Mp} {J:List T->(Nat->Prop)->World->Prop} {K0:Nat->Prop} {w0 w:World} {t:T} {v:Value} {V S:List T} {ps:List (aK)} {K:Nat->Prop}
end
theorem Fr.KW {M:Mp} {w wr:World} (f:Fr M M w w2) (hs:w.heap.size<=w2.heap.size) (hb:Below w2.heap.size w2 wr):Fr M M w wr :=
 ⟨hb.os.trans f.os,hb.tape.trans f.tape,hb.output.trans f.output,Nat.le_trans hs hb.size,λk hl hm=>(hb.block k (by omega)).trans (f.block k hl hm),λ_ _ h=>h,λ_ _ h=>h,λ_ h=>h,λ_ h=>Or.inl h⟩
end Tm
end
end Go.Proofs.YtoipgepkhomfgaaGreatDoor
