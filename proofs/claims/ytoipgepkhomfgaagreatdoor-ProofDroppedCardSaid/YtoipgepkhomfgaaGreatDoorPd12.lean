/-
 The contract of Of: the tree of pairs.
-/
import Derived.Test.YtoipgepkhomfgaaGreatDoorPd11
import Derived.Lib.HexFns2
open Go.Lib (hid)
open Go.Proofs.Tryz
set_option linter.unusedSimpArgs false
set_option linter.unusedVariables false
set_option maxHeartbeats 40000000
set_option maxRecDepth 100000
namespace Go.Proofs.YtoipgepkhomfgaaGreatDoor
variable {B L base g i:Nat} {w1 w2:World} {ops:Array Oper} {o:Oper} {act:Act} {Q:Exit->Act->World->Prop} {ev:Operand->Value} {e:TypeId} {r:aL} {P:Program}
section
open Go.RowKit
namespace Tm
open Tr Ni Pk Ky
theorem Bx.fr {M M':Mp} {w w':World} {cs:aN} {t:TypeId} (h:Bx M w g cs t) (f:Fr M M' w w') (b:Below w.heap.size w w'):Bx M' w' g cs t:=h.got f b
theorem St.te {M M1:Mp} {w:World} {t:T} {c:Int} {e:Ending} (s:St M w M1 w1) (h:Ja M1 w1 t c e w2):∃ p M2,e = .returned (.tuple #[tv p,.int .i64 c])/\IsT M2 p t/\St M w M2 w2/\Fr M1 M2 w1 w2/\Below w1.heap.size w1 w2:=by
 obtain ⟨p,M2,he,ht,f,i,b⟩:=h;exact ⟨p,M2,he,ht,⟨s.f.trans s.i0 f,i,bst s.b b,s.i0⟩,f,b⟩
def Gj (l:List Tr.Pair):Prop:=(∀ x∈l,x.1.length=32)/\∀ x∈l,x.2.size≠0/\x.2.size<=65552
theorem Gj.has {l:List Tr.Pair} (h:Gj l):Has (bq .nil l) (gW l):=Na l.length l rfl h.1 h.2
theorem Gj.take {l:List Tr.Pair} (h:Gj l) (j:Nat):Gj (l.take j):=⟨λx hx=>h.1 x (List.mem_of_mem_take hx),λx hx=>h.2 x (List.mem_of_mem_take hx)⟩
theorem Yh {t:T} {m:Tr.Key->Option aL} (h:Has t m) {k:Tr.Key} (hk:k.length=32):Tr.get t (path k)≠none:=by
 rw [h.get k hk];intro e;cases e
theorem FU (M:Mp) (a:aK) (n c:Nat) (l:List Tr.Pair) (hok:Gj l) (w:World) (hi:Inv M w) (h:nK w a n c l) (hn:n<=1000000) :
  Calls prog 9 #[.slice a n c] w (dz M w (bq .nil l)):=by
 obtain ⟨w2,hw2,am,ab,hb2,hs2⟩:=mI w none;have hS2:St M w M w2:=(St.refl hi).below hb2;have hX0:Bx M w2 w.heap.size #[.pointer none] 35:=⟨am,hi.free (by omega),eH _⟩
 have hX1:Bx M w2 (w.heap.size+1) #[.pointer none] 35:=⟨ab,hi.free (by omega),eH _⟩
 have hl:=h.len;have hcap:=h.1;have hmx:=h.2.1;unfold maxLen at hmx;have H:=hid h;have gm:=hid hok;have HL:=hid hl;have HS2:=hid hS2;have HX0:=hid hX0;have cM:=hid hX1;have HW2:Hid (_=_):=hid hw2;clear am ab hb2 hs2 hw2 hS2 hX0 hX1 h hok hl hi;go_enter func9,ntmps9;go_wp2_with (first | (refine aA (aX _ _ _ w.heap.size rfl rfl) ?_) | (refine aA (aX _ _ _ (w.heap.size+1) (by simp) rfl) ?_))
 rw [<-HW2.out];clear HW2;go_loopw [10] (λi wr=>∃ (j:Nat) (p:aK) (Mr:Mp),j<=n/\i = .int .i64 j/\Hid (St M w Mr wr)/\Hid (Bx Mr wr w.heap.size #[.pointer none] 35)/\Hid (Bx Mr wr (w.heap.size+1) #[.pointer p] 35)/\Hid (IsT Mr p (bq .nil (l.take j)))) (λi _=>n-(intOf i).toNat)
 case atStart=>exact ⟨0,none,M,Nat.zero_le _,rfl,HS2,HX0,cM,hid rfl⟩
 case round =>
  obtain ⟨j,p,Mr,hj,rfl,HS,HA,HB,HT⟩:=hrel;clear HS2 HX0 cM;by_cases hlt:j<n
  .obtain ⟨b,off,rfl,hblt,hpa,hk⟩:=H.out.at' j hlt;have HE:Hid (l.getD j ([],eB)∈l/\l.take (j+1)=l.take j++[l.getD j ([],eB)]):=hid (by
    have hjl:j<l.length:=by rw [HL.out]; exact hlt
    have e:l.getD j ([],eB)=l[j]:=by simp [List.getD,hjl]
    rw [e];exact ⟨List.getElem_mem _,List.take_succ_eq_append_getElem hjl⟩)
   obtain ⟨x,hx⟩:=ay (l.getD j ([],eB))
   rw [hx] at hpa hk HE;have hpr:=hpa.below HS.out.b;have hx2:=gm.out.2 x HE.out.1;have hh:=(gm.out.take j).has;have W8:=HS.out.b.size;have gp:=hid (λw5 (h5:Inv Mr w5)=>(yL Mr p _ x.1 hk x.2 hx2.1 hx2.2 w5 h5 HT.out hh.good).2 (Yh hh hk));rw [<-xP,<-HE.out.2] at gp;have uu:=hid hpr;have y8:=hid hk;have hNew:=Rg.Own.new wr (gI (List.replicate 32 0,eB)) 60;have HN:=hid hNew;have W9:=hid hx2;obtain ⟨k,v⟩:=x;clear hx hpa hk hpr hx2 hh hNew HE HT;dsimp only at gp y8;go_wp2_with (first
    | (refine aA (gH y8.out uu.out ⟨_,rfl,rfl⟩) ?_)
    | (refine aA (kI _ _ _ wr.heap.size rfl rfl) ?_)
    | (refine je HN.out (by simp) (k,v) y8.out rfl _ _ rfl rfl rfl rfl ?_; intro w5 ap aq; have az:=hid ap; have aa:Hid (Below wr.heap.size wr w5):=hid (aq.below (al1 _ _) aG); clear ap aq)
    | (refine aA (aU (aV (j:=0) (HB.out.o.below aa.out) rfl) ⟨_,rfl,rfl⟩) ?_)
    | (refine aA (iK y8.out (dK.own az.out).key ⟨_,rfl,rfl⟩) ?_)
    | (refine aA (dV (s:=v) ((dK.own az.out).val y8.out) ⟨_,rfl,rfl⟩) ?_))
   have hS5:=HS.out.below aa.out;have hA5:=HA.out.below aa.out;have ei:=HB.out.below aa.out;refine (gp.out w5 hS5.i).mono ?_;intro e w6 hG;obtain ⟨p6,M6,rfl,kv,im,dg,hb6⟩:=hS5.te hG;have hA6:=hA5.fr dg hb6;have cI:=ei.fr dg hb6;have uv:=hid kv;have e9:=hid im;have oe:=hid hA6;have bi:=hid cI;have hs6:=im.b.size;have hlb:=cI.o.1;have hNew:=Rg.Own.new w6 #[.pointer none] 35;have jt:=hid hNew;clear hG kv im dg hb6 hA6 cI hS5 hA5 ei gp az aa HN uu W9 hNew HS HA HB;go_wp2_with (first
    | (refine aA (aX _ _ _ w6.heap.size rfl rfl) ?_)
    | (refine aZ jt.out (by decide) p6 rfl _ _ rfl rfl rfl ?_; intro w7 cY cQ; have iu:=hid cY; have cm:Hid (Below w6.heap.size w6 w7):=hid (cQ.below (al1 _ _) aG); clear cY cQ)
    | (refine aA (aU (aV (j:=0) iu.out rfl) ⟨_,rfl,rfl⟩) ?_)
    | (refine aZ (bi.out.o.below cm.out) (by simp) p6 rfl _ _ rfl rfl rfl ?_; intro w8 ff jj; have oc:=hid ff; have ux:=hid jj; clear ff jj))
   have xp:=e9.out.below cm.out;have hA7:=oe.out.below cm.out;have oj:=bi.out.below cm.out;go_roundw
   case rel=>exact ⟨j+1,p6,M6,by omega,by go_num,hid (xp.upd ux.out (by omega) oj.n),hid (hA7.upd ux.out (by omega)),hid ⟨oc.out,oj.n,eH _⟩,uv⟩
   case measure=>simp [intOf]; omega
  .obtain rfl:j=n:=by omega
   have pd:Hid (IsT Mr p (bq .nil l)):=hid (by
    have:=HT.out;rwa [List.take_of_length_le (by rw [HL.out]; exact aG)] at this)
   clear HT;go_wp2_with (first
    | (refine aA (aU (aV (j:=0) HB.out.o rfl) ⟨_,rfl,rfl⟩) ?_)
    | (refine aZ HA.out.o (by decide) p rfl _ _ rfl rfl rfl ?_; intro w8 ff jj; have oc:=hid ff; have ux:=hid jj; clear ff jj))
   have ph:=HS.out.upd ux.out aG HA.out.n;exact bodyPost_ret (eF rfl _ rfl oc.out) rfl ⟨p,Mr,rfl,pd.out,ph.f,ph.i,ph.b⟩
open No
open Rf
open Rl
open Sm (Tab)
structure Lw (w0:World) (M:Mp) (w:World):Prop where
 f:Fr M0 M w0 w
 i:Inv M w
 t:Tab w
 z:0<w0.heap.size
theorem Lw.start {w:World} (hT:Tab w):Lw w M0 w:=⟨Fr.refl _ _,Inv.zero w,hT,hT.pos⟩
theorem Lw.b {w0 w:World} {M:Mp} (h:Lw w0 M w):Below w0.heap.size w0 w:=h.f.all
theorem Lw.below {w0 w w':World} {M:Mp} (h:Lw w0 M w) (hb:Below w.heap.size w w'):Lw w0 M w':=⟨h.f.trans (Inv.zero _) (Fr.below M hb),h.i.below hb,h.t.below hb h.t.pos,h.z⟩
theorem Lw.fr {w0 w w':World} {M M':Mp} (h:Lw w0 M w) (f:Fr M M' w w') (i:Inv M' w') (t:Tab w'):Lw w0 M' w':=⟨h.f.trans (Inv.zero _) f,i,t,h.z⟩
theorem Lw.got {w0 w w':World} {M:Mp} {t:T} {e:Ending} (h:Lw w0 M w) (g:dz M w t e w'):∃ p M',e = .returned (tv p)/\IsT M' p t/\Lw w0 M' w'/\Fr M M' w w'/\Below w.heap.size w w':=by
 obtain ⟨p,M',he,ht,f,i,b⟩:=g;exact ⟨p,M',he,ht,h.fr f i (h.t.below b h.t.pos),f,b⟩
theorem Lw.upd {w0 w w':World} {M:Mp} {g:Nat} (h:Lw w0 M w) (hu:Rg.Upd w g w') (hg:w0.heap.size<=g) (hf:¬ M.ft g):Lw w0 M w' :=
 ⟨h.f.upd hu hg,h.i.upd hu hf,λi hi=>by rw [World.cell?_of_block (hu.block 0 (by have:=h.z; omega))]; exact h.t i hi,h.z⟩
theorem jM {M M':Mp} {w w':World} {cs:aN} {t:TypeId} (h:Rg.Own w g cs t) (f:Fr M M' w w') (hm:M.at_ g=none):Rg.Own w' g cs t:=⟨aI h.1 f.size,(f.block g h.1 hm).trans h.2⟩
theorem nR {M:Mp} {w:World} (hi:Inv M w) {g:Nat} (h:¬ M.ft g):M.at_ g=none:=by
 cases hm:M.at_ g with
 | none=>rfl
 | some t=>exact absurd (hi.part_ g t hm).2.1 h
theorem Bx.frm {M M':Mp} {w w':World} {cs:aN} {t:TypeId} (h:Bx M w g cs t) (hi:Inv M w) (f:Fr M M' w w'):Bx M' w' g cs t:=⟨jM h.o f (nR hi h.n),f.box h.n h.o.1 (cZ h.o h.h),h.h⟩
theorem qQ {M M':Mp} {w w':World} {j:Nat} {x:Int} {cs:aN} {t:TypeId} (h:Rg.Own w g cs t) (hx:cs[j]? = some (.int .u8 x)) (hi:Inv M w) (f:Fr M M' w w'):Rg.Own w' g cs t:=jM h f (hi.cZ (aV h hx))
theorem EW {k:aM} (hk:k.length=32):(kc k)[0]? = some (.int .u8 (k.getD 0 0).toNat):=by
 simp [kc,List.getD,hk]
theorem iQ.frm {M M':Mp} {w w':World} {a:aK} {n c:Nat} {ps:List (aK)} (h:iQ w a n c ps) (hi:Inv M w) (f:Fr M M' w w'):iQ w' a n c ps:=by
 refine ⟨h.1,h.2.1,h.2.2.1,h.2.2.2.1,λj hj=>?_⟩;obtain ⟨b,off,e,hlt,hc⟩:=h.2.2.2.2 j hj;exact ⟨b,off,e,aI hlt f.size,by rw [f.cell hlt (hi.nU hc)]; exact hc⟩
theorem SH {w:World} {b:Nat} {t:TypeId} {l:List Tr.Pair} (h:Rg.Own w b (rowP l).toArray t) (hk:∀ x∈l,x.1.length=32) (hn:l.length<=1000000):nK w (some ⟨b,0,none⟩) l.length l.length l:=by
 refine ⟨aG,by unfold maxLen; omega,rfl,λe=>(by cases e),hk,λj hj=>⟨b,0,rfl,h.1,λi v hv=>?_⟩⟩;have hkj:(l.getD j ([],eB)).1.length=32:=hk _ (zB hj);have hi:i<33:=by
  have:=(List.getElem?_eq_some_iff.1 hv).1;rwa [fK hkj] at this
 refine aV h ?_;rw [Nat.zero_add];simpa [Et l hk j i hj hi] using hv
theorem ED {rest:List Oper} {w:World} {b off:Nat} {cs:aN} {t:TypeId} (h:Rg.Own w b cs t) (hof:off<cs.size) (x:Int)
  (hgd:o.guard=none) (p q:Operand) (ho:o.op = .store 5 p q) (hx:act.eval p = .pointer (some ⟨b,off,none⟩)) (hy:act.eval q = .int .u8 x)
  (hQ:∀ w',Rg.Own w' b (cs.setIfInBounds off (.int .u8 x)) t->Rg.Upd w b w'->wpList prog ops Q rest (act.put o.dst undef) w'):wpList prog ops Q (o::rest) act w :=
 wpList_plain hgd λK hK=>by
  have hc:w.cell? ⟨b,off,none⟩=some cs[off]:=aV h (Array.getElem?_eq_getElem hof);have hz:w.frozen? ⟨b,off,none⟩=false:=gJ h;have hst:(Instr.storeAt 5 (.pointer (some ⟨b,off,none⟩)) (.int .u8 x)).run prog w = .ok () (w.setCell ⟨b,off,none⟩ (.int .u8 x)):=by
   simp [go_sem,hc,hz]
  unfold Oper.wp execOp;simp only [ho,hx,hy,Sem.run_bind,Sem.run_pure,Result.andThen_ok,hst];exact hK _ _ (hQ _ (dw h _) (bN _ _ _ _))
theorem Zd (k:aM) (i:Nat) (x:UInt8):(kc k).setIfInBounds i (.int .u8 x.toNat)=kc (k.set i x):=by
 unfold kc;rw [List.map_set];simp
theorem EF {w:World} {x z:Tr.Pair} (hk:x.1.length=32) (hz:z.1.length=32) (b:Nat) (hb:b=w.heap.size) (ho:∃ p q,o.op = .buildSlice 22 2 #[(0,p),(1,q)]/\ev p = .agg (gI x)/\ev q = .agg (gI z)) :
  (execOp ev o).run prog w = .ok (.value (.slice (some ⟨b,0,none⟩) 2 2)) (w.alloc (.cells (rowP [x,z]).toArray 60)):=by
 obtain ⟨p,q,ho,hx,hy⟩:=ho;obtain ⟨k,v⟩:=x;obtain ⟨k',v'⟩:=z;subst hb;unfold execOp;simp only [ho,List.map_toArray,List.map_cons,List.map_nil,hx,hy];obtain ⟨a0,a1,a2,a3,a4,a5,a6,a7,b0,b1,b2,b3,b4,b5,b6,b7,c0,c1,c2,c3,c4,c5,c6,c7,d0,d1,d2,d3,d4,d5,d6,d7,rfl⟩:=pq k hk;obtain ⟨e0,e1,e2,e3,e4,e5,e6,e7,f0,f1,f2,f3,f4,f5,f6,f7,g0,g1,g2,g3,g4,g5,g6,g7,h0,h1,h2,h3,h4,h5,h6,h7,rfl⟩:=pq k' hz;kernel_rfl
def ka:aM:=zk
def kb:aM:=zk.set 0 16
def sx:aL:=⟨#[120]⟩
def sy:aL:=⟨#[121]⟩
def lAB:List Tr.Pair:=[(ka,sx),(kb,sy)]
def lB:List Tr.Pair:=[(kb,sy)]
theorem Kl:ka.length=32:=rfl
theorem wW:kb.length=32:=rfl
theorem Zy:Gj lAB:=⟨λx hx=>by rcases List.mem_cons.1 hx with rfl | hx; exact Kl; rw [List.mem_singleton.1 hx]; exact wW,λx hx=>by rcases List.mem_cons.1 hx with rfl | hx; exact ⟨by decide,by decide⟩; rw [List.mem_singleton.1 hx]; exact ⟨by decide,by decide⟩⟩
theorem lastB (k:aM):gW lB k=if kb=k then some sy else none:=rfl
theorem YO (k:aM):gW lAB k=if kb=k then some sy else if ka=k then some sx else none:=by
 show (match gW lB k with | some v=>some v | none=>if ka=k then some sx else none)=_;rw [lastB];by_cases h:kb=k
 .rw [if_pos h,if_pos h]
 .rw [if_neg h,if_neg h]
theorem tL:Has (bq .nil lAB) (gW lAB):=Zy.has
theorem XW:Tr.get (bq .nil lAB) (path kb)=some (some sy):=by rw [tL.get kb wW,YO,if_pos rfl]
end Tm
end
section
namespace Tr
open Rf Rl Ni No
def mH:T->List aL
 | .nil=>[]
 | .leaf p v=>[bE (.leaf p v)]
 | .ext q t=>bE (.ext q t)::mH t
 | .br ks=>bE (.br ks)::((List.finRange 16).map λi=>mH (ks i)).flatten
 | .stub _=>[]
end Tr
end
section
open Go.RowKit
namespace No
open Rl (yj qm oo FB)
theorem Rs {w:World} (s:aL) (h:∃ x y,o.op = .binOp .eql 9 x y 9/\ev x = .string s/\ev y = .string s) :
  (execOp ev o).run prog w = .ok (.value (.bool true)) w:=by
 obtain ⟨x,y,ho,hx,hy⟩:=h;have:(binOp .eql 9 (.string s) (.string s)).run prog w = .ok (.bool true) w:=by
  unfold binOp;simp [go_sem,Op.stringOp]
 unfold execOp;simp [ho,hx,hy,go_sem]
end No
end
section
open Go.RowKit
namespace Rf
open Rl Ni No
theorem Ig (N:Nd) (a:aK) (n c:Nat) (hl:N.ks.length=16) (w:World):Calls prog 133 #[.agg (ndC N a n c)] w (λe w'=>∃ (a':aK) (n' cap':Nat),e = .returned (.slice a' n' cap')/\fO w' a' n' cap' (bF N.ks)/\(∀ b off,a'=some ⟨b,off,none⟩->w.heap.size<=b)/\Below w.heap.size w w'):=by
 obtain ⟨i0,hi,hz0,hz1,hz2⟩:=gQ;have HI:Hid (_/\_/\_/\_):=hid ⟨hi,hz0,hz1,hz2⟩;have HO:Hid (dZ (w.alloc (.cells (ndC N a n c) 69)) w.heap.size N a n c):=hid (Rg.Own.new _ _ _);have HL:=hid hl;clear hi hz0 hz1 hz2 hl;go_enter func133,ntmps133;go_wp2_with (refine aA (jO HO.out HL.out ⟨_,rfl,rfl⟩) ?_)
 go_loopw [3,8] (λv i wr=>∃ j:Nat,j<=16/\i = .int .i64 j/\Hid (wr.ownsRow (w.heap.size+1) 9 1 v (bF (N.ks.take j)).length ((bF (N.ks.take j)).map Value.string))/\Below (w.heap.size+1) (w.alloc (.cells (ndC N a n c) 69)) wr) (λ_ i _=>16-(intOf i).toNat)
 case atStart=>exact ⟨0,Nat.zero_le _,rfl,hid (World.ownsRow_nil _ _ _ _),aH⟩
 case round =>
  obtain ⟨j,hj,rfl,HR,hB⟩:=hrel;have hsz:w.heap.size+1<=wr.heap.size:=by have:=hB.size; simp at this; omega
  by_cases hlt:j<16
  .have HS:=hid (nO N.ks j (by rw [HL.out]; exact hlt));have hkl:=wK N.ks j;obtain ⟨L,hL⟩:=ay (bF (N.ks.take j))
   rw [hL] at HS hkl HR;clear hL;by_cases hk:(N.ks.getD j eB).size=0
   .have dr:Hid (bF (N.ks.take (j+1))=L):=hid (by rw [HS.out,if_neg (by simpa using hk),List.append_nil]);have HE:Hid (N.ks.getD j eB=eB):=hid (dP hk);clear hk;go_wp2_with (refine Rg.run rfl (.string (N.ks.getD j eB)) _ (dF HL.out hlt ⟨_,_,rfl,rfl,rfl⟩) ?_; rw [HE.out])
    go_roundw
    case rel=>exact ⟨j+1,by omega,by go_num,by rw [dr.out]; exact HR,hB⟩
    case measure=>simp [intOf]; omega
   .have dr:Hid (bF (N.ks.take (j+1))=L++[N.ks.getD j eB]):=hid (by rw [HS.out,if_pos hk]);have hne:=Ni.dJ (s:=N.ks.getD j eB) (by omega);obtain ⟨K,hK⟩:=ay (N.ks.getD j eB)
    have HK:=hid hK;rw [hK] at hne dr;clear hK hk HS;go_wp2_with (first
     | (refine Rg.run rfl (.string (N.ks.getD j eB)) _ (dF HL.out hlt ⟨_,_,rfl,rfl,rfl⟩) ?_; rw [HK.out])
     | (at_builtin; refine wpList_append_own _ rfl _ _ 28 rfl (w.heap.size+1) 9 i0 (.string ⟨#[]⟩) 1 16 underlying28 HI.out.1 HI.out.2.1 HI.out.2.2.1 HI.out.2.2.2 rfl (by decide) _ _ _ rfl (HR.out.alloc _) ⟨wr.heap.size,0,none⟩ 1 1 [.string K] rfl rfl ?d1 ?d2 ?d3 ?d4 ?d5 ?_))
    case d1=>exact Bu.cell_one_new' _ _ _ _
    case d2=>intro u hu; simp at hu; subst hu; rfl
    case d3=>unfold maxLen; omega
    case d4=>omega
    case d5=>simp; omega
    intro v' w2 hown2 hgrow _;have hlt':=HR.out.lt;go_wp2;go_roundw
    case rel=>exact ⟨j+1,by omega,by go_num,hid (by rw [dr.out,List.length_append,List.map_append]; exact hown2),(hB.alloc hsz _).grown hgrow (by simp; omega) (λg hg=>(hlt' g hg).1)⟩
    case measure=>simp [intOf]; omega
  .obtain rfl:j=16:=by omega
   have hO:=HR.out;rw [List.take_of_length_le (by rw [HL.out]; exact aG)] at hO;obtain ⟨a',cap',rfl,hb⟩:=fO.oF hO;have hlt2:=hO.lt;have HF:Hid (∀ b off,a'=some ⟨b,off,none⟩->w.heap.size<=b):=hid (λb off e=>by
    subst e;have:=(hlt2 b rfl).1;omega)
   have HB:=hid hb;have cH:Hid (Below w.heap.size w wr):=hid (oP hB);clear hO hb hlt2;go_wp2;go_ret;exact ⟨a',_,cap',rfl,HB.out,HF.out,cH.out⟩
theorem qY {n:Nat} {w w':World} {v:Value} {xs:List Value} (h:w.ownsRow B e 1 v n xs) (hb:Below w.heap.size w w'):w'.ownsRow B e 1 v n xs:=h.kept (Bu.gL hb) (by cases v.ownBlock <;> simp)
end Rf
end
section
open Go.RowKit
namespace Tm
open Tr Ni Pk Ky No Rf Rl
open Sm (Tab)
def Zk (M:Mp) (w:World) (e:Ending) (w':World):Prop:=e = .returned (.bool true)/\Fr M M w w'/\Inv M w'/\Tab w'
theorem PU (M:Mp) (p:aK) (t:T) (L:Nat) (g:Tr.Good t L) (hL:L<=64) (f:Fine t) (w:World) (hi:Inv M w) (ht:IsT M p t) (hT:Tab w) :
  Calls prog 190 #[tv p,.string (ref t)] w (Zk M w):=by
 obtain ⟨w1,hw1⟩:=au (w.alloc (.cells #[.pointer p] 35))
 have ab:Rg.Own w1 w.heap.size #[.pointer p] 35:=by rw [hw1]; exact Rg.Own.new _ _ _
 have hb1:Below w.heap.size w w1:=by rw [hw1]; exact al1 _ _
 have HO:=hid ab;have HC:=hid (Je M p t L g hL f w1 (hi.below hb1) ht (hT.below hb1 hT.pos));have HI:=hid hi;have HF:Hid (Fr M M w w1):=hid (Fr.below M hb1);obtain ⟨s,hs⟩:=ay (ref t)
 rw [hs] at HC ⊢;clear ab hb1 hi ht hT f g hs;subst hw1;go_enter func190,ntmps190;go_wp2_with (refine aA (aU (aV (j:=0) HO.out rfl) ⟨_,rfl,rfl⟩) ?_)
 refine HC.out.mono ?_;rintro e w2 ⟨rfl,hf,hi2,eW⟩;have HY:Hid (Fr M M w w2/\Inv M w2/\Tab w2):=hid ⟨HF.out.trans HI.out hf,hi2,eW⟩;clear hf hi2 eW HC HF;go_wp2_with (refine aA (Rs s ⟨_,_,rfl,rfl,rfl⟩) ?_)
 go_ret;exact ⟨rfl,HY.out.1,HY.out.2.1,HY.out.2.2⟩
theorem fO.frm {M M':Mp} {w w':World} {a:aK} {n c:Nat} {xs:List aL} (h:fO w a n c xs) (f:Fr M M' w w') (hm:∀ b off,a=some ⟨b,off,none⟩->M.at_ b=none):fO w' a n c xs:=by
 refine ⟨h.1,h.2.1,h.2.2.1,λj hj=>?_⟩;obtain ⟨b,off,h1,h2,h3⟩:=h.2.2.2 j hj;exact ⟨b,off,h1,aI h2 f.size,by rw [World.cell?_of_block (w:=w) (a:=⟨b,off+j,none⟩) (f.block b h2 (hm b off h1))]; exact h3⟩
theorem Ed (M:Mp) (ps:List (aK)) (ts:List T) (a:aK) (n c:Nat) (b:aK) (m d:Nat) (w:World) (hP:iQ w a n c ps) (hA:Are M ps ts) (hts:∀ s∈ts,∃ L,Tr.Good s L/\L<=64/\Fine s)
  (hS:fO w b m d (ts.map ref)) (hnew:∀ g off,b=some ⟨g,off,none⟩->M.at_ g=none) (hn:n<=1000000) (hi:Inv M w) (hT:Tab w) :
  Calls prog 189 #[.slice a n c,.slice b m d,.func (Fn.func 190) #[] #[]] w (Zk M w):=by
 have hm:=hP.2.1;have hnc:=hP.1;have hl:=hP.2.2.1;have hmn:m=n:=by rw [<-hS.2.2.1,List.length_map,<-hA.1,hl]
 subst hmn;unfold maxLen at hm;have H:=hid hP;have HA:=hid hA;have Wa:=hid hts;have HS:=hid hS;have HN:=hid hnew;have HI:=hid hi;have HL:=hid hl;have HT:=hid hT;clear hP hA hts hS hnew hi hT hl;go_enter func189,ntmps189;go_wp2_with fail
 go_loopw [17] (λi wr=>∃ j:Nat,j<=m/\i = .int .i64 j/\Hid (Fr M M w wr/\Inv M wr/\Tab wr)) (λi _=>m-(intOf i).toNat)
 case atStart=>exact ⟨0,Nat.zero_le _,rfl,hid ⟨Fr.refl _ _,HI.out,HT.out⟩⟩
 case round =>
  obtain ⟨j,hj,rfl,HF⟩:=hrel;by_cases hlt:j<m
  .have hji:(j:Int)<m:=by omega
   obtain ⟨g1,off1,rfl,hblt,hc⟩:=(H.out.frm HI.out HF.out.1).2.2.2.2 j hlt;obtain ⟨g2,off2,rfl,r7,hc2⟩:=(fO.frm HS.out HF.out.1 HN.out).2.2.2 j hlt;have hjt:j<ts.length:=by rw [<-HA.out.1,HL.out]; exact hlt
   have ht:=HA.out.2 j (by rw [HL.out]; exact hlt);have he:(ts.map ref).getD j eB=ref (ts.getD j .nil):=by
    simp [List.getD,hjt]
   have hmem:ts.getD j .nil∈ts:=by
    rw [List.getD_eq_getElem?_getD,List.getElem?_eq_getElem hjt];exact List.getElem_mem _
   obtain ⟨L,hg,hL,hf⟩:=Wa.out _ hmem;rw [he] at hc2;obtain ⟨t,ON⟩:=ay (ts.getD j .nil)
   obtain ⟨p,hp⟩:=ay (ps.getD j none)
   rw [hp] at hc ht;rw [ON] at hc2 ht hg hf;have hNew:=Rg.Own.new wr #[.pointer none] 35;have uA:=hid hNew;have HC:Hid (∀ w5,Below wr.heap.size wr w5->Calls prog 190 #[tv p,.string (ref t)] w5 (Zk M w5)):=hid (λw5 hb5=>PU M p t L hg hL hf w5 (HF.out.2.1.below hb5) ht (HF.out.2.2.below hb5 HF.out.2.2.pos));obtain ⟨s,hs⟩:=ay (ref t)
   rw [hs] at HC hc2;have OR:Hid (∀ w5,Below wr.heap.size wr w5->w5.cell? ⟨g2,off2+j,none⟩=some (.string s)):=hid (λw5 hb5=>aW hb5 hc2);clear he hmem hg hL hf ON hp hs hNew ht hc2 hjt;go_wp2_with (first
    | (refine aA (aU hc ⟨_,rfl,rfl⟩) ?_)
    | (refine aA (aX _ _ _ wr.heap.size rfl rfl) ?_)
    | (refine aZ uA.out (by decide) _ rfl _ _ rfl rfl rfl ?_; intro w5 ap aq; have az:=hid ap; have aa:Hid (Below wr.heap.size wr w5):=hid (aq.below (al1 _ _) aG); have c2:=OR.out w5 aa.out; clear ap aq OR)
    | (refine aA (aU (aV (j:=0) az.out rfl) ⟨_,rfl,rfl⟩) ?_)
    | (refine aA (dV c2 ⟨_,rfl,rfl⟩) ?_))
   refine (HC.out w5 aa.out).mono ?_;rintro e w6 ⟨rfl,dg,li,kv⟩;have GT:Hid (Fr M M w w6/\Inv M w6/\Tab w6):=hid ⟨(HF.out.1.trans HI.out (Fr.below M aa.out)).trans HI.out dg,li,kv⟩;clear dg li kv HC HF hc c2;go_wp2_with fail
   go_roundw
   case rel=>exact ⟨j+1,by omega,by go_num,GT⟩
   case measure=>simp [intOf]; omega
  .obtain rfl:j=m:=by omega
   go_wp2_with fail
   go_ret;exact ⟨rfl,HF.out.1,HF.out.2.1,HF.out.2.2⟩
theorem aao (w:World):∃ w1,w1=w.alloc (.cells #[.pointer none] 35)/\Rg.Own w1 w.heap.size #[.pointer none] 35/\Below w.heap.size w w1/\w1.heap.size=w.heap.size+1:=⟨_,rfl,Rg.Own.new _ _ _,al1 _ _,by simp⟩
def OT (M:Mp) (w:World) (t:T) (e:Ending) (w':World):Prop:=∃ p M',e = .returned (.agg #[.pointer p])/\IsT M' p t/\Fr M M' w w'/\Inv M' w'/\Below w.heap.size w w'/\∀ k,k<w.heap.size->M'.ft k->M.ft k
theorem Ou {M:Mp} {w w':World} {b:Nat} (hi:Inv M w) (hb:Below w.heap.size w w') (hB:w.heap.size<=b)
  (hc:w'.heap[b]? = some (.cells (gY (.stub r) none 0 0 none 0 0 0 r) 135 (0,0))) :
  OT M w (.stub r) (.returned (.agg #[.pointer (some ⟨b,0,none⟩)])) w':=by
 have hn:T.stub r ≠ .nil:=λe=>by cases e
 have f:=Fr.more hi hb b (.stub r) hB;have hlt:b<w'.heap.size:=(Array.getElem?_eq_some_iff.1 hc).1;refine ⟨_,Tm.more M b (.stub r) w.heap.size w'.heap.size,rfl,⟨b,rfl,sG _ _ _ _ _,hn⟩,f,⟨λk hk=>hk.elim (λh=>aI (hi.lt_ k h) hb.size) (λh=>h.2),λk u hm=>?_⟩,hb,λk hk h=>h.elim (λh=>h) (λh=>absurd h.1 (by omega))⟩;by_cases e:k=b
 .subst e;rw [sG] at hm;obtain rfl:=Option.some.inj hm;exact ⟨hn,Or.inr ⟨hB,hlt⟩,none,0,0,none,0,0,0,_,hc,Bs.nil _ _,Ks.nil _ _,Or.inl ⟨rfl,rfl⟩⟩
 .rw [qM e] at hm;have hlt:=hi.lt hm;obtain ⟨h1,h2,a,n,c,ka,kn,kc,d,r,g1,g2,g3,g4⟩:=hi.part_ k u hm;exact ⟨h1,Or.inl h2,a,n,c,ka,kn,kc,d,r,(hb.block k hlt).trans g1,g2.fr hi f,g3.fr hi f,g4⟩
theorem DV (M:Mp) (r:aL) (hr:r.size<=maxLen) (hk:mq r=1\/mq r=2) (w:World) (hi:Inv M w) :
  Calls prog 127 #[.string r] w (OT M w (.stub r)):=by
 obtain ⟨w1,hw1,ab,hb1,hs1⟩:=aao w;have HK:=hid (Rf.dA r hr w1);have HO:Hid (∀ w2,Below w1.heap.size w1 w2->Rg.Own (w2.alloc (.cells (gY (.stub r) none 0 0 none 0 0 0 r) 135)) w.heap.size #[.pointer none] 35):=hid (λw2 hb2=>(ab.below hb2).below (al1 _ _));have HE:Hid (∀ w2,Below w1.heap.size w1 w2->∀ w3,Rg.Upd (w2.alloc (.cells (gY (.stub r) none 0 0 none 0 0 0 r) 135)) w.heap.size w3->OT M w (.stub r) (.returned (tv (some ⟨w2.heap.size,0,none⟩))) w3):=hid (λw2 hb2 w3 hu=>by
  have hb:=hu.below (bst (bst hb1 hb2) (al1 _ _)) aG;have hs2:=hb2.size;have hP:Rg.Own (w2.alloc (.cells (gY (.stub r) none 0 0 none 0 0 0 r) 135)) w2.heap.size (gY (.stub r) none 0 0 none 0 0 0 r) 135:=Rg.Own.new _ _ _;exact Ou hi hb (by omega) (yP hP hu (by omega)))
 clear ab hb1 hs1 hi hr;subst hw1;go_enter func127,ntmps127;go_wp2_with (refine aA (aX _ _ _ _ rfl rfl) ?_)
 refine HK.out.mono ?_;rintro e w2 ⟨rfl,hb2⟩;have c8:=hid (HO.out w2 hb2);have HE2:=hid (HE.out w2 hb2);clear hb2 HO HE HK;rcases hk with hk | hk
 .rw [hk];go_wp2_with (first
   | (refine aA (bL (zT r) ⟨_,rfl,rfl⟩) ?_)
   | (refine aA (jd (t:=.stub r) ⟨_,rfl,rfl⟩) ?_)
   | (refine aZ c8.out (by decide) (some ⟨w2.heap.size,0,none⟩) rfl _ _ rfl rfl rfl ?_; intro w3 hO3 hu3; have ag:=hid hO3; have me:=hid hu3; clear hO3 hu3))
  exact bodyPost_ret (eF rfl _ rfl ag.out) rfl (HE2.out w3 me.out)
 .rw [hk];go_wp2_with (first
   | (refine aA (bL (zT r) ⟨_,rfl,rfl⟩) ?_)
   | (refine aA (jd (t:=.stub r) ⟨_,rfl,rfl⟩) ?_)
   | (refine aZ c8.out (by decide) (some ⟨w2.heap.size,0,none⟩) rfl _ _ rfl rfl rfl ?_; intro w3 hO3 hu3; have ag:=hid hO3; have me:=hid hu3; clear hO3 hu3))
  exact bodyPost_ret (eF rfl _ rfl ag.out) rfl (HE2.out w3 me.out)
theorem Uj {t:T} (g:Tr.Good t L) (hL:L<=64) (f:Fine t) (hn:t ≠ .nil):mq (ref t)=1\/mq (ref t)=2:=by
 obtain ⟨_,h1,h2⟩:=eT t L g hL f hn;unfold mq;rw [if_neg h2];by_cases h:(ref t).size=32
 .rw [if_pos h]; exact .inl rfl
 .rw [if_neg h,if_pos h1]; exact .inr rfl
def xR (ks:List aL) (ps:List (aK)) (i:Nat):aK:=if (ks.getD i eB).size=0 then none else ps.getD (bF (ks.take i)).length none
def gF (ks:List aL) (ps:List (aK)) (j:Nat):List (aK):=(List.range 16).map λi=>if i<j then xR ks ps i else none
section
variable {ks:List aL} {ps:List (aK)} {j:Nat}
theorem iF:(gF ks ps j).length=16:=by simp [gF]
theorem FL:gF ks ps 0=sQ:=rfl
theorem JL (hj:j<16):gF ks ps (j+1)=(gF ks ps j).set j (xR ks ps j):=by
 apply List.ext_getElem
 .rw [List.length_set,iF,iF]
 .intro i h1 h2;rw [iF] at h1;rw [List.getElem_set];simp only [gF,List.getElem_map,List.getElem_range];by_cases e:j=i
  .subst e;rw [if_pos rfl,if_pos (Nat.lt_succ_self _)]
  .rw [if_neg e];by_cases h:i<j
   .rw [if_pos h,if_pos (by omega)]
   .rw [if_neg h,if_neg (by omega)]
theorem EZ (hj:j<16) (h:xR ks ps j=none):gF ks ps (j+1)=gF ks ps j:=by
 apply List.ext_getElem
 .rw [iF,iF]
 .intro i h1 h2;simp only [gF,List.getElem_map,List.getElem_range];by_cases e:i=j
  .subst e;rw [if_pos (Nat.lt_succ_self _),if_neg (Nat.lt_irrefl _),h]
  .by_cases h:i<j
   .rw [if_pos h,if_pos (by omega)]
   .rw [if_neg h,if_neg (by omega)]
theorem KT (i:Nat) (hi:i<16):(gF ks ps 16).getD i none=xR ks ps i:=by
 have:i<(gF ks ps 16).length:=by rw [iF]; exact hi
 rw [List.getD_eq_getElem?_getD,List.getElem?_eq_getElem this];simp [gF,hi]
theorem tX (q:Nat):(bF (ks.take q)).length<=(bF ks).length:=by
 unfold bF;exact ((List.take_sublist q ks).filter _).length_le
end
theorem iQ.from' {w:World} {a:aK} {n c:Nat} {ps:List (aK)} (h:iQ w a n c ps) (i:Nat) (hi:i<=n):iQ w (dL a c i) (n-i) (c-i) (ps.drop i):=by
 have h1:=h.1;have h2:=h.2.1;refine ⟨by omega,by omega,by rw [List.length_drop,h.2.2.1],λe=>?_,λj hj=>?_⟩
 .unfold dL at e;split at e
  .omega
  .have:a=none:=by simpa using e
   have:=h.2.2.2.1 this;omega
 .obtain ⟨b,off,e,hlt,hc⟩:=h.2.2.2.2 (i+j) (by omega);refine ⟨b,off+i,?_,hlt,?_⟩
  .unfold dL;rw [if_neg (by omega),e];simp [Addr.add_mid]
  .rw [Nat.add_assoc,hc];simp [List.getD]
theorem FY (N:Nd) (hk:N.kd≠3) (hl:N.ks.length=16) (pa:aK) (pn pc:Nat) (ps:List (aK)) (ka:aK) (kn kc:Nat) (w:World) (h:iQ w ka kn kc ps) (hn:kn<=1000000) :
  Calls prog 191 #[.agg (ndC N pa pn pc),.slice ka kn kc] w λe w'=>∃ v,e = .returned v/\uM w.heap.size w' v ps/\Below w.heap.size w w':=by
 obtain ⟨w1,hw1,ab,hb1,hs1⟩:∃ w1,w1=w.alloc (.cells (ndC N pa pn pc) 69)/\dZ w1 w.heap.size N pa pn pc/\Below w.heap.size w w1/\w1.heap.size=w.heap.size+1:=⟨_,rfl,Rg.Own.new _ _ _,al1 _ _,by simp⟩
 have c0:=(dD ab).1;have k1:(N.kd==3)=false:=by rw [beq_eq_false_iff_ne]; exact hk
 have k2:decide (N.kd=3)=false:=decide_eq_false hk;have HC:=hid (sI ka kn kc ps w1 (h.below hb1) hn);have HB:=hid hb1;have HS:=hid hs1;clear h ab hb1 hs1;subst hw1;go_enter func191,ntmps191;go_wp2_with fail
 refine HC.out.mono ?_;rintro e w2 ⟨v,rfl,hR,hb2⟩;have HR:=hid hR;have HB2:=hid hb2;clear hR hb2 HC;go_wp2_with fail
 go_ret;have hrr:=HR.out;refine ⟨v,rfl,?_,bst HB.out HB2.out⟩;rcases hrr with h | ⟨g,cap,h1,h2,h3⟩
 .exact .inl h
 .exact .inr ⟨g,cap,h1,by rw [HS.out] at h2; omega,h3⟩
theorem Pv (N:Nd) (hk:N.kd=3) (hl:N.ks.length=16) (pa:aK) (pn pc:Nat) (ps:List (aK)) (ka:aK) (kn kc:Nat) (w:World) (h:iQ w ka kn kc ps) (hn:kn=(bF N.ks).length) :
  Calls prog 191 #[.agg (ndC N pa pn pc),.slice ka kn kc] w λe w'=>∃ g,e = .returned (.slice (some ⟨g,0,none⟩) 16 16)/\w.heap.size<=g/\Rg.Own w' g (mD (gF N.ks ps 16)) 35/\Below w.heap.size w w':=by
 obtain ⟨w1,hw1,ab,hb1,hs1⟩:∃ w1,w1=w.alloc (.cells (ndC N pa pn pc) 69)/\dZ w1 w.heap.size N pa pn pc/\Below w.heap.size w w1/\w1.heap.size=w.heap.size+1:=⟨_,rfl,Rg.Own.new _ _ _,al1 _ _,by simp⟩
 obtain ⟨w2,hw2,hO2,hb2⟩:∃ w2,w2=w1.alloc (.cells (mD sQ) 35)/\Rg.Own w2 (w.heap.size+1) (mD sQ) 35/\Below w1.heap.size w1 w2:=⟨_,rfl,by rw [<-hs1]; exact Rg.Own.new _ _ _,al1 _ _⟩
 have c0:=(dD ab).1;rw [hk] at c0;have c1:=c0;rw [hw1] at c1;have hkm:=h.2.1;have hkc:=h.1;unfold maxLen at hkm;have HO:=hid (ab.below hb2);have il:=hid hO2;have HL:=hid hl;have HB1:=hid hb1;have HB2:Hid (Below (w.heap.size+1) w1 w2):=hid (by rw [<-hs1]; exact hb2);have HH:=hid (h.below hb1);have HHw:=hid h;have HW2:Hid (_=_):=hid hw2;have HS:=hid hs1;have hgen:∀ q,(bF (N.ks.take q)).length<=kn:=λq=>by rw [hn]; exact tX q
 have HG:=hid hgen;have HW1:Hid (_=_):=hid hw1;clear h ab hb1 hs1 hO2 hb2 hw2 hl hgen hw1 hn hk;go_enter func191,ntmps191;go_wp2_with (first
  | (rw [<-HW1.out]; refine aA (Du (w.heap.size+1) HS.out.symm ⟨_,_,rfl,rfl,rfl⟩) ?_; rw [<-HW2.out])
  | (refine aA (jO HO.out HL.out ⟨_,rfl,rfl⟩) ?_))
 clear HW2 c0 c1;go_loopw [1,16] (λv i wr=>∃ (j r:Nat) (a:aK) (m c:Nat),j<=16/\r+m=kn/\i = .int .i64 j/\v = .slice a m c/\r=(bF (N.ks.take j)).length/\Hid (iQ w1 a m c (ps.drop r))/\Hid (Rg.Own wr (w.heap.size+1) (mD (gF N.ks ps j)) 35)/\Hid (Below (w.heap.size+1) w1 wr)) (λ_ i _=>16-(intOf i).toNat)
 case atStart=>exact ⟨0,0,ka,kn,kc,Nat.zero_le _,Nat.zero_add _,rfl,rfl,rfl,HH,hid (by rw [FL]; exact il.out),HB2⟩
 case round =>
  obtain ⟨j,r,a,m0,c,hj,hrm,rfl,rfl,hr,HP,fY,HB⟩:=hrel;clear il HB2 HH;by_cases hlt:j<16
  .have i1:(j:Int)<16:=by omega
   have uB:=hid (nO N.ks j (by rw [HL.out]; exact hlt));have hg1:=HG.out (j+1);by_cases hkz:(N.ks.getD j eB).size=0
   .have ol:Hid (bF (N.ks.take (j+1))=bF (N.ks.take j)):=hid (by rw [uB.out,if_neg (by simpa using hkz),List.append_nil]);have Wb:Hid (gF N.ks ps (j+1)=gF N.ks ps j):=hid (EZ hlt (if_pos hkz));have HE:Hid (N.ks.getD j eB=eB):=hid (dP hkz);clear hkz;go_wp2_with (refine Rg.run rfl (.string (N.ks.getD j eB)) _ (dF HL.out hlt ⟨_,_,rfl,rfl,rfl⟩) ?_; rw [HE.out])
    go_roundw
    case rel=>exact ⟨j+1,r,_,_,_,by omega,hrm,by go_num,rfl,by rw [ol.out]; exact hr,HP,hid (by rw [Wb.out]; exact fY.out),HB⟩
    case measure=>simp [intOf]; omega
   .replace uB:Hid (bF (N.ks.take (j+1))=bF (N.ks.take j)++[N.ks.getD j eB]):=hid (by rw [uB.out,if_pos hkz]);rw [uB.out,List.length_append,List.length_singleton,<-hr] at hg1;obtain ⟨m,rfl⟩:∃ m,m0=m+1:=⟨m0-1,by omega⟩
    have hne:=Ni.dJ (s:=N.ks.getD j eB) (by omega);obtain ⟨b,off,rfl,hblt,hcc⟩:=HP.out.2.2.2.2 0 (by omega);have hpp:(ps.drop r).getD 0 none=xR N.ks ps j:=by
     unfold xR;rw [if_neg hkz,<-hr];simp [List.getD]
    rw [hpp,Nat.add_zero] at hcc;have OS:=hid (JL (ks:=N.ks) (ps:=ps) hlt);obtain ⟨p,hp⟩:=ay (xR N.ks ps j)
    rw [hp] at hcc OS;have HC:Hid (∀ wz,Below (w.heap.size+1) w1 wz->wz.cell? ⟨b,off,none⟩=some (.pointer p)):=hid (λwz hb=>(Below.cell (p:=⟨b,off,none⟩) hb (by rw [<-HS.out]; exact hblt)).trans hcc);have Wc:Hid (iQ w1 (dL (some ⟨b,off,none⟩) c 1) (m+1-1) (c-1) (ps.drop (r+1))):=hid (by
     have:=HP.out.from' 1 (by omega);rwa [List.drop_drop] at this)
    have hm0:(0:Int)<((m+1:Nat):Int):=by omega
    have hcm:=HP.out.1;have hcx:=HP.out.2.1;unfold maxLen at hcx;obtain ⟨K,hK⟩:=ay (N.ks.getD j eB)
    have HK:=hid hK;rw [hK] at hne uB;clear hkz hpp hp hcc hblt hK;go_wp2_with (refine Rg.run rfl (.string (N.ks.getD j eB)) _ (dF HL.out hlt ⟨_,_,rfl,rfl,rfl⟩) ?_; rw [HK.out])
    have h0:=fY.out;refine aC (S:=λw'=>Below (w.heap.size+1) w1 w') (HB.out.drew) λhld=>?_;replace h0:=h0.drew;refine ah 0 ?_;try simp only [Act.put,ak]
    refine ah 1 ?_;try simp only [Act.put,ak]
    refine ah 2 ?_;try simp only [Act.put,ak]
    refine ah 3 ?_ (hy:=by intro wz hSw; (have q0:=hm0; go_simp <;> with_reducible rfl));try simp only [Act.put,ak]
    refine ah 4 ?_ (hy:=by intro wz hSw; (refine aU (HC.out wz hSw) ?_; exact ⟨_,rfl,rfl⟩));try simp only [Act.put,ak]
    refine ah 5 ?_;try simp only [Act.put,ak]
    refine ah 6 ?_ (hy:=by intro wz hSw; (refine kP lZ xk (a:=some ⟨b,off,none⟩) (n:=m+1) (c:=c) (i:=1) (by omega:1<=m+1) ?_; exact ⟨_,_,rfl,rfl,rfl⟩));try simp only [Act.put,ak]
    refine ah 7 ?_ (hy:=by intro wz hSw; (have q0:=i1; go_simp <;> with_reducible rfl));try simp only [Act.put,ak]
    refine aj 8 λK hK=>?_;refine eD (by rfl) h0 (off:=j) (by simpa [mD,iF] using hlt) p ⟨_,_,rfl,rfl,rfl⟩ ?_;rintro w6 hn hu;have bi:Hid (Below (w.heap.size+1) w1 w6):=hid (hu.below hld aG);rw [Hz] at hn;replace h0:=hn;clear hn hu;refine hK.out _ _ (bi.out) λhld=>?_;clear hK K;try simp only [Act.put,ak]
    refine ah 9 ?_;try simp only [Act.put,ak]
    refine aB ?_;have cA:=hid h0;clear h0 hld;go_wp2;go_roundw
    case rel=>exact ⟨j+1,r+1,_,_,_,by omega,by omega,by go_num,rfl,by rw [uB.out,List.length_append,List.length_singleton,hr],Wc,hid (by rw [OS.out]; exact cA.out),bi⟩
    case measure=>simp [intOf]; omega
  .obtain rfl:j=16:=by omega
   go_wp2_with fail
   go_ret;exact ⟨w.heap.size+1,rfl,by omega,fY.out,HB1.out.trans (Below.mono HB.out (by omega))⟩
theorem Bz (ev:Operand->Value) (o:Oper) (w:World) (b:Nat) (hb:b=w.heap.size) (ho:o.op = .alloc 24):(execOp ev o).run prog w = .ok (.value (.pointer (some ⟨b,0,none⟩))) (w.alloc (.cells (kc zk) 24)):=by
 subst hb;exact tJ ev o ho w
namespace Aw
variable {w0:World} {M M':Mp} {w w':World} {gu gb gn:Nat} {pu:aK} {C:aN} {KB:aM}
end Aw
end Tm
end
section
open Go.RowKit Go.ChangeShapes Go.WideShapes
theorem Yy {n:Int} (h:(Lit.int .u8 n).wf=true):0<=n/\n<256:=by
 have:=bounds_u8 h;omega
end
section
open Go.RowKit Go.ChangeShapes Go.WideShapes
namespace Ky
def byteOf:Value->UInt8
 | .int _ n=>UInt8.ofNat n.toNat
 | _=>0
theorem IC {H:Type} {enc:TypeId × Value->H} {w:World} {t:TypeId} {v:Value} {d:DataW H} {p:List MemPlace}
  (ht:P.underlying t=some (.array 32 e)) (he:P.underlying e=some (.int .u8)) (hc:P.cellsOf e=1) (hct:P.cellsOf t=32)
  (hv:Value.okWide P w .any base t v) (h:DataW.Trod enc P w 0 (λ_=>true) true t v d p):∃ k:aM,v = .agg (kc k)/\k.length=32:=by
 unfold Value.okWide at hv;rw [ht] at hv;obtain ⟨cs,rfl,hsz,_⟩:=hv;rw [hct] at hsz;obtain ⟨fuel,hf⟩:=h;obtain ⟨xs,m,rfl,_,hcs,hxl,hel⟩:=DataW.trod_array ht hf;have each:∀ i,i<32->∃ n:Int,cs.toList[i]? = some (.int .u8 n)/\0<=n/\n<256:=λi hi=>by
  have hi':=hel i hi;rw [hc,Nat.mul_one] at hi';have hx:i<xs.length:=by omega
  rw [List.getElem?_eq_getElem hx] at hi';obtain ⟨n,hn,_,hw⟩:=DataW.trod_int he hi';have hlen:i<cs.toList.length:=by simpa [hsz] using hi
  have e1:(cs.toList.drop i).take 1=[cs.toList[i]]:=by
   rw [List.drop_eq_getElem_cons hlen]; rfl
  have e2:(Value.agg cs).cells.toList=cs.toList:=rfl;rw [e2,e1] at hn;injection hn with hn;refine ⟨n,?_,Yy hw⟩;rw [List.getElem?_eq_getElem hlen,hn]
 refine ⟨cs.toList.map byteOf,?_,by simp [hsz]⟩;congr 1;apply Array.ext';unfold kc;rw [List.map_map];apply List.ext_getElem?;intro i;by_cases hi:i<32
 .obtain ⟨n,hn,h0,h1⟩:=each i hi;rw [hn];simp only [List.getElem?_map,hn,Option.map_some,Function.comp,byteOf];have:((UInt8.ofNat n.toNat).toNat:Int)=n:=by simp only [UInt8.toNat_ofNat']; omega
  rw [this]
 .rw [List.getElem?_eq_none (by simp [hsz]; omega),List.getElem?_eq_none (by simp [hsz]; omega)]
end Ky
end
section
open Go.RowKit Go.ChangeShapes Go.WideShapes Go.Deep
namespace Tm
open Tr Ni Pk Ky
section
variable {H:Type} {enc:TypeId × Value->H} {w:World} {fuel:Nat} {cs:List Value} {x:DataW H × List MemPlace}
theorem Dk:prog.cellsOf 24=32:=by kernel_rfl
theorem Ow:prog.cellsOf 5=1:=by kernel_rfl
theorem QL:prog.cellsOf 9=1:=by kernel_rfl
theorem AO:prog.cellsOf 60=33:=by kernel_rfl
theorem YV (h:DataW.trod enc prog w 0 (λ_=>true) true fuel 24 cs=some x):∃ k:aM,k.length=32/\cs=k.map λb=>Value.int .u8 b.toNat:=by
 obtain ⟨xs,m,rfl,_,hcs,hxl,hel⟩:=DataW.trod_array underlying24 h;rw [Dk] at hcs;have each:∀ i,i<32->∃ n:Int,cs[i]? = some (.int .u8 n)/\0<=n/\n<256:=λi hi=>by
  have hi':=hel i hi;rw [Ow,Nat.mul_one] at hi';have hx:i<xs.length:=by omega
  rw [List.getElem?_eq_getElem hx] at hi';obtain ⟨n,hn,_,hw⟩:=DataW.trod_int underlying5 hi';have hlen:i<cs.length:=by omega
  have e1:(cs.drop i).take 1=[cs[i]]:=by
   rw [List.drop_eq_getElem_cons hlen]; rfl
  rw [e1] at hn;injection hn with hn;exact ⟨n,by rw [List.getElem?_eq_getElem hlen,hn],Yy hw⟩
 refine ⟨cs.map Ky.byteOf,by simp [hcs],?_⟩;rw [List.map_map];apply List.ext_getElem?;intro i;by_cases hi:i<32
 .obtain ⟨n,hn,h0,h1⟩:=each i hi;rw [List.getElem?_map,hn];simp only [Option.map_some,Function.comp,Ky.byteOf];have:((UInt8.ofNat n.toNat).toNat:Int)=n:=by simp only [UInt8.toNat_ofNat']; omega
  rw [this]
 .rw [List.getElem?_eq_none (by omega),List.getElem?_eq_none (by simp [hcs]; omega)]
theorem BO {cs:List Value} {v:Value} (h:(cs.drop i).take 1=[v]) (hl:cs.length=i+1):cs=cs.take i++[v]:=by
 have e:(cs.drop i).take 1=cs.drop i:=List.take_of_length_le (by rw [List.length_drop]; omega);rw [<-h,e,List.take_append_drop]
theorem Ym (h:DataW.trod enc prog w 0 (λ_=>true) true fuel 60 cs=some x):∃ y:Tr.Pair,y.1.length=32/\cs=iU y:=by
 obtain ⟨xs,m,rfl,_,hcs,hxl,hf⟩:=DataW.trod_struct underlying60 h;rw [AO] at hcs;have We:xs.length=2:=hxl;have g0:=hf 0 _ rfl;have g1:=hf 1 _ rfl;rw [List.getElem?_eq_getElem (by omega)] at g0 g1;obtain ⟨k,hk,e0⟩:=YV g0;obtain ⟨s,e1,_,_⟩:=DataW.trod_string underlying9 g1;have P0:(cs.drop 0).take (prog.cellsOf 24)=k.map λb=>Value.int .u8 b.toNat:=e0;have P1:(cs.drop 32).take (prog.cellsOf 9)=[Value.string s]:=e1;rw [Dk,List.drop_zero] at P0;rw [QL] at P1;refine ⟨(k,s),hk,?_⟩;unfold iU
 have:=BO P1 (by omega);rw [this,P0]
theorem Wv (h:DataW.trod enc prog w 0 (λ_=>true) true fuel 22 cs=some x):∃ a n cap l,cs=[.slice a n cap]/\nK w a n cap l:=by
 rcases open_slice underlying22 h with ⟨rfl,_⟩ | ⟨ad,len,cap,m,n,D,Pl,rfl,_,hl,hm,hmm,_,hel⟩
 .exact ⟨none,0,0,[],rfl,nK.nil w⟩
 .have hmm':m=cap:=by simpa using hmm
  subst hmm';have cell:∀ i,i<m->∃ y:Tr.Pair,y.1.length=32/\∀ j,j<33->w.cell? ((ad.add (i*33)).add j)=(iU y)[j]? := λi hi=>by
   obtain ⟨cs',h1,h2⟩:=hel i hi;obtain ⟨y,hy,rfl⟩:=Ym h2;obtain ⟨_,hcl,hat⟩:=World.cells?_some h1;rw [AO] at hat;exact ⟨y,hy,hat⟩
  obtain ⟨F,hF⟩:=choose_lt (α:=Tr.Pair) cell;refine ⟨some ad,len,m,(List.range len).map F,rfl,hl,hm,by simp,λe=>(by cases e),λx hx=>?_,λj hj=>?_⟩
  .obtain ⟨i,hi,rfl⟩:=List.mem_map.1 hx;exact (hF i (by have:=List.mem_range.1 hi; omega)).1
  .have GW:=hF j (by omega);have P2:=hF 0 (by omega);obtain ⟨b,off,spot⟩:=ad;have hc0:=P2.2 0 (by omega);have hp0:(iU (F 0))[0]? = some ((iU (F 0))[0]'(by rw [fK P2.1]; omega)):=List.getElem?_eq_getElem _;rw [hp0] at hc0;have hspot:spot=none:=by simpa [Addr.add] using World.cell?_spot hc0
   subst hspot;have hget:((List.range len).map F).getD j ([],eB)=F j:=by simp [List.getD,hj]
   rw [hget];have hat:dK w b (off+j*33) (F j):=λi v hv=>by
    have hi:i<33:=by
     have:=(List.getElem?_eq_some_iff.1 hv).1;rwa [fK GW.1] at this
    have:=GW.2 i hi;rw [Addr.add_mid,Addr.add_mid] at this;rw [this,hv]
   refine ⟨b,off,rfl,?_,hat⟩;have hz:=hat 0 ((iU (F j))[0]'(by rw [fK GW.1]; omega)) (List.getElem?_eq_getElem _);exact World.block_lt_of_cell? w _ hz
end
end Tm
end
section
open Go.RowKit
namespace Tm
open Tr Ni Pk Ky No Rf Rl
open Sm (Tab)
namespace Do
variable {w0:World} {M M':Mp} {w w':World} {p p':aK} {t t':T} {W W':List Tr.Pair} {a a':aK} {c c' j:Nat}
end Do
theorem NV:∀ (l:List Tr.Pair),(sP l).length<=l.length
 | []=>aG
 | x::r=>by
  have ih:=NV r;unfold sP;split
  .rw [List.length_cons]; omega
  .rw [List.length_cons,List.length_cons]; omega
end Tm
end
section
namespace Tr
open Rf Rl Ni No
def sv:aL:=⟨#[118]⟩
def Fp (x:Pair):Pair:=(x.1,if x.2.size=0 then sv else if 100<x.2.size then x.2.extract 0 100 else x.2)
def eU (l:List Pair):List Pair:=(l.take 24).map Fp
theorem TN (x:Pair):(Fp x).2.size≠0/\(Fp x).2.size<=65552:=by
 unfold Fp;dsimp only;split
 .exact ⟨by decide,by decide⟩
 .split
  .rw [ByteArray.size_extract]; omega
  .omega
theorem Cq (l:List Pair):(eU l).length<=24:=by
 unfold eU;rw [List.length_map,List.length_take];omega
theorem Jw {l:List Pair} (h:∀ x∈l,x.1.length=32):(∀ x∈eU l,x.1.length=32)/\∀ x∈eU l,x.2.size≠0/\x.2.size<=65552:=by
 constructor
 .intro x hx;obtain ⟨y,hy,rfl⟩:=List.mem_map.1 hx;exact h y (List.mem_of_mem_take hy)
 .intro x hx;obtain ⟨y,_,rfl⟩:=List.mem_map.1 hx;exact TN y
end Tr
end
section
open Go.RowKit
namespace Tm
open Tr Ni Pk Ky
theorem qA {l:List Tr.Pair} {j:Nat} (hj:j<l.length) (h24:j<24):eU (l.take (j+1))=eU (l.take j)++[Fp (l.getD j ([],eB))]:=by
 unfold eU;rw [List.take_take,List.take_take,show min 24 (j+1)=j+1 by omega,show min 24 j=j by omega,take_at hj,List.map_append];rfl
theorem Qk {l:List Tr.Pair}:eU (l.take 24)=eU l:=by
 unfold eU;rw [List.take_take,Nat.min_self]
theorem wS (l:List Tr.Pair) (a:aK) (n c:Nat) (w:World) (h:nK w a n c l) :
  Calls prog 6 #[.slice a n c] w (Yr w (eU l)):=by
 obtain ⟨i0,z0,hi,hz,hsz,hby,hzc⟩:=yB;have HI:Hid (_/\_/\_/\_/\_):=hid ⟨hi,hz,hsz,hby,hzc⟩;have hcap:=h.1;have hmx:=h.2.1;unfold maxLen at hmx;have H:=hid h;have HL:=hid h.len;clear h hi hz hsz hby hzc;go_enter func6,ntmps6;go_wp2_with fail
 go_loopw [3,4] (λv i wr=>∃ j:Nat,j<=n/\j<=24/\i = .int .i64 j/\Hid (wr.ownsRow w.heap.size 60 33 v (eU (l.take j)).length (rowP (eU (l.take j))))/\Hid (Below w.heap.size w wr)) (λ_ i _=>n-(intOf i).toNat)
 case atStart=>exact ⟨0,Nat.zero_le _,Nat.zero_le _,rfl,hid (World.ownsRow_nil _ _ _ _),hid aH⟩
 case round =>
  obtain ⟨j,hjn,P3,rfl,HR,HB⟩:=hrel;have hlen:(eU (l.take j)).length<=24:=Cq _;by_cases hlt:j<n/\j<24
  .obtain ⟨hlt,pr⟩:=hlt;have i1:(j:Int)<n:=by omega
   have i2:(j:Int)<24:=by omega
   have HJ:Hid (j<l.length):=hid (by rw [HL.out]; exact hlt);obtain ⟨b,off,rfl,hblt,hpa,hk⟩:=H.out.at' j hlt;obtain ⟨x,hx⟩:=ay (l.getD j ([],eB))
   rw [hx] at hpa hk;have HX:=hid hx;have uu:=hid (hpa.below HB.out);have hNew:=Rg.Own.new wr (gI (List.replicate 32 0,eB)) 60;have HN:=hid hNew;have HZ:Hid (((List.replicate 32 0,eB):Tr.Pair).1.length=32):=hid rfl;obtain ⟨k,v⟩:=x;have cC:Hid (k.length=32):=hid hk;clear hx hpa hk hNew hblt;by_cases hv0:v.size=0
   .obtain rfl:=No.dP hv0;have s1:decide ((100:Int)<(sv.size:Int))=false:=rfl;have HF:Hid (eU (l.take (j+1))=eU (l.take j)++[(k,sv)]):=hid (by rw [qA HJ.out pr,HX.out]; unfold Fp; simp [hv0]);go_wp2_with (first
     | (refine aA (gH (x:=(k,eB)) cC.out uu.out ⟨_,rfl,rfl⟩) ?_)
     | (refine aA (kI _ _ _ wr.heap.size rfl rfl) ?_)
     | (refine je HN.out HZ.out (k,eB) cC.out rfl _ _ rfl rfl rfl rfl ?_; intro w5 ap aq; have az:=hid ap; have aa:Hid (Below wr.heap.size wr w5):=hid (aq.below (al1 _ _) aG); have c32:w5.cell? ⟨wr.heap.size,32,none⟩=some (.string _):=(dK.own ap).val cC.out; clear ap aq)
     | (refine aA (dV c32 ⟨_,rfl,rfl⟩) ?_)
     | (refine aA (iK cC.out (dK.own az.out).key ⟨_,rfl,rfl⟩) ?_)
     | (refine aA (bL (nS k sv cC.out) ⟨_,rfl,rfl⟩) ?_)
     | (refine je az.out cC.out (k,sv) cC.out rfl _ _ rfl rfl rfl rfl ?_; intro w6 cz db; have cA:=hid cz; have bi:Hid (Below wr.heap.size wr w6):=hid (db.below aa.out aG); have dc:=hid (rR HR.out bi.out); have d32:w6.cell? ⟨wr.heap.size,32,none⟩=some (.string _):=(dK.own cz).val cC.out; clear cz db)
     | (refine aA (dV d32 ⟨_,rfl,rfl⟩) ?_)
     | (refine aA (gH (x:=(k,sv)) cC.out (dK.own cA.out) ⟨_,rfl,rfl⟩) ?_)
     | (refine aA (oq (x:=(k,sv)) cC.out _ rfl ⟨_,rfl,rfl⟩) ?_)
     | (at_builtin; refine wpList_append_own _ rfl _ _ 22 rfl w.heap.size 60 i0 z0 33 48 underlying22 HI.out.1 HI.out.2.1 HI.out.2.2.1 HI.out.2.2.2.1 HI.out.2.2.2.2 (by decide) _ _ _ rfl (dc.out.alloc _) ⟨_,0,none⟩ 1 1 (iU (k,sv)) rfl (fK (x:=(k,sv)) cC.out) ?d1 (oL _) ?d3 ?d4 ?d5 ?_))
    case d1 =>
     intro q u hu;first | (simpa [gI] using hu) | (rw [Addr.add_mid]; exact (dK.own (Rg.Own.new _ (gI (k,sv)) 60)) q u hu)
    case d3=>unfold maxLen; omega
    case d4=>omega
    case d5=>have:=HB.out.size; have:=bi.out.size; simp; omega
    intro v' w7 cJ hgrow _;have hlt':=dc.out.lt;have cm:Hid (Below w.heap.size w w7):=hid (((bst HB.out bi.out).alloc (by have:=HB.out.size; have:=bi.out.size; omega) _).grown hgrow (by have:=HB.out.size; have:=bi.out.size; simp; omega) (λg hg=>(hlt' g hg).1));go_wp2;go_roundw
    case rel=>exact ⟨j+1,by omega,by omega,by go_num,hid (by rw [HF.out,su,List.length_append]; exact cJ),cm⟩
    case measure=>simp [intOf]; omega
   .by_cases hv2:100<v.size
    .have hv1:=Ni.dJ (s:=v) (by omega);have r8:(100:Int)<=(v.size:Int):=by omega
     have s1:decide ((100:Int)<(v.size:Int))=true:=aJ (by omega);go_wp2_with (first
 | (refine aA (gH (x:=(k,v)) cC.out uu.out ⟨_,rfl,rfl⟩) ?_)
      | (refine aA (kI _ _ _ wr.heap.size rfl rfl) ?_)
      | (refine je HN.out HZ.out (k,v) cC.out rfl _ _ rfl rfl rfl rfl ?_; intro w5 ap aq; have az:=hid ap; have aa:Hid (Below wr.heap.size wr w5):=hid (aq.below (al1 _ _) aG); have c32:w5.cell? ⟨wr.heap.size,32,none⟩=some (.string _):=(dK.own ap).val cC.out; clear ap aq)
      | (refine aA (dV c32 ⟨_,rfl,rfl⟩) ?_)
     )
     have P4:wr.heap.size<=wr.heap.size:=aG;have h0:=az.out;refine aC (S:=λw'=>Below wr.heap.size wr w') (aa.out.drew) λhld=>?_;replace h0:=h0.drew;refine ah 0 ?_;try simp only [Act.put,ak]
     refine ah 2 ?_;try simp only [Act.put,ak]
     refine wpAnyH_ready (rs:=[1,3]) (by kernel_rfl) (by simp) ?_;refine Rg.readyC (i:=1) rfl (λK hK=>?_) (Rg.readyL (i:=3) rfl (λK hK=>?_))
     .refine Rg.meet (by rfl) _ _ (iK cC.out (dK.own h0).key ?_) ?_
      .exact ⟨_,rfl,rfl⟩
      refine hK.out _ _ (hld) λhld=>?_;clear hK K;try simp only [Act.put,ak]
      refine aj 3 λK hK=>?_;refine Rg.meet (by rfl) _ _ (dV (dK.val (dK.own h0) cC.out) ?_) ?_
      .exact ⟨_,rfl,rfl⟩
      refine hK.out _ _ (hld) λhld=>?_;clear hK K;try simp only [Act.put,ak]
      refine ah 4 ?_ (hy:=by intro wz hSw; (have q0:=r8; go_simp <;> with_reducible rfl));try simp only [Act.put,ak]
      refine ah 5 ?_ (hy:=by intro wz hSw; (refine bL (nS k (v.extract 0 100) cC.out) ?_; exact ⟨_,rfl,rfl⟩));try simp only [Act.put,ak]
      refine aj 6 λK hK=>?_;refine Rg.meetStore (by rfl) h0 60 (gI (k,v.extract 0 100)) ⟨_,_,rfl,rfl,rfl⟩ (uI cC.out) (by rw [jN cC.out,jN cC.out]) (wP _) ?_;rintro gr hn hu;refine hK.out _ _ ?_ (λhld=>?_)
      .exact hu.below hld P4
      replace h0:=hn;clear hK K hn hu;try simp only [Act.put]
      refine aB ?_;have az:=hid h0;have em:Hid (Below wr.heap.size wr _):=hid hld;clear h0 hld;have HF:Hid (eU (l.take (j+1))=eU (l.take j)++[(k,v.extract 0 100)]):=hid (by rw [qA HJ.out pr,HX.out]; unfold Fp; simp [hv0,hv2]);have dc:=hid (rR HR.out em.out);go_wp2_with (first
       | (refine aA (gH (x:=(k,v.extract 0 100)) cC.out (dK.own az.out) ⟨_,rfl,rfl⟩) ?_)
       | (refine aA (oq (x:=(k,v.extract 0 100)) cC.out _ rfl ⟨_,rfl,rfl⟩) ?_)
       | (at_builtin; refine wpList_append_own _ rfl _ _ 22 rfl w.heap.size 60 i0 z0 33 48 underlying22 HI.out.1 HI.out.2.1 HI.out.2.2.1 HI.out.2.2.2.1 HI.out.2.2.2.2 (by decide) _ _ _ rfl (dc.out.alloc _) ⟨_,0,none⟩ 1 1 (iU (k,v.extract 0 100)) rfl (fK (x:=(k,v.extract 0 100)) cC.out) ?d1 (oL _) ?d3 ?d4 ?d5 ?_))
      case d1 =>
       intro q u hu;first | (simpa [gI] using hu) | (rw [Addr.add_mid]; exact (dK.own (Rg.Own.new _ (gI (k,v.extract 0 100)) 60)) q u hu)
      case d3=>unfold maxLen; omega
      case d4=>omega
      case d5=>have:=HB.out.size; have:=em.out.size; simp; omega
      intro v' w7 cJ hgrow _;have hlt':=dc.out.lt;have cm:Hid (Below w.heap.size w w7):=hid (((bst HB.out em.out).alloc (by have:=HB.out.size; have:=em.out.size; omega) _).grown hgrow (by have:=HB.out.size; have:=em.out.size; simp; omega) (λg hg=>(hlt' g hg).1));go_wp2;go_roundw
      case rel=>exact ⟨j+1,by omega,by omega,by go_num,hid (by rw [HF.out,su,List.length_append]; exact cJ),cm⟩
      case measure=>simp [intOf]; omega
     .refine Rg.meet (by rfl) _ _ (dV (dK.val (dK.own h0) cC.out) ?_) ?_
      .exact ⟨_,rfl,rfl⟩
      refine hK.out _ _ (hld) λhld=>?_;clear hK K;try simp only [Act.put,ak]
      refine ah 4 ?_ (hy:=by intro wz hSw; (have q0:=r8; go_simp <;> with_reducible rfl));try simp only [Act.put,ak]
      refine aj 1 λK hK=>?_;refine Rg.meet (by rfl) _ _ (iK cC.out (dK.own h0).key ?_) ?_
      .exact ⟨_,rfl,rfl⟩
      refine hK.out _ _ (hld) λhld=>?_;clear hK K;try simp only [Act.put,ak]
      refine ah 5 ?_ (hy:=by intro wz hSw; (refine bL (nS k (v.extract 0 100) cC.out) ?_; exact ⟨_,rfl,rfl⟩));try simp only [Act.put,ak]
      refine aj 6 λK hK=>?_;refine Rg.meetStore (by rfl) h0 60 (gI (k,v.extract 0 100)) ⟨_,_,rfl,rfl,rfl⟩ (uI cC.out) (by rw [jN cC.out,jN cC.out]) (wP _) ?_;rintro gr hn hu;refine hK.out _ _ ?_ (λhld=>?_)
      .exact hu.below hld P4
      replace h0:=hn;clear hK K hn hu;try simp only [Act.put]
      refine aB ?_;have az:=hid h0;have em:Hid (Below wr.heap.size wr _):=hid hld;clear h0 hld;have HF:Hid (eU (l.take (j+1))=eU (l.take j)++[(k,v.extract 0 100)]):=hid (by rw [qA HJ.out pr,HX.out]; unfold Fp; simp [hv0,hv2]);have dc:=hid (rR HR.out em.out);go_wp2_with (first
       | (refine aA (gH (x:=(k,v.extract 0 100)) cC.out (dK.own az.out) ⟨_,rfl,rfl⟩) ?_)
       | (refine aA (oq (x:=(k,v.extract 0 100)) cC.out _ rfl ⟨_,rfl,rfl⟩) ?_)
       | (at_builtin; refine wpList_append_own _ rfl _ _ 22 rfl w.heap.size 60 i0 z0 33 48 underlying22 HI.out.1 HI.out.2.1 HI.out.2.2.1 HI.out.2.2.2.1 HI.out.2.2.2.2 (by decide) _ _ _ rfl (dc.out.alloc _) ⟨_,0,none⟩ 1 1 (iU (k,v.extract 0 100)) rfl (fK (x:=(k,v.extract 0 100)) cC.out) ?d1 (oL _) ?d3 ?d4 ?d5 ?_))
      case d1 =>
       intro q u hu;first | (simpa [gI] using hu) | (rw [Addr.add_mid]; exact (dK.own (Rg.Own.new _ (gI (k,v.extract 0 100)) 60)) q u hu)
      case d3=>unfold maxLen; omega
      case d4=>omega
      case d5=>have:=HB.out.size; have:=em.out.size; simp; omega
      intro v' w7 cJ hgrow _;have hlt':=dc.out.lt;have cm:Hid (Below w.heap.size w w7):=hid (((bst HB.out em.out).alloc (by have:=HB.out.size; have:=em.out.size; omega) _).grown hgrow (by have:=HB.out.size; have:=em.out.size; simp; omega) (λg hg=>(hlt' g hg).1));go_wp2;go_roundw
      case rel=>exact ⟨j+1,by omega,by omega,by go_num,hid (by rw [HF.out,su,List.length_append]; exact cJ),cm⟩
      case measure=>simp [intOf]; omega
    .have hv1:=Ni.dJ (s:=v) (by omega);have s1:decide ((100:Int)<(v.size:Int))=false:=decide_eq_false (by omega);have HF:Hid (eU (l.take (j+1))=eU (l.take j)++[(k,v)]):=hid (by rw [qA HJ.out pr,HX.out]; unfold Fp; simp [hv0,hv2]);go_wp2_with (first
      | (refine aA (gH (x:=(k,v)) cC.out uu.out ⟨_,rfl,rfl⟩) ?_)
      | (refine aA (kI _ _ _ wr.heap.size rfl rfl) ?_)
      | (refine je HN.out HZ.out (k,v) cC.out rfl _ _ rfl rfl rfl rfl ?_; intro w5 ap aq; have az:=hid ap; have aa:Hid (Below wr.heap.size wr w5):=hid (aq.below (al1 _ _) aG); have dc:=hid (rR HR.out aa.out); have c32:w5.cell? ⟨wr.heap.size,32,none⟩=some (.string _):=(dK.own ap).val cC.out; clear ap aq)
      | (refine aA (dV c32 ⟨_,rfl,rfl⟩) ?_)
      | (refine aA (gH (x:=(k,v)) cC.out (dK.own az.out) ⟨_,rfl,rfl⟩) ?_)
      | (refine aA (oq (x:=(k,v)) cC.out _ rfl ⟨_,rfl,rfl⟩) ?_)
      | (at_builtin; refine wpList_append_own _ rfl _ _ 22 rfl w.heap.size 60 i0 z0 33 48 underlying22 HI.out.1 HI.out.2.1 HI.out.2.2.1 HI.out.2.2.2.1 HI.out.2.2.2.2 (by decide) _ _ _ rfl (dc.out.alloc _) ⟨_,0,none⟩ 1 1 (iU (k,v)) rfl (fK (x:=(k,v)) cC.out) ?d1 (oL _) ?d3 ?d4 ?d5 ?_))
     case d1 =>
      intro q u hu;first | (simpa [gI] using hu) | (rw [Addr.add_mid]; exact (dK.own (Rg.Own.new _ (gI (k,v)) 60)) q u hu)
     case d3=>unfold maxLen; omega
     case d4=>omega
     case d5=>have:=HB.out.size; have:=aa.out.size; simp; omega
     intro v' w7 cJ hgrow _;have hlt':=dc.out.lt;have cm:Hid (Below w.heap.size w w7):=hid (((bst HB.out aa.out).alloc (by have:=HB.out.size; have:=aa.out.size; omega) _).grown hgrow (by have:=HB.out.size; have:=aa.out.size; simp; omega) (λg hg=>(hlt' g hg).1));go_wp2;go_roundw
     case rel=>exact ⟨j+1,by omega,by omega,by go_num,hid (by rw [HF.out,su,List.length_append]; exact cJ),cm⟩
     case measure=>simp [intOf]; omega
  .have ae:Hid (eU (l.take j)=eU l):=hid (by
    rcases Nat.lt_or_ge j n with h1 | h1
    .obtain rfl:j=24:=by omega
     exact Qk
    .obtain rfl:j=n:=by omega
     rw [List.take_of_length_le (by rw [HL.out]; exact aG)])
   have HK:=hid (Jw H.out.keys);have hf:¬ ((j:Int)<n/\(j:Int)<24):=by omega
   rw [ae.out] at HR;rcases Nat.lt_or_ge j n with h1 | h1
   .obtain rfl:j=24:=by omega
    have i1:((24:Nat):Int)<n:=by omega
    go_wp2_with fail
    go_ret;exact ze.ps HK.out.1 ⟨_,rfl,HR.out,HB.out⟩
   .obtain rfl:j=n:=by omega
    go_wp2_with fail
    go_ret;exact ze.ps HK.out.1 ⟨_,rfl,HR.out,HB.out⟩
open No
open Rf
open Rl
open Sm (Tab)
theorem BX {rest:List Oper} {act:Go.Act} {w:World} {Q:Exit->Go.Act->World->Prop} {b:Nat} {k:aM} (h:Rg.Own w b (kc k) 24) (hk:k.length=32) (y:aM) (hy:y.length=32)
  (hgd:o.guard=none) (p q:Operand) (ho:o.op = .store 24 p q) (hp:act.eval p = .pointer (some ⟨b,0,none⟩)) (hq:act.eval q = .agg (kc y)) (hd:o.dst=none)
  (hQ:∀ w',Rg.Own w' b (kc y) 24->Rg.Upd w b w'->wpList prog ops Q rest act w'):wpList prog ops Q (o::rest) act w :=
 wpList_store_rowTo hgd 24 p q ho hd b _ hp hq 24 _ h.2 (jk y hy) (by rw [iq,iq,hk,hy]) (xg _) (hQ _ ⟨by simp; exact h.1,setRow_heap _ _ _ _ _ _ h.2⟩ (Rg.Upd.set _ _ _))
section
variable {k:aM} {j:Nat}
end
namespace Wf
variable {w0:World} {M M':Mp} {w w':World} {b0 b1:Nat} {p p' q q':aK} {t t' s s':T}
end Wf
theorem Ks0.below {M:Mp} {lo:Nat} {w w':World} {a:aK} {n c:Nat} {l:List T} (h:Ks0 M lo w a n c l) (hb:Below w.heap.size w w'):Ks0 M lo w' a n c l :=
 ⟨h.1,h.2.1,h.2.2.1,h.2.2.2.1,λj hj=>by
  obtain ⟨b,off,p,e,hlt,hf,hc,ht⟩:=h.2.2.2.2 j hj;exact ⟨b,off,p,e,aI hlt hb.size,hf,aW hb hc,ht⟩⟩
theorem Ks0.lo {M:Mp} {lo lo':Nat} {w:World} {a:aK} {n c:Nat} {l:List T} (h:Ks0 M lo w a n c l) (hl:lo'<=lo):Ks0 M lo' w a n c l :=
 ⟨h.1,h.2.1,h.2.2.1,h.2.2.2.1,λj hj=>by
  obtain ⟨b,off,p,e,hlt,hf,hc,ht⟩:=h.2.2.2.2 j hj;exact ⟨b,off,p,e,hlt,hf.elim Or.inl (λh=>Or.inr (Nat.le_trans hl h)),hc,ht⟩⟩
theorem iQ.ks0 {M:Mp} {lo:Nat} {w:World} {a:aK} {n c:Nat} {ps:List (aK)} {ts:List T} (h:iQ w a n c ps) (hA:Are M ps ts) (hlo:∀ ad,a=some ad->lo<=ad.block):Ks0 M lo w a n c ts :=
 ⟨h.1,h.2.1,by rw [<-hA.1]; exact h.2.2.1,h.2.2.2.1,λj hj=>by
  obtain ⟨b,off,e,hlt,hc⟩:=h.2.2.2.2 j hj;exact ⟨b,off,_,e,hlt,Or.inr (hlo _ e),hc,hA.2 j (by rw [h.2.2.1]; exact hj)⟩⟩
theorem Tg (f:Fin 16->T) (j:Nat) (hj:j<16):(fq (.br f)).getD j .nil=f ⟨j,hj⟩:=by
 show ((List.finRange 16).map f).getD j .nil=_;rw [List.getD_eq_getElem?_getD,List.getElem?_map,List.getElem?_eq_getElem (by simpa using hj)];simp
theorem zY (M:Mp) (N:Nd) (hl:N.ks.length=16) (pa:aK) (pn pc:Nat) (ps:List (aK)) (ts:List T) (hA:Are M ps ts)
  (hkd:N.kd=1/\ts=[]\/N.kd=2/\(∃ s,ts=[s])\/N.kd=3/\ts.length=(bF N.ks).length) (ka:aK) (kn kc:Nat) (w:World) (h:iQ w ka kn kc ps) (hn:kn<=1000000) :
  Calls prog 191 #[.agg (ndC N pa pn pc),.slice ka kn kc] w λe w'=>∃ va vn vc,e = .returned (.slice va vn vc)/\Ks0 M w.heap.size w' va vn vc (fq (makeT N ts))/\Below w.heap.size w w':=by
 by_cases hk:N.kd=3
 .have hlen:ts.length=(bF N.ks).length:=by rcases hkd with ⟨h1,_⟩ | ⟨h1,_⟩ | ⟨_,h2⟩; omega; omega; exact h2
  have hpl:ps.length=kn:=h.2.2.1;refine (Pv N hk hl pa pn pc ps ka kn kc w h (by rw [<-hlen,<-hA.1,hpl])).mono ?_;rintro e w' ⟨g,rfl,hg,hO,hb⟩;have hm:makeT N ts = .br (zu N.ks ts):=by unfold makeT; rw [if_neg (by omega),if_neg (by omega)]
  have h16:(gF N.ks ps 16).length=16:=iF;have hks:=Ks0.row (M:=M) (lo:=w.heap.size) (l:=fq (makeT N ts)) hg hO (by rw [h16,hm]; simp [fq]) (by rw [h16]; unfold maxLen; omega) (λj hj=>by
   rw [h16] at hj;rw [KT j hj,hm,Tg _ j hj];unfold xR zu;by_cases h0:(N.ks.getD j eB).size=0
   .rw [if_pos h0,if_pos h0]; rfl
   .rw [if_neg h0,if_neg h0];by_cases hx:(bF (N.ks.take j)).length<ps.length
    .exact hA.2 _ hx
    .have e1:ps.getD (bF (N.ks.take j)).length none=none:=by rw [List.getD_eq_getElem?_getD,List.getElem?_eq_none (by omega)]; rfl
     have e2:ts.getD (bF (N.ks.take j)).length .nil = .nil:=by rw [List.getD_eq_getElem?_getD,List.getElem?_eq_none (by rw [<-hA.1]; omega)]; rfl
     rw [e1,e2];rfl)
  rw [h16] at hks;exact ⟨_,_,_,rfl,hks,hb⟩
 .refine (FY N hk hl pa pn pc ps ka kn kc w h hn).mono ?_;rintro e w' ⟨v,rfl,hR,hb⟩;obtain ⟨a,c,rfl,hP,hlo⟩:=hR.ptrs;refine ⟨_,_,_,rfl,?_,hb⟩;have hm:fq (makeT N ts)=ts:=by
   unfold makeT;rcases hkd with ⟨h1,rfl⟩ | ⟨h1,s,rfl⟩ | ⟨h1,_⟩
   .rw [if_pos h1]; rfl
   .rw [if_neg (by omega),if_pos h1]; rfl
   .exact absurd h1 hk
  rw [hm];exact hP.ks0 hA hlo
def NJ (M:Mp) (w:World) (t:T) (c:Int) (e:Ending) (w':World):Prop:=∃ p M',e = .returned (.tuple #[tv p,.int .i64 c])/\IsT M' p t/\Fr M M' w w'/\Inv M' w'/\Tab w'
theorem zm (t:T) (k:Int) (v:aL) (hk:dB t=k) (hv:Fu t=v) (hs:¬ dQ t) (a:aK) (n c:Nat) (ka:aK) (kn kc:Nat) :
  prog.built 135 [(0,.int .i64 k),(1,.slice a n c),(2,.string v),(3,.slice ka kn kc)]=some (gY t a n c ka kn kc 0 (FZ t)):=by
 subst hk hv;rw [Og hs];unfold gY;generalize dB t=k;generalize Fu t=v;kernel_rfl
theorem Sv {M:Mp} {w w5 w8:World} {t:T} {e:Ending} (hi:Inv M w) (hz:0<w.heap.size) (hb2:Below w.heap.size w w2) (hO2:Rg.Own w2 g #[.pointer none] 35) (hg:w.heap.size<=g) (f5:Fr M M w2 w5) (t5:Tab w5) (hG:dz M w5 t e w8) :
  ∃ p,e = .returned (tv p)/\∀ w9,Rg.Upd w8 g w9->NJ M w t 0 (.returned (.tuple #[tv p,.int .i64 0])) w9:=by
 obtain ⟨p,M',he,ht,f,i,b⟩:=hG;have f28:=f5.trans (hi.below hb2) f;have hn:¬ M'.ft g:=f28.box (hi.free hg) hO2.1 (cZ hO2 (eH _));have f8:=(Fr.below M hb2).trans hi f28;exact ⟨p,he,λw9 hu=>⟨p,M',rfl,ht,f8.upd hu hg,i.upd hu hn,λi hi=>by rw [World.cell?_of_block (hu.block 0 (by omega))]; exact (t5.below b t5.pos) i hi⟩⟩
structure Mk (N:Nd) (ts:List T):Prop where
 ks:N.ks.length=16
 may:gB bW N=true
 v:N.v.size<=maxLen
 pl:N.p.length<=64
 few:∀ k∈N.ks,k.size<=100
 fine:∀ s∈ts,∃ L,Tr.Good s L/\L<=64/\Fine s
 refs:bF N.ks=ts.map ref
 kd:N.kd=1/\ts=[]\/N.kd=2/\(∃ s,ts=[s]/\dB s≠1/\dB s≠2)\/N.kd=3/\ts.length=(bF N.ks).length
 k:dB (makeT N ts)=N.kd
 mv:Fu (makeT N ts)=N.v
 mp:bU (makeT N ts)=N.p
 ms:¬ dQ (makeT N ts)
 mn:makeT N ts ≠ .nil
theorem Mk.kd' {N:Nd} {ts:List T} (h:Mk N ts):N.kd=1/\ts=[]\/N.kd=2/\(∃ s,ts=[s])\/N.kd=3/\ts.length=(bF N.ks).length:=by
 rcases h.kd with h | ⟨h,s,e,_⟩ | h
 .exact .inl h
 .exact .inr (.inl ⟨h,s,e⟩)
 .exact .inr (.inr h)
theorem Cr {N:Nd} (hl:N.ks.length=16) (hmay:gB bW N=true) (hv:N.v.size<=maxLen) (hks:∀ k∈N.ks,k.size<=100) (a:aK) (n c:Nat) (w:World) (hB:bf w a n c N.p) :
  Calls prog 50 #[.agg (ndC N a n c)] w λe w'=>e = .returned (.int .i64 0)/\Below w.heap.size w w':=by
 have:=oV N a n c hl w hB hv (λk hk=>No.kG k (by have:=hks k hk; omega));rw [hmay] at this;exact this
end Tm
end
section
open Go.RowKit
namespace No
open Rl Ni
end No
end
section
open Go.RowKit
namespace Rl
end Rl
end
section
open Go.RowKit
namespace No
open Ni
open Rl
end No
end
section
open Go.RowKit
namespace Tm
open Tr Ni Pk Ky No Rf Rl
open Sm (Tab)
theorem jR {ks:Fin 16->T} {s:T} (h:s∈(bI ks).map ks):∃ i,s=ks i/\ks i ≠ .nil:=by
 obtain ⟨i,hi,rfl⟩:=List.mem_map.1 h;refine ⟨i,rfl,λe=>?_⟩;have:=(List.mem_filter.1 hi).2;rw [bM.2 e] at this;cases this
theorem nu {t:T} {L:Nat} (g:Tr.Good t L) (f:Fine t):∀ s∈aY t,s ≠ .nil/\Fine s/\(Tr.Full t->Tr.Full s)/\∃ L',L'<L/\Tr.Good s L':=by
 intro s hs;cases t with
 | nil=>cases hs
 | leaf p v=>cases hs
 | stub r=>cases hs
 | ext q u =>
  obtain rfl:s=u:=by
   have:s∈[u]:=hs;simpa using this
  obtain ⟨g1,_,g3,g4,g5⟩:=g;have hq:0<q.length:=List.length_pos_iff.2 g1;exact ⟨kM g4,f,λh=>h,L-q.length,by omega,g5⟩
 | br ks =>
  obtain ⟨i,rfl,hn⟩:=jR hs;obtain ⟨g1,_,g3⟩:=g;exact ⟨hn,f i,λh=>h i,L-1,by omega,g3 i⟩
theorem Px {t:T} (hs:¬ dQ t):dB t=(bg t).kd/\Fu t=(bg t).v/\bU t=(bg t).p:=by
 cases t with
 | stub r=>exact absurd trivial hs
 | _=>exact ⟨rfl,rfl,rfl⟩
theorem Yv {t:T} {L:Nat} (g:Tr.Good t L) (hL:L<=64) (f:Fine t) (hn:t ≠ .nil) (hs:¬ dQ t) {ts:List T} (hr:ts.map ref=(aY t).map ref) (hf:∀ s∈ts,∃ L,Tr.Good s L/\L<=64/\Fine s)
  (hk:∀ q s,t = .ext q s->∀ u∈ts,dB u≠1/\dB u≠2) {t':T} (hm:makeT (bg t) ts=t') (hx:bg t'=bg t) (hs':¬ dQ t') (hn':t' ≠ .nil):Mk (bg t) ts:=by
 obtain ⟨h1,_,_,h4,h5,h6⟩:=jl g hL f hn hs;have hrf:bF (bg t).ks=ts.map ref:=by rw [hr]; exact sD g hL f
 have hlen:ts.length=(aY t).length:=by have:=congrArg List.length hr; simpa using this
 obtain ⟨k1,k2,k3⟩:=Px hs';refine ⟨cK t,h1,h4,h5,h6,hf,hrf,?_,by rw [hm,k1,hx],by rw [hm,k2,hx],by rw [hm,k3,hx],by rw [hm]; exact hs',by rw [hm]; exact hn'⟩;cases t with
 | nil=>exact absurd rfl hn
 | stub r=>exact absurd trivial hs
 | leaf p v=>exact .inl ⟨rfl,List.eq_nil_of_length_eq_zero hlen⟩
 | ext q u =>
  have h1:ts.length=1:=hlen;obtain ⟨s,rfl⟩:=List.length_eq_one_iff.1 h1;exact .inr (.inl ⟨rfl,s,rfl,hk q u rfl s (by simp)⟩)
 | br ks=>exact .inr (.inr ⟨rfl,by rw [hrf,List.length_map]⟩)
theorem Wm {t:T} {L:Nat} (g:Tr.Good t L) (hL:L<=64) (f:Fine t) (hn:t ≠ .nil) (hs:¬ dQ t):Mk (bg t) (aY t) :=
 Yv g hL f hn hs rfl (λs h=>by
  obtain ⟨_,hf,_,L',hl,hg⟩:=nu g f s h;exact ⟨L',hg,by omega,hf⟩) (λq s e u hu=>by
  subst e;obtain rfl:u=s:=by
   have:u∈[s]:=hu;simpa using this
  have:=g.2.2.2.1;cases u with
  | br ks=>exact ⟨by show (3:Int)≠1; decide,by show (3:Int)≠2; decide⟩
  | stub r=>exact ⟨by show (-1:Int)≠1; decide,by show (-1:Int)≠2; decide⟩
  | _=>exact absurd this (λh=>h)) (Cn g hL f hn hs) rfl hs hn
theorem pK (t:T):(aY t).length<=16:=by
 cases t with
 | ext q s=>show 1<=16; omega
 | br ks =>
  show ((bI ks).map ks).length<=16;rw [List.length_map];exact Nat.le_trans (List.length_filter_le _ _) (by simp)
 | _=>exact Nat.zero_le _
namespace Wg
variable {w0:World} {M M':Mp} {w w':World} {bk bt:Nat} {K:aM} {p p':aK} {t t':T}
end Wg
namespace Wk
variable {w0:World} {M M':Mp} {w w':World} {bk bt:Nat} {K:aM} {p:aK} {t:T} {bn:Nat} {N:Nd} {a:aK} {n c:Nat} {ka:aK} {kc':Nat} {ps:List (aK)}
end Wk
end Tm
end
section
namespace Tm
open Tr Rf Rl Ni No
def jI (l:List aL):Nat:=(l.map ByteArray.size).sum
theorem JE (l:List aL) (j:Nat) (hj:j<l.length):jI (l.take (j+1))=jI (l.take j)+(l.getD j eB).size:=by
 unfold jI;have e2:l.getD j eB=l[j]:=by simp [List.getD,hj]
 rw [List.take_add_one,List.getElem?_eq_getElem hj,List.map_append,List.sum_append,e2];simp
theorem zw (l:List aL) (h:∀ s∈l,s.size<=900000) (j:Nat):jI (l.take j)<=l.length*900000:=by
 have key:∀ l:List aL,(∀ s∈l,s.size<=900000)->jI l<=l.length*900000:=by
  intro l
  induction l with
  | nil=>intro _; exact Nat.zero_le _
  | cons x r ih =>
   intro h;have h1:=h x List.mem_cons_self;have h2:=ih λs hs=>h s (List.mem_cons_of_mem _ hs);unfold jI at h2 ⊢;rw [List.map_cons,List.sum_cons,List.length_cons];omega
 have h1:=key (l.take j) λs hs=>h s (List.mem_of_mem_take hs);rw [List.length_take] at h1;have:min j l.length*900000<=l.length*900000:=Nat.mul_le_mul_right _ (Nat.min_le_right _ _);exact Nat.le_trans h1 this
structure Whl (t:T):Prop where
 fine:Fine t
 full:Tr.Full t
 good:∃ L,L<=64/\Tr.Good t L
theorem Whl.kids {t:T} (h:Whl t):∀ s∈aY t,s ≠ .nil/\Whl s:=λs hs=>by
 obtain ⟨L,hL,g⟩:=h.good;obtain ⟨h1,h2,h3,L',hl,h4⟩:=nu g h.fine s hs;exact ⟨h1,h2,h3 h.full,L',by omega,h4⟩
theorem Whl.ns {t:T} (h:Whl t):¬ dQ t:=DK h.full
theorem Whl.enc {t:T} (h:Whl t) (hn:t ≠ .nil):bE t≠eB/\(bE t).size<=900000:=by
 obtain ⟨L,hL,g⟩:=h.good;obtain ⟨h1,h2,h3,_⟩:=jl g hL h.fine hn h.ns;refine ⟨λe=>?_,h3⟩;have h4:=put_pos (cK _) h1;rw [h2] at e;have:=congrArg ByteArray.size e;rw [vJ] at this;have h5:eB.size=0:=rfl;omega
theorem Dv:∀ l:List Tr.In,((List.finRange 16).map λc=>(dW l c).length).sum<=l.length
 | []=>by
  have e:((List.finRange 16).map λc=>(dW [] c).length)=(List.finRange 16).map λ_=>0:=rfl;rw [e];decide
 | x::r=>by
  have ih:=Dv r;have key:∀ (cs:List (Fin 16)),cs.Nodup->(cs.map λc=>(dW (x::r) c).length).sum<=(cs.map λc=>(dW r c).length).sum+if ∃ c∈cs,(x.1.getD 0 0).toNat=c.val then 1 else 0:=by
   intro cs
   induction cs with
   | nil=>intro _; simp
   | cons c cs ih2 =>
    intro hd;obtain ⟨hc,hd'⟩:=List.nodup_cons.1 hd;have i2:=ih2 hd';rw [List.map_cons,List.map_cons,List.sum_cons,List.sum_cons];by_cases h:(x.1.getD 0 0).toNat=c.val
    .have h1:(dW (x::r) c).length=(dW r c).length+1:=by
      unfold dW;rw [List.filter_cons,if_pos (by simpa using h)];rfl
     have h2:¬ ∃ d∈cs,(x.1.getD 0 0).toNat=d.val:=λ⟨d,hd,e⟩=>hc (by
      have:c=d:=Fin.ext (by omega);rw [this]; exact hd)
     rw [if_neg h2] at i2;rw [if_pos ⟨c,List.mem_cons_self,h⟩,h1];omega
    .have h1:(dW (x::r) c).length=(dW r c).length:=by
      unfold dW;rw [List.filter_cons,if_neg (by simpa using h)]
     rw [h1];by_cases h2:∃ d∈cs,(x.1.getD 0 0).toNat=d.val
     .obtain ⟨d,hd,e⟩:=h2;rw [if_pos ⟨d,hd,e⟩] at i2;rw [if_pos ⟨d,List.mem_cons_of_mem _ hd,e⟩];omega
     .rw [if_neg h2] at i2;omega
  have:=key (List.finRange 16) (List.nodup_finRange 16);rw [List.length_cons];split at this <;> omega
theorem QV:∀ (L:Nat) (l:List Tr.In),Ok L l->(mH (build L l)).length<=(L+1)*l.length:=by
 intro L
 induction L using Nat.strongRecOn with
 | ind L ih =>
  intro l ok
  match l,ok with
  | [],_=>rw [build]; exact Nat.zero_le _
  | [x],_ =>
   rw [build];show 1<=(L+1)*1;omega
  | x::y::r,ok =>
   have hcl:=rU ok;rw [build];by_cases h:0<bV (x::y::r)/\0<L
   .rw [dif_pos h];have i1:=ih (L-bV (x::y::r)) (by omega) (gV (x::y::r) (bV (x::y::r))) (yR ok (by omega) (λa ha b hb=>by rw [lF ha,lF hb]));show (mH _).length+1<=_;have e:(gV (x::y::r) (bV (x::y::r))).length=(x::y::r).length:=by unfold gV; rw [List.length_map]
    rw [e] at i1;have h2:(L-bV (x::y::r)+1)*(x::y::r).length<=L*(x::y::r).length:=Nat.mul_le_mul_right _ (by omega);have h3:2<=(x::y::r).length:=by simp
    have h4:(L+1)*(x::y::r).length=L*(x::y::r).length+(x::y::r).length:=Nat.succ_mul _ _;omega
   .rw [dif_neg h];by_cases h2:0<L
    .rw [dif_pos h2];show ((List.finRange 16).map λi=>mH (build (L-1) (gV (dW (x::y::r) i) 1))).flatten.length+1<=_;have hb:∀ cs:List (Fin 16),(cs.map λi=>mH (build (L-1) (gV (dW (x::y::r) i) 1))).flatten.length<=L*(cs.map λc=>(dW (x::y::r) c).length).sum:=by
      intro cs
      induction cs with
      | nil=>exact Nat.zero_le _
      | cons c cs ih2 =>
       have i1:=ih (L-1) (by omega) (gV (dW (x::y::r) c) 1) (vN ok h2 c);have e:(gV (dW (x::y::r) c) 1).length=(dW (x::y::r) c).length:=by unfold gV; rw [List.length_map]
       rw [e,show L-1+1=L by omega] at i1;rw [List.map_cons,List.map_cons,List.flatten_cons,List.sum_cons,List.length_append,Nat.mul_add];omega
     have h3:=hb (List.finRange 16);have h4:=Dv (x::y::r);have h5:L*((List.finRange 16).map λc=>(dW (x::y::r) c).length).sum<=L*(x::y::r).length:=Nat.mul_le_mul_left _ h4;have h6:(L+1)*(x::y::r).length=L*(x::y::r).length+(x::y::r).length:=Nat.succ_mul _ _;have h7:2<=(x::y::r).length:=by simp
     omega
    .rw [dif_neg h2];exact Nat.zero_le _
end Tm
end
section
open Go.RowKit
namespace Tm
open Tr Ni Pk Ky No Rf Rl
open Sm (Tab)
structure FrK (M:Mp) (K:Nat->Prop) (w w':World):Prop where
 os:w'.os=w.os
 tape:w'.tape=w.tape
 output:w'.output=w.output
 size:w.heap.size<=w'.heap.size
 block:∀ k,k<w.heap.size->M.at_ k=none->¬ K k->w'.heap[k]? = w.heap[k]?
theorem FrK.refl (M:Mp) (K:Nat->Prop) (w:World):FrK M K w w:=⟨rfl,rfl,rfl,aG,λ_ _ _ _=>rfl⟩
theorem FrK.trans {M:Mp} {K K1:Nat->Prop} {w w1 w2:World} (h:FrK M K w w1) (g:FrK M K1 w1 w2) (hk:∀ k,K1 k->K k\/w.heap.size<=k):FrK M K w w2 :=
 ⟨g.os.trans h.os,g.tape.trans h.tape,g.output.trans h.output,Nat.le_trans h.size g.size,λk hl hm hn=>(g.block k (aI hl h.size) hm λh1=>(hk k h1).elim hn (by omega)).trans (h.block k hl hm hn)⟩
theorem FrK.of {M:Mp} {K:Nat->Prop} {w w':World} (f:Fr M M w w'):FrK M K w w':=⟨f.os,f.tape,f.output,f.size,λk hl hm _=>f.block k hl hm⟩
theorem FrK.below {M:Mp} {K:Nat->Prop} {w:World} (h:FrK M K w w1) (hb:Below B w1 w2) (hB:w.heap.size<=B):FrK M K w w2 :=
 ⟨hb.os.trans h.os,hb.tape.trans h.tape,hb.output.trans h.output,Nat.le_trans h.size hb.size,λk hl hm hn=>(hb.block k (by omega)).trans (h.block k hl hm hn)⟩
theorem Inv.keep {M:Mp} {w w':World} (h:Inv M w) (hs:w.heap.size<=w'.heap.size) (hk:∀ k,M.ft k->w'.heap[k]? = w.heap[k]?):Inv M w':=by
 refine ⟨λk hk=>aI (h.lt_ k hk) hs,λb t hm=>?_⟩;obtain ⟨h1,h2,h3⟩:=h.part_ b t hm;refine ⟨h1,h2,?_⟩;obtain ⟨a,n,c,ka,kn,kc,d,r,hb,hB,hK,hd⟩:=h3;refine ⟨a,n,c,ka,kn,kc,d,r,(hk b h2).trans hb,⟨⟨hB.1.1,hB.1.2.1,hB.1.2.2.1,hB.1.2.2.2.1,λj hj=>?_⟩,hB.2⟩,⟨hK.1,hK.2.1,hK.2.2.1,hK.2.2.2.1,λj hj=>?_⟩,hd⟩
 .obtain ⟨b',off,e,hlt,hc⟩:=hB.1.2.2.2.2 j hj;exact ⟨b',off,e,aI hlt hs,by rw [World.cell?_of_block (hk b' (hB.2 _ e (by omega)))]; exact hc⟩
 .obtain ⟨b',off,p,e,hlt,hf,hc,ht⟩:=hK.at' j hj;exact ⟨b',off,p,e,aI hlt hs,hf,by rw [World.cell?_of_block (hk b' hf)]; exact hc,ht⟩
theorem dI {sz n:Nat} {w w':World} {v:Value} {xs:List Value} (h:w.ownsRow B e sz v n xs) (hk:∀ k,v.ownBlock=some k->w'.heap[k]? = w.heap[k]?):w'.ownsRow B e sz v n xs:=by
 obtain ⟨h1,h2⟩:=h;refine ⟨h1,?_⟩;rcases h2 with h2 | ⟨g,cap,cur,rfl,hg,hh,hr⟩
 .exact .inl h2
 .exact .inr ⟨g,cap,cur,rfl,hg,(hk g rfl).trans hh,hr⟩
theorem gM {sz n:Nat} {w:World} {v:Value} {xs:List Value} (h:w.ownsRow B e sz v n xs):∃ a c,v = .slice a n c:=by
 rcases h.2 with ⟨rfl,rfl⟩ | ⟨g,cap,cur,rfl,_⟩
 .exact ⟨_,_,rfl⟩
 .exact ⟨_,_,rfl⟩
def MJ (M:Mp):aK->T
 | none=>.nil
 | some ad=>(M.at_ ad.block).getD .nil
theorem IsT.MJ {M:Mp} {p:aK} {t:T} (h:IsT M p t):Tm.MJ M p=t:=by
 cases p with
 | none=>exact Eq.symm h
 | some ad =>
  obtain ⟨b,rfl,hm,_⟩:=h;show (M.at_ b).getD .nil=t;rw [hm]; rfl
theorem DU {w:World} {n cap:Nat} {ps:List (aK)} (h:w.ownsRow B 35 1 (.slice (some ⟨g,0,none⟩) n cap) n (ps.map Value.pointer)):ps.length=n/\B<=g/\g<w.heap.size/\n<=cap/\cap<=maxLen/\∀ j,j<n->w.cell? ⟨g,j,none⟩=some (.pointer (ps.getD j none)):=by
 obtain ⟨h1,h2⟩:=h;have hl:ps.length=n:=by simpa using h1
 rcases h2 with ⟨h2,_⟩ | ⟨g',cap',cur,e,hg,hh,hnc,hcm,hsz,htk⟩
 .cases h2
 .injection e with e1 e2 e3;injection e1 with e1;injection e1 with e1;subst e1 e3;refine ⟨hl,hg,(Array.getElem?_eq_some_iff.1 hh).1,hnc,hcm,λj hj=>?_⟩;rw [cell_of_row w g _ _ _ _ hh];have h3:cur.toList[j]? = (ps.map Value.pointer)[j]? := by
   rw [<-htk,List.getElem?_take_of_lt (by omega)]
  rw [<-Array.getElem?_toList,h3];simp [List.getD,show j<ps.length by omega]
theorem Are.snoc {M:Mp} {ps qs:List (aK)} {S R:List T} (h:Are M ps S) (g:Are M qs R):Are M (ps++qs) (S++R):=by
 refine ⟨by simp [h.1,g.1],λj hj=>?_⟩;by_cases hl:j<ps.length
 .have:=h.2 j hl;simpa [List.getD,List.getElem?_append_left hl,List.getElem?_append_left (show j<S.length by rw [<-h.1]; exact hl)] using this
 .have hs:=h.1;have:=g.2 (j-ps.length) (by rw [List.length_append] at hj; omega);simpa [List.getD,List.getElem?_append_right (show ps.length<=j by omega),List.getElem?_append_right (show S.length<=j by omega),hs] using this
section
variable {M:Mp} {J:List T->(Nat->Prop)->World->Prop} {K0:Nat->Prop} {w0 w:World} {t:T} {v:Value} {V S:List T} {ps:List (aK)} {K:Nat->Prop}
end
theorem Fr.LQ {M:Mp} {w wr:World} (f:Fr M M w w2) (hs:w.heap.size<=w2.heap.size) (hb:Below w2.heap.size w2 wr):Fr M M w wr :=
 ⟨hb.os.trans f.os,hb.tape.trans f.tape,hb.output.trans f.output,Nat.le_trans hs hb.size,λk hl hm=>(hb.block k (by omega)).trans (f.block k hl hm),λ_ _ h=>h,λ_ _ h=>h,λ_ h=>h,λ_ h=>Or.inl h⟩
end Tm
end
end Go.Proofs.YtoipgepkhomfgaaGreatDoor
