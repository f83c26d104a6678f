/-
 Contracts of Put and Del: the calls themselves.
-/
import Derived.Test.YtokaiemgjngcoaaGreatDoorVy20
import Derived.Lib.HexFns2
import Derived.RangeFuncBound
import Derived.RangeFuncCalls
import Derived.OrdersIn
open Go.Lib (hid)
open Go.Proofs.Tryz
set_option linter.unusedSimpArgs false
set_option linter.unusedVariables false
set_option maxHeartbeats 40000000
set_option maxRecDepth 100000
namespace Go.Proofs.YtokaiemgjngcoaaGreatDoor
variable {w1 w2:World} {T' e ty:TypeId} {B base g id:Nat} {ops:Array Oper} {o:Oper} {act:Act} {Q:Exit->Act->World->Prop} {ev:Operand->Value} {P:Program} {args:aO}
section
open Go.RowKit
namespace Tm
open Tr Ni Pk Ky
def GJ (M:Mp) (w:World) (t:T) (c:Int) (e:Ending) (w':World):Prop:=∃ p M',e = .returned (.tuple #[tv p,.int .i64 c])/\IsT M' p t/\Fr M M' w w'/\Inv M' w'/\Below w.heap.size w w'
def Lu (M:Mp) (w:World) (br:Nat) (t:T) (w':World):Prop:=∃ p M',Rg.Own w' br #[.pointer p] 46/\IsT M' p t/\Fr M M' w w'/\Inv M' w'/\Below w.heap.size w w'/\¬ M'.ft br
theorem Lu.end_ {M:Mp} {w w5 w6:World} {br:Nat} {t:T} {c:Int} (h:Lu M w br t w5) (hg:w.heap.size<=br):∃ p,Rg.Own w5 br #[.pointer p] 46/\∀ w6,Rg.Upd w5 br w6->GJ M w t c (.returned (.tuple #[tv p,.int .i64 c])) w6:=by
 obtain ⟨p,M',hO,hT,f,i,b,hn⟩:=h;exact ⟨p,hO,λw6 hu=>⟨p,M',rfl,hT,f.upd hu hg,i.upd hu hn,hu.below b hg⟩⟩
theorem WC {M M':Mp} {w wc w6:World} {br be:Nat} {p:aL} {t:T} {cs:aO} {te:TypeId} (hi:Inv M w) (hbc:Below w.heap.size w wc) (hT:IsT M' p t) (hS:St M wc M' w6) (hu:Rg.Upd w6 br w1) (hO:Rg.Own w1 br #[.pointer p] T')
  (hOr:Rg.Own wc br #[.pointer none] 46) (SU:Rg.Own wc be cs te) (hne:∀ (j:Nat) (x:Int),cs[j]? ≠ some (Value.int .u8 x)) (hgr:w.heap.size<=br) (hge:w.heap.size<=be) (hre:br≠be) (lg:T'=46) (x:Value):Lu M w br t (w1.setCell ⟨be,0,none⟩ x):=by
 subst lg;have hu2:=bQ w1 be 0 x;have nr:¬ M'.ft br:=hS.f.box (hi.free hgr) hOr.1 (gP hOr (jK _));have ne:¬ M'.ft be:=hS.f.box (hi.free hge) SU.1 (gP SU hne);have hf:=(((Fr.below M hbc).trans hi hS.f).upd hu hgr).upd hu2 hge;exact ⟨p,M',hO.upd hu2 hre,hT,hf,(hS.i.upd hu nr).upd hu2 ne,hu2.below (hu.below (bst hbc hS.b) hgr) hge,nr⟩
theorem EM (M:Mp) (p:aL) (k:aN) (v:aM) (hv0:v.size≠0) (hv1:v.size<=65552) (R:T) (c:Int) (w w4:World) (hw4:w4=(((w.alloc (.cells #[.pointer p] 46)).alloc (.cells (kc k) 24)).alloc (.cells #[.string v] 9)).alloc (.cells #[.pointer none] 46))
  (h:Calls prog 51 #[.func (.func 52) #[] #[.pointer (some ⟨w.heap.size,0,none⟩),.pointer (some ⟨w.heap.size+1,0,none⟩),.pointer (some ⟨w.heap.size+2,0,none⟩),.pointer (some ⟨w.heap.size+3,0,none⟩)]] w4 λe w'=>e = .returned (.int .i64 c)/\Lu M w (w.heap.size+3) R w') :
  Calls prog 28 #[.agg #[.pointer p],.agg (kc k),.string v] w (GJ M w R c):=by
 have eK:∀ (fn:Fn) (first cap:aO) (w:World),(Instr.makeFunc fn first cap).run prog w = .ok (.func fn first cap) w:=λ_ _ _ _=>rfl;have hne:=Ni.bZ (s:=v) (by omega);have hd:decide ((65552:Int)<(v.size:Int))=false:=by simp; omega
 obtain ⟨C,hC⟩:=aA (kc k)
 have HH:=hid h;have HW:=hid hw4;rw [hC] at HW ⊢;clear h hw4 hC;go_enter func28,ntmps28;go_wp2_with (first
  | (refine aB (bD _ _ _ (w.heap.size+3) (by simp) rfl) ?_)
  | (refine aB (kT (s:=v) (by simp) ⟨_,rfl,rfl⟩) ?_)
  | (refine Rg.runW (by rfl) _ _ (kT (s:=v) (by simp) ⟨_,rfl,rfl⟩) ?_))
 rw [<-HW.out];refine HH.out.mono ?_;rintro e w5 ⟨rfl,hB⟩;obtain ⟨p5,c8,SW⟩:=hB.end_ (w6:=w5) (c:=c) (by omega);have cf:=hid c8;have Yl:=hid SW;clear hB c8 SW HH HW eK;go_wp2_with (first
  | (refine aB (aW (aV (j:=0) cf.out rfl) ⟨_,rfl,rfl⟩) ?_)
  | (refine bU cf.out (by simp) p5 rfl _ _ rfl rfl rfl ?_; intro w6 az bh; have cG:=hid az; have Ym:=hid bh; clear az bh))
 exact bodyPost_ret (Nv (q:=6) (u:=7) rfl _ rfl cG.out) rfl (Yl.out w6 Ym.out)
theorem yH (M:Mp) (p:aL) (t:T) (k:aN) (hk:k.length=32) (v:aM) (hv0:v.size≠0) (hv1:v.size<=65552) (w:World) (hi:Inv M w) (ht:IsT M p t) (hg:Tr.Good t 64) :
  (Tr.get t (path k)=none->Calls prog 28 #[.agg #[.pointer p],.agg (kc k),.string v] w (GJ M w .nil 8))/\
  (Tr.get t (path k)≠none->Calls prog 28 #[.agg #[.pointer p],.agg (kc k),.string v] w (GJ M w (put t (path k) v) 0)):=by
 obtain ⟨w3,hw3,aE,bc,hO2,hb3,hs3⟩:=Rq w p (kc k) #[.string v] 9;obtain ⟨w4,hw4⟩:=ay (w3.alloc (.cells #[.pointer none] 46))
 have re:Below w3.heap.size w3 w4:=by rw [hw4]; exact al1 _ _
 have hOr:Rg.Own w4 (w.heap.size+3) #[.pointer none] 46:=by rw [hw4,<-hs3]; exact Rg.Own.new _ _ _
 have hs4:w4.heap.size=w.heap.size+4:=by rw [hw4]; simp [hs3]
 have hb4:=bst hb3 re;replace aE:=aE.below re;replace bc:=bc.below re;replace hO2:=hO2.below re;have vm:=hw4;rw [hw3] at vm;have hE:Rg.Own (w4.alloc (.cells #[.int .i64 0] 29)) w4.heap.size #[.int .i64 0] 29:=Rg.Own.new _ _ _;have hA:=al1 w4 (.cells #[.int .i64 0] 29);obtain ⟨wc,hwc⟩:=aA (w4.alloc (.cells #[.int .i64 0] 29))
 rw [hwc] at hE hA;have hbc:=bst hb4 hA;have hic:=hi.below hbc;have hpl:(path k).length=64:=by rw [Tr.iR,hk]
 have hD:∀ wx,(callFunc 52 #[.pointer (some ⟨w.heap.size,0,none⟩),.pointer (some ⟨w.heap.size+1,0,none⟩),.pointer (some ⟨w.heap.size+2,0,none⟩),.pointer (some ⟨w.heap.size+3,0,none⟩)]).run prog wx = .ok (.enter 52 #[.pointer (some ⟨w.heap.size,0,none⟩),.pointer (some ⟨w.heap.size+1,0,none⟩),.pointer (some ⟨w.heap.size+2,0,none⟩),.pointer (some ⟨w.heap.size+3,0,none⟩)]) wx:=by intro wx; kernel_rfl
 refine ⟨λhget=>?_,λhget=>?_⟩
 .refine EM M p k v hv0 hv1 .nil 8 w w4 vm ((Tk.qF 52 _ hD w4 8 (λw'=>Below wc.heap.size wc w') (by
   rw [hwc];refine (Rh p k hk _ _ (w.heap.size+3) _ v 8 wc (aE.below hA) (bc.below hA) (by omega) (by omega) (hO2.below hA) (by omega) (λw5 hb5 a5 n5 c5 hx=>?_)).mono ?_
   .exact (Ij t (plus M (inS a5 n5)) w5 p a5 n5 c5 (path k) v ((hic.below hb5).plus (λk hk=>(uK hx hk).2)) (zW ht) (Bs.in_ hx) (by rw [hpl]; exact hg) (qj k) (by omega)).1 hget
   rintro e w' ⟨rfl,hb⟩;exact ⟨rfl,vo (hE.below hb),hb⟩)).mono ?_)
  rintro e w' ⟨rfl,w1,hb,rfl⟩;have hu2:=bQ w1 w4.heap.size 0 (.int .i64 8);have hbw:=hu2.below (bst hbc hb) (by omega);exact ⟨rfl,none,M,((hOr.below hA).below hb).upd hu2 (by omega),rfl,Fr.below M hbw,hi.below hbw,hbw,hi.free (by omega)⟩
 .refine EM M p k v hv0 hv1 (put t (path k) v) 0 w w4 vm ((Tk.qb 52 _ hD w4 (λw'=>∃ p' M' w6,IsT M' p' (put t (path k) v)/\St M wc M' w6/\Rg.Upd w6 (w.heap.size+3) w'/\Rg.Own w' (w.heap.size+3) #[.pointer p'] 46) (by
   rw [hwc];refine (Vs p k hk _ _ (w.heap.size+3) _ v wc (aE.below hA) (bc.below hA) (by omega) (by omega) (hOr.below hA) M hic (put t (path k) v) (λw5 hb5 a5 n5 c5 hx=>?_) (hO2.below hA) (by omega)).mono ?_
   .exact (Ij t (plus M (inS a5 n5)) w5 p a5 n5 c5 (path k) v ((hic.below hb5).plus (λk hk=>(uK hx hk).2)) (zW ht) (Bs.in_ hx) (by rw [hpl]; exact hg) (qj k) (by omega)).2 hget
   rintro e w' ⟨rfl,p',M',w6,h1,h2,h3,h4⟩;exact ⟨rfl,vo ((hE.below h2.b).upd h3 (by omega)),p',M',w6,h1,h2,h3,h4⟩)).mono ?_)
  rintro e w' ⟨rfl,w1,⟨p',M',w6,h1,h2,h3,h4⟩,rfl⟩;exact ⟨rfl,WC hi hbc h1 h2 h3 h4 (hOr.below hA) hE (VE _) (by omega) (by omega) (by omega) rfl _⟩
theorem Bx.fr {M M':Mp} {w w':World} {cs:aO} {t:TypeId} (h:Bx M w g cs t) (f:Fr M M' w w') (b:Below w.heap.size w w'):Bx M' w' g cs t:=h.got f b
theorem St.te {M M1:Mp} {w:World} {t:T} {c:Int} {e:Ending} (s:St M w M1 w1) (h:GJ M1 w1 t c e w2):∃ p M2,e = .returned (.tuple #[tv p,.int .i64 c])/\IsT M2 p t/\St M w M2 w2/\Fr M1 M2 w1 w2/\Below w1.heap.size w1 w2:=by
 obtain ⟨p,M2,he,ht,f,i,b⟩:=h;exact ⟨p,M2,he,ht,⟨s.f.trans s.i0 f,i,bst s.b b,s.i0⟩,f,b⟩
def JE (l:List Tr.Pair):Prop:=(∀ x∈l,x.1.length=32)/\∀ x∈l,x.2.size≠0/\x.2.size<=65552
theorem JE.has {l:List Tr.Pair} (h:JE l):Has (dV .nil l) (oO l):=LD l.length l rfl h.1 h.2
theorem JE.take {l:List Tr.Pair} (h:JE l) (j:Nat):JE (l.take j):=⟨λx hx=>h.1 x (List.mem_of_mem_take hx),λx hx=>h.2 x (List.mem_of_mem_take hx)⟩
theorem UD {t:T} {m:Tr.Key->Option aM} (h:Has t m) {k:Tr.Key} (hk:k.length=32):Tr.get t (path k)≠none:=by
 rw [h.get k hk];intro e;cases e
theorem Kv (M:Mp) (a:aL) (n c:Nat) (l:List Tr.Pair) (hok:JE l) (w:World) (hi:Inv M w) (h:Fy w a n c l) (hn:n<=1000000) :
  Calls prog 15 #[.slice a n c] w (dQ M w (dV .nil l)):=by
 obtain ⟨w2,hw2,aE,bc,hb2,hs2⟩:=mY w none;have hS2:St M w M w2:=(St.refl hi).below hb2;have hX0:Bx M w2 w.heap.size #[.pointer none] 46:=⟨aE,hi.free (by omega),jK _⟩
 have hX1:Bx M w2 (w.heap.size+1) #[.pointer none] 46:=⟨bc,hi.free (by omega),jK _⟩
 have hl:=h.len;have hcap:=h.1;have hmx:=h.2.1;unfold maxLen at hmx;have H:=hid h;have ff:=hid hok;have HL:=hid hl;have HS2:=hid hS2;have HX0:=hid hX0;have kx:=hid hX1;have HW2:Hid (_=_):=hid hw2;clear aE bc hb2 hs2 hw2 hS2 hX0 hX1 h hok hl hi;go_enter func15,ntmps15;go_wp2_with (first | (refine aB (bD _ _ _ w.heap.size rfl rfl) ?_) | (refine aB (bD _ _ _ (w.heap.size+1) (by simp) rfl) ?_))
 rw [<-HW2.out];clear HW2;go_loopw [10] (λi wr=>∃ (j:Nat) (p:aL) (Mr:Mp),j<=n/\i = .int .i64 j/\Hid (St M w Mr wr)/\Hid (Bx Mr wr w.heap.size #[.pointer none] 46)/\Hid (Bx Mr wr (w.heap.size+1) #[.pointer p] 46)/\Hid (IsT Mr p (dV .nil (l.take j)))) (λi _=>n-(intOf i).toNat)
 case atStart=>exact ⟨0,none,M,Nat.zero_le _,rfl,HS2,HX0,kx,hid rfl⟩
 case round =>
  obtain ⟨j,p,Mr,hj,rfl,HS,HA,HB,HT⟩:=hrel;clear HS2 HX0 kx;by_cases hlt:j<n
  .obtain ⟨b,off,rfl,hblt,hpa,hk⟩:=H.out.at' j hlt;have HE:Hid (l.getD j ([],eB)∈l/\l.take (j+1)=l.take j++[l.getD j ([],eB)]):=hid (by
    have hjl:j<l.length:=by rw [HL.out]; exact hlt
    have e:l.getD j ([],eB)=l[j]:=by simp [List.getD,hjl]
    rw [e];exact ⟨List.getElem_mem _,List.take_succ_eq_append_getElem hjl⟩)
   obtain ⟨x,hx⟩:=aA (l.getD j ([],eB))
   rw [hx] at hpa hk HE;have hpr:=hpa.below HS.out.b;have hx2:=ff.out.2 x HE.out.1;have hh:=(ff.out.take j).has;have qf:=HS.out.b.size;have fY:=hid (λw5 (h5:Inv Mr w5)=>(yH Mr p _ x.1 hk x.2 hx2.1 hx2.2 w5 h5 HT.out hh.good).2 (UD hh hk));rw [<-xX,<-HE.out.2] at fY;have SZ:=hid hpr;have CT:=hid hk;have hNew:=Rg.Own.new wr (mZ (List.replicate 32 0,eB)) 60;have HN:=hid hNew;have Yn:=hid hx2;obtain ⟨k,v⟩:=x;clear hx hpa hk hpr hx2 hh hNew HE HT;dsimp only at fY CT;go_wp2_with (first
    | (refine aB (Ei CT.out SZ.out ⟨_,rfl,rfl⟩) ?_)
    | (refine aB (Ao _ _ _ wr.heap.size rfl rfl) ?_)
    | (refine Az HN.out (by simp) (k,v) CT.out rfl _ _ rfl rfl rfl rfl ?_; intro w5 c8 cq; have cf:=hid c8; have al:Hid (Below wr.heap.size wr w5):=hid (cq.below (al1 _ _) aH); clear c8 cq)
    | (refine aB (aW (aV (j:=0) (HB.out.o.below al.out) rfl) ⟨_,rfl,rfl⟩) ?_)
    | (refine aB (yw CT.out (lq.own cf.out).key ⟨_,rfl,rfl⟩) ?_)
    | (refine aB (kT (s:=v) ((lq.own cf.out).val CT.out) ⟨_,rfl,rfl⟩) ?_))
   have hS5:=HS.out.below al.out;have hA5:=HA.out.below al.out;have eV:=HB.out.below al.out;refine (fY.out w5 hS5.i).mono ?_;intro e w6 hG;obtain ⟨p6,M6,rfl,uA,ke,eL,hb6⟩:=hS5.te hG;have hA6:=hA5.fr eL hb6;have d8:=eV.fr eL hb6;have Hb:=hid uA;have rg:=hid ke;have Yo:=hid hA6;have bd:=hid d8;have hs6:=ke.b.size;have hlb:=d8.o.1;have hNew:=Rg.Own.new w6 #[.pointer none] 46;have aq:=hid hNew;clear hG uA ke eL hb6 hA6 d8 hS5 hA5 eV fY cf al HN SZ Yn hNew HS HA HB;go_wp2_with (first
    | (refine aB (bD _ _ _ w6.heap.size rfl rfl) ?_)
    | (refine bU aq.out (by decide) p6 rfl _ _ rfl rfl rfl ?_; intro w7 dE cE; have cN:=hid dE; have cI:Hid (Below w6.heap.size w6 w7):=hid (cE.below (al1 _ _) aH); clear dE cE)
    | (refine aB (aW (aV (j:=0) cN.out rfl) ⟨_,rfl,rfl⟩) ?_)
    | (refine bU (bd.out.o.below cI.out) (by simp) p6 rfl _ _ rfl rfl rfl ?_; intro w8 ll j3; have cU:=hid ll; have Hc:=hid j3; clear ll j3))
   have C9:=rg.out.below cI.out;have hA7:=Yo.out.below cI.out;have Hd:=bd.out.below cI.out;go_roundw
   case rel=>exact ⟨j+1,p6,M6,by omega,by go_num,hid (C9.upd Hc.out (by omega) Hd.n),hid (hA7.upd Hc.out (by omega)),hid ⟨cU.out,Hd.n,jK _⟩,Hb⟩
   case measure=>simp [intOf]; omega
  .obtain rfl:j=n:=by omega
   have BW:Hid (IsT Mr p (dV .nil l)):=hid (by
    have:=HT.out;rwa [List.take_of_length_le (by rw [HL.out]; exact aH)] at this)
   clear HT;go_wp2_with (first
    | (refine aB (aW (aV (j:=0) HB.out.o rfl) ⟨_,rfl,rfl⟩) ?_)
    | (refine bU HA.out.o (by decide) p rfl _ _ rfl rfl rfl ?_; intro w8 ll j3; have cU:=hid ll; have Hc:=hid j3; clear ll j3))
   have rc:=HS.out.upd Hc.out aH HA.out.n;exact bodyPost_ret (gL rfl _ rfl cU.out) rfl ⟨p,Mr,rfl,BW.out,rc.f,rc.i,rc.b⟩
open No
open Rf
open Rl
open Sm (Tab)
structure Lw (w0:World) (M:Mp) (w:World):Prop where
 f:Fr M0 M w0 w
 i:Inv M w
 t:Tab w
 z:0<w0.heap.size
theorem Lw.start {w:World} (hT:Tab w):Lw w M0 w:=⟨Fr.refl _ _,Inv.zero w,hT,hT.pos⟩
theorem Lw.b {w0 w:World} {M:Mp} (h:Lw w0 M w):Below w0.heap.size w0 w:=h.f.all
theorem Lw.below {w0 w w':World} {M:Mp} (h:Lw w0 M w) (hb:Below w.heap.size w w'):Lw w0 M w':=⟨h.f.trans (Inv.zero _) (Fr.below M hb),h.i.below hb,h.t.below hb h.t.pos,h.z⟩
theorem Lw.fr {w0 w w':World} {M M':Mp} (h:Lw w0 M w) (f:Fr M M' w w') (i:Inv M' w') (t:Tab w'):Lw w0 M' w':=⟨h.f.trans (Inv.zero _) f,i,t,h.z⟩
theorem Lw.got {w0 w w':World} {M:Mp} {t:T} {e:Ending} (h:Lw w0 M w) (g:dQ M w t e w'):∃ p M',e = .returned (tv p)/\IsT M' p t/\Lw w0 M' w'/\Fr M M' w w'/\Below w.heap.size w w':=by
 obtain ⟨p,M',he,ht,f,i,b⟩:=g;exact ⟨p,M',he,ht,h.fr f i (h.t.below b h.t.pos),f,b⟩
theorem Lw.upd {w0 w w':World} {M:Mp} {g:Nat} (h:Lw w0 M w) (hu:Rg.Upd w g w') (hg:w0.heap.size<=g) (hf:¬ M.ft g):Lw w0 M w' :=
 ⟨h.f.upd hu hg,h.i.upd hu hf,λi hi=>by rw [World.cell?_of_block (hu.block 0 (by have:=h.z; omega))]; exact h.t i hi,h.z⟩
theorem vT {M M':Mp} {w w':World} {cs:aO} {t:TypeId} (h:Rg.Own w g cs t) (f:Fr M M' w w') (hm:M.at_ g=none):Rg.Own w' g cs t:=⟨aJ h.1 f.size,(f.block g h.1 hm).trans h.2⟩
theorem QM {M:Mp} {w:World} (hi:Inv M w) {g:Nat} (h:¬ M.ft g):M.at_ g=none:=by
 cases hm:M.at_ g with
 | none=>rfl
 | some t=>exact absurd (hi.part_ g t hm).2.1 h
theorem Bx.frm {M M':Mp} {w w':World} {cs:aO} {t:TypeId} (h:Bx M w g cs t) (hi:Inv M w) (f:Fr M M' w w'):Bx M' w' g cs t:=⟨vT h.o f (QM hi h.n),f.box h.n h.o.1 (gP h.o h.h),h.h⟩
theorem yj {M M':Mp} {w w':World} {j:Nat} {x:Int} {cs:aO} {t:TypeId} (h:Rg.Own w g cs t) (hx:cs[j]? = some (.int .u8 x)) (hi:Inv M w) (f:Fr M M' w w'):Rg.Own w' g cs t:=vT h f (hi.gP (aV h hx))
theorem KM {k:aN} (hk:k.length=32):(kc k)[0]? = some (.int .u8 (k.getD 0 0).toNat):=by
 simp [kc,List.getD,hk]
theorem Sj {w:World} {b:Nat} {t:TypeId} {l:List Tr.Pair} (h:Rg.Own w b (rowP l).toArray t) (hk:∀ x∈l,x.1.length=32) (hn:l.length<=1000000):Fy w (some ⟨b,0,none⟩) l.length l.length l:=by
 refine ⟨aH,by unfold maxLen; omega,rfl,λe=>(by cases e),hk,λj hj=>⟨b,0,rfl,h.1,λi v hv=>?_⟩⟩;have hkj:(l.getD j ([],eB)).1.length=32:=hk _ (gW hj);have hi:i<33:=by
  have:=(List.getElem?_eq_some_iff.1 hv).1;rwa [qg hkj] at this
 refine aV h ?_;rw [Nat.zero_add];simpa [KN l hk j i hj hi] using hv
theorem uR {rest:List Oper} {w:World} {b off:Nat} {cs:aO} {t:TypeId} (h:Rg.Own w b cs t) (hof:off<cs.size) (x:Int)
  (hgd:o.guard=none) (p q:Operand) (ho:o.op = .store 5 p q) (hx:act.eval p = .pointer (some ⟨b,off,none⟩)) (hy:act.eval q = .int .u8 x)
  (hQ:∀ w',Rg.Own w' b (cs.setIfInBounds off (.int .u8 x)) t->Rg.Upd w b w'->wpList prog ops Q rest (act.put o.dst undef) w'):wpList prog ops Q (o::rest) act w :=
 wpList_plain hgd λK hK=>by
  have hc:w.cell? ⟨b,off,none⟩=some cs[off]:=aV h (Array.getElem?_eq_getElem hof);have hz:w.frozen? ⟨b,off,none⟩=false:=fB h;have hst:(Instr.storeAt 5 (.pointer (some ⟨b,off,none⟩)) (.int .u8 x)).run prog w = .ok () (w.setCell ⟨b,off,none⟩ (.int .u8 x)):=by
   simp [go_sem,hc,hz]
  unfold Oper.wp execOp;simp only [ho,hx,hy,Sem.run_bind,Sem.run_pure,Result.andThen_ok,hst];exact hK _ _ (hQ _ (cO h _) (bQ _ _ _ _))
theorem SV (k:aN) (i:Nat) (x:UInt8):(kc k).setIfInBounds i (.int .u8 x.toNat)=kc (k.set i x):=by
 unfold kc;rw [List.map_set];simp
theorem EJ {w:World} {x z:Tr.Pair} (hk:x.1.length=32) (hz:z.1.length=32) (b:Nat) (hb:b=w.heap.size) (ho:∃ p q,o.op = .buildSlice 42 2 #[(0,p),(1,q)]/\ev p = .agg (mZ x)/\ev q = .agg (mZ z)) :
  (execOp ev o).run prog w = .ok (.value (.slice (some ⟨b,0,none⟩) 2 2)) (w.alloc (.cells (rowP [x,z]).toArray 60)):=by
 obtain ⟨p,q,ho,hx,hy⟩:=ho;obtain ⟨k,v⟩:=x;obtain ⟨k',v'⟩:=z;subst hb;unfold execOp;simp only [ho,List.map_toArray,List.map_cons,List.map_nil,hx,hy];obtain ⟨a0,a1,a2,a3,a4,a5,a6,a7,b0,b1,b2,b3,b4,b5,b6,b7,c0,c1,c2,c3,c4,c5,c6,c7,d0,d1,d2,d3,d4,d5,d6,d7,rfl⟩:=xq k hk;obtain ⟨e0,e1,e2,e3,e4,e5,e6,e7,f0,f1,f2,f3,f4,f5,f6,f7,g0,g1,g2,g3,g4,g5,g6,g7,h0,h1,h2,h3,h4,h5,h6,h7,rfl⟩:=xq k' hz;kernel_rfl
def ka:aN:=zk
def kb:aN:=zk.set 0 16
def sx:aM:=⟨#[120]⟩
def sy:aM:=⟨#[121]⟩
def lAB:List Tr.Pair:=[(ka,sx),(kb,sy)]
def lB:List Tr.Pair:=[(kb,sy)]
theorem JA:ka.length=32:=rfl
theorem oZ:kb.length=32:=rfl
theorem WE:JE lAB:=⟨λx hx=>by rcases List.mem_cons.1 hx with rfl | hx; exact JA; rw [List.mem_singleton.1 hx]; exact oZ,λx hx=>by rcases List.mem_cons.1 hx with rfl | hx; exact ⟨by decide,by decide⟩; rw [List.mem_singleton.1 hx]; exact ⟨by decide,by decide⟩⟩
theorem lastB (k:aN):oO lB k=if kb=k then some sy else none:=rfl
theorem TK (k:aN):oO lAB k=if kb=k then some sy else if ka=k then some sx else none:=by
 show (match oO lB k with | some v=>some v | none=>if ka=k then some sx else none)=_;rw [lastB];by_cases h:kb=k
 .rw [if_pos h,if_pos h]
 .rw [if_neg h,if_neg h]
theorem jC:Has (dV .nil lAB) (oO lAB):=WE.has
theorem Vw:Tr.get (dV .nil lAB) (path kb)=some (some sy):=by rw [jC.get kb oZ,TK,if_pos rfl]
end Tm
end
section
open Go.RowKit
namespace Rf
open Rl Ni No
theorem Hu {n:Nat} {w w':World} {v:Value} {xs:List Value} (h:w.ownsRow B e 1 v n xs) (hb:Below w.heap.size w w'):w'.ownsRow B e 1 v n xs:=h.kept (Bu.kG hb) (by cases v.ownBlock <;> simp)
end Rf
end
section
open Go.RowKit
namespace Tm
open Tr Ni Pk Ky No Rf Rl
open Sm (Tab)
section
variable {ks:List aM} {ps:List (aL)} {j:Nat}
end
namespace Aw
variable {w0:World} {M M':Mp} {w w':World} {gu gb gn:Nat} {pu:aL} {C:aO} {KB:aN}
end Aw
end Tm
end
section
open Go.RowKit Go.ChangeShapes Go.WideShapes
theorem VY {n:Int} (h:(Lit.int .u8 n).wf=true):0<=n/\n<256:=by
 have:=bounds_u8 h;omega
end
section
open Go.RowKit Go.ChangeShapes Go.WideShapes
namespace Ky
def byteOf:Value->UInt8
 | .int _ n=>UInt8.ofNat n.toNat
 | _=>0
theorem Rs {H:Type} {enc:TypeId × Value->H} {w:World} {t:TypeId} {v:Value} {d:DataW H} {p:List MemPlace}
  (ht:P.underlying t=some (.array 32 e)) (he:P.underlying e=some (.int .u8)) (hc:P.cellsOf e=1) (hct:P.cellsOf t=32)
  (hv:Value.okWide P w .any base t v) (h:DataW.Trod enc P w 0 (λ_=>true) true t v d p):∃ k:aN,v = .agg (kc k)/\k.length=32:=by
 unfold Value.okWide at hv;rw [ht] at hv;obtain ⟨cs,rfl,hsz,_⟩:=hv;rw [hct] at hsz;obtain ⟨fuel,hf⟩:=h;obtain ⟨xs,m,rfl,_,hcs,hxl,hel⟩:=DataW.trod_array ht hf;have each:∀ i,i<32->∃ n:Int,cs.toList[i]? = some (.int .u8 n)/\0<=n/\n<256:=λi hi=>by
  have hi':=hel i hi;rw [hc,Nat.mul_one] at hi';have hx:i<xs.length:=by omega
  rw [List.getElem?_eq_getElem hx] at hi';obtain ⟨n,hn,_,hw⟩:=DataW.trod_int he hi';have hlen:i<cs.toList.length:=by simpa [hsz] using hi
  have e1:(cs.toList.drop i).take 1=[cs.toList[i]]:=by
   rw [List.drop_eq_getElem_cons hlen]; rfl
  have e2:(Value.agg cs).cells.toList=cs.toList:=rfl;rw [e2,e1] at hn;injection hn with hn;refine ⟨n,?_,VY hw⟩;rw [List.getElem?_eq_getElem hlen,hn]
 refine ⟨cs.toList.map byteOf,?_,by simp [hsz]⟩;congr 1;apply Array.ext';unfold kc;rw [List.map_map];apply List.ext_getElem?;intro i;by_cases hi:i<32
 .obtain ⟨n,hn,h0,h1⟩:=each i hi;rw [hn];simp only [List.getElem?_map,hn,Option.map_some,Function.comp,byteOf];have:((UInt8.ofNat n.toNat).toNat:Int)=n:=by simp only [UInt8.toNat_ofNat']; omega
  rw [this]
 .rw [List.getElem?_eq_none (by simp [hsz]; omega),List.getElem?_eq_none (by simp [hsz]; omega)]
end Ky
end
section
open Go.RowKit Go.ChangeShapes Go.WideShapes Go.Deep
namespace Tm
open Tr Ni Pk Ky
section
variable {H:Type} {enc:TypeId × Value->H} {w:World} {fuel:Nat} {cs:List Value} {x:DataW H × List MemPlace}
end
end Tm
end
section
open Go.RowKit
namespace Tm
open Tr Ni Pk Ky No Rf Rl
open Sm (Tab)
namespace Do
variable {w0:World} {M M':Mp} {w w':World} {p p':aL} {t t':T} {W W':List Tr.Pair} {a a':aL} {c c' j:Nat}
end Do
end Tm
end
section
namespace Tr
open Rf Rl Ni No
end Tr
end
section
open Go.RowKit
namespace Tm
open Tr Ni Pk Ky
open No
open Rf
open Rl
open Sm (Tab)
section
variable {k:aN} {j:Nat}
end
namespace Yp
variable {w0:World} {M M':Mp} {w w':World} {b0 b1:Nat} {p p' q q':aL} {t t' s s':T}
end Yp
end Tm
end
section
open Go.RowKit
namespace Tm
open Tr Ni Pk Ky No Rf Rl
open Sm (Tab)
theorem Qe (t:T):(zN t).length<=16:=by
 cases t with
 | ext q s=>show 1<=16; omega
 | br ks =>
  show ((fD ks).map ks).length<=16;rw [List.length_map];exact Nat.le_trans (List.length_filter_le _ _) (by simp)
 | _=>exact Nat.zero_le _
namespace Yq
variable {w0:World} {M M':Mp} {w w':World} {bk bt:Nat} {K:aN} {p p':aL} {t t':T}
end Yq
namespace Yr
variable {w0:World} {M M':Mp} {w w':World} {bk bt:Nat} {K:aN} {p:aL} {t:T} {bn:Nat} {N:Nd} {a:aL} {n c:Nat} {ka:aL} {Zo:Nat} {ps:List (aL)}
end Yr
end Tm
end
section
namespace Tm
open Tr Rf Rl Ni No
structure Whl (t:T):Prop where
 fine:Fine t
 full:Tr.Full t
 good:∃ L,L<=64/\Tr.Good t L
theorem Whl.ns {t:T} (h:Whl t):¬ gK t:=lS h.full
theorem Whl.enc {t:T} (h:Whl t) (hn:t ≠ .nil):dP t≠eB/\(dP t).size<=900000:=by
 obtain ⟨L,hL,g⟩:=h.good;obtain ⟨h1,h2,h3,_⟩:=pz g hL h.fine hn h.ns;refine ⟨λe=>?_,h3⟩;have h4:=put_pos (ig _) h1;rw [h2] at e;have:=congrArg ByteArray.size e;rw [dM] at this;have h5:eB.size=0:=rfl;omega
end Tm
end
section
open Go.RowKit
namespace Tm
open Tr Ni Pk Ky No Rf Rl
open Sm (Tab)
structure FrK (M:Mp) (K:Nat->Prop) (w w':World):Prop where
 os:w'.os=w.os
 tape:w'.tape=w.tape
 output:w'.output=w.output
 size:w.heap.size<=w'.heap.size
 block:∀ k,k<w.heap.size->M.at_ k=none->¬ K k->w'.heap[k]? = w.heap[k]?
theorem FrK.refl (M:Mp) (K:Nat->Prop) (w:World):FrK M K w w:=⟨rfl,rfl,rfl,aH,λ_ _ _ _=>rfl⟩
theorem FrK.trans {M:Mp} {K K1:Nat->Prop} {w w1 w2:World} (h:FrK M K w w1) (g:FrK M K1 w1 w2) (hk:∀ k,K1 k->K k\/w.heap.size<=k):FrK M K w w2 :=
 ⟨g.os.trans h.os,g.tape.trans h.tape,g.output.trans h.output,Nat.le_trans h.size g.size,λk hl hm hn=>(g.block k (aJ hl h.size) hm λh1=>(hk k h1).elim hn (by omega)).trans (h.block k hl hm hn)⟩
theorem FrK.of {M:Mp} {K:Nat->Prop} {w w':World} (f:Fr M M w w'):FrK M K w w':=⟨f.os,f.tape,f.output,f.size,λk hl hm _=>f.block k hl hm⟩
theorem FrK.below {M:Mp} {K:Nat->Prop} {w:World} (h:FrK M K w w1) (hb:Below B w1 w2) (hB:w.heap.size<=B):FrK M K w w2 :=
 ⟨hb.os.trans h.os,hb.tape.trans h.tape,hb.output.trans h.output,Nat.le_trans h.size hb.size,λk hl hm hn=>(hb.block k (by omega)).trans (h.block k hl hm hn)⟩
theorem Inv.keep {M:Mp} {w w':World} (h:Inv M w) (hs:w.heap.size<=w'.heap.size) (hk:∀ k,M.ft k->w'.heap[k]? = w.heap[k]?):Inv M w':=by
 refine ⟨λk hk=>aJ (h.lt_ k hk) hs,λb t hm=>?_⟩;obtain ⟨h1,h2,h3⟩:=h.part_ b t hm;refine ⟨h1,h2,?_⟩;obtain ⟨a,n,c,ka,kn,kc,d,r,hb,hB,hK,hd⟩:=h3;refine ⟨a,n,c,ka,kn,kc,d,r,(hk b h2).trans hb,⟨⟨hB.1.1,hB.1.2.1,hB.1.2.2.1,hB.1.2.2.2.1,λj hj=>?_⟩,hB.2⟩,⟨hK.1,hK.2.1,hK.2.2.1,hK.2.2.2.1,λj hj=>?_⟩,hd⟩
 .obtain ⟨b',off,e,hlt,hc⟩:=hB.1.2.2.2.2 j hj;exact ⟨b',off,e,aJ hlt hs,by rw [World.cell?_of_block (hk b' (hB.2 _ e (by omega)))]; exact hc⟩
 .obtain ⟨b',off,p,e,hlt,hf,hc,ht⟩:=hK.at' j hj;exact ⟨b',off,p,e,aJ hlt hs,hf,by rw [World.cell?_of_block (hk b' hf)]; exact hc,ht⟩
theorem fC {sz n:Nat} {w w':World} {v:Value} {xs:List Value} (h:w.ownsRow B e sz v n xs) (hk:∀ k,v.ownBlock=some k->w'.heap[k]? = w.heap[k]?):w'.ownsRow B e sz v n xs:=by
 obtain ⟨h1,h2⟩:=h;refine ⟨h1,?_⟩;rcases h2 with h2 | ⟨g,cap,cur,rfl,hg,hh,hr⟩
 .exact .inl h2
 .exact .inr ⟨g,cap,cur,rfl,hg,(hk g rfl).trans hh,hr⟩
theorem jW {sz n:Nat} {w:World} {v:Value} {xs:List Value} (h:w.ownsRow B e sz v n xs):∃ a c,v = .slice a n c:=by
 rcases h.2 with ⟨rfl,rfl⟩ | ⟨g,cap,cur,rfl,_⟩
 .exact ⟨_,_,rfl⟩
 .exact ⟨_,_,rfl⟩
def KQ (M:Mp):aL->T
 | none=>.nil
 | some ad=>(M.at_ ad.block).getD .nil
theorem IsT.KQ {M:Mp} {p:aL} {t:T} (h:IsT M p t):Tm.KQ M p=t:=by
 cases p with
 | none=>exact Eq.symm h
 | some ad =>
  obtain ⟨b,rfl,hm,_⟩:=h;show (M.at_ b).getD .nil=t;rw [hm]; rfl
section
variable {M:Mp} {J:List T->(Nat->Prop)->World->Prop} {K0:Nat->Prop} {w0 w:World} {t:T} {v:Value} {V S:List T} {ps:List (aL)} {K:Nat->Prop}
end
end Tm
end
section
open Go.RowKit
namespace ew
abbrev FW (r:Option Nat):Fence:={ Fence.wide with round:=r }
def jT (o:Oper):Bool:=match o.op with
 | .defer _=>false
 | _=>true
theorem vD (h:jT o=true):∀ c,o.op ≠ .defer c:=λc e=>by
 unfold jT at h;rw [e] at h;cases h
theorem SE {P:Program} {r:Option Nat} {n:Nat} {o:Oper} {a:Act} {w:World} {K K':Act->World->Prop} {Q Q':Exit->Act->World->Prop} (hd:jT o=true) (hK:∀ a w,K a w->K' a w) (hQ:∀ c a w,Q (.panic c) a w->Q' (.panic c) a w) (hL:¬ LetsOut Q)
  (h:o.wp P a w K Q):o.wpIn (FW r) n P a w K' Q':=by
 refine ⟨λ_ _=>trivial,?_⟩;have e:o.semAt (FW r).round a.eval=execOp a.eval o:=Oper.semAt_eq _ _ _ (vD hd);rw [e];unfold Oper.wp at h;revert h;generalize (execOp a.eval o).run P w=res;intro h;cases res with
 | ok nx w' =>
  cases nx with
  | value v=>exact hK _ _ h
  | skip=>exact hK _ _ h
  | defer d=>exact hK _ _ h
  | enter f args =>
   refine ⟨λhh=>(by cases hh),callsIn_wide.2 (Calls.mono h λe w2 he=>?_)⟩;cases e with
   | returned v=>exact hK _ _ he
   | panicked c=>exact hQ _ _ _ he
   | outgrown=>exact absurd he hL
  | row row args =>
   refine ⟨λhh=>(by cases hh),λc cs _=>?_⟩;obtain ⟨v,w2,hr,hs⟩:=h c cs;exact ⟨v,w2,hK _ _ hr,stepsIn_wide.2 hs⟩
  | _=>exact h.elim
 | halt x w' =>
  cases x with
  | panic v=>exact hQ _ _ _ h
  | _=>exact h.elim
theorem om {P:Program} {r:Option Nat} {n:Nat} {ops:Array Oper} {Q Q1:Exit->Act->World->Prop} (hQ:∀ c a w,Q1 (.panic c) a w->Q (.panic c) a w) (hL:¬ LetsOut Q1) (l2:List Oper) (hK:∀ a w,Q1 .normal a w->wpListIn (FW r) n P ops Q l2 a w) :
  ∀ (l1:List Oper) (a:Act) (w:World),l1.all jT=true->wpList P ops Q1 l1 a w->wpListIn (FW r) n P ops Q (l1++l2) a w
 | [],a,w,_,h=>hK a w h
 | o::l1,a,w,hd,h=>by
  rw [List.all_cons,Bool.and_eq_true] at hd;unfold wpList at h;show wpListIn (FW r) n P ops Q (o::(l1++l2)) a w;unfold wpListIn;by_cases hw:Region.wanted o (yielded ops a.tmps)=true
  .rw [if_pos hw] at h ⊢;rcases h with h | h
   .exact SE hd.1 (λa w g=>om hQ hL l2 hK l1 a w hd.2 g) hQ hL h
   .exact absurd h.2 hL
  .rw [if_neg hw] at h ⊢;exact ⟨λ_ _=>trivial,om hQ hL l2 hK l1 _ w hd.2 h⟩
theorem Oz {K:Act->World->Prop} (h:¬ LetsOut Q):¬ LetsOut (Exit.then K Q):=h
theorem rP {r:Option Nat} {n:Nat} {a:Act} {w:World} {l:List Oper} (hd:l.all jT=true) (hL:¬ LetsOut Q) (h:wpList P l.toArray Q l a w):(Code.region id l.toArray false).wpIn (FW r) n P Q a w:=by
 have:=om (P:=P) (r:=r) (n:=n) (ops:=l.toArray) (λ_ _ _ h=>h) hL [] (λ_ _ h=>h) l a w hd h;rw [List.append_nil] at this;exact wpIn_region_lit this
theorem uN {r:Option Nat} {n:Nat} {a:Act} {w:World} {l:List Oper} (hd:l.all jT=true) (hL:¬ LetsOut Q) (h:wpList P ops Q l a w):wpListIn (FW r) n P ops Q l a w:=by
 have:=om (P:=P) (r:=r) (n:=n) (ops:=ops) (λ_ _ _ h=>h) hL [] (λ_ _ h=>h) l a w hd h;rw [List.append_nil] at this;exact this
theorem Xr {P:Program} {r:Option Nat} {n:Nat} {ops:Array Oper} {Q:Exit->Act->World->Prop} {K:Act->World->Prop} {i:Nat} {a:Act} {w:World} (hd:∀ o∈ops,jT o=true) (hL:¬ LetsOut Q) (h:wpOp P ops Q i K a w):wpOpIn (FW r) n P ops Q i K a w:=by
 unfold wpOp at h;unfold wpOpIn;cases ho:ops[i]? with
 | none=>rw [ho] at h; exact h
 | some o =>
  rw [ho] at h;dsimp only at h ⊢;by_cases hw:Region.wanted o (yielded ops a.tmps)=true
  .rw [if_pos hw] at h ⊢;rcases h with h | h
   .exact SE (hd o (Array.mem_of_getElem? ho)) (λ_ _ g=>g) (λ_ _ _ g=>g) hL h
   .exact absurd h.2 hL
  .rw [if_neg hw] at h ⊢;exact ⟨λ_ _=>trivial,h⟩
theorem Wi {P:Program} {r:Option Nat} {n:Nat} {md:Region.Mode} {ops:Array Oper} {Q:Exit->Act->World->Prop} (hd:∀ o∈ops,jT o=true) (hL:¬ LetsOut Q):∀ (fuel:Nat) (listed:Array Bool) (a:Act) (w:World),wpAny P md ops Q fuel listed a w->wpAnyIn (FW r) n P md ops Q fuel listed a w
 | 0,_,_,_,h=>h
 | fuel+1,_,_,_,h=>⟨h.1,λi hi=>wpOpIn_mono (λa w g=>Wi hd hL fuel _ a w g) (Xr hd hL (h.2 i hi))⟩
theorem WL {r:Option Nat} {n:Nat} {S:World->Prop} {a:Act} {w:World} (hm:P.follows .mixedOrders=true) (hd:ops.toList.all jT=true) (hL:¬ LetsOut Q) (hS:S w.drew)
  (h:S w.drew->wpAnyH P .any ops Q S ops.size (Array.replicate ops.size false) a w.drew):(Code.region id ops true).wpIn (FW r) n P Q a w :=
 wpIn_region_any hm (Wi (λo ho=>List.all_eq_true.1 hd o (by simpa using ho)) hL _ _ _ _ (wpAny_of_held _ _ _ _ (h hS)))
theorem Vg {r:Option Nat} {n:Nat} {rest:List Oper} {a:Act} {w:World} {l:Nat} {R:Ending->World->Prop} (hw:Region.wanted o (yielded ops a.tmps)=true) (hd:jT o=true)
  (ho:(execOp a.eval o).run P w=(Instr.yield l args).run P w) (hY:YieldAt Fence.wide 0 P l args w R)
  (h:∀ e w',R e w'->∃ v,e = .returned v/\wpListIn (FW r) 0 P ops Q rest (a.put o.dst v) w'):wpListIn (FW r) 0 P ops Q (o::rest) a w:=by
 unfold wpListIn;rw [if_pos hw];refine ⟨λ_ _=>trivial,?_⟩;have e:o.semAt (FW r).round a.eval=execOp a.eval o:=Oper.semAt_eq _ _ _ (vD hd);rw [e,ho];obtain ⟨fn,tmps,assign,body,hy,hR⟩:=hY;rw [hy];refine ⟨λhh=>(by cases hh),RoundIn.mono hR λe w' hr=>?_⟩;obtain ⟨v,rfl,g⟩:=h e w' hr;exact g
theorem xB {f:FuncId} {fn:Func} {c:Code} {w:World} {R:Ending->World->Prop} (hf:P.funcs[f]? = some fn) (hb:fn.body=some c)
  (h:c.wp P (bodyPostM Fence.wide 0 P fn R) { tmps:=args++Array.replicate (fn.ntmps-args.size) undef,defers:=[] } w):Calls P f args w R :=
 callsIn_wide.1 (callsIn_of_wp_marks (n:=0) hf hb trivial (wpIn_wide.2 h))
def marks (Ds:List Nat):List Deferred:=Ds.map λD=>{ target:=.collected D,args:=#[] }
def shut (w:World):List Nat->World
 | []=>w
 | D::Ds=>shut (w.putObj D (.deferred none)) Ds
theorem sF:∀ (Ds:List Nat) (w:World),(shut w Ds).heap.size=w.heap.size
 | [],_=>rfl
 | D::Ds,w=>by
  show (shut (w.putObj D (.deferred none)) Ds).heap.size=_;rw [sF,World.putObj_size]
theorem qC:∀ (Ds:List Nat) (w:World) (k:Nat),k ∉ Ds->(shut w Ds).heap[k]? = w.heap[k]?
 | [],_,_,_=>rfl
 | D::Ds,w,k,h=>by
  show (shut (w.putObj D (.deferred none)) Ds).heap[k]? = _;rw [qC Ds _ k (λg=>h (List.mem_cons_of_mem _ g)),World.putObj_heap_other (λe=>h (by rw [e]; exact List.mem_cons_self))]
theorem Ca:∀ (Ds:List Nat) (w:World),(shut w Ds).os=w.os/\(shut w Ds).tape=w.tape/\(shut w Ds).output=w.output
 | [],_=>⟨rfl,rfl,rfl⟩
 | D::Ds,w=>Ca Ds (w.putObj D (.deferred none))
theorem nE {P:Program} {fn:Func} {tmps:aO} {R:Ending->World->Prop}:∀ (Ds:List Nat) (w:World),Ds.Nodup->(∀ D∈Ds,w.heap[D]? = some (.deferred (some [])))->LeavesIn Fence.wide 0 P fn tmps R [] .returning (shut w Ds)->LeavesInM Fence.wide 0 P fn tmps R (marks Ds) .returning w
 | [],_,_,_,h=>h
 | D::Ds,w,hn,hD,h=>by
  obtain ⟨h1,h2⟩:=List.nodup_cons.1 hn;refine ⟨by simp,.inl ⟨_,_,rfl,run_takeDeferred (hD D List.mem_cons_self),nE Ds _ h2 (λE hE=>?_) h⟩⟩;rw [World.putObj_heap_other (λe=>h1 (by rw [<-e]; exact hE))];exact hD E (List.mem_cons_of_mem _ hE)
end ew
namespace Tm
open Tr Ni Pk Ky No Rf Rl ew
open Sm (Tab)
structure Sta {α:Type} (M:Mp) (J:List α->(Nat->Prop)->World->Prop):Prop where
 st:∀ V K w w',J V K w->w.heap.size<=w'.heap.size->(∀ k,K k->w'.heap[k]? = w.heap[k]?)->J V K w'
 lt:∀ V K w,J V K w->∀ k,K k->k<w.heap.size/\M.at_ k=none/\¬ M.ft k
structure Rnd {α:Type} (M:Mp) (J:List α->(Nat->Prop)->World->Prop) (V:List α) (K:Nat->Prop) (n:Nat) (x : α) (w w':World) (K':Nat->Prop):Prop where
 j:J (V++[x]) K' w'
 sub:∀ k,K' k->K k\/n<=k
 f:FrK M K w w'
 i:Inv M w'
 t:Tab w'
def Xb {α:Type} (M:Mp) (gf:Nat) (lb:aO) (A : α->World->aO->Prop) (G:List α) (Pre:World->(Nat->Prop)->Prop):Prop :=
 ∀ (l:Nat) (J Js:List α->(Nat->Prop)->World->Prop) (K0:Nat->Prop) (w:World),Sta M J->Sta M Js->Pre w K0->Inv M w->Tab w->J [] K0 w->
  (∀ V K x args wx,J V K wx->FrK M K0 w wx->Inv M wx->Tab wx->V++[x]<+:G->A x wx args->YieldAt Fence.wide 0 prog l args wx λe w'=>∃ K',(e = .returned (.bool true)/\Rnd M J V K wx.heap.size x wx w' K')\/(e = .returned (.bool false)/\Rnd M Js V K wx.heap.size x wx w' K'))->
  Calls prog gf (#[.func (.yield l) #[] #[]]++lb) w λe w'=>(∃ v,e = .returned v)/\∃ V K,(V=G/\J V K w'\/V<+:G/\Js V K w')/\FrK M K0 w w'/\Inv M w'/\Tab w'/\∀ k,K k->K0 k\/w.heap.size<=k
structure Turn (l:Nat) (w w':World):Prop where
 u:Rg.Upd w l w'
 r:∃ r,w.heap[l]? = some (.loop r)
theorem Turn.cell {l:Nat} {w w':World} (h:Turn l w w') {p:Addr} {v:Value} (hc:w.cell? p=some v):w'.cell? p=some v:=by
 obtain ⟨r,hr⟩:=h.r;have hne:p.block≠l:=λe=>by
  unfold World.cell? at hc;rw [e,hr] at hc;cases hc
 rw [World.cell?_of_block (h.u.block p.block hne)];exact hc
theorem Turn.own {l:Nat} {w w':World} (h:Turn l w w') {b:Nat} {cs:aO} {T:TypeId} (ho:Rg.Own w b cs T):Rg.Own w' b cs T:=by
 obtain ⟨r,hr⟩:=h.r;refine ho.upd h.u (λe=>?_);have h1:=ho.2;rw [e,hr] at h1;cases h1
def Vb {α:Type} (M:Mp) (I:List α->(Nat->Prop)->World->Prop) (Ix:Code->List α->(Nat->Prop)->World->Prop) (V:List α) (K:Nat->Prop) (n:Nat) (x : α) (w:World):Exit->Go.Act->World->Prop
 | .normal,_,w3=>∃ K',Rnd M I V K n x w w3 K'
 | .ret,_,w3=>∃ K',Rnd M (Ix .ret) V K n x w w3 K'
 | .exit id,_,w3=>∃ K',Rnd M (Ix (.exit id)) V K n x w w3 K'
 | .goto t,_,w3=>∃ K',Rnd M (Ix (.goto t)) V K n x w w3 K'
 | .panic _,_,_=>False
 | .outgrown,_,_=>False
theorem TB {α:Type} {M:Mp} {g:Operand} {ps:Array Tmp} {assign body:Code} {Q:Exit->Go.Act->World->Prop} {a:Go.Act} {w:World} {gf:Nat} {lb:aO} (hg:a.eval g = .func (.func gf) #[] lb) (eg:∀ args w,(callFunc gf args).run prog w = .ok (.enter gf args) w)
  {A : α->World->aO->Prop} {G:List α} {Pre:World->(Nat->Prop)->Prop} (hseq:Xb M gf lb A G Pre) (hps:∀ x W args,A x W args->args.size=ps.size) {K0:Nat->Prop} (hpre:∀ W1 K1,Below w.heap.size w W1->(∀ k,K1 k->K0 k\/w.heap.size<=k)->Pre W1 K1) (hi:Inv M w) (hT:Tab w)
  {I:List α->(Nat->Prop)->World->Prop} (hI:Sta M I) {Ix:Code->List α->(Nat->Prop)->World->Prop} (hIx:∀ c,Sta M (Ix c)) (h0:I [] K0 w)
  (fy:∀ (l:Nat) (V:List α) (K:Nat->Prop) (x : α) (args:aO) (W:World) (S:Go.Act->World->Prop),w.heap.size<=l->l<W.heap.size->¬ K l->I V K W->FrK M K0 w W->(∀ k,K k->K0 k\/w.heap.size<=k)->Inv M W->Tab W->V++[x]<+:G->A x W args->
   (∀ a' W',Below W.heap.size W W'->(∀ W2,Turn l W' W2->body.wpIn (FW (some l)) 0 prog (Vb M I Ix V K W.heap.size x W2) a' W2)->S a' W')->
   assign.wpIn (FW (some l)) 0 prog (Exit.then S (λ_ _ _=>False)) { tmps:=(ps.zip args).foldl (λt (p,v)=>t.setIfInBounds p v) a.tmps,defers:=[] } W)
  (hdone:∀ K W,I G K W->FrK M K0 w W->Inv M W->Tab W->(∀ k,K k->K0 k\/w.heap.size<=k)->W.heap[w.heap.size]? = some (.deferred (some []))->¬ K w.heap.size->Q .normal { a with defers:={ target:=.collected w.heap.size,args:=#[] }::a.defers } W)
  (hstop:∀ c V K W,V<+:G->Ix c V K W->FrK M K0 w W->Inv M W->Tab W->(∀ k,K k->K0 k\/w.heap.size<=k)->W.heap[w.heap.size]? = some (.deferred (some []))->¬ K w.heap.size->c.wp prog Q { a with defers:={ target:=.collected w.heap.size,args:=#[] }::a.defers } W) :
  (Code.rangeFunc g ps assign body).wp prog Q a w:=by
 refine (wpIn_wide (n:=0)).1 (wpIn_rangeFunc λfn hfn=>?_);obtain ⟨rec,hrec⟩:∃ rec:LoopState->Option Code->Loop,rec=λst pe=>{ state:=st,pending:=pe,fn,tmps:=a.tmps,params:=ps,assign,body,defers:=w.heap.size }:=⟨_,rfl⟩
 obtain ⟨W1,hW1⟩:=aA ((w.alloc (.deferred (some []))).alloc (.loop (rec .ready none)))
 have hL1:W1.heap[w.heap.size+1]? = some (.loop (rec .ready none)):=by
  rw [<-hW1]; have:=World.alloc_heap_new (w.alloc (.deferred (some []))) (.loop (rec .ready none)); rwa [World.size_alloc] at this
 have hK1:W1.heap[w.heap.size]? = some (.deferred (some [])):=by
  rw [<-hW1]; exact (Below.heap_alloc _ _ _ (by simp)).trans (World.alloc_heap_new w _)
 have hb1:Below w.heap.size w W1:=by rw [<-hW1]; exact ((Below.refl _ w).alloc aH _).alloc (by simp) _
 have hs1:W1.heap.size=w.heap.size+2:=by rw [<-hW1]; simp
 obtain ⟨D,hD⟩:=aA w.heap.size
 have hout:∀ k,D<=k->M.at_ k=none/\¬ M.ft k:=λk hk=>⟨hi.out (by omega),hi.free (by omega)⟩
 have hz:0<D:=by rw [<-hD]; exact hT.pos
 have vn:=hI.lt _ _ _ h0;refine ⟨w.heap.size+1,[{ target:=.collected w.heap.size,args:=#[] }],W1,{ target:=.fn (.func gf) lb,args:=#[.func (.yield (w.heap.size+1)) #[] #[]] },W1,gf,
  #[.func (.yield (w.heap.size+1)) #[] #[]]++lb,W1,?_,?_,λ_ _=>trivial,?_,λhh=>(by cases hh),?_⟩
 .rw [<-hW1,hrec]; exact run_enterLoop_outer _ _ _ _ _
 .simp only [resolve,hg];simp [go_sem]
 .simp [invoke,go_sem,eg]
 .rw [hD] at hL1 hK1 hb1 hs1 ⊢;simp only [hD] at fy hdone hstop hpre hrec hT;have vq:∀ (I:List α->(Nat->Prop)->World->Prop) (st:LoopState) (pe:Option Code),Sta M I->Sta M (λV K' W=>∃ K,I V K W/\(∀ k,K' k↔K k\/k=D\/k=D+1)/\¬ K D/\¬ K (D+1)/\(∀ k,K k->K0 k\/D<=k)/\W.heap[D+1]? = some (.loop (rec st pe))/\W.heap[D]? = some (.deferred (some []))):=λI st pe hI=>by
   refine ⟨λV K' W W' ⟨K,h1,h2,h3,h4,h5,h6,h7⟩ hs hk=>⟨K,hI.st _ _ _ _ h1 hs λk hk'=>hk k ((h2 k).2 (.inl hk')),h2,h3,h4,h5,(hk _ ((h2 _).2 (.inr (.inr rfl)))).trans h6,(hk _ ((h2 _).2 (.inr (.inl rfl)))).trans h7⟩,λV K' W ⟨K,h1,h2,h3,h4,h5,h6,h7⟩ k hk=>?_⟩;rcases (h2 k).1 hk with h | rfl | rfl
   .exact hI.lt _ _ _ h1 k h
   .exact ⟨(Array.getElem?_eq_some_iff.1 h7).1,hout _ aH⟩
   .exact ⟨(Array.getElem?_eq_some_iff.1 h6).1,hout _ (Nat.le_succ _)⟩
  have Mu:Sta M (λV K' W=>∃ c K,Ix c V K W/\(∀ k,K' k↔K k\/k=D\/k=D+1)/\¬ K D/\¬ K (D+1)/\(∀ k,K k->K0 k\/D<=k)/\W.heap[D+1]? = some (.loop (rec .done (some c)))/\W.heap[D]? = some (.deferred (some []))) :=
   ⟨λV K' W W' ⟨c,h⟩ hs hk=>⟨c,(vq (Ix c) .done (some c) (hIx c)).st V K' W W' h hs hk⟩,λV K' W ⟨c,h⟩=>(vq (Ix c) .done (some c) (hIx c)).lt V K' W h⟩
  have hi1:Inv M W1:=hi.keep hb1.size λk hk=>hb1.block k (by rw [<-hD]; exact hi.lt_ k hk);have hT1:Tab W1:=hT.below hb1 hz;refine callsIn_wide.2 ((hseq (D+1) _ _ (λk=>K0 k\/k=D\/k=D+1) W1 (vq I .ready none hI) Mu (hpre W1 _ hb1 λk hk=>hk.elim Or.inl λh=>.inr (by omega)) hi1 hT1
   ⟨K0,hI.st _ _ _ _ h0 hb1.size λk hk=>hb1.block k (by have:=(vn k hk).1; omega),λk=>Iff.rfl,λh=>by have:=(vn _ h).1; omega,λh=>by have:=(vn _ h).1; omega,λk hk=>.inl hk,hL1,hK1⟩ ?_).mono ?_)
  .-- one round
   rintro V K' x args W ⟨K,hj,mA,rh,lw,hKs,hl,hd⟩ mf sq ri hpf hA;have hf0:FrK M K0 w W:=⟨mf.os.trans hb1.os,mf.tape.trans hb1.tape,mf.output.trans hb1.output,by have:=mf.size; omega,λk hk hm hn=>by
    have My:k<D:=by omega
    rw [mf.block k (by omega) hm (λg=>g.elim hn (by omega)),hb1.block k (by omega)]⟩
   have hlt:D+1<W.heap.size:=(Array.getElem?_eq_some_iff.1 hl).1;have hy:=run_yield (P:=prog) (args:=args) hl (by rw [hrec]; exact hps x W args hA);rw [hrec] at hy;refine ⟨fn,_,assign,body,hy,roundIn_of_wpIn trivial (fy (D+1) V K x args W _ (Nat.le_succ _) hlt lw hj hf0 hKs sq ri hpf hA λa' W' hb' hbody=>?_)⟩;have hl':W'.heap[D+1]? = some (.loop (rec .ready none)):=(hb'.block _ hlt).trans hl;have hd':W'.heap[D]? = some (.deferred (some [])):=(hb'.block _ (by omega)).trans hd;refine ⟨_,run_beginRound hl' (by rw [hrec]),?_⟩
   have hu2:Rg.Upd W' (D+1) (W'.putObj (D+1) (.loop { rec .ready none with state:=.busy })):=⟨rfl,rfl,rfl,World.putObj_size,λk hk=>World.putObj_heap_other hk⟩
   have hl2:(W'.putObj (D+1) (.loop { rec .ready none with state:=.busy })).heap[D+1]? = some (.loop { rec .ready none with state:=.busy }):=World.putObj_heap_same (Array.getElem?_eq_some_iff.1 hl').1;have hd2:=(hu2.block D (by omega)).trans hd';refine wpIn_mono (hbody _ ⟨hu2,_,hl'⟩) ?_;generalize hW2:W'.putObj (D+1) (.loop { rec .ready none with state:=.busy })=W2 at hu2 hl2 hd2;have fin:∀ (c:Option Code) (I':List α->(Nat->Prop)->World->Prop) (W3:World) (K3:Nat->Prop),Sta M I'->Rnd M I' V K W.heap.size x W2 W3 K3->
     (Instr.endRound (D+1) c).run prog W3 = .ok (.bool c.isNone) (W3.putObj (D+1) (.loop (rec (if c.isNone then .ready else .done) c)))/\
     Rnd M (λV K' W=>∃ K,I' V K W/\(∀ k,K' k↔K k\/k=D\/k=D+1)/\¬ K D/\¬ K (D+1)/\(∀ k,K k->K0 k\/D<=k)/\W.heap[D+1]? = some (.loop (rec (if c.isNone then .ready else .done) c))/\W.heap[D]? = some (.deferred (some []))) V K' W.heap.size x W (W3.putObj (D+1) (.loop (rec (if c.isNone then .ready else .done) c))) (λk=>K3 k\/k=D\/k=D+1):=λc I' W3 K3 hI' h=>by
    have hs2:W2.heap.size=W'.heap.size:=hu2.size;have hs':=hb'.size;have hl3:W3.heap[D+1]? = some (.loop { rec .ready none with state:=.busy }):=(h.f.block _ (by omega) (hout _ (by omega)).1 lw).trans hl2;have hd3:W3.heap[D]? = some (.deferred (some [])):=(h.f.block _ (by omega) (hout _ (by omega)).1 rh).trans hd2;have hr:=run_endRound (P:=prog) c hl3;rw [hrec] at hr ⊢
    have hu3:Rg.Upd W3 (D+1) (W3.putObj (D+1) (.loop { state:=(if c.isNone then .ready else .done),pending:=c,fn,tmps:=a.tmps,params:=ps,assign,body,defers:=D })):=⟨rfl,rfl,rfl,World.putObj_size,λk hk=>World.putObj_heap_other hk⟩
    have hnD:¬ K3 D:=λhk=>(h.sub _ hk).elim rh (by omega);have D0:¬ K3 (D+1):=λhk=>(h.sub _ hk).elim lw (by omega);refine ⟨hr,⟨⟨K3,hI'.st _ _ _ _ h.j (by rw [hu3.size]; exact aH) λk hk=>hu3.block k λe=>D0 (by rw [<-e]; exact hk),λk=>Iff.rfl,hnD,D0,λk hk=>(h.sub k hk).elim (hKs k) (by omega),World.putObj_heap_same (Array.getElem?_eq_some_iff.1 hl3).1,(hu3.block D (by omega)).trans hd3⟩,λk hk=>?_,?_,h.i.upd hu3 (hout _ (by omega)).2,λj hj=>?_⟩⟩
    .rcases hk with hk | hk
     .exact (h.sub k hk).elim (λg=>.inl ((mA k).2 (.inl g))) .inr
     .exact .inl ((mA k).2 (.inr hk))
    .refine ⟨hu3.os.trans (h.f.os.trans (hu2.os.trans hb'.os)),hu3.tape.trans (h.f.tape.trans (hu2.tape.trans hb'.tape)),hu3.output.trans (h.f.output.trans (hu2.output.trans hb'.output)),by rw [hu3.size]; exact Nat.le_trans (by omega) h.f.size,λk hk hm hn=>?_⟩;have hne:k≠D+1:=λe=>hn ((mA k).2 (.inr (.inr e)));rw [hu3.block k hne,h.f.block k (by omega) hm (λg=>hn ((mA k).2 (.inl g))),hu2.block k hne,hb'.block k hk]
    .rw [World.cell?_of_block (hu3.block 0 (by omega))];exact h.t j hj
   rintro e a3 W3 hp;cases e with
   | normal =>
    obtain ⟨K3,hp⟩:=hp;obtain ⟨h1,h2⟩:=fin none I W3 K3 hI hp;exact ⟨_,_,h1,_,.inl ⟨rfl,h2⟩⟩
   | ret =>
    obtain ⟨K3,hp⟩:=hp;obtain ⟨h1,h2⟩:=fin (some .ret) (Ix .ret) W3 K3 (hIx _) hp;exact ⟨_,_,h1,_,.inr ⟨rfl,⟨_,h2.j⟩,h2.sub,h2.f,h2.i,h2.t⟩⟩
   | exit id =>
    obtain ⟨K3,hp⟩:=hp;obtain ⟨h1,h2⟩:=fin (some (.exit id)) (Ix (.exit id)) W3 K3 (hIx _) hp;exact ⟨_,_,h1,_,.inr ⟨rfl,⟨_,h2.j⟩,h2.sub,h2.f,h2.i,h2.t⟩⟩
   | goto t =>
    obtain ⟨K3,hp⟩:=hp;obtain ⟨h1,h2⟩:=fin (some (.goto t)) (Ix (.goto t)) W3 K3 (hIx _) hp;exact ⟨_,_,h1,_,.inr ⟨rfl,⟨_,h2.j⟩,h2.sub,h2.f,h2.i,h2.t⟩⟩
   | panic ch=>exact hp.elim
   | outgrown=>exact hp.elim
  .-- behind the iterator
   rintro e W2 ⟨⟨v,rfl⟩,V,K',hV,f2,i2,t2,hsub⟩;have key:∀ (c:Option Code) (st:LoopState) (I':List α->(Nat->Prop)->World->Prop),Sta M I'->st ≠ .busy->(∃ K,I' V K W2/\(∀ k,K' k↔K k\/k=D\/k=D+1)/\¬ K D/\¬ K (D+1)/\(∀ k,K k->K0 k\/D<=k)/\W2.heap[D+1]? = some (.loop (rec st c))/\W2.heap[D]? = some (.deferred (some [])))->
     ∃ W4 K,(Instr.endLoop (D+1)).run prog W2 = .ok c W4/\I' V K W4/\FrK M K0 w W4/\Inv M W4/\Tab W4/\(∀ k,K k->K0 k\/D<=k)/\W4.heap[D]? = some (.deferred (some []))/\¬ K D:=λc st I' hI' hst ⟨K,hj,mA,rh,lw,hKs,hl,hd⟩=>by
    have hr:=run_endLoop (P:=prog) hl (by rw [hrec]; exact hst);rw [hrec] at hr;have hu3:Rg.Upd W2 (D+1) (W2.putObj (D+1) (.loop { state:=.exhausted,pending:=c,fn,tmps:=a.tmps,params:=ps,assign,body,defers:=D })):=⟨rfl,rfl,rfl,World.putObj_size,λk hk=>World.putObj_heap_other hk⟩
    refine ⟨_,K,hr,hI'.st _ _ _ _ hj (by rw [hu3.size]; exact aH) (λk hk=>hu3.block k λe=>lw (by rw [<-e]; exact hk)),?_,i2.upd hu3 (hout _ (by omega)).2,λj hj=>?_,hKs,(hu3.block D (by omega)).trans hd,rh⟩
    .have hs2:=f2.size;refine ⟨hu3.os.trans (f2.os.trans hb1.os),hu3.tape.trans (f2.tape.trans hb1.tape),hu3.output.trans (f2.output.trans hb1.output),by rw [hu3.size]; omega,λk hk hm hn=>?_⟩;have My:k<D:=by omega
     rw [hu3.block k (by omega),f2.block k (by omega) hm (λg=>g.elim hn (by omega)),hb1.block k (by omega)]
    .rw [World.cell?_of_block (hu3.block 0 (by omega))];exact t2 j hj
   rcases hV with ⟨rfl,h⟩ | ⟨hpf,c,h⟩
   .obtain ⟨W4,K,hr,g1,g2,g3,g4,g5,g6,g7⟩:=key none .ready I hI (by simp) h;exact ⟨none,W4,hr,hdone K W4 g1 g2 g3 g4 g5 g6 g7⟩
   .obtain ⟨W4,K,hr,g1,g2,g3,g4,g5,g6,g7⟩:=key (some c) .done (Ix c) (hIx c) (by simp) h;exact ⟨some c,W4,hr,(wpIn_wide (n:=0)).2 (hstop c V K W4 hpf g1 g2 g3 g4 g5 g6 g7)⟩
end Tm
end
section
namespace Tr
open Rf Rl Ni No
end Tr
end
section
namespace Tr
open Rf Rl Ni No
abbrev Pl:=T × Nat × Pa
def fq:Pl->List Pl
 | (.ext q s,o,a)=>[(s,o+1,a++q)]
 | (.br ks,o,a)=>(fD ks).map λi=>(ks i,o+1,a++[iL i])
 | _=>[]
def goL (I:Pa->Bool):T->Nat->Pa->List Pl
 | .nil,o,a=>if I a then [(.nil,o,a)] else []
 | .leaf p v,o,a=>if I a then [(.leaf p v,o,a)] else []
 | .stub r,o,a=>if I a then [(.stub r,o,a)] else []
 | .ext q s,o,a=>if I a then (.ext q s,o,a)::goL I s (o+1) (a++q) else []
 | .br ks,o,a=>if I a then (.br ks,o,a)::((fD ks).map λi=>goL I (ks i) (o+1) (a++[iL i])).flatten else []
def goP (I:Pa->Bool) (x:Pl):List Pl:=goL I x.1 x.2.1 x.2.2
theorem GA (I:Pa->Bool) (x:Pl):goP I x=if I x.2.2 then x::((fq x).map (goP I)).flatten else []:=by
 obtain ⟨t,o,a⟩:=x;cases t with
 | nil=>rfl
 | leaf p v=>rfl
 | stub r=>rfl
 | ext q s =>
  show (if I a then _::goL I s (o+1) (a++q) else [])=if I a then _::([(s,o+1,a++q)].map (goP I)).flatten else []
  simp [goP]
 | br ks =>
  show (if I a then _::((fD ks).map λi=>goL I (ks i) (o+1) (a++[iL i])).flatten else [])=if I a then _::(((fD ks).map λi=>(ks i,o+1,a++[iL i])).map (goP I)).flatten else []
  rw [List.map_map];rfl
theorem nU (x:Pl):(fq x).map (·.1)=zN x.1:=by
 obtain ⟨t,o,a⟩:=x;cases t with
 | br ks =>
  show ((fD ks).map λi=>(ks i,o+1,a++[iL i])).map (·.1)=(fD ks).map ks;rw [List.map_map];rfl
 | _=>rfl
theorem Fz (x:Pl):∀ y∈fq x,y.2.1=x.2.1+1:=λy hy=>by
 obtain ⟨t,o,a⟩:=x;cases t with
 | nil=>cases hy
 | leaf p v=>cases hy
 | stub r=>cases hy
 | ext q s=>rw [List.mem_singleton.1 hy]
 | br ks =>
  obtain ⟨i,_,rfl⟩:=List.mem_map.1 hy;rfl
def jM (I:Pa->Bool) (S:List Pl):List Pl:=(S.reverse.map (goP I)).flatten
theorem JL (I:Pa->Bool) (x:Pl):jM I [x]=goP I x:=by simp [jM]
theorem NC {I:Pa->Bool} (S:List Pl) {x:Pl} (h:I x.2.2=true):jM I (S++[x])=x::jM I (S++(fq x).reverse):=by
 unfold jM;rw [List.reverse_append,List.reverse_append,List.reverse_reverse,List.map_append,List.map_append,List.flatten_append,List.flatten_append];rw [List.reverse_singleton,List.map_singleton,List.flatten_singleton,GA,if_pos h];rfl
theorem IX {I:Pa->Bool} (S:List Pl) {x:Pl} (h:I x.2.2=false):jM I (S++[x])=jM I S:=by
 unfold jM;rw [List.reverse_append,List.map_append,List.flatten_append,List.reverse_singleton,List.map_singleton,List.flatten_singleton,GA,if_neg (by rw [h]; decide)];rfl
def lH:T->Nat
 | .nil=>1
 | .leaf _ _=>1
 | .stub _=>1
 | .ext _ s=>1+lH s
 | .br ks=>1+((fD ks).map λi=>lH (ks i)).sum
theorem LZ (t:T):1<=lH t:=by
 cases t with
 | nil=>exact aH
 | leaf p v=>exact aH
 | stub r=>exact aH
 | ext q s=>exact Nat.le_add_right _ _
 | br ks=>exact Nat.le_add_right _ _
theorem RU (t:T):lH t=1+((zN t).map lH).sum:=by
 cases t with
 | nil=>rfl
 | leaf p v=>rfl
 | stub r=>rfl
 | ext q s=>show 1+lH s=1+([s].map lH).sum; simp
 | br ks =>
  show 1+((fD ks).map λi=>lH (ks i)).sum=1+(((fD ks).map ks).map lH).sum;rw [List.map_map];rfl
def ng (S:List Pl):Nat:=(S.map λx=>lH x.1).sum
theorem AQ (S:List Pl) (x:Pl):ng (S++[x])=ng S+lH x.1:=by simp [ng]
theorem Ch (S:List Pl) (x:Pl):ng S<ng (S++[x]):=by
 have:=LZ x.1;rw [AQ];omega
theorem Fv (S:List Pl) (x:Pl):ng (S++(fq x).reverse)<ng (S++[x]):=by
 rw [AQ,RU,<-nU];unfold ng;rw [List.map_append,List.sum_append,List.map_reverse,List.sum_reverse,List.map_map];show _<_+(1+((fq x).map λy=>lH y.1).sum)
 omega
theorem MN (S:List Pl):S.length<=ng S:=by
 unfold ng
 induction S with
 | nil=>exact aH
 | cons x r ih =>
  have:=LZ x.1;rw [List.map_cons,List.sum_cons,List.length_cons];omega
theorem vQ {f g:Fin 16->Nat}:∀ l:List (Fin 16),(∀ i∈l,f i<=g i)->(l.map f).sum<=(l.map g).sum
 | [],_=>aH
 | i::l,h=>by
  have h1:=h i List.mem_cons_self;have h2:=vQ l λj hj=>h j (List.mem_cons_of_mem _ hj);rw [List.map_cons,List.map_cons,List.sum_cons,List.sum_cons];omega
def xk (x:Pl):Prop:=∃ L,x.2.2.length+L=64/\Good x.1 L/\Fine x.1/\Nib x.2.2/\x.2.1<=x.2.2.length
theorem xk.root {t:T} (g:Good t 64) (f:Fine t):xk (t,0,[]):=⟨64,rfl,g,f,Nib.nil,aH⟩
theorem xk.kids {x:Pl} (h:xk x):∀ y∈fq x,xk y/\y.1 ≠ .nil:=λy hy=>by
 obtain ⟨t,o,a⟩:=x;obtain ⟨L,hl,g,f,hn,ho⟩:=h;cases t with
 | nil=>cases hy
 | leaf p v=>cases hy
 | stub r=>cases hy
 | ext q s =>
  rw [List.mem_singleton.1 hy];obtain ⟨h1,h2,h3,h4,h5⟩:=g;have hq:0<q.length:=List.length_pos_iff.2 h1;refine ⟨⟨L-q.length,?_,h5,f,hn.append h2,?_⟩,qy h4⟩
  .show (a++q).length+_=64;rw [List.length_append];have:a.length+L=64:=hl;omega
  .show o+1<=(a++q).length;rw [List.length_append];have:o<=a.length:=ho;omega
 | br ks =>
  obtain ⟨i,hi,rfl⟩:=List.mem_map.1 hy;obtain ⟨h1,_,h3⟩:=g;refine ⟨⟨L-1,?_,h3 i,f i,hn.append (.cons (Fe i) .nil),?_⟩,uf.1 hi⟩
  .show (a++[iL i]).length+_=64;rw [List.length_append];have:a.length+L=64:=hl;show a.length+1+_=64;omega
  .show o+1<=(a++[iL i]).length;rw [List.length_append];have:o<=a.length:=ho;show _<=a.length+1;omega
def isNode:T->Bool
 | .nil=>false
 | .stub _=>false
 | _=>true
def leads (P:Pa):Pa->Bool:=λa=>decide (a<+:P)
theorem Jy {P:Pa}:∀ (t:T) (o:Nat) (a:Pa),¬ a<+:P->goL (leads P) t o a=[]
 | .nil,_,a,h=>by unfold goL; rw [if_neg]; unfold leads; simpa using h
 | .leaf _ _,_,a,h=>by unfold goL; rw [if_neg]; unfold leads; simpa using h
 | .stub _,_,a,h=>by unfold goL; rw [if_neg]; unfold leads; simpa using h
 | .ext _ _,_,a,h=>by unfold goL; rw [if_neg]; unfold leads; simpa using h
 | .br _,_,a,h=>by unfold goL; rw [if_neg]; unfold leads; simpa using h
theorem Vu:∀ (t:T) (o:Nat) (a w:Pa),Nib w->((goL (leads (a++w)) t o a).filter λx=>isNode x.1).map (λx=>bV x.1)=bM t w:=by
 have hI:∀ a w:Pa,leads (a++w) a=true:=λa w=>aK (List.prefix_append a w);intro t
 induction t with
 | nil=>intro o a w _; unfold goL; rw [if_pos (hI a w)]; rfl
 | leaf p v=>intro o a w _; unfold goL; rw [if_pos (hI a w)]; rfl
 | stub r=>intro o a w _; unfold goL; rw [if_pos (hI a w)]; rfl
 | ext q s ih =>
  intro o a w hw;unfold goL;rw [if_pos (hI a w)];show bV (.ext q s)::((goL (leads (a++w)) s (o+1) (a++q)).filter λx=>isNode x.1).map (λx=>bV x.1)=bV (.ext q s)::if q<+:w then bM s (w.drop q.length) else []
  congr 1;by_cases h:q<+:w
  .rw [if_pos h];have e:=PO h;have:=ih (o+1) (a++q) (w.drop q.length) (hw.drop _);rw [List.append_assoc,<-e] at this;exact this
  .rw [if_neg h,Jy s (o+1) (a++q) (λg=>h ((List.prefix_append_right_inj a).1 g))];rfl
 | br ks ih =>
  intro o a w hw;unfold goL;rw [if_pos (hI a w)];show bV (.br ks)::((((fD ks).map λi=>goL (leads (a++w)) (ks i) (o+1) (a++[iL i])).flatten).filter λx=>isNode x.1).map (λx=>bV x.1)=bM (.br ks) w;cases w with
  | nil =>
   have e:((fD ks).map λi=>goL (leads (a++[])) (ks i) (o+1) (a++[iL i]))=(fD ks).map λ_=>[]:=List.map_congr_left λi _=>Jy _ _ _ λh=>by
    have:=h.length_le;rw [List.append_nil,List.length_append] at this;exact absurd this (Nat.not_succ_le_self _)
   rw [e];have:∀ l:List (Fin 16),(l.map λ_=>([]:List Pl)).flatten=[]:=λl=>by simp
   rw [this];rfl
  | cons c r =>
   show _=bV (.br ks)::bM (ks (nb c)) r;congr 1;have hc:c.toNat<16:=hw.head;have h1:=ih (nb c) (o+1) (a++[c]) r hw.tail;have e0:a++[c]++r=a++c::r:=by simp
   rw [e0] at h1;have hoff:∀ i,i≠nb c->goL (leads (a++c::r)) (ks i) (o+1) (a++[iL i])=[]:=λi hi=>Jy _ _ _ λh=>by
    have h2:=(List.prefix_append_right_inj a).1 h;have h3:=(List.cons_prefix_cons.1 h2).1;exact hi (by rw [<-h3,VR])
   have hon:goL (leads (a++c::r)) (ks (nb c)) (o+1) (a++[iL (nb c)])=goL (leads (a++c::r)) (ks (nb c)) (o+1) (a++[c]):=by rw [WY hc]
   by_cases hn:ks (nb c) = .nil
   .have e:((fD ks).map λi=>goL (leads (a++c::r)) (ks i) (o+1) (a++[iL i]))=(fD ks).map λ_=>[]:=List.map_congr_left λi hi=>hoff i λe=>uf.1 hi (by rw [e]; exact hn);have h2:∀ l:List (Fin 16),(l.map λ_=>([]:List Pl)).flatten=[]:=λl=>by simp
    rw [e,h2,hn];rfl
   .have key:∀ l:List (Fin 16),l.Nodup->(l.map λi=>goL (leads (a++c::r)) (ks i) (o+1) (a++[iL i])).flatten=if nb c∈l then goL (leads (a++c::r)) (ks (nb c)) (o+1) (a++[c]) else []:=by
     intro l
     induction l with
     | nil=>intro _; rfl
     | cons i l ih2 =>
      intro hd;obtain ⟨hi,hd'⟩:=List.nodup_cons.1 hd;rw [List.map_cons,List.flatten_cons,ih2 hd'];by_cases e:i=nb c
      .subst e;rw [hon,if_neg hi,if_pos List.mem_cons_self,List.append_nil]
      .rw [hoff i e,List.nil_append];by_cases e2:nb c∈l
       .rw [if_pos e2,if_pos (List.mem_cons_of_mem _ e2)]
       .rw [if_neg e2,if_neg (λh=>(List.mem_cons.1 h).elim (λe3=>e e3.symm) e2)]
    rw [key (fD ks) ((List.nodup_finRange 16).filter _),if_pos (uf.2 hn)];exact h1
end Tr
end
section
open Go.RowKit
namespace Tm
open Tr Ni Pk Ky No Rf Rl ew
open Sm (Tab)
def plC (p:aL) (o:Nat) (h:Hdl):List Value:=[.pointer p,.int .i64 o,.slice h.1 h.2.1 h.2.2]
def plA (p:aL) (o:Nat) (h:Hdl):aO:=#[.pointer p,.int .i64 o,.slice h.1 h.2.1 h.2.2]
theorem UW:(prog.info? 111).map (λi=>(i.zero,i.size,i.bytes))=some (some (.agg #[.pointer none,.int .i64 0,.slice none 0 0]),3,40):=by kernel_rfl
theorem BS:∃ i z,prog.info? 111=some i/\i.zero=some z/\i.size=3/\i.bytes=40/\z.cells.size=3:=by
 obtain ⟨i0,hi,hz,hs,hby⟩:=info_parts UW;exact ⟨i0,_,hi,hz,hs,hby,rfl⟩
theorem vH:(prog.info? 111).map (·.size)=some 3:=by kernel_rfl
def GV (w:World) (b o:Nat) (p:aL) (n:Nat) (h:Hdl):Prop:=w.cell? ⟨b,o,none⟩=some (.pointer p)/\w.cell? ⟨b,o+1,none⟩=some (.int .i64 n)/\w.cell? ⟨b,o+2,none⟩=some (.slice h.1 h.2.1 h.2.2)
theorem GV.own {w:World} {b:Nat} {p:aL} {n:Nat} {h:Hdl} {t:TypeId} (g:Rg.Own w b (plA p n h) t):GV w b 0 p n h:=⟨aV (j:=0) g rfl,aV (j:=1) g rfl,aV (j:=2) g rfl⟩
theorem lT {ev:Operand->Value} {o:Oper} {w:World} {b off:Nat} {p:aL} {n:Nat} {h:Hdl} (g:GV w b off p n h) (ho:∃ y,o.op = .load 111 y/\ev y = .pointer (some ⟨b,off,none⟩)) :
  (execOp ev o).run prog w = .ok (.value (.agg (plA p n h))) w:=by
 obtain ⟨y,ho,hx⟩:=ho;have hl:=run_loadAt_mid (P:=prog) w b off 111 (plC p n h) _ (λj u hu=>by
  match j,hu with
  | 0,hu=>cases hu; exact g.1
  | 1,hu=>cases hu; exact g.2.1
  | 2,hu=>cases hu; exact g.2.2) underlying111 rfl (by
  rw [vH]; rfl)
 unfold execOp;simp only [ho,hx,Sem.run_bind,Sem.run_pure,Result.andThen_ok,hl];rfl
theorem DX (ev:Operand->Value) (o:Oper) (w:World) (b:Nat) (hb:b=w.heap.size) (ho:o.op = .alloc 111) :
  (execOp ev o).run prog w = .ok (.value (.pointer (some ⟨b,0,none⟩))) (w.alloc (.cells (plA none 0 (none,0,0)) 111)):=by
 subst hb;unfold execOp;rw [ho];kernel_rfl
theorem Ep {rest:List Oper} {act:Go.Act} {w:World} {Q:Exit->Go.Act->World->Prop} {b:Nat} {p:aL} {n:Nat} {h:Hdl} (g:Rg.Own w b (plA p n h) 111) (p':aL) (n':Nat) (h':Hdl)
  (hgd:o.guard=none) (x y:Operand) (ho:o.op = .store 111 x y) (hx:act.eval x = .pointer (some ⟨b,0,none⟩)) (hy:act.eval y = .agg (plA p' n' h')) (hd:o.dst=none)
  (hQ:∀ w',Rg.Own w' b (plA p' n' h') 111->Rg.Upd w b w'->wpList prog ops Q rest act w'):wpList prog ops Q (o::rest) act w :=
 wpList_store_rowTo hgd 111 x y ho hd b _ hx hy 111 _ g.2 vH rfl (by simp [plA,Value.oneCell']) (hQ _ ⟨by simp; exact g.1,setRow_heap _ _ _ _ _ _ g.2⟩ (Rg.Upd.set _ _ _))
theorem NV (p:aL):prog.built 111 [(0,tv p)]=some (plA p 0 (none,0,0)):=by kernel_rfl
theorem Sl (p:aL) (n:Nat) (h:Hdl):prog.built 111 [(0,tv p),(1,.int .i64 n),(2,.slice h.1 h.2.1 h.2.2)]=some (plA p n h):=by kernel_rfl
theorem wJ {w:World} {p:aL} {n:Nat} {h:Hdl} (b:Nat) (hb:b=w.heap.size) (ho:∃ y,o.op = .buildSlice 154 1 #[(0,y)]/\ev y = .agg (plA p n h)) :
  (execOp ev o).run prog w = .ok (.value (.slice (some ⟨b,0,none⟩) 1 1)) (w.alloc (.cells (plA p n h) 111)):=by
 obtain ⟨y,ho,hx⟩:=ho;subst hb;unfold execOp;simp only [ho,List.map_toArray,List.map_cons,List.map_nil,hx];kernel_rfl
theorem FU {w:World} {n c i:Nat} (hi:i<n) (h:∃ x y,o.op = .indexAddr 154 x y/\ev x = .slice (some ⟨g,0,none⟩) n c/\ev y = .int .i64 i) :
  (execOp ev o).run prog w = .ok (.value (.pointer (some ⟨g,i*3,none⟩))) w:=by
 obtain ⟨x,y,ho,hx,hy⟩:=h;have h1:(i:Int)<(n:Int):=by omega
 unfold execOp;simp [ho,hx,hy,go_sem,h1]
structure Pc where
 p:aL
 h:Hdl
 x:Pl
def Pc.cs (y:Pc):List Value:=plC y.p y.x.2.1 y.h
def sP (l:List Pc):List Value:=l.flatMap Pc.cs
theorem tK (l:List Pc) (y:Pc):sP (l++[y])=sP l++y.cs:=by simp [sP]
theorem lQ:∀ l:List Pc,(sP l).length=l.length*3
 | []=>rfl
 | y::l=>by
  show (y.cs++sP l).length=_;rw [List.length_append,lQ l,List.length_cons];show 3+_=_;omega
def jN (B:Nat) (w:World) (v:Value) (l:List Pc):Prop:=w.ownsRow B 111 3 v l.length (sP l)
theorem jN.last {w:World} {v:Value} {l:List Pc} {y:Pc} (h:jN B w v (l++[y])):∃ g cap,v = .slice (some ⟨g,0,none⟩) (l.length+1) cap/\B<=g/\g<w.heap.size/\l.length+1<=cap/\cap<=maxLen/\GV w g (l.length*3) y.p y.x.2.1 y.h:=by
 obtain ⟨h1,h2⟩:=h;rcases h2 with ⟨_,h2⟩ | ⟨g,cap,cur,rfl,hg,hh,hnc,hcm,hsz,htk⟩
 .simp at h2
 .rw [List.length_append] at hnc;have hc:∀ i,i<3->w.cell? ⟨g,l.length*3+i,none⟩=y.cs[i]? := λi hi=>by
   rw [cell_of_row w g _ _ _ _ hh,<-Array.getElem?_toList];have hlt:l.length*3+i<(sP (l++[y])).length:=by rw [lQ,List.length_append]; show _<(l.length+1)*3; omega
   have h3:cur.toList[l.length*3+i]? = (sP (l++[y]))[l.length*3+i]? := by
    rw [<-htk,List.getElem?_take_of_lt (by rw [lQ] at hlt; exact hlt)]
   rw [h3,tK,List.getElem?_append_right (by rw [lQ]; omega),lQ,show l.length*3+i-l.length*3=i by omega]
  exact ⟨g,cap,by simp,hg,(Array.getElem?_eq_some_iff.1 hh).1,hnc,hcm,hc 0 (by omega),hc 1 (by omega),hc 2 (by omega)⟩
theorem jN.init {cap:Nat} {w:World} {l:List Pc} {y:Pc} (h:jN B w (.slice (some ⟨g,0,none⟩) (l.length+1) cap) (l++[y])):jN B w (.slice (some ⟨g,0,none⟩) l.length cap) l:=by
 obtain ⟨h1,h2⟩:=h;rcases h2 with ⟨h2,_⟩ | ⟨g',cap',cur,e,hg,hh,hnc,hcm,hsz,htk⟩
 .cases h2
 .injection e with e1 e2 e3;injection e1 with e1;injection e1 with e1;subst e1 e3;rw [List.length_append] at hnc;refine ⟨lQ l,.inr ⟨g,cap,cur,rfl,hg,hh,by omega,hcm,hsz,?_⟩⟩;have h3:=congrArg (List.take (l.length*3)) htk;rw [List.take_take,List.length_append,tK,List.take_left' (lQ l)] at h3;rw [show l.length*3=min (l.length*3) ((l.length+[y].length)*3) by simp];exact h3
theorem Ih {w:World} {b2:Nat} {v:Value} {l:List Pc} {y:Pc} (hR:jN B w v l) (h2:Rg.Own w b2 (plA y.p y.x.2.1 y.h) 111) (hn:l.length<=1000000) (hB:B<=w.heap.size) :
  ∃ v' w',(Builtin.append_ #[154,154] ty #[v,.slice (some ⟨b2,0,none⟩) 1 1]).run prog w = .ok v' w'/\jN B w' v' (l++[y])/\w.grownBy w' v.ownBlock/\(v'.ownBlock=v.ownBlock\/v'.ownBlock=some w.heap.size):=by
 obtain ⟨i0,z0,hi,hz,hsz,hby,hzc⟩:=BS;obtain ⟨v',w',hr,h3,h4,_,h5⟩:=run_append_own_at (P:=prog) w B 154 ty 111 i0 z0 3 40 underlying154 hi hz hsz hby hzc (by decide) v l.length _ hR ⟨b2,0,none⟩ 1 1 y.cs rfl
  (λj u hu=>by
   rw [Addr.add_mid,Nat.zero_add,cell_of_row w b2 _ _ _ _ h2.2];unfold plA;simpa [Pc.cs,plC] using hu)
  (λu hu=>by unfold Pc.cs plC at hu; simp at hu; rcases hu with rfl | rfl | rfl <;> rfl) (by unfold maxLen; omega) (by omega) hB
 exact ⟨v',w',hr,by unfold jN; rw [List.length_append,tK]; exact h3,h4,h5⟩
end Tm
end
section
open Go.RowKit
namespace Tm
open Tr Ni Pk Ky
open No
open Rf
open Rl
open ew
open Sm (Tab)
theorem tJ (a b:aL) (n m c d:Nat) (x y:aN) (w:World) (ha:bf w a n c x) (hb:bf w b m d y) :
  Calls prog 77 #[.slice a n c,.slice b m d] w λe w'=>e = .returned (.bool (decide (x=y)))/\w=w':=by
 have h1:=gY ha;have h2:=gY hb;have HE:Hid (((⟨x.toArray⟩:aM).toList==(⟨y.toArray⟩:aM).toList)=decide (x=y)):=hid (by
  rw [str_eq];by_cases e:x=y
  .subst e; simp
  .rw [decide_eq_false e,decide_eq_false (λg=>e (by
    have:=congrArg (λb:aM=>b.data.toList) g;simpa using this))])
 clear ha hb;generalize hX:(⟨x.toArray⟩:aM)=X at *
 generalize hY:(⟨y.toArray⟩:aM)=Y at *
 go_enter func77,ntmps77;go_wp2;go_ret;exact ⟨by rw [<-HE.out]; rfl,rfl⟩
theorem zH (a b:aL) (n m c d:Nat) (x y:aN) (hn:n<=m) (hm:m<=1000000) (w:World) (ha:bf w a n c x) (hb:bf w b m d y) :
  Calls prog 44 #[.slice b m d,.slice a n c] w λe w'=>e = .returned (.bool (leads y x))/\w=w':=by
 have HL:=hid (tJ b a n n d c (y.take n) x w (VN hb n hn) ha);have HR:Hid (decide (y.take n=x)=leads y x):=hid (by
  unfold leads;have:=ha.len;by_cases e:x<+:y
  .rw [aK e,aK];rw [<-this];exact (List.prefix_iff_eq_take.1 e).symm
  .rw [decide_eq_false e,decide_eq_false];intro g;exact e (by rw [<-g]; exact List.take_prefix _ _))
 have hmd:=hb.1;have hi:(n:Int)<=(m:Int):=by omega
 have hc:n<=d:=by omega
 clear ha hb;go_enter func44,ntmps44;go_wp2_with (first
  | (refine Rg.runW (by rfl) _ _ (yS (j:=n) fV iD hc ⟨_,_,rfl,rfl,rfl⟩) ?_))
 refine HL.out.mono ?_;rintro e w1 ⟨rfl,rfl⟩;go_wp2;go_ret;exact ⟨by rw [<-HR.out]; rfl,rfl⟩
theorem Sz (w:World) (p:aL) (o:Nat) (h:Hdl):(w.alloc (.cells (plA p o h) 111)).cell? ⟨w.heap.size,2,none⟩=some (.slice h.1 h.2.1 h.2.2):=aV (j:=2) (Rg.Own.new w (plA p o h) _) rfl
theorem Nh (bx:Nat) (q:Hdl) (P:Pa) (hP:P.length=64) (w:World) (hc:w.cell? ⟨bx,0,none⟩=some (.slice q.1 q.2.1 q.2.2)) (hq:bf w q.1 q.2.1 q.2.2 P) (p:aL) (o:Nat) (h:Hdl) (a:Pa) (ha:bf w h.1 h.2.1 h.2.2 a) (hl:a.length<=64) :
  Calls prog 58 #[.agg (plA p o h),.pointer (some ⟨bx,0,none⟩)] w λe w'=>e = .returned (.bool (leads P a))/\Below w.heap.size w w':=by
 have hA1:=al1 w (.cells (plA p o h) 111);have c0:=Sz w p o h;have c1:=aX hA1 hc;have HR:=hid (zH h.1 q.1 h.2.1 q.2.1 h.2.2 q.2.2 a P (by rw [<-ha.len,<-hq.len]; omega) (by rw [<-hq.len]; omega) _ (ha.below hA1) (hq.below hA1));have HB:=hid hA1;obtain ⟨A,hA⟩:=aA (plA p o h)
 rw [hA] at c0 c1 HR HB ⊢;clear hA1 hc hq ha hA;go_enter func58,ntmps58;go_wp2_with fail
 refine HR.out.mono ?_;rintro e w2 ⟨rfl,rfl⟩;go_wp2;go_ret;exact ⟨rfl,HB.out⟩
end Tm
end
end Go.Proofs.YtokaiemgjngcoaaGreatDoor
