/-
 root.Load: of a root whose bodies can be read; of the root of nothing.
-/
import Derived.Test.YtoipgepkhomfgaaGreatDoorPd14
import Derived.RangeFuncBound
import Derived.RangeFuncCalls
import Derived.OrdersIn
open Go.Lib (hid)
open Go.Proofs.Tryz
set_option linter.unusedSimpArgs false
set_option linter.unusedVariables false
set_option maxHeartbeats 40000000
set_option maxRecDepth 100000
namespace Go.Proofs.YtoipgepkhomfgaaGreatDoor
variable {ev:Operand->Value} {o:Oper} {g:Bool} {a:aK} {W:World} {v:Value} {c id:Nat} {K:Act->World->Prop} {Q:Exit->Act->World->Prop} {P:Program} {ops:Array Oper} {S:World->Prop} {args:aN} {ty:TypeId}
section
open Go.RowKit
namespace Tm
open Tr Ni Pk Ky No Rf Rl
open Sm (Tab)
def Dy (M:Mp) (w:World) (t:T) (e:Ending) (w':World):Prop:=∃ p M',e = .returned (.tuple #[tv p,.int .i64 0])/\IsT M' p t/\Fr M M' w w'/\Inv M' w'/\Tab w'
theorem EO {w:World} {k l:aM} (hk:k.length=32) (hl:l.length=32) (hd:decide (k=l)=g) (ho:∃ x y tt,o.op = .binOp .eql 48 x y tt/\ev x = .agg (Sm.kc k)/\ev y = .agg (Sm.kc l)) :
  (execOp ev o).run prog w = .ok (.value (.bool g)) w:=by
 rw [<-hd];exact xY hk hl ho
theorem Al (w:World) (r:aM):∃ w1,w1=(w.alloc (.cells (Sm.kc r) 48)).alloc (.cells #[.pointer none] 35)/\Rg.Own w1 w.heap.size (Sm.kc r) 48/\Rg.Own w1 (w.heap.size+1) #[.pointer none] 35/\Below w.heap.size w w1/\w1.heap.size=w.heap.size+2:=by
 refine ⟨_,rfl,(Rg.Own.new _ _ _).below (al1 _ _),?_,al2 _ _ _,by simp⟩;have:=Rg.Own.new (w.alloc (.cells (Sm.kc r) 48)) #[.pointer none] 35;simpa using this
theorem Oi {M:Mp} {w:World} (hi:Inv M w) (hT:Tab w) (xs:List aL) (hx:∀ s∈xs,s.size<=900000) (a:aK) (n c:Nat) (h:fO w a n c xs) (hn:n<=100) (hn0:0<n) (hrow:∀ b off,a=some ⟨b,off,none⟩->M.at_ b=none) {t:T} (ht:Prt t) (htn:t ≠ .nil)
  (hx0:xs.getD 0 eB=bE t) (hne:fI (bE t)≠fI eB) (hf:gD xs (ref t)=some (bE t,.nil,0)) {iS:List aL} (hk0:iS≠[]) (yn:(((aY t).map ref).filter λs=>!gone (gD xs) s)=iS) {k0:Nat} {fe:Fs} (hch:EH fe k0 (gD xs) (ref t::iS)) (hnn:n+k0<=900) {lv:Nat} (hfe:fe (ref t)=some (bE t,t,lv)) (hlv:lv<=65) :
  Calls prog 32 #[.agg (Sm.kc (fI (bE t))),.slice a n c] w (Dy M w t):=by
 have da:∀ (fn:Fn) (first cap:aN) (w:World),(Instr.makeFunc fn first cap).run prog w = .ok (.func fn first cap) w:=λ_ _ _ _=>rfl;obtain ⟨w1,hw1,hO2,hO4,hb1,hs1⟩:=Al w (fI (bE t));have hi1:=hi.below hb1;have hT1:=hT.below hb1 hT.pos;have hl:=h.len;have hrr:ref t=ofP (bE t):=iV ht.ns;have hsz:=yE (bE t);rw [<-hrr] at hsz;obtain ⟨rb,ro,ha,yy,hcell⟩:=h.at' 0 hn0;subst ha;rw [Nat.add_zero,hx0] at hcell;have hrm:=hrow rb ro rfl;have HSc:Hid (∀ W M',Fr M M' w1 W->W.cell? ⟨rb,ro,none⟩=some (.string (bE t))):=hid (λW M' f=>by
  have h1:=aW hb1 hcell;rw [f.cell (World.block_lt_of_cell? w1 _ h1) hrm];exact h1)
 have tc:Hid (∀ wz,Below w1.heap.size w1 wz->Calls prog 34 #[.string eB] wz λe w'=>e = .returned (.agg (Sm.kc (fI eB)))/\Below wz.heap.size wz w'):=hid (λwz hb=>BA eB (Nat.zero_le _) wz (hT1.below hb hT1.pos));have ov:Hid (∀ W,Below w1.heap.size w1 W->Calls prog 60 #[.slice (some ⟨rb,ro,none⟩) n c,.func (Fn.func 61) #[] #[.pointer (some ⟨w.heap.size,0,none⟩)]] W λe w'=>e = .returned (.int .i64 0)/\Below W.heap.size W w'):=hid (λW hb=>by
  refine (LB (λs=>decide (fI s=fI (bE t))) w.heap.size xs (some ⟨rb,ro,none⟩) n c W ((h.below hb1).below hb) (λs hs wz hbz=>?_)).mono ?_
  .have hbw:Below w1.heap.size w1 wz:=bst hb hbz;exact RQ w.heap.size _ (iJ _) wz (hO2.below hbw) (hT1.below hbw hT1.pos) s (hx s hs)
  .rintro e w' ⟨i,rfl,hP,hb'⟩;refine ⟨?_,hb'⟩;rcases hP with ⟨_,hno⟩ | ⟨k,rfl,hk,_,hno⟩
   .have:=hno 0 (by rw [hl]; exact hn0);rw [hx0] at this;exact absurd rfl (of_decide_eq_false this)
   .by_cases hk0:k=0
    .rw [hk0]; rfl
    .have:=hno 0 (by omega);rw [hx0] at this;exact absurd rfl (of_decide_eq_false this))
 have yz:Hid (∀ W,Below w1.heap.size w1 W->Calls prog 62 #[.slice (some ⟨rb,ro,none⟩) n c] W λe w'=>e = .returned (.map (some W.heap.size))/\(∃ D,ShS M w' W.heap.size (gD xs) n D)/\Below W.heap.size W w'):=hid (λW hb=>LD xs hx _ n c W ((h.below hb1).below hb) hn (hi1.below hb) (hT1.below hb hT1.pos));have dC:Hid (∀ W,Below w1.heap.size w1 W->Calls prog 64 #[.string (bE t)] W λe w'=>e = .returned (.string (ref t))/\Below W.heap.size W w'):=hid (λW hb=>by
  rw [hrr];exact Em (bE t) (ht.size htn) W (hT1.below hb hT1.pos))
 have dd:Hid (∀ W b D,Below w1.heap.size w1 W->w1.heap.size<=b->ShS M W b (gD xs) n D->Calls prog 63 #[.map (some b),.string (ref t)] W (TV M W b M w1 t lv)):=hid (λW b D hb hle hS=>Pt hi1 (Fr.below M hb) hle hS (hi1.below hb) (hT1.below hb hT1.pos) ht htn (by omega) hf hk0 yn hch hnn hfe)
 have HFin:Hid (∀ M' W W' b11,Fr M M' w1 W->Inv M' W->Tab W->w1.heap.size<=b11->¬ M'.ft b11->Rg.Upd W b11 W'->Rg.Own W' (w.heap.size+1) #[.pointer none] 35/\W'.cell? ⟨rb,ro,none⟩=some (.string (bE t))/\∀ W'',Rg.Upd W' (w.heap.size+1) W''->Fr M M' w W''/\Inv M' W''/\Tab W''):=hid (λM' W W' b11 f i tt hge hnf hu=>by
  have hg0:M.at_ (w.heap.size+1)=none:=hi.out (by omega);have X9:=jM hO4 f hg0;have If:¬ M'.ft (w.heap.size+1):=f.box (hi.free (by omega)) hO4.1 (cZ hO4 (eH _));have hp0:=hT.pos;have hc1:=aW hb1 hcell;refine ⟨X9.upd hu (by omega),?_,λW'' hu2=>⟨((((Fr.below M hb1).trans hi f).upd hu (by omega)).upd hu2 (by omega)),(i.upd hu hnf).upd hu2 If,Tab.upd (Tab.upd tt hu (by omega)) hu2 (by omega)⟩⟩;have hrl:=World.block_lt_of_cell? w1 _ hc1;rw [World.cell?_of_block (hu.block rb (by show rb≠b11; have:rb<w1.heap.size:=hrl; omega)),f.cell hrl hrm];exact hc1)
 have HM:Hid (∀ k,w1.heap.size<=k->M.at_ k=none/\¬ M.ft k):=hid (λk hk=>⟨hi1.out hk,hi1.free hk⟩);have HI1:=hid hi1;have mw:=hid (iJ (bE t));have PR:=hid (iJ eB);have c8:=hid hO2;have HW:Hid (_=_):=hid hw1;have hnc:=h.1;have hcm:=h.2.1;unfold maxLen at hcm;have d1:decide ((65:Int)<(lv:Int))=false:=decide_eq_false (by omega);have d2:decide (65<lv)=false:=decide_eq_false (by omega);obtain ⟨r,hr⟩:=ay (fI (bE t))
 obtain ⟨z,hz⟩:=ay (fI eB)
 obtain ⟨R,hR⟩:=ay (ref t)
 rw [hr] at mw c8 HW hne ⊢;rw [hz] at tc PR hne;rw [hR] at dC dd;unfold TV at dd;obtain ⟨E,hE⟩:=ay (bE t)
 rw [hE] at HSc dC dd HFin;have HD:Hid (decide (r=z)=false):=hid (decide_eq_false hne);have Xs:(0:Int)<(n:Int):=by omega
 clear hr hz hR hE hw1 hO2 hO4 hb1 hs1 hi1 hT1 hl hrr hsz yy hcell hrm hi hT hx h hrow ht htn hx0 hne hf hk0 yn hch hnn hfe hlv;go_enter func32,ntmps32;go_wp2_with (first
  | (refine aA (aX _ _ _ (w.heap.size+1) (by simp) rfl) ?_; rw [<-HW.out]))
 refine aC (S:=λw'=>Below w1.heap.size w1 w') (aH.drew) λhld=>?_;refine ah 0 ?_ (hy:=by intro wz hSw; (refine Sm.qj _ _ _ w.heap.size r mw.out ?_ (c8.out.below hSw); exact ⟨_,rfl,rfl⟩));try simp only [Act.put,ak]
 refine aj 1 λK hK=>?_;go_simp;go_at_call 34
 (with_reducible refine (tc.out _ hld).mono ?_)
 rintro e gr ⟨rfl,hbx⟩;refine hK.out _ _ (Below.trans hld (hbx.mono hld.size)) λhld=>?_;clear hK K;try simp only [Act.put,ak]
 refine ah 2 ?_ (hy:=by intro wz hSw; (refine EO mw.out PR.out HD.out ?_; exact ⟨_,_,_,rfl,rfl,rfl⟩));try simp only [Act.put,ak]
 refine aB ?_;have HB0:=hid hld;clear hld;go_wp2_with fail
 refine (ov.out _ HB0.out).mono ?_;rintro e w5 ⟨rfl,hb5⟩;have HB:Hid (Below w1.heap.size w1 w5.drew):=hid (below_drewN (bst HB0.out hb5) 1);clear hb5 HB0 ov tc;go_wp2_with fail
 refine aC (S:=λw'=>w'.cell? ⟨rb,ro,none⟩=some (.string E)) (HSc.out _ M (Fr.below M HB.out)) λhld=>?_;refine ah 0 ?_;try simp only [Act.put,ak]
 refine ah 2 ?_;try simp only [Act.put,ak]
 refine ah 3 ?_;try simp only [Act.put,ak]
 refine ah 4 ?_ (hy:=by intro wz hSw; have q0:=hn0; (try dsimp only at hSw); go_simp <;> with_reducible rfl);try simp only [Act.put,ak]
 refine aD 5 (λwz hSw=>hSw) ?_;try simp only [Act.put,ak]
 refine wpAnyH_ready (rs:=[1,11]) (by kernel_rfl) (by simp) ?_;refine Rg.readyC (i:=1) rfl (λK hK=>?_) (Rg.readyL (i:=11) rfl (λK hK=>?_))
 .go_simp;go_at_call 62
  (with_reducible refine (yz.out _ HB.out).mono ?_)
  rintro e y1 ⟨rfl,⟨D,hs⟩,hbx⟩;obtain ⟨bS,ep⟩:=ay ((w5.drew).heap.size)
  have hbS:w1.heap.size<=bS:=by rw [<-ep]; exact HB.out.size
  replace HB:=hid (bst HB.out hbx);first | rw [ep] at hs ⊢ | (simp only [World.heap_drew] at ep; rw [ep] at hs ⊢)
  have de:=hid hs;clear hs hbx ep;refine hK.out _ _ (HSc.out _ M (Fr.below M HB.out)) λhld=>?_;clear hK K;try simp only [Act.put,ak]
  refine wpAnyH_ready (rs:=[6,11]) (by kernel_rfl) (by simp) ?_;refine Rg.readyC (i:=6) rfl (λK hK=>?_) (Rg.readyL (i:=11) rfl (λK hK=>?_))
  .go_simp;go_at_call 64
   (with_reducible refine (dC.out _ HB.out).mono ?_)
   rintro e y2 ⟨rfl,hbx⟩;replace de:=hid (de.out.below hbx de.out.lt);replace HB:=hid (bst HB.out hbx);clear hbx;refine hK.out _ _ (HSc.out _ M (Fr.below M HB.out)) λhld=>?_;clear hK K;try simp only [Act.put,ak]
   refine wpAnyH_ready (rs:=[7,11]) (by kernel_rfl) (by simp) ?_;refine Rg.readyC (i:=7) rfl (λK hK=>?_) (Rg.readyL (i:=11) rfl (λK hK=>?_))
   .go_simp;go_at_call 63
    (with_reducible refine (dd.out _ bS D HB.out hbS de.out).mono ?_)
    rintro e y3 ⟨p,M',rfl,ht,f3,i3,t3,kp⟩;have py:=hid ht;have H3:Hid (Fr M M' w1 y3/\Inv M' y3/\Tab y3):=hid ⟨f3,i3,t3⟩;clear ht f3 i3 t3 kp HB de hbS;refine hK.out _ _ (HSc.out _ _ H3.out.1) λhld=>?_;clear hK K;try simp only [Act.put,ak]
    refine ah 8 ?_;try simp only [Act.put,ak]
    refine ah 9 ?_;try simp only [Act.put,ak]
    refine ah 10 ?_;try simp only [Act.put,ak]
    refine aj 11 λK hK=>?_;refine Rg.meetAlloc (by rfl) (bP _ _ _ _ rfl rfl) ?_;rintro y4 b11 cD h11 hbx;have cg:w1.heap.size<=b11:=by rw [cD]; exact H3.out.1.size
    have eq:¬ M'.ft b11:=H3.out.2.1.free (by rw [cD]; exact aG);replace H3:Hid (Fr M M' w1 y4/\Inv M' y4/\Tab y4):=hid ⟨H3.out.1.trans HI1.out (Fr.below M' hbx),H3.out.2.1.below hbx,H3.out.2.2.below hbx H3.out.2.2.pos⟩;clear cD hbx;refine hK.out _ _ (HSc.out _ _ H3.out.1) λhld=>?_;clear hK K;try simp only [Act.put,ak]
    refine aj 12 λK hK=>?_;refine Rg.meetStore (by rfl) h11 110 (bO E p lv) ⟨_,_,rfl,rfl,rfl⟩ ny rfl (pE _ _ _) ?_;rintro y5 hn hu;obtain ⟨hO4,ew,jz⟩:=HFin.out M' _ y5 b11 H3.out.1 H3.out.2.1 H3.out.2.2 cg eq hu;have b8:=hid hO4;have jx:=hid jz;have c1:(y5).cell? ⟨b11,1,none⟩=some (.pointer p):=aV (j:=1) hn rfl;have c2:(y5).cell? ⟨b11,2,none⟩=some (.int .i64 lv):=aV (j:=2) hn rfl;clear hn hu h11 hO4 jz H3 cg eq;refine hK.out _ _ (ew) λhld=>?_;clear hK K ew;try simp only [Act.put]
    refine ah 13 ?_;try simp only [Act.put,ak]
    refine aB ?_;go_wp2_with (first
     | (refine aA (aU (off:=1) c1 ⟨_,rfl,rfl⟩) ?_)
     | (refine aZ b8.out (by decide) p rfl _ _ rfl rfl rfl ?_; intro w9 ax aE; have ce:Hid (Rg.Own w9 (w.heap.size+1) #[.pointer p] 35):=hid ax; have mu:=hid (jx.out w9 aE); clear ax aE))
    exact bodyPost_ret (jq (q:=4) (u:=5) rfl _ rfl ce.out) rfl ⟨p,M',rfl,py.out,mu.out⟩
   .refine Rg.meetAlloc (by rfl) (bP _ _ _ _ rfl rfl) ?_;rintro y3 b11 cD h11 hbx;have cg:w1.heap.size<=b11:=by rw [cD]; exact HB.out.size
    have my:b11≠bS:=by have:=de.out.lt; omega
    replace de:=hid (de.out.below hbx de.out.lt);replace HB:=hid (bst HB.out hbx);clear cD hbx;refine hK.out _ _ (HSc.out _ M (Fr.below M HB.out)) λhld=>?_;clear hK K;try simp only [Act.put,ak]
    refine aj 7 λK hK=>?_;go_simp;go_at_call 63
    (with_reducible refine (dd.out _ bS D HB.out hbS de.out).mono ?_)
    rintro e y4 ⟨p,M',rfl,ht,f3,i3,t3,kp⟩;obtain ⟨k1,_,k3⟩:=kp b11 h11.1 (HM.out b11 cg).1 my;have eq:¬ M'.ft b11:=k3 (HM.out b11 cg).2 (cZ h11 (qb _ _ _));replace h11:Rg.Own y4 b11 (bO eB none 0) 110:=⟨(Array.getElem?_eq_some_iff.1 (k1.trans h11.2)).1,k1.trans h11.2⟩
    clear k1 k3;have py:=hid ht;have H3:Hid (Fr M M' w1 y4/\Inv M' y4/\Tab y4):=hid ⟨f3,i3,t3⟩;clear ht f3 i3 t3 kp HB de hbS;refine hK.out _ _ (HSc.out _ _ H3.out.1) λhld=>?_;clear hK K;try simp only [Act.put,ak]
    refine ah 8 ?_;try simp only [Act.put,ak]
    refine ah 9 ?_;try simp only [Act.put,ak]
    refine ah 10 ?_;try simp only [Act.put,ak]
    refine aj 12 λK hK=>?_;refine Rg.meetStore (by rfl) h11 110 (bO E p lv) ⟨_,_,rfl,rfl,rfl⟩ ny rfl (pE _ _ _) ?_;rintro y5 hn hu;obtain ⟨hO4,ew,jz⟩:=HFin.out M' _ y5 b11 H3.out.1 H3.out.2.1 H3.out.2.2 cg eq hu;have b8:=hid hO4;have jx:=hid jz;have c1:(y5).cell? ⟨b11,1,none⟩=some (.pointer p):=aV (j:=1) hn rfl;have c2:(y5).cell? ⟨b11,2,none⟩=some (.int .i64 lv):=aV (j:=2) hn rfl;clear hn hu h11 hO4 jz H3 cg eq;refine hK.out _ _ (ew) λhld=>?_;clear hK K ew;try simp only [Act.put]
    refine ah 13 ?_;try simp only [Act.put,ak]
    refine aB ?_;go_wp2_with (first
     | (refine aA (aU (off:=1) c1 ⟨_,rfl,rfl⟩) ?_)
     | (refine aZ b8.out (by decide) p rfl _ _ rfl rfl rfl ?_; intro w9 ax aE; have ce:Hid (Rg.Own w9 (w.heap.size+1) #[.pointer p] 35):=hid ax; have mu:=hid (jx.out w9 aE); clear ax aE))
    exact bodyPost_ret (jq (q:=4) (u:=5) rfl _ rfl ce.out) rfl ⟨p,M',rfl,py.out,mu.out⟩
  .refine Rg.meetAlloc (by rfl) (bP _ _ _ _ rfl rfl) ?_;rintro y2 b11 cD h11 hbx;have cg:w1.heap.size<=b11:=by rw [cD]; exact HB.out.size
   have my:b11≠bS:=by have:=de.out.lt; omega
   replace de:=hid (de.out.below hbx de.out.lt);replace HB:=hid (bst HB.out hbx);clear cD hbx;refine hK.out _ _ (HSc.out _ M (Fr.below M HB.out)) λhld=>?_;clear hK K;try simp only [Act.put,ak]
   refine aj 6 λK hK=>?_;go_simp;go_at_call 64
   (with_reducible refine (dC.out _ HB.out).mono ?_)
   rintro e y3 ⟨rfl,hbx⟩;replace h11:=h11.below hbx;replace de:=hid (de.out.below hbx de.out.lt);replace HB:=hid (bst HB.out hbx);clear hbx;refine hK.out _ _ (HSc.out _ M (Fr.below M HB.out)) λhld=>?_;clear hK K;try simp only [Act.put,ak]
   refine aj 7 λK hK=>?_;go_simp;go_at_call 63
   (with_reducible refine (dd.out _ bS D HB.out hbS de.out).mono ?_)
   rintro e y4 ⟨p,M',rfl,ht,f3,i3,t3,kp⟩;obtain ⟨k1,_,k3⟩:=kp b11 h11.1 (HM.out b11 cg).1 my;have eq:¬ M'.ft b11:=k3 (HM.out b11 cg).2 (cZ h11 (qb _ _ _));replace h11:Rg.Own y4 b11 (bO eB none 0) 110:=⟨(Array.getElem?_eq_some_iff.1 (k1.trans h11.2)).1,k1.trans h11.2⟩
   clear k1 k3;have py:=hid ht;have H3:Hid (Fr M M' w1 y4/\Inv M' y4/\Tab y4):=hid ⟨f3,i3,t3⟩;clear ht f3 i3 t3 kp HB de hbS;refine hK.out _ _ (HSc.out _ _ H3.out.1) λhld=>?_;clear hK K;try simp only [Act.put,ak]
   refine ah 8 ?_;try simp only [Act.put,ak]
   refine ah 9 ?_;try simp only [Act.put,ak]
   refine ah 10 ?_;try simp only [Act.put,ak]
   refine aj 12 λK hK=>?_;refine Rg.meetStore (by rfl) h11 110 (bO E p lv) ⟨_,_,rfl,rfl,rfl⟩ ny rfl (pE _ _ _) ?_;rintro y5 hn hu;obtain ⟨hO4,ew,jz⟩:=HFin.out M' _ y5 b11 H3.out.1 H3.out.2.1 H3.out.2.2 cg eq hu;have b8:=hid hO4;have jx:=hid jz;have c1:(y5).cell? ⟨b11,1,none⟩=some (.pointer p):=aV (j:=1) hn rfl;have c2:(y5).cell? ⟨b11,2,none⟩=some (.int .i64 lv):=aV (j:=2) hn rfl;clear hn hu h11 hO4 jz H3 cg eq;refine hK.out _ _ (ew) λhld=>?_;clear hK K ew;try simp only [Act.put]
   refine ah 13 ?_;try simp only [Act.put,ak]
   refine aB ?_;go_wp2_with (first
    | (refine aA (aU (off:=1) c1 ⟨_,rfl,rfl⟩) ?_)
    | (refine aZ b8.out (by decide) p rfl _ _ rfl rfl rfl ?_; intro w9 ax aE; have ce:Hid (Rg.Own w9 (w.heap.size+1) #[.pointer p] 35):=hid ax; have mu:=hid (jx.out w9 aE); clear ax aE))
   exact bodyPost_ret (jq (q:=4) (u:=5) rfl _ rfl ce.out) rfl ⟨p,M',rfl,py.out,mu.out⟩
 .refine Rg.meetAlloc (by rfl) (bP _ _ _ _ rfl rfl) ?_;rintro y1 b11 cD h11 hbx;have cg:w1.heap.size<=b11:=by rw [cD]; exact HB.out.size
  replace HB:=hid (bst HB.out hbx);clear cD hbx;refine hK.out _ _ (HSc.out _ M (Fr.below M HB.out)) λhld=>?_;clear hK K;try simp only [Act.put,ak]
  refine aj 1 λK hK=>?_;go_simp;go_at_call 62
  (with_reducible refine (yz.out _ HB.out).mono ?_)
  rintro e y2 ⟨rfl,⟨D,hs⟩,hbx⟩;obtain ⟨bS,ep⟩:=ay ((y1).heap.size)
  have hbS:w1.heap.size<=bS:=by rw [<-ep]; exact HB.out.size
  have my:b11≠bS:=by have:=h11.1; omega
  replace h11:=h11.below hbx;replace HB:=hid (bst HB.out hbx);first | rw [ep] at hs ⊢ | (simp only [World.heap_drew] at ep; rw [ep] at hs ⊢)
  have de:=hid hs;clear hs hbx ep;refine hK.out _ _ (HSc.out _ M (Fr.below M HB.out)) λhld=>?_;clear hK K;try simp only [Act.put,ak]
  refine aj 6 λK hK=>?_;go_simp;go_at_call 64
  (with_reducible refine (dC.out _ HB.out).mono ?_)
  rintro e y3 ⟨rfl,hbx⟩;replace h11:=h11.below hbx;replace de:=hid (de.out.below hbx de.out.lt);replace HB:=hid (bst HB.out hbx);clear hbx;refine hK.out _ _ (HSc.out _ M (Fr.below M HB.out)) λhld=>?_;clear hK K;try simp only [Act.put,ak]
  refine aj 7 λK hK=>?_;go_simp;go_at_call 63
  (with_reducible refine (dd.out _ bS D HB.out hbS de.out).mono ?_)
  rintro e y4 ⟨p,M',rfl,ht,f3,i3,t3,kp⟩;obtain ⟨k1,_,k3⟩:=kp b11 h11.1 (HM.out b11 cg).1 my;have eq:¬ M'.ft b11:=k3 (HM.out b11 cg).2 (cZ h11 (qb _ _ _));replace h11:Rg.Own y4 b11 (bO eB none 0) 110:=⟨(Array.getElem?_eq_some_iff.1 (k1.trans h11.2)).1,k1.trans h11.2⟩
  clear k1 k3;have py:=hid ht;have H3:Hid (Fr M M' w1 y4/\Inv M' y4/\Tab y4):=hid ⟨f3,i3,t3⟩;clear ht f3 i3 t3 kp HB de hbS;refine hK.out _ _ (HSc.out _ _ H3.out.1) λhld=>?_;clear hK K;try simp only [Act.put,ak]
  refine ah 8 ?_;try simp only [Act.put,ak]
  refine ah 9 ?_;try simp only [Act.put,ak]
  refine ah 10 ?_;try simp only [Act.put,ak]
  refine aj 12 λK hK=>?_;refine Rg.meetStore (by rfl) h11 110 (bO E p lv) ⟨_,_,rfl,rfl,rfl⟩ ny rfl (pE _ _ _) ?_;rintro y5 hn hu;obtain ⟨hO4,ew,jz⟩:=HFin.out M' _ y5 b11 H3.out.1 H3.out.2.1 H3.out.2.2 cg eq hu;have b8:=hid hO4;have jx:=hid jz;have c1:(y5).cell? ⟨b11,1,none⟩=some (.pointer p):=aV (j:=1) hn rfl;have c2:(y5).cell? ⟨b11,2,none⟩=some (.int .i64 lv):=aV (j:=2) hn rfl;clear hn hu h11 hO4 jz H3 cg eq;refine hK.out _ _ (ew) λhld=>?_;clear hK K ew;try simp only [Act.put]
  refine ah 13 ?_;try simp only [Act.put,ak]
  refine aB ?_;go_wp2_with (first
   | (refine aA (aU (off:=1) c1 ⟨_,rfl,rfl⟩) ?_)
   | (refine aZ b8.out (by decide) p rfl _ _ rfl rfl rfl ?_; intro w9 ax aE; have ce:Hid (Rg.Own w9 (w.heap.size+1) #[.pointer p] 35):=hid ax; have mu:=hid (jx.out w9 aE); clear ax aE))
  exact bodyPost_ret (jq (q:=4) (u:=5) rfl _ rfl ce.out) rfl ⟨p,M',rfl,py.out,mu.out⟩
def lAx:T:=.leaf (List.replicate 63 0) sx
def lBx:T:=.leaf (List.replicate 63 0) sy
def bA:aM:=[226,160,48,0,0,0,0,0,0,0,0,0,0,0,0,0,0,0,0,0,0,0,0,0,0,0,0,0,0,0,0,0,0,0,120]
def bB:aM:=[226,160,48,0,0,0,0,0,0,0,0,0,0,0,0,0,0,0,0,0,0,0,0,0,0,0,0,0,0,0,0,0,0,0,121]
def bT:aM:=[248,81,160,149,79,230,74,221,183,171,189,216,255,121,71,132,155,224,171,87,72,155,115,111,131,173,60,178,193,237,200,169,154,186,156,160,132,184,195,197,135,40,86,237,189,98,72,237,248,40,202,152,85,74,226,224,195,226,9,198,34,88,196,219,65,99,96,32,128,128,128,128,128,128,128,128,128,128,128,128,128,128,128]
def hA:aM:=[149,79,230,74,221,183,171,189,216,255,121,71,132,155,224,171,87,72,155,115,111,131,173,60,178,193,237,200,169,154,186,156]
def hB:aM:=[132,184,195,197,135,40,86,237,189,98,72,237,248,40,202,152,85,74,226,224,195,226,9,198,34,88,196,219,65,99,96,32]
def hT9:aM:=[127,68,42,118,123,146,198,205,87,39,68,155,81,158,117,234,67,38,127,4,148,198,243,30,44,114,38,40,76,2,17,90]
def h09:aM:=[118,190,139,82,141,0,117,247,170,233,141,111,165,122,109,60,131,174,72,10,132,105,230,104,215,176,175,150,137,149,172,113]
theorem ZY:Sh.uy bA=hA:=by decide +kernel
theorem ZB:Sh.uy bB=hB:=by decide +kernel
theorem Yz:Sh.uy bT=hT9:=by decide +kernel
theorem ZR:Sh.uy [128]=h09:=by decide +kernel
theorem RZ:aY (bq .nil lAB)=[lAx,lBx]:=by kernel_rfl
theorem UA:bg (bq .nil lAB)=⟨3,[],eB,ref lAx::ref lBx::List.replicate 14 eB⟩:=by kernel_rfl
theorem ZC:bq .nil lAB ≠ .nil:=Ku _ _ _
theorem xG:Whl (bq .nil lAB):=⟨tL.fine,tL.full,64,aG,tL.good⟩
theorem aaq:lAx ≠ .nil/\Whl lAx:=xG.kids lAx (by rw [RZ]; simp)
theorem ER:lBx ≠ .nil/\Whl lBx:=xG.kids lBx (by rw [RZ]; simp)
theorem Iu (v:aL) (x:UInt8) (hv:v=⟨#[x]⟩) (hx:x.toNat<128):jB ⟨1,List.replicate 63 0,v,zks⟩=[226,160,48,0,0,0,0,0,0,0,0,0,0,0,0,0,0,0,0,0,0,0,0,0,0,0,0,0,0,0,0,0,0,0]++[x]:=by
 have h1:(qO ⟨1,List.replicate 63 0,v,zks⟩).bytes=[160,48,0,0,0,0,0,0,0,0,0,0,0,0,0,0,0,0,0,0,0,0,0,0,0,0,0,0,0,0,0,0,0]:=by
  show (qO ⟨1,List.replicate 63 0,eB,zks⟩).bytes=_;rw [It.lX];decide +kernel
 have h2:(It.mk false v []).bytes=[x]:=by
  rw [jg v (by subst hv; show 1<=4294967296; omega)];subst hv;rw [if_pos ⟨rfl,hx⟩];rfl
 have hi:(fP ⟨1,List.replicate 63 0,v,zks⟩).inner=[160,48,0,0,0,0,0,0,0,0,0,0,0,0,0,0,0,0,0,0,0,0,0,0,0,0,0,0,0,0,0,0,0]++[x]:=by
  show ([]:aM)++([qO ⟨1,List.replicate 63 0,v,zks⟩,.mk false v []].map It.bytes).flatten=_;rw [List.map_cons,List.map_cons,List.map_nil,h1,h2];rfl
 unfold jB;rw [It.lX,hi];rfl
theorem ZP:bE lAx=⟨bA.toArray⟩:=by
 show (⟨(jB ⟨1,List.replicate 63 0,sx,zks⟩).toArray⟩:aL)=_;rw [Iu sx 120 rfl (by decide)];rfl
theorem Uo:bE lBx=⟨bB.toArray⟩:=by
 show (⟨(jB ⟨1,List.replicate 63 0,sy,zks⟩).toArray⟩:aL)=_;rw [Iu sy 121 rfl (by decide)];rfl
theorem NI:ref lAx=⟨hA.toArray⟩:=by
 rw [iV aaq.2.ns,ZP];unfold ofP;rw [if_neg (by decide)];show (⟨(Sh.uy bA).toArray⟩:aL)=_;rw [ZY]
theorem MO:ref lBx=⟨hB.toArray⟩:=by
 rw [iV ER.2.ns,Uo];unfold ofP;rw [if_neg (by decide)];show (⟨(Sh.uy bB).toArray⟩:aL)=_;rw [ZB]
theorem aai:jB ⟨3,[],eB,⟨hA.toArray⟩::⟨hB.toArray⟩::List.replicate 14 eB⟩=bT:=by
 have hr:∀ h:aM,h.length=32->(fF ⟨h.toArray⟩).bytes=160::h:=λh hl=>by
  have hsz:(⟨h.toArray⟩:aL).size=32:=by
   show h.toArray.size=32;simpa using hl
  have e:fF ⟨h.toArray⟩ = .mk false ⟨h.toArray⟩ []:=by
   unfold fF dN;rw [hsz];rfl
  rw [e,jg _ (by omega),if_neg (by omega),hsz];rfl
 have h0:(fF eB).bytes=[128]:=by
  have e:fF eB = .mk false eB []:=rfl;rw [e,jg eB (by decide)];rfl
 have hz:it0.bytes=[128]:=by
  show (It.mk false eB []).bytes=_;rw [jg eB (by decide)];rfl
 have h1:=hr hA rfl;have h2:=hr hB rfl;have hi:(fP ⟨3,[],eB,⟨hA.toArray⟩::⟨hB.toArray⟩::List.replicate 14 eB⟩).inner=[160,149,79,230,74,221,183,171,189,216,255,121,71,132,155,224,171,87,72,155,115,111,131,173,60,178,193,237,200,169,154,186,156,160,132,184,195,197,135,40,86,237,189,98,72,237,248,40,202,152,85,74,226,224,195,226,9,198,34,88,196,219,65,99,96,32,128,128,128,128,128,128,128,128,128,128,128,128,128,128,128]:=by
  show ([]:aM)++(((⟨hA.toArray⟩::⟨hB.toArray⟩::List.replicate 14 eB).map fF++[it0]).map It.bytes).flatten=_;rw [List.map_cons,List.map_cons,List.cons_append,List.cons_append,List.map_cons,List.map_cons,List.map_append,List.map_replicate,List.map_replicate,h0,h1,h2,List.map_cons,List.map_nil,hz];rfl
 unfold jB;rw [It.lX,hi];decide +kernel
theorem RU:bE (bq .nil lAB)=⟨bT.toArray⟩:=by
 have e:bE (bq .nil lAB)=fU (bg (bq .nil lAB)):=by kernel_rfl
 rw [e,UA,NI,MO];unfold fU;rw [aai]
theorem Yu:ref (bq .nil lAB)=⟨hT9.toArray⟩:=by
 rw [iV xG.ns,RU];unfold ofP;rw [if_neg (by decide)];show (⟨(Sh.uy bT).toArray⟩:aL)=_;rw [Yz]
theorem SV {x y:aM} (h:x≠y):(⟨x.toArray⟩:aL)≠⟨y.toArray⟩:=λe=>h (by
 injection e with e;have:=congrArg Array.toList e;simpa using this)
theorem ZO:ref lAx≠ref lBx:=by rw [NI,MO]; exact SV (by decide)
theorem ZX:ref (bq .nil lAB)≠ref lAx:=by rw [Yu,NI]; exact SV (by decide)
theorem Yn:ref (bq .nil lAB)≠ref lBx:=by rw [Yu,MO]; exact SV (by decide)
theorem Ya:fI (bE (bq .nil lAB))≠fI eB:=by
 rw [RU];unfold fI;rw [if_neg (by decide),if_pos (by decide)];show Sh.uy bT≠Sh.uy [128];rw [Yz,ZR];decide
theorem sN (f:Fs) (k:aL) (v:Ent):mg f k v k=some v:=by unfold mg; rw [if_pos rfl]
theorem nT (f:Fs) {k s:aL} (v:Ent) (h:s≠k):mg f k v s=f s:=by unfold mg; rw [if_neg h]
def mR:T:=Dx (bq .nil lAB) 0
theorem TB:aY mR=[.stub (ref lAx),lBx]:=by kernel_rfl
theorem Ep:bE mR=bE (bq .nil lAB):=SX _ _
theorem Vo:(bg mR).kd=3:=by
 rw [show bg mR=bg (bq .nil lAB) from Dw _ _,UA]
theorem FJ:¬ dQ mR:=λh=>by
 have hk:=Vo;revert hk h;generalize mR=t;intro h hk;cases t with
 | stub r=>cases hk
 | nil=>exact h
 | leaf p v=>exact h
 | ext p u=>exact h
 | br ks=>exact h
theorem Zo:mR ≠ .nil:=λe=>by
 have hk:=Vo;rw [e] at hk;cases hk
theorem Xg:Prt mR:=⟨QM tL.good aG tL.fine 0,FJ,64,aG,Cy tL.good 0⟩
theorem NR:ref mR=ref (bq .nil lAB):=by rw [iV FJ,iV xG.ns,Ep]
theorem Zn {x y a b:aL} (hx:ofP x=a) (hy:ofP y=b) (h1:a≠b):gD [x,y]=mg (mg (λ_=>none) a (x,.nil,0)) b (y,.nil,0):=by
 subst hx hy;unfold gD;simp only [List.foldl];rw [if_neg (show ¬ ((λ_=>none:Fs) (ofP x)).isSome=true by simp)];rw [if_neg (show ¬ ((mg (λ_=>none) (ofP x) (x,.nil,0)) (ofP y)).isSome=true by unfold mg; rw [if_neg (λe=>h1 e.symm)]; simp)]
theorem SA {M:Mp} (hi:Inv M W) (hT:Tab W) (a:aK) (n c:Nat) (h:fO W a n c [bE (bq .nil lAB),bE lBx]) (hrow:∀ b off,a=some ⟨b,off,none⟩->M.at_ b=none) :
  Calls prog 32 #[.agg (Sm.kc (fI (bE (bq .nil lAB)))),.slice a n c] W (Dy M W mR):=by
 have hn:n=2:=h.len.symm;have hx:∀ s∈[bE (bq .nil lAB),bE lBx],s.size<=900000:=λs hs=>by
  rcases List.mem_cons.1 hs with rfl | hs
  .exact (xG.enc ZC).2
  .rw [List.mem_singleton.1 hs];exact (ER.2.enc ER.1).2
 have n1:ref mR≠ref lAx:=by rw [NR]; exact ZX
 have n2:ref mR≠ref lBx:=by rw [NR]; exact Yn
 have n3:=ZO;have hF:=Zn (x:=bE mR) (y:=bE lBx) (iV FJ).symm (iV ER.2.ns).symm n2;have hrn:fI (bE mR)≠fI eB:=by rw [Ep]; exact Ya
 rw [<-Ep] at h hx ⊢;have PT:=Xg;have hT0:=Zo;have hB:=ER;have hk:=TB;have k1:aY lBx=[]:=rfl;have sA:(ref lAx).size=32:=by rw [NI]; rfl
 have sB:32<=(ref lBx).size:=by rw [MO]; exact by decide
 have XN:(ref mR).size<=1000:=by rw [iV FJ]; have:=yE (bE mR); omega
 have szB:(ref lBx).size<=1000:=by rw [iV ER.2.ns]; have:=yE (bE lBx); omega
 obtain ⟨A,hA⟩:=ay (ref lAx)
 rw [hA] at n1 n3 sA hk;generalize mR=t at *
 generalize lBx=v at *
 obtain ⟨F,vh⟩:=ay (gD [bE t,bE v])
 have fT:F (ref t)=some (bE t,.nil,0):=by rw [<-vh,hF,nT _ _ n2,sN]
 have fV:F (ref v)=some (bE v,.nil,0):=by rw [<-vh,hF,sN]
 have fA:F A=none:=by rw [<-vh,hF,nT _ _ n3,nT _ _ (λe=>n1 e.symm)]
 have r1:Rdp F v:=λz hz=>by rw [k1] at hz; cases hz
 have m1:lu F (aY v)=0:=by rw [k1]; rfl
 obtain ⟨f2,hf2⟩:=ay (mg F (ref v) (bE v,v,lu F (aY v)+1))
 have r3:Rdp f2 t:=λz hz=>by
  rw [hk] at hz;rcases List.mem_cons.1 hz with rfl | hz
  .exact .inr ⟨A,rfl,sA,by rw [<-hf2,nT _ _ n3]; exact fA⟩
  .rw [List.mem_singleton.1 hz];exact .inl ⟨1,by rw [<-hf2,sN,m1],by omega,by omega,sB⟩
 have hmx:lu f2 (aY t)<=64:=by
  have:=r3.max (aY t).length;rwa [List.take_length] at this
 have XX:f2 (ref t)=some (bE t,.nil,0):=by rw [<-hf2,nT _ _ n2]; exact fT
 refine Oi hi hT [bE t,bE v] hx a n c h (by omega) (by omega) hrow PT hT0 rfl hrn (by rw [vh]; exact fT) (iS:=[ref v]) (by simp) ?_ (k0:=2) (fe:=mg f2 (ref t) (bE t,t,lu f2 (aY t)+1)) ?_ (by omega) (lv:=lu f2 (aY t)+1) (sN _ _ _) (by omega)
 .rw [vh,hk];have g1:gone F (ref (.stub A))=true:=by unfold gone; rw [show ref (.stub A)=A from rfl,fA]
  have g2:gone F (ref v)=false:=by unfold gone; rw [fV]; rfl
  simp [g1,g2]
 .rw [vh];exact ⟨[ref t],v,rfl,fV,hB.2.prt,hB.1,szB,r1,[],t,rfl,by rw [hf2]; exact XX,PT,hT0,XN,by rw [hf2]; exact r3,rfl,by rw [hf2]⟩
def VX (M:Mp) (w:World) (xs:List aL) (e:Ending) (w':World):Prop:=∃ a n c M',e = .returned (.tuple #[.slice a n c,.int .i64 0])/\fO w' a n c xs/\(∀ ad,a=some ad->M'.at_ ad.block=none/\ad.block<w'.heap.size)/\Fr M M' w w'/\Inv M' w'/\Tab w'
structure A13 (w0:World) (M:Mp) (w:World) (gb g3:Nat) (p:aK) (t:T) (B:aM):Prop where
 l:Lw w0 M w
 kb:Rg.Own w gb (kc B) 24
 klb:B.length=32
 bT:Bx M w g3 #[.pointer p] 35
 hT:IsT M p t
namespace A13
variable {w0:World} {M M':Mp} {w w':World} {gb g3:Nat} {p:aK} {t:T} {B:aM}
theorem below (h:A13 w0 M w gb g3 p t B) (hb:Below w.heap.size w w'):A13 w0 M w' gb g3 p t B:=⟨h.l.below hb,h.kb.below hb,h.klb,h.bT.below hb,h.hT⟩
theorem fr (h:A13 w0 M w gb g3 p t B) (f:Fr M M' w w') (i:Inv M' w') (tt:Tab w'):A13 w0 M' w' gb g3 p t B:=⟨h.l.fr f i tt,qQ h.kb (EW h.klb) h.l.i f,h.klb,h.bT.frm h.l.i f,h.hT.mono f.mono⟩
theorem say {e:Ending} (h:A13 w0 M w gb g3 p t B) (g:Wj M w v e w'):e = .returned v/\A13 w0 M w' gb g3 p t B/\Fr M M w w':=⟨g.1,h.fr g.2.1 g.2.2.1 g.2.2.2,g.2.1⟩
end A13
structure Stx (M:Mp) (w:World) (a:aK) (n c:Nat) (xs:List aL):Prop where
 s:fO w a n c xs
 r:∀ ad,a=some ad->M.at_ ad.block=none/\ad.block<w.heap.size
theorem Stx.below {M:Mp} {w w':World} {a:aK} {n c:Nat} {xs:List aL} (h:Stx M w a n c xs) (hb:Below w.heap.size w w'):Stx M w' a n c xs:=⟨h.s.below hb,λad e=>⟨(h.r ad e).1,aI (h.r ad e).2 hb.size⟩⟩
theorem Stx.fr {M M':Mp} {w w':World} {n:Nat} {xs:List aL} (h:Stx M w a n c xs) (f:Fr M M' w w'):Stx M' w' a n c xs :=
 ⟨⟨h.s.1,h.s.2.1,h.s.2.2.1,λj hj=>by
  obtain ⟨b,off,e,hlt,hc⟩:=h.s.at' j hj;exact ⟨b,off,e,aI hlt f.size,by rw [f.cell hlt (h.r _ e).1]; exact hc⟩⟩,λad e=>⟨f.fresh _ (h.r ad e).2 (h.r ad e).1,aI (h.r ad e).2 f.size⟩⟩
theorem Yc:Tr.get mR (path kb)=some (some sy):=by kernel_rfl
theorem VA:Tr.Good mR 64:=Cy tL.good 0
theorem KR {w:World} {n:Nat} (b:Nat) (hb:b=w.heap.size) (ho:∃ x,o.op = .buildSlice 74 1 #[(0,x)]/\ev x = .slice a n c) :
  (execOp ev o).run prog w = .ok (.value (.slice (some ⟨b,0,none⟩) 1 1)) (w.alloc (.cells #[.slice a n c] 29)):=by
 obtain ⟨x,ho,hx⟩:=ho;subst hb;unfold execOp;simp only [ho,List.map_toArray,List.map_cons,List.map_nil,hx];kernel_rfl
theorem yw (ev:Operand->Value) (o:Oper) (w:World) (b:Nat) (hb:b=w.heap.size) (ho:o.op = .alloc 24):(execOp ev o).run prog w = .ok (.value (.pointer (some ⟨b,0,none⟩))) (w.alloc (.cells (kc zk) 24)):=by
 subst hb;exact tJ ev o ho w
theorem Lr (rh:∀ M W p,Inv M W->IsT M p (bq .nil lAB)->Tab W->Calls prog 8 #[tv p,.agg (kc kb)] W (VX M W [bE (bq .nil lAB),bE lBx]))
  (hPa:∀ M W g a n c,Inv M W->Tab W->Bx M W g #[.slice a n c] 29->Stx M W a n c [bE (bq .nil lAB),bE lBx]->Calls prog 17 #[.agg (Sm.kc (fI (bE (bq .nil lAB)))),.slice (some ⟨g,0,none⟩) 1 1] W (Dy M W mR))
  (hM1:∀ W,Calls prog 14 #[.int .i64 1] W λe w'=>e = .returned (.int .i64 1)/\Below W.heap.size W w')
  (hM2:∀ W,Calls prog 14 #[.int .i64 99] W λe w'=>e = .returned (.int .i64 65)/\Below W.heap.size W w')
  (yW:∀ W a n c,fO W a n c [bE (bq .nil lAB),bE lBx]->Calls prog 15 #[.slice a n c] W λe w'=>e = .returned (.int .i64 118)/\Below W.heap.size W w')
  (w:World) (hT:Tab w):Calls prog 10 #[] w λe w'=>e = .returned (.bool true)/\Below w.heap.size w w':=by
 obtain ⟨w1,hw1⟩:=au ((w.alloc (.cells (kc zk) 24)).alloc (.cells (kc zk) 24))
 have hb1:Below w.heap.size w w1:=by rw [hw1]; exact al2 _ _ _
 have hA:Rg.Own w1 w.heap.size (kc ka) 24:=by rw [hw1]; exact (Rg.Own.new _ _ _).below (al1 _ _)
 have hB:Rg.Own w1 (w.heap.size+1) (kc zk) 24:=by
  have:=Rg.Own.new (w.alloc (.cells (kc zk) 24)) (kc zk) 24;rw [hw1];simpa using this
 have z7:=hid ((Lw.start hT).below hb1);have HA1:=hid hA;have HB1:=hid hB;have hne1:w.heap.size≠w.heap.size+1:=by omega
 have cX:=hid yw;have z8:Hid ((kc zk).setIfInBounds 0 (.int .u8 16)=kc kb):=hid (Zd zk 0 16);have Q4:=hid (nS ka sx Kl);have Q5:=hid (nS kb sy wW);have Q6:Hid (ka.length=32):=hid Kl;have z9:Hid (kb.length=32):=hid wW;have Q7:Hid ((kc zk).size=32):=hid WI;have td:Hid (∀ (b:Nat) w3,Rg.Own w3 b (rowP lAB).toArray 60->Lw w M0 w3->Calls prog 9 #[.slice (some ⟨b,0,none⟩) 2 2] w3 (dz M0 w3 (bq .nil lAB))):=hid (λb w3 h hl=>FU M0 _ 2 2 lAB Zy w3 hl.i (SH (l:=lAB) h Zy.1 (by decide)) (by decide))
 have tf:Hid (∀ M W p,Inv M W->IsT M p (bq .nil lAB)->Tab W->Calls prog 18 #[tv p] W (Wj M W (.agg (Sm.kc (fI (bE (bq .nil lAB))))))):=hid (λM W p hi ht h=>WA M p _ xG W hi ht h);have ex:Hid (∀ M W p,Inv M W->IsT M p mR->Calls prog 19 #[tv p,.agg (kc kb)] W λe w'=>e = .returned (.tuple #[.string sy,.int .i64 0])/\Below W.heap.size W w'):=hid (λM W p hi ht=>by
  have:=vY M p mR kb wW W hi ht VA;rw [Yc] at this;exact this)
 have dC:=hid rh;have fa:=hid hPa;have ox:=hid hM1;have j0:=hid hM2;have ie:=hid yW;clear rh hPa hM1 hM2 yW;obtain ⟨r9,zb⟩:=ay (fI (bE (bq .nil lAB)))
 rw [zb] at tf fa;obtain ⟨XS,IA⟩:=ay ([bE (bq .nil lAB),bE lBx])
 have Y0:Hid (XS.length=2):=hid (by rw [<-IA]; rfl);rw [IA] at dC fa ie;generalize bq .nil lAB=TT at *
 generalize mR=TC at *
 clear hA hB hb1 hT zb IA;have HW:Hid (_=_):=hid hw1;clear hw1;have mz:Hid (rowP [(ka,sx),(kb,sy)]=rowP lAB):=hid rfl;obtain ⟨ROW,hROW⟩:=ay (rowP lAB)
 rw [hROW] at td mz;have Y1:Hid (sy=⟨#[121]⟩):=hid rfl;generalize ka=A at *
 generalize kb=B at *
 generalize zk=Z at *
 go_enter func10,ntmps10;go_wp2_with (first
  | (refine aA (cX.out _ _ _ w.heap.size rfl rfl) ?_)
  | (refine aA (cX.out _ _ _ (w.heap.size+1) (by simp) rfl) ?_)
  | (rw [<-HW.out]; refine ED HB1.out (by rw [Q7.out]; decide) 16 rfl _ _ rfl rfl rfl ?_; intro w2 hO2 hu2; have HB2:Hid (Rg.Own w2 (w.heap.size+1) (kc B) 24):=hid (by rw [<-z8.out]; exact hO2); have HA2:=hid (HA1.out.upd hu2 hne1); have HL2:=hid (z7.out.upd hu2 (by omega) (λh=>h)); clear hO2 hu2)
  | (refine aA (bX Q6.out HA2.out.2 ⟨_,rfl,rfl⟩) ?_)
  | (refine aA (bX z9.out HB2.out.2 ⟨_,rfl,rfl⟩) ?_)
  | (refine aA (bL Q4.out ⟨_,rfl,rfl⟩) ?_)
  | (refine aA (bL Q5.out ⟨_,rfl,rfl⟩) ?_)
  | (refine aA (EF (x:=(A,sx)) (z:=(B,sy)) Q6.out z9.out w2.heap.size rfl ⟨_,_,rfl,rfl,rfl⟩) ?_))
 rw [mz.out];have hL3:=HL2.out.below (al1 w2 (.cells ROW.toArray 60));refine (td.out w2.heap.size _ (Rg.Own.new _ _ _) hL3).mono ?_;intro e w4 hG;obtain ⟨p4,M4,rfl,Dg,hL4,sk,hb4⟩:=hL3.got hG;have bc:=hid ((HB2.out.below (al1 _ _)).below hb4);have DH:=hid hL4;have ia:=hid Dg;have HN:=hid (Rg.Own.new w4 #[.pointer none] 35);have tg:=hid (hL4.i.free aG);have zc:=hL4.b.size;clear hG Dg hL4 sk hb4 hL3 HA1 HB1 z7 HA2 HB2 HL2 HW cX z8 Q4 Q5 td mz Q7;go_wp2_with (first
  | (refine aA (aX _ _ _ w4.heap.size rfl rfl) ?_)
  | (refine aZ HN.out (by decide) p4 rfl _ _ rfl rfl rfl ?_; intro w5 ap aq; have aa:=hid (aq.below (al1 w4 (.cells #[.pointer none] 35)) aG); have pL:Hid (A13 w M4 w5 (w.heap.size+1) w4.heap.size p4 TT B):=hid ⟨(DH.out.below (al1 _ _)).upd aq zc tg.out,bc.out.below aa.out,z9.out,⟨ap,tg.out,eH p4⟩,ia.out⟩; clear ap aq)
  | (refine aA (aU (aV (j:=0) pL.out.bT.o rfl) ⟨_,rfl,rfl⟩) ?_)
  | (refine aA (bX z9.out pL.out.kb.2 ⟨_,rfl,rfl⟩) ?_))
 obtain ⟨g3,hg3⟩:=ay w4.heap.size
 rw [hg3] at pL;rw [hg3];obtain ⟨gb,hgb⟩:=ay (w.heap.size+1)
 rw [hgb] at pL;rw [hgb];clear HN DH ia tg zc hg3 hgb aa bc;refine (dC.out M4 w5 p4 pL.out.l.i pL.out.hT pL.out.l.t).mono ?_;rintro e w6 ⟨a6,n6,c6,M6,rfl,hs6,Q8,f6,i6,t6⟩;obtain rfl:n6=2:=by rw [<-hs6.len]; exact Y0.out
 have e9:Hid (Stx M6 w6 a6 2 c6 XS):=hid ⟨hs6,Q8⟩;have oe:=hid (pL.out.fr f6 i6 t6);clear hs6 Q8 f6 i6 t6 pL dC;go_wp2_with (first
  | (refine aA (aU (aV (j:=0) oe.out.bT.o rfl) ⟨_,rfl,rfl⟩) ?_))
 refine (tf.out M6 w6 p4 oe.out.l.i oe.out.hT oe.out.l.t).mono ?_;intro e w7 hG;obtain ⟨rfl,hA7,f7⟩:=oe.out.say hG;have ID:=hid hA7;have rf:=hid (e9.out.fr f7);clear hG hA7 f7 oe e9 tf;obtain ⟨w8,hw8⟩:=au (w7.alloc (.cells #[.slice a6 2 c6] 29))
 have jn:Below w7.heap.size w7 w8:=by rw [hw8]; exact al1 _ _
 have v9:=hid (ID.out.below jn);have IF:=hid (rf.out.below jn);have th:Hid (Bx M6 w8 w7.heap.size #[.slice a6 2 c6] 29):=hid ⟨by rw [hw8]; exact Rg.Own.new _ _ _,ID.out.l.i.free aG,λj x h=>by
  match j,h with
  | 0,h=>simp at h
  | j+1,h=>simp at h⟩
 have zg:Hid (_=_):=hid hw8;clear hw8 jn ID rf;go_wp2_with (first
  | (refine aA (KR (a:=a6) (n:=2) (c:=c6) w7.heap.size rfl ⟨_,rfl,rfl⟩) ?_; rw [<-zg.out]))
 refine (fa.out M6 w8 w7.heap.size a6 2 c6 v9.out.l.i v9.out.l.t th.out IF.out).mono ?_;rintro e w9 ⟨pu,M9,rfl,aE,f9,i9,t9⟩;have Q9:=hid aE;have DM:=hid (v9.out.fr f9 i9 t9);have QP:=hid (IF.out.fr f9);have QQ:=hid (Rg.Own.new w9 #[.pointer none] 35);have mu:=hid (DM.out.l.i.free aG);have QR:=DM.out.l.b.size;clear aE f9 i9 t9 v9 IF th zg fa;go_wp2_with (first
  | (refine aA (aX _ _ _ w9.heap.size rfl rfl) ?_)
  | (refine aZ QQ.out (by decide) pu rfl _ _ rfl rfl rfl ?_; intro af ai al; have dE:=hid (al.below (al1 w9 (.cells #[.pointer none] 35)) aG); have pM:=hid (DM.out.below dE.out); have zj:=hid (QP.out.below dE.out); have c10:af.cell? ⟨w9.heap.size,0,none⟩=some (.pointer pu):=aV (j:=0) ai rfl; clear ai al)
  | (refine aA (aU c10 ⟨_,rfl,rfl⟩) ?_)
  | (refine aA (bX z9.out pM.out.kb.2 ⟨_,rfl,rfl⟩) ?_))
 refine (ex.out M9 af pu pM.out.l.i Q9.out).mono ?_;rintro e ee ⟨rfl,j1⟩;have zr:=hid (pM.out.below j1);have zs:=hid (zj.out.below j1);clear j1 pM zj Q9 ex DM QP QQ mu dE c10;rw [Y1.out];go_wp2_with fail
 refine (ox.out ee).mono ?_;rintro e mA ⟨rfl,bu⟩;have zt:=hid (zr.out.below bu);have zv:=hid (zs.out.below bu);clear bu zr zs;go_wp2_with fail
 refine (j0.out mA).mono ?_;rintro e k9 ⟨rfl,cr⟩;have zz:=hid (zt.out.below cr);have zE:=hid (zv.out.below cr);clear cr zt zv;go_wp2_with fail
 refine (ie.out k9 a6 2 c6 zE.out.s).mono ?_;rintro e A0 ⟨rfl,cE⟩;have IH:=hid (zz.out.below cE);clear cE zz zE;go_wp2;go_ret;exact ⟨rfl,IH.out.l.b⟩
end Tm
end
section
open Go.RowKit
namespace d9
abbrev FW (r:Option Nat):Fence:={ Fence.wide with round:=r }
def jG (o:Oper):Bool:=match o.op with
 | .defer _=>false
 | _=>true
theorem uU (h:jG o=true):∀ c,o.op ≠ .defer c:=λc e=>by
 unfold jG at h;rw [e] at h;cases h
theorem UQ {P:Program} {r:Option Nat} {n:Nat} {o:Oper} {a:Act} {w:World} {K K':Act->World->Prop} {Q Q':Exit->Act->World->Prop} (hd:jG o=true) (hK:∀ a w,K a w->K' a w) (hQ:∀ c a w,Q (.panic c) a w->Q' (.panic c) a w) (hL:¬ LetsOut Q)
  (h:o.wp P a w K Q):o.wpIn (FW r) n P a w K' Q':=by
 refine ⟨λ_ _=>trivial,?_⟩;have e:o.semAt (FW r).round a.eval=execOp a.eval o:=Oper.semAt_eq _ _ _ (uU hd);rw [e];unfold Oper.wp at h;revert h;generalize (execOp a.eval o).run P w=res;intro h;cases res with
 | ok nx w' =>
  cases nx with
  | value v=>exact hK _ _ h
  | skip=>exact hK _ _ h
  | defer d=>exact hK _ _ h
  | enter f args =>
   refine ⟨λhh=>(by cases hh),callsIn_wide.2 (Calls.mono h λe w2 he=>?_)⟩;cases e with
   | returned v=>exact hK _ _ he
   | panicked c=>exact hQ _ _ _ he
   | outgrown=>exact absurd he hL
  | row row args =>
   refine ⟨λhh=>(by cases hh),λc cs _=>?_⟩;obtain ⟨v,w2,hr,hs⟩:=h c cs;exact ⟨v,w2,hK _ _ hr,stepsIn_wide.2 hs⟩
  | _=>exact h.elim
 | halt x w' =>
  cases x with
  | panic v=>exact hQ _ _ _ h
  | _=>exact h.elim
theorem nJ {P:Program} {r:Option Nat} {n:Nat} {ops:Array Oper} {Q Q1:Exit->Act->World->Prop} (hQ:∀ c a w,Q1 (.panic c) a w->Q (.panic c) a w) (hL:¬ LetsOut Q1) (l2:List Oper) (hK:∀ a w,Q1 .normal a w->wpListIn (FW r) n P ops Q l2 a w) :
  ∀ (l1:List Oper) (a:Act) (w:World),l1.all jG=true->wpList P ops Q1 l1 a w->wpListIn (FW r) n P ops Q (l1++l2) a w
 | [],a,w,_,h=>hK a w h
 | o::l1,a,w,hd,h=>by
  rw [List.all_cons,Bool.and_eq_true] at hd;unfold wpList at h;show wpListIn (FW r) n P ops Q (o::(l1++l2)) a w;unfold wpListIn;by_cases hw:Region.wanted o (yielded ops a.tmps)=true
  .rw [if_pos hw] at h ⊢;rcases h with h | h
   .exact UQ hd.1 (λa w g=>nJ hQ hL l2 hK l1 a w hd.2 g) hQ hL h
   .exact absurd h.2 hL
  .rw [if_neg hw] at h ⊢;exact ⟨λ_ _=>trivial,nJ hQ hL l2 hK l1 _ w hd.2 h⟩
theorem QF (h:¬ LetsOut Q):¬ LetsOut (Exit.then K Q):=h
theorem qP {r:Option Nat} {n:Nat} {a:Act} {w:World} {l:List Oper} (hd:l.all jG=true) (hL:¬ LetsOut Q) (h:wpList P l.toArray Q l a w):(Code.region id l.toArray false).wpIn (FW r) n P Q a w:=by
 have:=nJ (P:=P) (r:=r) (n:=n) (ops:=l.toArray) (λ_ _ _ h=>h) hL [] (λ_ _ h=>h) l a w hd h;rw [List.append_nil] at this;exact wpIn_region_lit this
theorem vM {r:Option Nat} {n:Nat} {a:Act} {w:World} {l:List Oper} (hd:l.all jG=true) (hL:¬ LetsOut Q) (h:wpList P ops Q l a w):wpListIn (FW r) n P ops Q l a w:=by
 have:=nJ (P:=P) (r:=r) (n:=n) (ops:=ops) (λ_ _ _ h=>h) hL [] (λ_ _ h=>h) l a w hd h;rw [List.append_nil] at this;exact this
theorem aap {P:Program} {r:Option Nat} {n:Nat} {ops:Array Oper} {Q:Exit->Act->World->Prop} {K:Act->World->Prop} {i:Nat} {a:Act} {w:World} (hd:∀ o∈ops,jG o=true) (hL:¬ LetsOut Q) (h:wpOp P ops Q i K a w):wpOpIn (FW r) n P ops Q i K a w:=by
 unfold wpOp at h;unfold wpOpIn;cases ho:ops[i]? with
 | none=>rw [ho] at h; exact h
 | some o =>
  rw [ho] at h;dsimp only at h ⊢;by_cases hw:Region.wanted o (yielded ops a.tmps)=true
  .rw [if_pos hw] at h ⊢;rcases h with h | h
   .exact UQ (hd o (Array.mem_of_getElem? ho)) (λ_ _ g=>g) (λ_ _ _ g=>g) hL h
   .exact absurd h.2 hL
  .rw [if_neg hw] at h ⊢;exact ⟨λ_ _=>trivial,h⟩
theorem YC {P:Program} {r:Option Nat} {n:Nat} {md:Region.Mode} {ops:Array Oper} {Q:Exit->Act->World->Prop} (hd:∀ o∈ops,jG o=true) (hL:¬ LetsOut Q):∀ (fuel:Nat) (listed:Array Bool) (a:Act) (w:World),wpAny P md ops Q fuel listed a w->wpAnyIn (FW r) n P md ops Q fuel listed a w
 | 0,_,_,_,h=>h
 | fuel+1,_,_,_,h=>⟨h.1,λi hi=>wpOpIn_mono (λa w g=>YC hd hL fuel _ a w g) (aap hd hL (h.2 i hi))⟩
theorem Zq {r:Option Nat} {n:Nat} {a:Act} {w:World} (hm:P.follows .mixedOrders=true) (hd:ops.toList.all jG=true) (hL:¬ LetsOut Q) (hS:S w.drew)
  (h:S w.drew->wpAnyH P .any ops Q S ops.size (Array.replicate ops.size false) a w.drew):(Code.region id ops true).wpIn (FW r) n P Q a w :=
 wpIn_region_any hm (YC (λo ho=>List.all_eq_true.1 hd o (by simpa using ho)) hL _ _ _ _ (wpAny_of_held _ _ _ _ (h hS)))
theorem Ww {r:Option Nat} {n:Nat} {rest:List Oper} {a:Act} {w:World} {l:Nat} {R:Ending->World->Prop} (hw:Region.wanted o (yielded ops a.tmps)=true) (hd:jG o=true)
  (ho:(execOp a.eval o).run P w=(Instr.yield l args).run P w) (hY:YieldAt Fence.wide 0 P l args w R)
  (h:∀ e w',R e w'->∃ v,e = .returned v/\wpListIn (FW r) 0 P ops Q rest (a.put o.dst v) w'):wpListIn (FW r) 0 P ops Q (o::rest) a w:=by
 unfold wpListIn;rw [if_pos hw];refine ⟨λ_ _=>trivial,?_⟩;have e:o.semAt (FW r).round a.eval=execOp a.eval o:=Oper.semAt_eq _ _ _ (uU hd);rw [e,ho];obtain ⟨fn,tmps,assign,body,hy,hR⟩:=hY;rw [hy];refine ⟨λhh=>(by cases hh),RoundIn.mono hR λe w' hr=>?_⟩;obtain ⟨v,rfl,g⟩:=h e w' hr;exact g
theorem xI {f:FuncId} {fn:Func} {c:Code} {w:World} {R:Ending->World->Prop} (hf:P.funcs[f]? = some fn) (hb:fn.body=some c)
  (h:c.wp P (bodyPostM Fence.wide 0 P fn R) { tmps:=args++Array.replicate (fn.ntmps-args.size) undef,defers:=[] } w):Calls P f args w R :=
 callsIn_wide.1 (callsIn_of_wp_marks (n:=0) hf hb trivial (wpIn_wide.2 h))
def marks (Ds:List Nat):List Deferred:=Ds.map λD=>{ target:=.collected D,args:=#[] }
def shut (w:World):List Nat->World
 | []=>w
 | D::Ds=>shut (w.putObj D (.deferred none)) Ds
theorem sJ:∀ (Ds:List Nat) (w:World),(shut w Ds).heap.size=w.heap.size
 | [],_=>rfl
 | D::Ds,w=>by
  show (shut (w.putObj D (.deferred none)) Ds).heap.size=_;rw [sJ,World.putObj_size]
theorem qo:∀ (Ds:List Nat) (w:World) (k:Nat),k ∉ Ds->(shut w Ds).heap[k]? = w.heap[k]?
 | [],_,_,_=>rfl
 | D::Ds,w,k,h=>by
  show (shut (w.putObj D (.deferred none)) Ds).heap[k]? = _;rw [qo Ds _ k (λg=>h (List.mem_cons_of_mem _ g)),World.putObj_heap_other (λe=>h (by rw [e]; exact List.mem_cons_self))]
theorem Dm:∀ (Ds:List Nat) (w:World),(shut w Ds).os=w.os/\(shut w Ds).tape=w.tape/\(shut w Ds).output=w.output
 | [],_=>⟨rfl,rfl,rfl⟩
 | D::Ds,w=>Dm Ds (w.putObj D (.deferred none))
theorem mX {P:Program} {fn:Func} {tmps:aN} {R:Ending->World->Prop}:∀ (Ds:List Nat) (w:World),Ds.Nodup->(∀ D∈Ds,w.heap[D]? = some (.deferred (some [])))->LeavesIn Fence.wide 0 P fn tmps R [] .returning (shut w Ds)->LeavesInM Fence.wide 0 P fn tmps R (marks Ds) .returning w
 | [],_,_,_,h=>h
 | D::Ds,w,hn,hD,h=>by
  obtain ⟨h1,h2⟩:=List.nodup_cons.1 hn;refine ⟨by simp,.inl ⟨_,_,rfl,run_takeDeferred (hD D List.mem_cons_self),mX Ds _ h2 (λE hE=>?_) h⟩⟩;rw [World.putObj_heap_other (λe=>h1 (by rw [<-e]; exact hE))];exact hD E (List.mem_cons_of_mem _ hE)
end d9
namespace Tm
open Tr Ni Pk Ky No Rf Rl d9
open Sm (Tab)
structure Sta {α:Type} (M:Mp) (J:List α->(Nat->Prop)->World->Prop):Prop where
 st:∀ V K w w',J V K w->w.heap.size<=w'.heap.size->(∀ k,K k->w'.heap[k]? = w.heap[k]?)->J V K w'
 lt:∀ V K w,J V K w->∀ k,K k->k<w.heap.size/\M.at_ k=none/\¬ M.ft k
structure Rnd {α:Type} (M:Mp) (J:List α->(Nat->Prop)->World->Prop) (V:List α) (K:Nat->Prop) (n:Nat) (x : α) (w w':World) (K':Nat->Prop):Prop where
 j:J (V++[x]) K' w'
 sub:∀ k,K' k->K k\/n<=k
 f:FrK M K w w'
 i:Inv M w'
 t:Tab w'
def ZN {α:Type} (M:Mp) (gf:Nat) (lb:aN) (A : α->World->aN->Prop) (G:List α) (Pre:World->(Nat->Prop)->Prop):Prop :=
 ∀ (l:Nat) (J Js:List α->(Nat->Prop)->World->Prop) (K0:Nat->Prop) (w:World),Sta M J->Sta M Js->Pre w K0->Inv M w->Tab w->J [] K0 w->
  (∀ V K x args wx,J V K wx->FrK M K0 w wx->Inv M wx->Tab wx->V++[x]<+:G->A x wx args->YieldAt Fence.wide 0 prog l args wx λe w'=>∃ K',(e = .returned (.bool true)/\Rnd M J V K wx.heap.size x wx w' K')\/(e = .returned (.bool false)/\Rnd M Js V K wx.heap.size x wx w' K'))->
  Calls prog gf (#[.func (.yield l) #[] #[]]++lb) w λe w'=>(∃ v,e = .returned v)/\∃ V K,(V=G/\J V K w'\/V<+:G/\Js V K w')/\FrK M K0 w w'/\Inv M w'/\Tab w'/\∀ k,K k->K0 k\/w.heap.size<=k
structure Turn (l:Nat) (w w':World):Prop where
 u:Rg.Upd w l w'
 r:∃ r,w.heap[l]? = some (.loop r)
theorem Turn.cell {l:Nat} {w w':World} (h:Turn l w w') {p:Addr} (hc:w.cell? p=some v):w'.cell? p=some v:=by
 obtain ⟨r,hr⟩:=h.r;have hne:p.block≠l:=λe=>by
  unfold World.cell? at hc;rw [e,hr] at hc;cases hc
 rw [World.cell?_of_block (h.u.block p.block hne)];exact hc
theorem Turn.own {l:Nat} {w w':World} (h:Turn l w w') {b:Nat} {cs:aN} {T:TypeId} (ho:Rg.Own w b cs T):Rg.Own w' b cs T:=by
 obtain ⟨r,hr⟩:=h.r;refine ho.upd h.u (λe=>?_);have h1:=ho.2;rw [e,hr] at h1;cases h1
def XP {α:Type} (M:Mp) (I:List α->(Nat->Prop)->World->Prop) (Ix:Code->List α->(Nat->Prop)->World->Prop) (V:List α) (K:Nat->Prop) (n:Nat) (x : α) (w:World):Exit->Go.Act->World->Prop
 | .normal,_,w3=>∃ K',Rnd M I V K n x w w3 K'
 | .ret,_,w3=>∃ K',Rnd M (Ix .ret) V K n x w w3 K'
 | .exit id,_,w3=>∃ K',Rnd M (Ix (.exit id)) V K n x w w3 K'
 | .goto t,_,w3=>∃ K',Rnd M (Ix (.goto t)) V K n x w w3 K'
 | .panic _,_,_=>False
 | .outgrown,_,_=>False
theorem Uc {α:Type} {M:Mp} {g:Operand} {ps:Array Tmp} {assign body:Code} {Q:Exit->Go.Act->World->Prop} {a:Go.Act} {w:World} {gf:Nat} {lb:aN} (hg:a.eval g = .func (.func gf) #[] lb) (eg:∀ args w,(callFunc gf args).run prog w = .ok (.enter gf args) w)
  {A : α->World->aN->Prop} {G:List α} {Pre:World->(Nat->Prop)->Prop} (hseq:ZN M gf lb A G Pre) (hps:∀ x W args,A x W args->args.size=ps.size) {K0:Nat->Prop} (hpre:∀ W1 K1,Below w.heap.size w W1->(∀ k,K1 k->K0 k\/w.heap.size<=k)->Pre W1 K1) (hi:Inv M w) (hT:Tab w)
  {I:List α->(Nat->Prop)->World->Prop} (hI:Sta M I) {Ix:Code->List α->(Nat->Prop)->World->Prop} (hIx:∀ c,Sta M (Ix c)) (h0:I [] K0 w)
  (ey:∀ (l:Nat) (V:List α) (K:Nat->Prop) (x : α) (args:aN) (W:World) (S:Go.Act->World->Prop),w.heap.size<=l->l<W.heap.size->¬ K l->I V K W->FrK M K0 w W->(∀ k,K k->K0 k\/w.heap.size<=k)->Inv M W->Tab W->V++[x]<+:G->A x W args->
   (∀ a' W',Below W.heap.size W W'->(∀ W2,Turn l W' W2->body.wpIn (FW (some l)) 0 prog (XP M I Ix V K W.heap.size x W2) a' W2)->S a' W')->
   assign.wpIn (FW (some l)) 0 prog (Exit.then S (λ_ _ _=>False)) { tmps:=(ps.zip args).foldl (λt (p,v)=>t.setIfInBounds p v) a.tmps,defers:=[] } W)
  (hdone:∀ K W,I G K W->FrK M K0 w W->Inv M W->Tab W->(∀ k,K k->K0 k\/w.heap.size<=k)->W.heap[w.heap.size]? = some (.deferred (some []))->¬ K w.heap.size->Q .normal { a with defers:={ target:=.collected w.heap.size,args:=#[] }::a.defers } W)
  (hstop:∀ c V K W,V<+:G->Ix c V K W->FrK M K0 w W->Inv M W->Tab W->(∀ k,K k->K0 k\/w.heap.size<=k)->W.heap[w.heap.size]? = some (.deferred (some []))->¬ K w.heap.size->c.wp prog Q { a with defers:={ target:=.collected w.heap.size,args:=#[] }::a.defers } W) :
  (Code.rangeFunc g ps assign body).wp prog Q a w:=by
 refine (wpIn_wide (n:=0)).1 (wpIn_rangeFunc λfn hfn=>?_);obtain ⟨rec,hrec⟩:∃ rec:LoopState->Option Code->Loop,rec=λst pe=>{ state:=st,pending:=pe,fn,tmps:=a.tmps,params:=ps,assign,body,defers:=w.heap.size }:=⟨_,rfl⟩
 obtain ⟨W1,hW1⟩:=ay ((w.alloc (.deferred (some []))).alloc (.loop (rec .ready none)))
 have hL1:W1.heap[w.heap.size+1]? = some (.loop (rec .ready none)):=by
  rw [<-hW1]; have:=World.alloc_heap_new (w.alloc (.deferred (some []))) (.loop (rec .ready none)); rwa [World.size_alloc] at this
 have hK1:W1.heap[w.heap.size]? = some (.deferred (some [])):=by
  rw [<-hW1]; exact (Below.heap_alloc _ _ _ (by simp)).trans (World.alloc_heap_new w _)
 have hb1:Below w.heap.size w W1:=by rw [<-hW1]; exact ((Below.refl _ w).alloc aG _).alloc (by simp) _
 have hs1:W1.heap.size=w.heap.size+2:=by rw [<-hW1]; simp
 obtain ⟨D,hD⟩:=ay w.heap.size
 have hout:∀ k,D<=k->M.at_ k=none/\¬ M.ft k:=λk hk=>⟨hi.out (by omega),hi.free (by omega)⟩
 have hz:0<D:=by rw [<-hD]; exact hT.pos
 have ti:=hI.lt _ _ _ h0;refine ⟨w.heap.size+1,[{ target:=.collected w.heap.size,args:=#[] }],W1,{ target:=.fn (.func gf) lb,args:=#[.func (.yield (w.heap.size+1)) #[] #[]] },W1,gf,
  #[.func (.yield (w.heap.size+1)) #[] #[]]++lb,W1,?_,?_,λ_ _=>trivial,?_,λhh=>(by cases hh),?_⟩
 .rw [<-hW1,hrec]; exact run_enterLoop_outer _ _ _ _ _
 .simp only [resolve,hg];simp [go_sem]
 .simp [invoke,go_sem,eg]
 .rw [hD] at hL1 hK1 hb1 hs1 ⊢;simp only [hD] at ey hdone hstop hpre hrec hT;have tk:∀ (I:List α->(Nat->Prop)->World->Prop) (st:LoopState) (pe:Option Code),Sta M I->Sta M (λV K' W=>∃ K,I V K W/\(∀ k,K' k↔K k\/k=D\/k=D+1)/\¬ K D/\¬ K (D+1)/\(∀ k,K k->K0 k\/D<=k)/\W.heap[D+1]? = some (.loop (rec st pe))/\W.heap[D]? = some (.deferred (some []))):=λI st pe hI=>by
   refine ⟨λV K' W W' ⟨K,h1,h2,h3,h4,h5,h6,h7⟩ hs hk=>⟨K,hI.st _ _ _ _ h1 hs λk hk'=>hk k ((h2 k).2 (.inl hk')),h2,h3,h4,h5,(hk _ ((h2 _).2 (.inr (.inr rfl)))).trans h6,(hk _ ((h2 _).2 (.inr (.inl rfl)))).trans h7⟩,λV K' W ⟨K,h1,h2,h3,h4,h5,h6,h7⟩ k hk=>?_⟩;rcases (h2 k).1 hk with h | rfl | rfl
   .exact hI.lt _ _ _ h1 k h
   .exact ⟨(Array.getElem?_eq_some_iff.1 h7).1,hout _ aG⟩
   .exact ⟨(Array.getElem?_eq_some_iff.1 h6).1,hout _ (Nat.le_succ _)⟩
  have IM:Sta M (λV K' W=>∃ c K,Ix c V K W/\(∀ k,K' k↔K k\/k=D\/k=D+1)/\¬ K D/\¬ K (D+1)/\(∀ k,K k->K0 k\/D<=k)/\W.heap[D+1]? = some (.loop (rec .done (some c)))/\W.heap[D]? = some (.deferred (some []))) :=
   ⟨λV K' W W' ⟨c,h⟩ hs hk=>⟨c,(tk (Ix c) .done (some c) (hIx c)).st V K' W W' h hs hk⟩,λV K' W ⟨c,h⟩=>(tk (Ix c) .done (some c) (hIx c)).lt V K' W h⟩
  have hi1:Inv M W1:=hi.keep hb1.size λk hk=>hb1.block k (by rw [<-hD]; exact hi.lt_ k hk);have hT1:Tab W1:=hT.below hb1 hz;refine callsIn_wide.2 ((hseq (D+1) _ _ (λk=>K0 k\/k=D\/k=D+1) W1 (tk I .ready none hI) IM (hpre W1 _ hb1 λk hk=>hk.elim Or.inl λh=>.inr (by omega)) hi1 hT1
   ⟨K0,hI.st _ _ _ _ h0 hb1.size λk hk=>hb1.block k (by have:=(ti k hk).1; omega),λk=>Iff.rfl,λh=>by have:=(ti _ h).1; omega,λh=>by have:=(ti _ h).1; omega,λk hk=>.inl hk,hL1,hK1⟩ ?_).mono ?_)
  .-- one round
   rintro V K' x args W ⟨K,hj,lr,pN,ke,hKs,hl,hd⟩ ky ri pP hpf hA;have hf0:FrK M K0 w W:=⟨ky.os.trans hb1.os,ky.tape.trans hb1.tape,ky.output.trans hb1.output,by have:=ky.size; omega,λk hk hm hn=>by
    have IN:k<D:=by omega
    rw [ky.block k (by omega) hm (λg=>g.elim hn (by omega)),hb1.block k (by omega)]⟩
   have hlt:D+1<W.heap.size:=(Array.getElem?_eq_some_iff.1 hl).1;have hy:=run_yield (P:=prog) (args:=args) hl (by rw [hrec]; exact hps x W args hA);rw [hrec] at hy;refine ⟨fn,_,assign,body,hy,roundIn_of_wpIn trivial (ey (D+1) V K x args W _ (Nat.le_succ _) hlt ke hj hf0 hKs ri pP hpf hA λa' W' hb' hbody=>?_)⟩;have hl':W'.heap[D+1]? = some (.loop (rec .ready none)):=(hb'.block _ hlt).trans hl;have hd':W'.heap[D]? = some (.deferred (some [])):=(hb'.block _ (by omega)).trans hd;refine ⟨_,run_beginRound hl' (by rw [hrec]),?_⟩
   have hu2:Rg.Upd W' (D+1) (W'.putObj (D+1) (.loop { rec .ready none with state:=.busy })):=⟨rfl,rfl,rfl,World.putObj_size,λk hk=>World.putObj_heap_other hk⟩
   have hl2:(W'.putObj (D+1) (.loop { rec .ready none with state:=.busy })).heap[D+1]? = some (.loop { rec .ready none with state:=.busy }):=World.putObj_heap_same (Array.getElem?_eq_some_iff.1 hl').1;have hd2:=(hu2.block D (by omega)).trans hd';refine wpIn_mono (hbody _ ⟨hu2,_,hl'⟩) ?_;generalize hW2:W'.putObj (D+1) (.loop { rec .ready none with state:=.busy })=W2 at hu2 hl2 hd2;have fin:∀ (c:Option Code) (I':List α->(Nat->Prop)->World->Prop) (W3:World) (K3:Nat->Prop),Sta M I'->Rnd M I' V K W.heap.size x W2 W3 K3->
     (Instr.endRound (D+1) c).run prog W3 = .ok (.bool c.isNone) (W3.putObj (D+1) (.loop (rec (if c.isNone then .ready else .done) c)))/\
     Rnd M (λV K' W=>∃ K,I' V K W/\(∀ k,K' k↔K k\/k=D\/k=D+1)/\¬ K D/\¬ K (D+1)/\(∀ k,K k->K0 k\/D<=k)/\W.heap[D+1]? = some (.loop (rec (if c.isNone then .ready else .done) c))/\W.heap[D]? = some (.deferred (some []))) V K' W.heap.size x W (W3.putObj (D+1) (.loop (rec (if c.isNone then .ready else .done) c))) (λk=>K3 k\/k=D\/k=D+1):=λc I' W3 K3 hI' h=>by
    have hs2:W2.heap.size=W'.heap.size:=hu2.size;have hs':=hb'.size;have hl3:W3.heap[D+1]? = some (.loop { rec .ready none with state:=.busy }):=(h.f.block _ (by omega) (hout _ (by omega)).1 ke).trans hl2;have hd3:W3.heap[D]? = some (.deferred (some [])):=(h.f.block _ (by omega) (hout _ (by omega)).1 pN).trans hd2;have hr:=run_endRound (P:=prog) c hl3;rw [hrec] at hr ⊢
    have hu3:Rg.Upd W3 (D+1) (W3.putObj (D+1) (.loop { state:=(if c.isNone then .ready else .done),pending:=c,fn,tmps:=a.tmps,params:=ps,assign,body,defers:=D })):=⟨rfl,rfl,rfl,World.putObj_size,λk hk=>World.putObj_heap_other hk⟩
    have hnD:¬ K3 D:=λhk=>(h.sub _ hk).elim pN (by omega);have A6:¬ K3 (D+1):=λhk=>(h.sub _ hk).elim ke (by omega);refine ⟨hr,⟨⟨K3,hI'.st _ _ _ _ h.j (by rw [hu3.size]; exact aG) λk hk=>hu3.block k λe=>A6 (by rw [<-e]; exact hk),λk=>Iff.rfl,hnD,A6,λk hk=>(h.sub k hk).elim (hKs k) (by omega),World.putObj_heap_same (Array.getElem?_eq_some_iff.1 hl3).1,(hu3.block D (by omega)).trans hd3⟩,λk hk=>?_,?_,h.i.upd hu3 (hout _ (by omega)).2,λj hj=>?_⟩⟩
    .rcases hk with hk | hk
     .exact (h.sub k hk).elim (λg=>.inl ((lr k).2 (.inl g))) .inr
     .exact .inl ((lr k).2 (.inr hk))
    .refine ⟨hu3.os.trans (h.f.os.trans (hu2.os.trans hb'.os)),hu3.tape.trans (h.f.tape.trans (hu2.tape.trans hb'.tape)),hu3.output.trans (h.f.output.trans (hu2.output.trans hb'.output)),by rw [hu3.size]; exact Nat.le_trans (by omega) h.f.size,λk hk hm hn=>?_⟩;have hne:k≠D+1:=λe=>hn ((lr k).2 (.inr (.inr e)));rw [hu3.block k hne,h.f.block k (by omega) hm (λg=>hn ((lr k).2 (.inl g))),hu2.block k hne,hb'.block k hk]
    .rw [World.cell?_of_block (hu3.block 0 (by omega))];exact h.t j hj
   rintro e a3 W3 hp;cases e with
   | normal =>
    obtain ⟨K3,hp⟩:=hp;obtain ⟨h1,h2⟩:=fin none I W3 K3 hI hp;exact ⟨_,_,h1,_,.inl ⟨rfl,h2⟩⟩
   | ret =>
    obtain ⟨K3,hp⟩:=hp;obtain ⟨h1,h2⟩:=fin (some .ret) (Ix .ret) W3 K3 (hIx _) hp;exact ⟨_,_,h1,_,.inr ⟨rfl,⟨_,h2.j⟩,h2.sub,h2.f,h2.i,h2.t⟩⟩
   | exit id =>
    obtain ⟨K3,hp⟩:=hp;obtain ⟨h1,h2⟩:=fin (some (.exit id)) (Ix (.exit id)) W3 K3 (hIx _) hp;exact ⟨_,_,h1,_,.inr ⟨rfl,⟨_,h2.j⟩,h2.sub,h2.f,h2.i,h2.t⟩⟩
   | goto t =>
    obtain ⟨K3,hp⟩:=hp;obtain ⟨h1,h2⟩:=fin (some (.goto t)) (Ix (.goto t)) W3 K3 (hIx _) hp;exact ⟨_,_,h1,_,.inr ⟨rfl,⟨_,h2.j⟩,h2.sub,h2.f,h2.i,h2.t⟩⟩
   | panic ch=>exact hp.elim
   | outgrown=>exact hp.elim
  .-- behind the iterator
   rintro e W2 ⟨⟨v,rfl⟩,V,K',hV,f2,i2,t2,hsub⟩;have key:∀ (c:Option Code) (st:LoopState) (I':List α->(Nat->Prop)->World->Prop),Sta M I'->st ≠ .busy->(∃ K,I' V K W2/\(∀ k,K' k↔K k\/k=D\/k=D+1)/\¬ K D/\¬ K (D+1)/\(∀ k,K k->K0 k\/D<=k)/\W2.heap[D+1]? = some (.loop (rec st c))/\W2.heap[D]? = some (.deferred (some [])))->
     ∃ W4 K,(Instr.endLoop (D+1)).run prog W2 = .ok c W4/\I' V K W4/\FrK M K0 w W4/\Inv M W4/\Tab W4/\(∀ k,K k->K0 k\/D<=k)/\W4.heap[D]? = some (.deferred (some []))/\¬ K D:=λc st I' hI' hst ⟨K,hj,lr,pN,ke,hKs,hl,hd⟩=>by
    have hr:=run_endLoop (P:=prog) hl (by rw [hrec]; exact hst);rw [hrec] at hr;have hu3:Rg.Upd W2 (D+1) (W2.putObj (D+1) (.loop { state:=.exhausted,pending:=c,fn,tmps:=a.tmps,params:=ps,assign,body,defers:=D })):=⟨rfl,rfl,rfl,World.putObj_size,λk hk=>World.putObj_heap_other hk⟩
    refine ⟨_,K,hr,hI'.st _ _ _ _ hj (by rw [hu3.size]; exact aG) (λk hk=>hu3.block k λe=>ke (by rw [<-e]; exact hk)),?_,i2.upd hu3 (hout _ (by omega)).2,λj hj=>?_,hKs,(hu3.block D (by omega)).trans hd,pN⟩
    .have hs2:=f2.size;refine ⟨hu3.os.trans (f2.os.trans hb1.os),hu3.tape.trans (f2.tape.trans hb1.tape),hu3.output.trans (f2.output.trans hb1.output),by rw [hu3.size]; omega,λk hk hm hn=>?_⟩;have IN:k<D:=by omega
     rw [hu3.block k (by omega),f2.block k (by omega) hm (λg=>g.elim hn (by omega)),hb1.block k (by omega)]
    .rw [World.cell?_of_block (hu3.block 0 (by omega))];exact t2 j hj
   rcases hV with ⟨rfl,h⟩ | ⟨hpf,c,h⟩
   .obtain ⟨W4,K,hr,g1,g2,g3,g4,g5,g6,g7⟩:=key none .ready I hI (by simp) h;exact ⟨none,W4,hr,hdone K W4 g1 g2 g3 g4 g5 g6 g7⟩
   .obtain ⟨W4,K,hr,g1,g2,g3,g4,g5,g6,g7⟩:=key (some c) .done (Ix c) (hIx c) (by simp) h;exact ⟨some c,W4,hr,(wpIn_wide (n:=0)).2 (hstop c V K W4 hpf g1 g2 g3 g4 g5 g6 g7)⟩
end Tm
end
section
namespace Tr
open Rf Rl Ni No
end Tr
end
section
namespace Tr
open Rf Rl Ni No
abbrev Pl:=T × Nat × Pa
def dY:Pl->List Pl
 | (.ext q s,o,a)=>[(s,o+1,a++q)]
 | (.br ks,o,a)=>(bI ks).map λi=>(ks i,o+1,a++[dH i])
 | _=>[]
def goL (I:Pa->Bool):T->Nat->Pa->List Pl
 | .nil,o,a=>if I a then [(.nil,o,a)] else []
 | .leaf p v,o,a=>if I a then [(.leaf p v,o,a)] else []
 | .stub r,o,a=>if I a then [(.stub r,o,a)] else []
 | .ext q s,o,a=>if I a then (.ext q s,o,a)::goL I s (o+1) (a++q) else []
 | .br ks,o,a=>if I a then (.br ks,o,a)::((bI ks).map λi=>goL I (ks i) (o+1) (a++[dH i])).flatten else []
def goP (I:Pa->Bool) (x:Pl):List Pl:=goL I x.1 x.2.1 x.2.2
theorem JO (I:Pa->Bool) (x:Pl):goP I x=if I x.2.2 then x::((dY x).map (goP I)).flatten else []:=by
 obtain ⟨t,o,a⟩:=x;cases t with
 | nil=>rfl
 | leaf p v=>rfl
 | stub r=>rfl
 | ext q s =>
  show (if I a then _::goL I s (o+1) (a++q) else [])=if I a then _::([(s,o+1,a++q)].map (goP I)).flatten else []
  simp [goP]
 | br ks =>
  show (if I a then _::((bI ks).map λi=>goL I (ks i) (o+1) (a++[dH i])).flatten else [])=if I a then _::(((bI ks).map λi=>(ks i,o+1,a++[dH i])).map (goP I)).flatten else []
  rw [List.map_map];rfl
theorem nX (x:Pl):(dY x).map (·.1)=aY x.1:=by
 obtain ⟨t,o,a⟩:=x;cases t with
 | br ks =>
  show ((bI ks).map λi=>(ks i,o+1,a++[dH i])).map (·.1)=(bI ks).map ks;rw [List.map_map];rfl
 | _=>rfl
theorem Jg (x:Pl):∀ y∈dY x,y.2.1=x.2.1+1:=λy hy=>by
 obtain ⟨t,o,a⟩:=x;cases t with
 | nil=>cases hy
 | leaf p v=>cases hy
 | stub r=>cases hy
 | ext q s=>rw [List.mem_singleton.1 hy]
 | br ks =>
  obtain ⟨i,_,rfl⟩:=List.mem_map.1 hy;rfl
def jw (I:Pa->Bool) (S:List Pl):List Pl:=(S.reverse.map (goP I)).flatten
theorem KW (I:Pa->Bool) (x:Pl):jw I [x]=goP I x:=by simp [jw]
theorem Qy {I:Pa->Bool} (S:List Pl) {x:Pl} (h:I x.2.2=true):jw I (S++[x])=x::jw I (S++(dY x).reverse):=by
 unfold jw;rw [List.reverse_append,List.reverse_append,List.reverse_reverse,List.map_append,List.map_append,List.flatten_append,List.flatten_append];rw [List.reverse_singleton,List.map_singleton,List.flatten_singleton,JO,if_pos h];rfl
theorem MG {I:Pa->Bool} (S:List Pl) {x:Pl} (h:I x.2.2=false):jw I (S++[x])=jw I S:=by
 unfold jw;rw [List.reverse_append,List.map_append,List.flatten_append,List.reverse_singleton,List.map_singleton,List.flatten_singleton,JO,if_neg (by rw [h]; decide)];rfl
def gZ:T->Nat
 | .nil=>1
 | .leaf _ _=>1
 | .stub _=>1
 | .ext _ s=>1+gZ s
 | .br ks=>1+((bI ks).map λi=>gZ (ks i)).sum
theorem yZ (t:T):1<=gZ t:=by
 cases t with
 | nil=>exact aG
 | leaf p v=>exact aG
 | stub r=>exact aG
 | ext q s=>exact Nat.le_add_right _ _
 | br ks=>exact Nat.le_add_right _ _
theorem UD (t:T):gZ t=1+((aY t).map gZ).sum:=by
 cases t with
 | nil=>rfl
 | leaf p v=>rfl
 | stub r=>rfl
 | ext q s=>show 1+gZ s=1+([s].map gZ).sum; simp
 | br ks =>
  show 1+((bI ks).map λi=>gZ (ks i)).sum=1+(((bI ks).map ks).map gZ).sum;rw [List.map_map];rfl
def mM (S:List Pl):Nat:=(S.map λx=>gZ x.1).sum
theorem zQ (S:List Pl) (x:Pl):mM (S++[x])=mM S+gZ x.1:=by simp [mM]
theorem Dt (S:List Pl) (x:Pl):mM S<mM (S++[x]):=by
 have:=yZ x.1;rw [zQ];omega
theorem Jl (S:List Pl) (x:Pl):mM (S++(dY x).reverse)<mM (S++[x]):=by
 rw [zQ,UD,<-nX];unfold mM;rw [List.map_append,List.sum_append,List.map_reverse,List.sum_reverse,List.map_map];show _<_+(1+((dY x).map λy=>gZ y.1).sum)
 omega
theorem QH (S:List Pl):S.length<=mM S:=by
 unfold mM
 induction S with
 | nil=>exact aG
 | cons x r ih =>
  have:=yZ x.1;rw [List.map_cons,List.sum_cons,List.length_cons];omega
theorem RB {α:Type} {ks:Fin 16->T} {f:Fin 16->List α} (h:∀ i,ks i = .nil->f i=[]):((bI ks).map f).flatten=((List.finRange 16).map f).flatten:=by
 unfold bI;generalize List.finRange 16=l
 induction l with
 | nil=>rfl
 | cons i r ih =>
  rw [List.map_cons,List.flatten_cons,<-ih];by_cases hn:ks i = .nil
  .rw [List.filter_cons_of_neg (by rw [bM.2 hn]; decide),h i hn,List.nil_append]
  .rw [List.filter_cons_of_pos (by
    cases e:isNil (ks i) with
    | true=>exact absurd (bM.1 e) hn
    | false=>rfl),List.map_cons,List.flatten_cons]
theorem wV:∀ (t:T) (L:Nat),Good t L->Full t->t ≠ .nil->gZ t=(mH t).length
 | .nil,_,_,_,h=>absurd rfl h
 | .leaf _ _,_,_,_,_=>rfl
 | .ext q s,L,g,f,_=>by
  have:=wV s _ g.2.2.2.2 f (kM g.2.2.2.1);show 1+gZ s=(_::mH s).length;rw [List.length_cons];omega
 | .br ks,L,g,f,_=>by
  have e:((List.finRange 16).map λi=>(mH (ks i))).flatten=((bI ks).map λi=>mH (ks i)).flatten:=(RB λi hi=>by rw [hi]; rfl).symm;show 1+((bI ks).map λi=>gZ (ks i)).sum=(_::((List.finRange 16).map λi=>mH (ks i)).flatten).length;rw [e,List.length_cons,List.length_flatten,List.map_map];have e2:((bI ks).map λi=>gZ (ks i))=(bI ks).map (List.length ∘ λi=>mH (ks i)):=List.map_congr_left λi hi=>wV (ks i) _ (g.2.2 i) (f i) (jR.1 hi);rw [e2];omega
 | .stub _,_,_,f,_=>f.elim
theorem AJ {f g:Fin 16->Nat}:∀ l:List (Fin 16),(∀ i∈l,f i<=g i)->(l.map f).sum<=(l.map g).sum
 | [],_=>aG
 | i::l,h=>by
  have h1:=h i List.mem_cons_self;have h2:=AJ l λj hj=>h j (List.mem_cons_of_mem _ hj);rw [List.map_cons,List.map_cons,List.sum_cons,List.sum_cons];omega
def wJ (x:Pl):Prop:=∃ L,x.2.2.length+L=64/\Good x.1 L/\Fine x.1/\Nib x.2.2/\x.2.1<=x.2.2.length
theorem wJ.root {t:T} (g:Good t 64) (f:Fine t):wJ (t,0,[]):=⟨64,rfl,g,f,Nib.nil,aG⟩
theorem wJ.kids {x:Pl} (h:wJ x):∀ y∈dY x,wJ y/\y.1 ≠ .nil:=λy hy=>by
 obtain ⟨t,o,a⟩:=x;obtain ⟨L,hl,g,f,hn,ho⟩:=h;cases t with
 | nil=>cases hy
 | leaf p v=>cases hy
 | stub r=>cases hy
 | ext q s =>
  rw [List.mem_singleton.1 hy];obtain ⟨h1,h2,h3,h4,h5⟩:=g;have hq:0<q.length:=List.length_pos_iff.2 h1;refine ⟨⟨L-q.length,?_,h5,f,hn.append h2,?_⟩,kM h4⟩
  .show (a++q).length+_=64;rw [List.length_append];have:a.length+L=64:=hl;omega
  .show o+1<=(a++q).length;rw [List.length_append];have:o<=a.length:=ho;omega
 | br ks =>
  obtain ⟨i,hi,rfl⟩:=List.mem_map.1 hy;obtain ⟨h1,_,h3⟩:=g;refine ⟨⟨L-1,?_,h3 i,f i,hn.append (.cons (iM i) .nil),?_⟩,jR.1 hi⟩
  .show (a++[dH i]).length+_=64;rw [List.length_append];have:a.length+L=64:=hl;show a.length+1+_=64;omega
  .show o+1<=(a++[dH i]).length;rw [List.length_append];have:o<=a.length:=ho;show _<=a.length+1;omega
def isNode:T->Bool
 | .nil=>false
 | .stub _=>false
 | _=>true
def leads (P:Pa):Pa->Bool:=λa=>decide (a<+:P)
theorem Li {P:Pa}:∀ (t:T) (o:Nat) (a:Pa),¬ a<+:P->goL (leads P) t o a=[]
 | .nil,_,a,h=>by unfold goL; rw [if_neg]; unfold leads; simpa using h
 | .leaf _ _,_,a,h=>by unfold goL; rw [if_neg]; unfold leads; simpa using h
 | .stub _,_,a,h=>by unfold goL; rw [if_neg]; unfold leads; simpa using h
 | .ext _ _,_,a,h=>by unfold goL; rw [if_neg]; unfold leads; simpa using h
 | .br _,_,a,h=>by unfold goL; rw [if_neg]; unfold leads; simpa using h
theorem WG:∀ (t:T) (o:Nat) (a w:Pa),Nib w->((goL (leads (a++w)) t o a).filter λx=>isNode x.1).map (λx=>bg x.1)=bG t w:=by
 have hI:∀ a w:Pa,leads (a++w) a=true:=λa w=>aJ (List.prefix_append a w);intro t
 induction t with
 | nil=>intro o a w _; unfold goL; rw [if_pos (hI a w)]; rfl
 | leaf p v=>intro o a w _; unfold goL; rw [if_pos (hI a w)]; rfl
 | stub r=>intro o a w _; unfold goL; rw [if_pos (hI a w)]; rfl
 | ext q s ih =>
  intro o a w hw;unfold goL;rw [if_pos (hI a w)];show bg (.ext q s)::((goL (leads (a++w)) s (o+1) (a++q)).filter λx=>isNode x.1).map (λx=>bg x.1)=bg (.ext q s)::if q<+:w then bG s (w.drop q.length) else []
  congr 1;by_cases h:q<+:w
  .rw [if_pos h];have e:=Uw h;have:=ih (o+1) (a++q) (w.drop q.length) (hw.drop _);rw [List.append_assoc,<-e] at this;exact this
  .rw [if_neg h,Li s (o+1) (a++q) (λg=>h ((List.prefix_append_right_inj a).1 g))];rfl
 | br ks ih =>
  intro o a w hw;unfold goL;rw [if_pos (hI a w)];show bg (.br ks)::((((bI ks).map λi=>goL (leads (a++w)) (ks i) (o+1) (a++[dH i])).flatten).filter λx=>isNode x.1).map (λx=>bg x.1)=bG (.br ks) w;cases w with
  | nil =>
   have e:((bI ks).map λi=>goL (leads (a++[])) (ks i) (o+1) (a++[dH i]))=(bI ks).map λ_=>[]:=List.map_congr_left λi _=>Li _ _ _ λh=>by
    have:=h.length_le;rw [List.append_nil,List.length_append] at this;exact absurd this (Nat.not_succ_le_self _)
   rw [e];have:∀ l:List (Fin 16),(l.map λ_=>([]:List Pl)).flatten=[]:=λl=>by simp
   rw [this];rfl
  | cons c r =>
   show _=bg (.br ks)::bG (ks (nb c)) r;congr 1;have hc:c.toNat<16:=hw.head;have h1:=ih (nb c) (o+1) (a++[c]) r hw.tail;have e0:a++[c]++r=a++c::r:=by simp
   rw [e0] at h1;have hoff:∀ i,i≠nb c->goL (leads (a++c::r)) (ks i) (o+1) (a++[dH i])=[]:=λi hi=>Li _ _ _ λh=>by
    have h2:=(List.prefix_append_right_inj a).1 h;have h3:=(List.cons_prefix_cons.1 h2).1;exact hi (by rw [<-h3,Gu])
   have hon:goL (leads (a++c::r)) (ks (nb c)) (o+1) (a++[dH (nb c)])=goL (leads (a++c::r)) (ks (nb c)) (o+1) (a++[c]):=by rw [UE hc]
   by_cases hn:ks (nb c) = .nil
   .have e:((bI ks).map λi=>goL (leads (a++c::r)) (ks i) (o+1) (a++[dH i]))=(bI ks).map λ_=>[]:=List.map_congr_left λi hi=>hoff i λe=>jR.1 hi (by rw [e]; exact hn);have h2:∀ l:List (Fin 16),(l.map λ_=>([]:List Pl)).flatten=[]:=λl=>by simp
    rw [e,h2,hn];rfl
   .have key:∀ l:List (Fin 16),l.Nodup->(l.map λi=>goL (leads (a++c::r)) (ks i) (o+1) (a++[dH i])).flatten=if nb c∈l then goL (leads (a++c::r)) (ks (nb c)) (o+1) (a++[c]) else []:=by
     intro l
     induction l with
     | nil=>intro _; rfl
     | cons i l ih2 =>
      intro hd;obtain ⟨hi,hd'⟩:=List.nodup_cons.1 hd;rw [List.map_cons,List.flatten_cons,ih2 hd'];by_cases e:i=nb c
      .subst e;rw [hon,if_neg hi,if_pos List.mem_cons_self,List.append_nil]
      .rw [hoff i e,List.nil_append];by_cases e2:nb c∈l
       .rw [if_pos e2,if_pos (List.mem_cons_of_mem _ e2)]
       .rw [if_neg e2,if_neg (λh=>(List.mem_cons.1 h).elim (λe3=>e e3.symm) e2)]
    rw [key (bI ks) ((List.nodup_finRange 16).filter _),if_pos (jR.2 hn)];exact h1
end Tr
end
section
open Go.RowKit
namespace Tm
open Tr Ni Pk Ky No Rf Rl d9
open Sm (Tab)
def plC (p:aK) (o:Nat) (h:Hdl):List Value:=[.pointer p,.int .i64 o,.slice h.1 h.2.1 h.2.2]
def plA (p:aK) (o:Nat) (h:Hdl):aN:=#[.pointer p,.int .i64 o,.slice h.1 h.2.1 h.2.2]
theorem Wq:(prog.info? 95).map (λi=>(i.zero,i.size,i.bytes))=some (some (.agg #[.pointer none,.int .i64 0,.slice none 0 0]),3,40):=by kernel_rfl
theorem BP:∃ i z,prog.info? 95=some i/\i.zero=some z/\i.size=3/\i.bytes=40/\z.cells.size=3:=by
 obtain ⟨i0,hi,hz,hs,hby⟩:=info_parts Wq;exact ⟨i0,_,hi,hz,hs,hby,rfl⟩
theorem vH:(prog.info? 95).map (·.size)=some 3:=by kernel_rfl
def Hq (w:World) (b o:Nat) (p:aK) (n:Nat) (h:Hdl):Prop:=w.cell? ⟨b,o,none⟩=some (.pointer p)/\w.cell? ⟨b,o+1,none⟩=some (.int .i64 n)/\w.cell? ⟨b,o+2,none⟩=some (.slice h.1 h.2.1 h.2.2)
theorem Hq.own {w:World} {b:Nat} {p:aK} {n:Nat} {h:Hdl} {t:TypeId} (g:Rg.Own w b (plA p n h) t):Hq w b 0 p n h:=⟨aV (j:=0) g rfl,aV (j:=1) g rfl,aV (j:=2) g rfl⟩
theorem kZ {ev:Operand->Value} {o:Oper} {w:World} {b off:Nat} {p:aK} {n:Nat} {h:Hdl} (g:Hq w b off p n h) (ho:∃ y,o.op = .load 95 y/\ev y = .pointer (some ⟨b,off,none⟩)) :
  (execOp ev o).run prog w = .ok (.value (.agg (plA p n h))) w:=by
 obtain ⟨y,ho,hx⟩:=ho;have hl:=run_loadAt_mid (P:=prog) w b off 95 (plC p n h) _ (λj u hu=>by
  match j,hu with
  | 0,hu=>cases hu; exact g.1
  | 1,hu=>cases hu; exact g.2.1
  | 2,hu=>cases hu; exact g.2.2) underlying95 rfl (by
  rw [vH]; rfl)
 unfold execOp;simp only [ho,hx,Sem.run_bind,Sem.run_pure,Result.andThen_ok,hl];rfl
theorem EI (ev:Operand->Value) (o:Oper) (w:World) (b:Nat) (hb:b=w.heap.size) (ho:o.op = .alloc 95) :
  (execOp ev o).run prog w = .ok (.value (.pointer (some ⟨b,0,none⟩))) (w.alloc (.cells (plA none 0 (none,0,0)) 95)):=by
 subst hb;unfold execOp;rw [ho];kernel_rfl
theorem FR {rest:List Oper} {act:Go.Act} {w:World} {Q:Exit->Go.Act->World->Prop} {b:Nat} {p:aK} {n:Nat} {h:Hdl} (g:Rg.Own w b (plA p n h) 95) (p':aK) (n':Nat) (h':Hdl)
  (hgd:o.guard=none) (x y:Operand) (ho:o.op = .store 95 x y) (hx:act.eval x = .pointer (some ⟨b,0,none⟩)) (hy:act.eval y = .agg (plA p' n' h')) (hd:o.dst=none)
  (hQ:∀ w',Rg.Own w' b (plA p' n' h') 95->Rg.Upd w b w'->wpList prog ops Q rest act w'):wpList prog ops Q (o::rest) act w :=
 wpList_store_rowTo hgd 95 x y ho hd b _ hx hy 95 _ g.2 vH rfl (by simp [plA,Value.oneCell']) (hQ _ ⟨by simp; exact g.1,setRow_heap _ _ _ _ _ _ g.2⟩ (Rg.Upd.set _ _ _))
theorem QA (p:aK):prog.built 95 [(0,tv p)]=some (plA p 0 (none,0,0)):=by kernel_rfl
theorem Uf (p:aK) (n:Nat) (h:Hdl):prog.built 95 [(0,tv p),(1,.int .i64 n),(2,.slice h.1 h.2.1 h.2.2)]=some (plA p n h):=by kernel_rfl
theorem xu {w:World} {p:aK} {n:Nat} {h:Hdl} (b:Nat) (hb:b=w.heap.size) (ho:∃ y,o.op = .buildSlice 151 1 #[(0,y)]/\ev y = .agg (plA p n h)) :
  (execOp ev o).run prog w = .ok (.value (.slice (some ⟨b,0,none⟩) 1 1)) (w.alloc (.cells (plA p n h) 95)):=by
 obtain ⟨y,ho,hx⟩:=ho;subst hb;unfold execOp;simp only [ho,List.map_toArray,List.map_cons,List.map_nil,hx];kernel_rfl
theorem Jq {w:World} {g n i:Nat} (hi:i<n) (h:∃ x y,o.op = .indexAddr 151 x y/\ev x = .slice (some ⟨g,0,none⟩) n c/\ev y = .int .i64 i) :
  (execOp ev o).run prog w = .ok (.value (.pointer (some ⟨g,i*3,none⟩))) w:=by
 obtain ⟨x,y,ho,hx,hy⟩:=h;have h1:(i:Int)<(n:Int):=by omega
 unfold execOp;simp [ho,hx,hy,go_sem,h1]
structure Pc where
 p:aK
 h:Hdl
 x:Pl
def Pc.cs (y:Pc):List Value:=plC y.p y.x.2.1 y.h
def sZ (l:List Pc):List Value:=l.flatMap Pc.cs
theorem uH (l:List Pc) (y:Pc):sZ (l++[y])=sZ l++y.cs:=by simp [sZ]
theorem lJ:∀ l:List Pc,(sZ l).length=l.length*3
 | []=>rfl
 | y::l=>by
  show (y.cs++sZ l).length=_;rw [List.length_append,lJ l,List.length_cons];show 3+_=_;omega
def jD (B:Nat) (w:World) (v:Value) (l:List Pc):Prop:=w.ownsRow B 95 3 v l.length (sZ l)
theorem jD.last {B:Nat} {w:World} {l:List Pc} {y:Pc} (h:jD B w v (l++[y])):∃ g cap,v = .slice (some ⟨g,0,none⟩) (l.length+1) cap/\B<=g/\g<w.heap.size/\l.length+1<=cap/\cap<=maxLen/\Hq w g (l.length*3) y.p y.x.2.1 y.h:=by
 obtain ⟨h1,h2⟩:=h;rcases h2 with ⟨_,h2⟩ | ⟨g,cap,cur,rfl,hg,hh,hnc,hcm,hsz,htk⟩
 .simp at h2
 .rw [List.length_append] at hnc;have hc:∀ i,i<3->w.cell? ⟨g,l.length*3+i,none⟩=y.cs[i]? := λi hi=>by
   rw [cell_of_row w g _ _ _ _ hh,<-Array.getElem?_toList];have hlt:l.length*3+i<(sZ (l++[y])).length:=by rw [lJ,List.length_append]; show _<(l.length+1)*3; omega
   have h3:cur.toList[l.length*3+i]? = (sZ (l++[y]))[l.length*3+i]? := by
    rw [<-htk,List.getElem?_take_of_lt (by rw [lJ] at hlt; exact hlt)]
   rw [h3,uH,List.getElem?_append_right (by rw [lJ]; omega),lJ,show l.length*3+i-l.length*3=i by omega]
  exact ⟨g,cap,by simp,hg,(Array.getElem?_eq_some_iff.1 hh).1,hnc,hcm,hc 0 (by omega),hc 1 (by omega),hc 2 (by omega)⟩
theorem jD.init {B g cap:Nat} {w:World} {l:List Pc} {y:Pc} (h:jD B w (.slice (some ⟨g,0,none⟩) (l.length+1) cap) (l++[y])):jD B w (.slice (some ⟨g,0,none⟩) l.length cap) l:=by
 obtain ⟨h1,h2⟩:=h;rcases h2 with ⟨h2,_⟩ | ⟨g',cap',cur,e,hg,hh,hnc,hcm,hsz,htk⟩
 .cases h2
 .injection e with e1 e2 e3;injection e1 with e1;injection e1 with e1;subst e1 e3;rw [List.length_append] at hnc;refine ⟨lJ l,.inr ⟨g,cap,cur,rfl,hg,hh,by omega,hcm,hsz,?_⟩⟩;have h3:=congrArg (List.take (l.length*3)) htk;rw [List.take_take,List.length_append,uH,List.take_left' (lJ l)] at h3;rw [show l.length*3=min (l.length*3) ((l.length+[y].length)*3) by simp];exact h3
theorem GZ {w:World} {B b2:Nat} {l:List Pc} {y:Pc} (hR:jD B w v l) (h2:Rg.Own w b2 (plA y.p y.x.2.1 y.h) 95) (hn:l.length<=1000000) (hB:B<=w.heap.size) :
  ∃ v' w',(Builtin.append_ #[151,151] ty #[v,.slice (some ⟨b2,0,none⟩) 1 1]).run prog w = .ok v' w'/\jD B w' v' (l++[y])/\w.grownBy w' v.ownBlock/\(v'.ownBlock=v.ownBlock\/v'.ownBlock=some w.heap.size):=by
 obtain ⟨i0,z0,hi,hz,hsz,hby,hzc⟩:=BP;obtain ⟨v',w',hr,h3,h4,_,h5⟩:=run_append_own_at (P:=prog) w B 151 ty 95 i0 z0 3 40 underlying151 hi hz hsz hby hzc (by decide) v l.length _ hR ⟨b2,0,none⟩ 1 1 y.cs rfl
  (λj u hu=>by
   rw [Addr.add_mid,Nat.zero_add,cell_of_row w b2 _ _ _ _ h2.2];unfold plA;simpa [Pc.cs,plC] using hu)
  (λu hu=>by unfold Pc.cs plC at hu; simp at hu; rcases hu with rfl | rfl | rfl <;> rfl) (by unfold maxLen; omega) (by omega) hB
 exact ⟨v',w',hr,by unfold jD; rw [List.length_append,uH]; exact h3,h4,h5⟩
end Tm
end
section
open Go.RowKit
namespace Tm
open Tr Ni Pk Ky
open No
open Rf
open Rl
open d9
open Sm (Tab)
theorem uo (a b:aK) (n m c d:Nat) (x y:aM) (w:World) (ha:bf w a n c x) (hb:bf w b m d y) :
  Calls prog 89 #[.slice a n c,.slice b m d] w λe w'=>e = .returned (.bool (decide (x=y)))/\w=w':=by
 have h1:=kQ ha;have h2:=kQ hb;have HE:Hid (((⟨x.toArray⟩:aL).toList==(⟨y.toArray⟩:aL).toList)=decide (x=y)):=hid (by
  rw [str_eq];by_cases e:x=y
  .subst e; simp
  .rw [decide_eq_false e,decide_eq_false (λg=>e (by
    have:=congrArg (λb:aL=>b.data.toList) g;simpa using this))])
 clear ha hb;generalize hX:(⟨x.toArray⟩:aL)=X at *
 generalize hY:(⟨y.toArray⟩:aL)=Y at *
 go_enter func89,ntmps89;go_wp2;go_ret;exact ⟨by rw [<-HE.out]; rfl,rfl⟩
theorem tT (a b:aK) (n m c d:Nat) (x y:aM) (hn:n<=m) (hm:m<=1000000) (w:World) (ha:bf w a n c x) (hb:bf w b m d y) :
  Calls prog 49 #[.slice b m d,.slice a n c] w λe w'=>e = .returned (.bool (leads y x))/\w=w':=by
 have HL:=hid (uo b a n n d c (y.take n) x w (Nu hb n hn) ha);have HR:Hid (decide (y.take n=x)=leads y x):=hid (by
  unfold leads;have:=ha.len;by_cases e:x<+:y
  .rw [aJ e,aJ];rw [<-this];exact (List.prefix_iff_eq_take.1 e).symm
  .rw [decide_eq_false e,decide_eq_false];intro g;exact e (by rw [<-g]; exact List.take_prefix _ _))
 have hmd:=hb.1;have hi:(n:Int)<=(m:Int):=by omega
 have hc:n<=d:=by omega
 clear ha hb;go_enter func49,ntmps49;go_wp2_with (first
  | (refine Rg.runW (by rfl) _ _ (pX (j:=n) iL jJ hc ⟨_,_,rfl,rfl,rfl⟩) ?_))
 refine HL.out.mono ?_;rintro e w1 ⟨rfl,rfl⟩;go_wp2;go_ret;exact ⟨by rw [<-HR.out]; rfl,rfl⟩
theorem VL (w:World) (p:aK) (o:Nat) (h:Hdl):(w.alloc (.cells (plA p o h) 95)).cell? ⟨w.heap.size,2,none⟩=some (.slice h.1 h.2.1 h.2.2):=aV (j:=2) (Rg.Own.new w (plA p o h) _) rfl
theorem Rj (bx:Nat) (q:Hdl) (P:Pa) (hP:P.length=64) (w:World) (hc:w.cell? ⟨bx,0,none⟩=some (.slice q.1 q.2.1 q.2.2)) (hq:bf w q.1 q.2.1 q.2.2 P) (p:aK) (o:Nat) (h:Hdl) (a:Pa) (ha:bf w h.1 h.2.1 h.2.2 a) (hl:a.length<=64) :
  Calls prog 48 #[.agg (plA p o h),.pointer (some ⟨bx,0,none⟩)] w λe w'=>e = .returned (.bool (leads P a))/\Below w.heap.size w w':=by
 have hA1:=al1 w (.cells (plA p o h) 95);have c0:=VL w p o h;have c1:=aW hA1 hc;have HR:=hid (tT h.1 q.1 h.2.1 q.2.1 h.2.2 q.2.2 a P (by rw [<-ha.len,<-hq.len]; omega) (by rw [<-hq.len]; omega) _ (ha.below hA1) (hq.below hA1));have HB:=hid hA1;obtain ⟨A,hA⟩:=ay (plA p o h)
 rw [hA] at c0 c1 HR HB ⊢;clear hA1 hc hq ha hA;go_enter func48,ntmps48;go_wp2_with fail
 refine HR.out.mono ?_;rintro e w2 ⟨rfl,rfl⟩;go_wp2;go_ret;exact ⟨rfl,HB.out⟩
theorem Vp {w:World} {a1 a2:aK} {n1 c1 n2 c2:Nat} {l1 l2:aM} (h1:bf w a1 n1 c1 l1) (h2:bf w a2 n2 c2 l2) :
  Cc.zK (w.alloc (.cells #[.slice a1 n1 c1,.slice a2 n2 c2] 40)) (some ⟨w.heap.size,0,none⟩) 2 [l1,l2]:=by
 refine ⟨rfl,λj hj=>⟨w.heap.size,0,rfl,by simp,?_⟩⟩
 match j,hj with
 | 0,_=>exact ⟨a1,n1,c1,by simp,h1.alloc _⟩
 | 1,_=>exact ⟨a2,n2,c2,by simp,h2.alloc _⟩
def Ih (w:World) (l:aM) (e:Ending) (w':World):Prop:=∃ r:Hdl,e = .returned (.slice r.1 r.2.1 r.2.2)/\BsP (λb=>w.heap.size<=b) w' r l/\Below w.heap.size w w'
theorem Ur (a:aK) (n cap:Nat) (ls:List (aM)) (hn:n<=1000000) (hL:ls.flatten.length<=1099511627776) (w:World) (h:Cc.zK w a n ls) :
  Calls prog 148 #[.slice a n cap] w (Ih w ls.flatten):=by
 have hc:=Cc.zl a n cap ls hn hL w h;obtain ⟨r,hr⟩:=ay ls.flatten
 rw [hr] at hc ⊢;have HC:=hid hc;clear hc hr hL h;go_enter func148,ntmps148;go_wp2_with fail
 refine HC.out.mono ?_;rintro e w1 ⟨v,rfl,hown,hb⟩;have hlt:=hown.lt;obtain ⟨a',cap',rfl,hx⟩:=bf.oF hown;clear hown;go_wp2;go_ret;exact ⟨(a',r.length,cap'),rfl,⟨hx,λad e hn=>(hlt ad.block (by have e3:a'=some ad:=e; obtain ⟨b,off,e2,_⟩:=hx.at' 0 hn; rw [e3] at e2 ⊢; cases e2; rfl)).1⟩,hb⟩
theorem JI (p:aK) (o:Nat) (h m:Hdl) (a l:Pa) (w:World) (ha:bf w h.1 h.2.1 h.2.2 a) (hm:bf w m.1 m.2.1 m.2.2 l) (hl:a.length+l.length<=64) :
  Calls prog 132 #[.agg (plA p o h),.slice m.1 m.2.1 m.2.2] w (Ih w (a++l)):=by
 obtain ⟨w1,hw1⟩:=au (w.alloc (.cells (plA p o h) 95))
 have hb1:Below w.heap.size w w1:=by rw [hw1]; exact al1 _ _
 have c0:w1.cell? ⟨w.heap.size,2,none⟩=some (.slice h.1 h.2.1 h.2.2):=by rw [hw1]; exact VL w p o h
 have hb2:=al1 w1 (.cells #[.slice h.1 h.2.1 h.2.2,.slice m.1 m.2.1 m.2.2] 40);have HJ:=hid (Ur _ 2 2 _ (by omega) (by simp; omega) _ (Vp (ha.below hb1) (hm.below hb1)));rw [show [a,l].flatten=a++l by simp] at HJ;have hlen:(a++l).length<=64:=by rw [List.length_append]; exact hl
 have HB:Hid (∀ w2,Below (w1.alloc (.cells #[.slice h.1 h.2.1 h.2.2,.slice m.1 m.2.1 m.2.2] 40)).heap.size (w1.alloc (.cells #[.slice h.1 h.2.1 h.2.2,.slice m.1 m.2.1 m.2.2] 40)) w2->Below w.heap.size w w2):=hid (λw2 hb=>bst (bst hb1 hb2) hb);have hs:w.heap.size<=(w1.alloc (.cells #[.slice h.1 h.2.1 h.2.2,.slice m.1 m.2.1 m.2.2] 40)).heap.size:=Nat.le_trans hb1.size hb2.size;obtain ⟨L,hL⟩:=ay (a++l)
 rw [hL] at HJ hlen ⊢;clear ha hm hl hb1 hb2 hL;obtain ⟨A,hA⟩:=ay (plA p o h)
 rw [hA] at hw1 ⊢;clear hA;subst hw1;rw [show (w.alloc (.cells A 95)).heap.size=w.heap.size+1 by simp] at HJ;go_enter func132,ntmps132;go_wp2_with fail
 refine HJ.out.mono ?_;rintro e w2 ⟨r,rfl,hr,hb⟩;have hrl:=hr.1.len;have hrn:r.2.1<=64:=by omega
 have hrc:=hr.1.1;have hmin:min (r.2.1:Int) 65=(r.2.1:Int):=by omega
 have hR:BsP (λb=>w.heap.size<=b) w2 r L:=hr.to λb _ hb=>Nat.le_trans hs hb;have HR:=hid hR;have HB2:=hid (HB.out w2 hb);clear hr hb HJ HB hR c0 hs;go_wp2_with (first
  | (refine aA (pX (j:=r.2.1) iL jJ hrc ⟨_,_,rfl,rfl,rfl⟩) ?_))
 go_ret;exact ⟨r,rfl,HR.out,HB2.out⟩
theorem PL (p:aK) (w:World):Calls prog 47 #[tv p] w λe w'=>e = .returned (.func (Fn.func 84) #[] #[.pointer (some ⟨w.heap.size,0,none⟩)])/\Rg.Own w' w.heap.size #[.pointer p] 35/\Below w.heap.size w w':=by
 have da:∀ (fn:Fn) (first cap:aN) (w:World),(Instr.makeFunc fn first cap).run prog w = .ok (.func fn first cap) w:=λ_ _ _ _=>rfl;have hO:=Rg.Own.new w #[.pointer p] 35;have hb:=al1 w (.cells #[.pointer p] 35);go_enter func47,ntmps47;go_wp2;go_ret;exact ⟨rfl,hO,hb⟩
theorem LA (into:Value) (g:Nat) (w:World) (hin:into.oneCell'=true):Calls prog 84 #[into,.pointer (some ⟨g,0,none⟩)] w λe w'=>e = .returned (.func (Fn.func 85) #[] #[.pointer (some ⟨g,0,none⟩),.pointer (some ⟨w.heap.size,0,none⟩)])/\Rg.Own w' w.heap.size #[into] 97/\Below w.heap.size w w':=by
 have da:∀ (fn:Fn) (first cap:aN) (w:World),(Instr.makeFunc fn first cap).run prog w = .ok (.func fn first cap) w:=λ_ _ _ _=>rfl;have hO:=Rg.Own.new w #[into] 97;have hb:=al1 w (.cells #[into] 97);go_enter func84,ntmps84;go_wp2;go_ret;exact ⟨rfl,hO,hb⟩
def hv (h:Hdl):Value:=.slice h.1 h.2.1 h.2.2
def hd0:Hdl:=(none,0,0)
theorem Xm:(prog.info? 40).map (λi=>(i.zero,i.size,i.bytes))=some (some (.slice none 0 0),1,24):=by kernel_rfl
theorem Ce:∃ i,prog.info? 40=some i/\i.zero=some (.slice none 0 0)/\i.size=1/\i.bytes=24:=by
 obtain ⟨i0,hi,hz,hs,hby⟩:=info_parts Xm;exact ⟨i0,hi,hz,hs,hby⟩
structure qK (B:Nat) (w:World) (v:Value) (hs:List Hdl) (l:List Pa):Prop where
 row:w.ownsRow B 40 1 v hs.length (hs.map hv)
 len:hs.length=l.length
 bs:∀ j,j<hs.length->BsP (λb=>B<=b/\v.ownBlock≠some b) w (hs.getD j hd0) (l.getD j [])
theorem qK.nil (B:Nat) (w:World):qK B w (.slice none 0 0) [] []:=⟨World.ownsRow_nil _ _ _ _,rfl,λj hj=>absurd hj (Nat.not_lt_zero _)⟩
theorem qK.keep {B:Nat} {w w':World} {hs:List Hdl} {l:List Pa} (h:qK B w v hs l) (hz:w.heap.size<=w'.heap.size) (hk:∀ b,B<=b->b<w.heap.size->w'.heap[b]? = w.heap[b]?):qK B w' v hs l :=
 ⟨dI h.row λk e=>hk k (h.row.lt k e).1 (h.row.lt k e).2,h.len,λj hj=>(h.bs j hj).kept hz λb hb hlt=>hk b hb.1 hlt⟩
theorem qK.push {B:Nat} {w w2 w3:World} {v':Value} {hs:List Hdl} {l:List Pa} {r:Hdl} {a:Pa} (h:qK B w v hs l) (hB:B<=w.heap.size) (hb:Below w.heap.size w w2) (hr:BsP (λb=>w.heap.size<=b) w2 r a)
  (hown:w3.ownsRow B 40 1 v' (hs.length+1) (hs.map hv++[hv r])) (hg:w2.grownBy w3 v.ownBlock) (hloc:v'.ownBlock=v.ownBlock\/v'.ownBlock=some w2.heap.size):qK B w3 v' (hs++[r]) (l++[a]):=by
 have hs2:=hb.size;have hv':∀ b,b<w2.heap.size->v.ownBlock≠some b->v'.ownBlock≠some b:=λb hlt hn=>by
  rcases hloc with e | e
  .rw [e]; exact hn
  .rw [e]; intro g; have:=Option.some.inj g; omega
 refine ⟨by rw [List.length_append,List.map_append]; exact hown,by rw [List.length_append,List.length_append,h.len]; rfl,λj hj=>?_⟩;by_cases hlt:j<hs.length
 .have e1:(hs++[r]).getD j hd0=hs.getD j hd0:=by simp [List.getD,List.getElem?_append_left hlt]
  have e2:(l++[a]).getD j []=l.getD j []:=by simp [List.getD,List.getElem?_append_left (show j<l.length by rw [<-h.len]; exact hlt)]
  rw [e1,e2];have h1:=(h.bs j hlt).kept hs2 λb _ hl=>hb.block b hl;have h2:BsP (λb=>(B<=b/\v.ownBlock≠some b)/\b<w2.heap.size) w2 (hs.getD j hd0) (l.getD j []):=h1.to λb hl hp=>⟨hp,hl⟩
  exact (h2.kept hg.size λb hp hl=>hg.block b hl λe=>hp.1.2 e.symm).to λb _ hp=>⟨hp.1.1,hv' b hp.2 hp.1.2⟩
 .have hj':j=hs.length:=by rw [List.length_append] at hj; simp at hj; omega
  subst hj';have e1:(hs++[r]).getD hs.length hd0=r:=by simp [List.getD]
  have e2:(l++[a]).getD hs.length []=a:=by rw [h.len]; simp [List.getD]
  rw [e1,e2];have R0:∀ b,w.heap.size<=b->v.ownBlock≠some b:=λb hb e=>by have:=(h.row.lt b e).2; omega
  have h2:BsP (λb=>w.heap.size<=b/\b<w2.heap.size) w2 r a:=hr.to λb hl hp=>⟨hp,hl⟩
  exact (h2.kept hg.size λb hp hl=>hg.block b hl λe=>R0 b hp.1 e.symm).to λb _ hp=>⟨by omega,hv' b hp.2 (R0 b hp.1)⟩
def rz (N:Nd) (a:Pa) (i:Nat):List Pa:=if (N.ks.getD i eB).size=0 then [] else [a++if N.kd=3 then [UInt8.ofNat i] else N.p]
def kW (N:Nd) (a:Pa) (j:Nat):List Pa:=((List.range j).map (rz N a)).flatten
theorem qp (N:Nd) (a:Pa) (j:Nat):kW N a (j+1)=kW N a j++rz N a j:=by
 unfold kW;rw [List.range_succ];simp
theorem Ef (N:Nd) (a:Pa):∀ j,(kW N a j).length<=j
 | 0=>aG
 | j+1=>by
  rw [qp,List.length_append];have:=Ef N a j;have:(rz N a j).length<=1:=by unfold rz; split <;> simp
  omega
theorem RF:List.range 16=(List.finRange 16).map (·.val):=by decide
theorem JC (n i:Nat):(List.replicate n eB).getD i eB=eB:=by
 rw [List.getD_eq_getElem?_getD,List.getElem?_replicate];split <;> rfl
theorem Qw {x:Pl} (h:wJ x):kW (bg x.1) x.2.2 16=(dY x).map (·.2.2):=by
 obtain ⟨t,o,a⟩:=x;obtain ⟨L,hl,g,f,hn,ho⟩:=h;have hL:L<=64:=by omega
 unfold kW;rw [RF,List.map_map];have hz:∀ N:Nd,N.ks=zks->((List.finRange 16).map (rz N a ∘ λi=>i.val)).flatten=[]:=λN hN=>by
  have:(List.finRange 16).map (rz N a ∘ λi=>i.val)=(List.finRange 16).map λ_=>[]:=List.map_congr_left λi _=>by
   have hi:(N.ks.getD i.val eB).size=0:=by
    rw [hN];have:zks.getD i.val eB=eB:=JC 16 _;rw [this]; rfl
   show rz N a i.val=[]
   unfold rz;rw [if_pos hi]
  rw [this];simp
 cases t with
 | nil=>exact hz _ rfl
 | leaf p v=>exact hz _ rfl
 | stub r=>exact hz _ rfl
 | ext q s =>
  have hs:(ref s).size≠0:=(mh g.2.2.2.2 (by omega) f).2 (kM g.2.2.2.1);have e:(List.finRange 16).map (rz (bg (.ext q s)) a ∘ λi=>i.val)=(List.finRange 16).map λi=>if i.val=0 then [a++q] else []:=List.map_congr_left λi _=>by
   show rz _ a i.val=_;unfold rz;have hk:(bg (.ext q s)).ks.getD i.val eB=if i.val=0 then ref s else eB:=by
    show (ref s::List.replicate 15 eB).getD i.val eB=_;by_cases h0:i.val=0
    .rw [h0]; rfl
    .obtain ⟨j,hj⟩:∃ j,i.val=j+1:=⟨i.val-1,by omega⟩
     rw [hj,if_neg (by omega)];exact JC 15 j
   rw [hk];by_cases h0:i.val=0
   .rw [if_pos h0,if_pos h0,if_neg hs];rfl
   .rw [if_neg h0,if_neg h0];rfl
  rw [e];rfl
 | br ks =>
  have hr:∀ i,(ref (ks i)).size≠0↔ks i ≠ .nil:=λi=>mh (g.2.2 i) (by omega) (f i);show _=((bI ks).map λi=>(ks i,o+1,a++[dH i])).map (·.2.2);rw [List.map_map];have e:(List.finRange 16).map (rz (bg (.br ks)) a ∘ λi=>i.val)=(List.finRange 16).map λi=>if isNil (ks i) then [] else [a++[dH i]]:=List.map_congr_left λi _=>by
   show rz _ a i.val=_;unfold rz;have hk:(bg (.br ks)).ks.getD i.val eB=ref (ks i):=ow (λi=>ref (ks i)) i;rw [hk];by_cases h0:ks i = .nil
   .rw [if_pos (bM.2 h0),if_pos (by rw [h0]; rfl)]
   .rw [if_neg (λk=>h0 (bM.1 k)),if_neg ((hr i).2 h0)];rfl
  rw [e];unfold bI;generalize List.finRange 16=l
  induction l with
  | nil=>rfl
  | cons i r ih =>
   rw [List.map_cons,List.flatten_cons,ih];by_cases h0:ks i = .nil
   .rw [if_pos (bM.2 h0),List.filter_cons_of_neg (by rw [bM.2 h0]; decide)];rfl
   .rw [if_neg (λk=>h0 (bM.1 k)),List.filter_cons_of_pos (by
     cases e:isNil (ks i) with
     | true=>exact absurd (bM.1 e) h0
     | false=>rfl)]
    rfl
end Tm
end
end Go.Proofs.YtoipgepkhomfgaaGreatDoor
