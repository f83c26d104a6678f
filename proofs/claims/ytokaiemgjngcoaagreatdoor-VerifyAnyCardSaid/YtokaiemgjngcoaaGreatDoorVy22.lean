/-
 Package verify: what it says of a key, in memory; contracts of its teller, of what that makes, of end.
-/
import Derived.Test.YtokaiemgjngcoaaGreatDoorVy21
open Go.Lib (hid)
open Go.Proofs.Tryz
set_option linter.unusedSimpArgs false
set_option linter.unusedVariables false
set_option maxHeartbeats 40000000
set_option maxRecDepth 100000
namespace Go.Proofs.YtokaiemgjngcoaaGreatDoor
variable {ops:Array Oper} {o:Oper} {i r:Bool} {B D g j m n off u us:Nat} {ev:Operand->Value} {e t:TypeId} {E R:aM} {W w1 w2 w4 wr:World} {v' v12:Value} {Ki P:Nat->Prop} {Q:Exit->Act->World->Prop} {c:Code} {a:Act} {args tmps:aO}
section
open Go.RowKit
namespace Tm
open Tr Ni Pk Ky No Rf Rl
open Sm (Tab)
def vdC (v:aM) (h:Bool) (u:Nat) (r:Bool):aO:=#[.string v,.bool h,.int .i64 u,.bool r]
theorem LQ (v:aM) (h:Bool) (u:Nat) (r:Bool):(vdC v h u r).all (·.oneCell')=true:=by simp [vdC,Value.oneCell']
theorem EH:(prog.info? 62).map (·.size)=some 4:=by kernel_rfl
theorem eY (ev:Operand->Value) (o:Oper) (w:World) (b:Nat) (hb:b=w.heap.size) (ho:o.op = .alloc 62):(execOp ev o).run prog w = .ok (.value (.pointer (some ⟨b,0,none⟩))) (w.alloc (.cells (vdC eB false 0 false) 62)):=by
 subst hb;unfold execOp;rw [ho];kernel_rfl
theorem dh {rest:List Oper} {act:Go.Act} {w:World} {Q:Exit->Go.Act->World->Prop} {b:Nat} {cs:aO} (h:Rg.Own w b cs 62) (hs:cs.size=4) (v:aM) (i:Bool) (u:Nat) (r:Bool)
  (hgd:o.guard=none) (x y:Operand) (ho:o.op = .store 62 x y) (hx:act.eval x = .pointer (some ⟨b,0,none⟩)) (hy:act.eval y = .agg (vdC v i u r)) (hd:o.dst=none)
  (hQ:∀ w',Rg.Own w' b (vdC v i u r) 62->Rg.Upd w b w'->wpList prog ops Q rest act w'):wpList prog ops Q (o::rest) act w :=
 wpList_store_rowTo hgd 62 x y ho hd b _ hx hy 62 _ h.2 EH hs (LQ _ _ _ _) (hQ _ ⟨by simp; exact h.1,setRow_heap _ _ _ _ _ _ h.2⟩ (Rg.Upd.set _ _ _))
theorem KX {w:World} {b:Nat} {v:aM} (h:Rg.Own w b (vdC v i u r) 62):(loadVar 62 ⟨b,0,none⟩).run prog w = .ok (.agg (vdC v i u r)) w :=
 run_loadVar_row (P:=prog) w b 62 62 (vdC v i u r) (0,0) _ h.2 underlying62 rfl EH
theorem uq {w:World} {b:Nat} {v:aM} (h:Rg.Own w b (vdC v i u r) 62) (ho:∃ x,o.op = .load 62 x/\ev x = .pointer (some ⟨b,0,none⟩)):(execOp ev o).run prog w = .ok (.value (.agg (vdC v i u r))) w:=by
 obtain ⟨x,ho,hx⟩:=ho;unfold execOp;simp only [ho,hx,Instr.loadAt,Instr.sureAddr,Sem.run_bind,Sem.run_pure,Result.andThen_ok,KX h]
theorem Cg:prog.built 62 []=some (vdC eB false 0 false):=by kernel_rfl
theorem Mj (r:Bool):prog.built 62 [(3,.bool r)]=some (vdC eB false 0 r):=by kernel_rfl
theorem wC (u:Nat):prog.built 62 [(2,.int .i64 u)]=some (vdC eB false u false):=by kernel_rfl
theorem wX (u:Nat) (r:Bool):prog.built 62 [(2,.int .i64 u),(3,.bool r)]=some (vdC eB false u r):=by kernel_rfl
theorem jX {fn:Func} {q:Tmp} (hf:fn.results = #[.cell q 62]) (tmps:aO) {w:World} {b:Nat} {v:aM} (hp:tmps.getD q undef = .pointer (some ⟨b,0,none⟩)) (h:Rg.Own w b (vdC v i u r) 62) :
  (results fn tmps).run prog w = .ok (.agg (vdC v i u r)) w:=by
 have hp':tmps[q]?.getD undef = .pointer (some ⟨b,0,none⟩):=by simpa using hp
 simp [results,hf,hp',asAddr,KX h]
theorem Cx {w:World} {b:Nat} {cs:aO} (h:Rg.Own w b cs t) (hof:off<cs.size) (x:Int) (ho:∃ p q,o.op = .store 3 p q/\ev p = .pointer (some ⟨b,off,none⟩)/\ev q = .int .i64 x):(execOp ev o).run prog w = .ok .skip (w.setCell ⟨b,off,none⟩ (.int .i64 x)):=by
 obtain ⟨p,q,ho,hp,hq⟩:=ho;have hc:w.cell? ⟨b,off,none⟩=some cs[off]:=aV h (Array.getElem?_eq_getElem hof);have hz:w.frozen? ⟨b,off,none⟩=false:=fB h;have hst:(Instr.storeAt 3 (.pointer (some ⟨b,off,none⟩)) (.int .i64 x)).run prog w = .ok () (w.setCell ⟨b,off,none⟩ (.int .i64 x)):=by
  simp [go_sem,hc,hz]
 unfold execOp;simp only [ho,hp,hq,Sem.run_bind,Sem.run_pure,Result.andThen_ok,hst]
theorem BM (ev:Operand->Value) (o:Oper) (w:World) (b:Nat) (hb:b=w.heap.size) (ho:o.op = .alloc 3):(execOp ev o).run prog w = .ok (.value (.pointer (some ⟨b,0,none⟩))) (w.alloc (.cells #[.int .i64 0] 3)):=by
 subst hb;unfold execOp;rw [ho];kernel_rfl
def nxP (l:List aM) (us:Nat) (R:aM):Option (aM × Nat) :=
 if R.size<32 then some (R,us) else if us<l.length/\(l.getD us eB).size≠0/\ofP (l.getD us eB)=R then some (l.getD us eB,us+1) else none
theorem zl {l:List aM} {s:Nat} {q:Pa} {b:Bool} {N:Nd} (hg:fE E.data.toList=some N) (hr:¬ (b=true/\N.kd≠3)) {q2:Pa} (ho:onward N q=(R,q2)) (hR:R.size≠0) :
  jc l (s+1) E q us b=match nxP l us R with | some (X,u)=>jc l s X q2 u (decide (N.kd=2)) | none=>(none,us):=by
 rw [mM hg hr ho,if_neg hR];unfold nxP;by_cases h:R.size<32
 .rw [if_pos h,if_pos h]
 .rw [if_neg h,if_neg h];split <;> rfl
def VT (l:List aM) (g us:Nat) (R:aM) (w:World) (e:Ending) (w':World):Prop:=∃ X th us' w2 w3,e = .returned (.tuple #[.string X,.bool th])/\(th=true->nxP l us R=some (X,us'))/\(th=false->nxP l us R=none/\us'=us)/\Below w.heap.size w w2/\Rg.Upd w2 g w3/\Below w3.heap.size w3 w'/\Rg.Own w' g #[.int .i64 us'] 3
theorem GK (la:aL) (ln lc g:Nat) (w:World) :
  Calls prog 41 #[.slice la ln lc,.pointer (some ⟨g,0,none⟩)] w λe w'=>∃ bp bu,e = .returned (.func (Fn.func 72) #[] #[.pointer (some ⟨bu,0,none⟩),.pointer (some ⟨bp,0,none⟩)])/\w.heap.size<=bp/\w.heap.size<=bu/\Rg.Own w' bu #[.pointer (some ⟨g,0,none⟩)] 89/\Rg.Own w' bp #[.slice la ln lc] 26/\Below w.heap.size w w':=by
 have h1:Rg.Own ((w.alloc (.cells #[.slice la ln lc] 26)).alloc (.cells #[.pointer (some ⟨g,0,none⟩)] 89)) w.heap.size #[.slice la ln lc] 26:=(Rg.Own.new _ _ _).below (al1 _ _);have h2:Rg.Own ((w.alloc (.cells #[.slice la ln lc] 26)).alloc (.cells #[.pointer (some ⟨g,0,none⟩)] 89)) (w.heap.size+1) #[.pointer (some ⟨g,0,none⟩)] 89:=by
  have:=Rg.Own.new (w.alloc (.cells #[.slice la ln lc] 26)) #[.pointer (some ⟨g,0,none⟩)] 89;simpa using this
 have H1:=hid h1;have H2:=hid h2;clear h1 h2;go_enter func41,ntmps41;go_wp2;go_ret;exact ⟨w.heap.size,w.heap.size+1,by simp,aH,by omega,H2.out,H1.out,al2 _ _ _⟩
def yC (N:Nd) (q:Pa) (us ln:Nat):aO:=if N.kd=1/\N.p=q then vdC N.v true us (decide (us=ln)) else vdC eB false us (decide (us=ln))
theorem qd (N:Nd) (na:aL) (nn nc:Nat) (hN:N.ks.length=16) (q:Pa) (pa:aL) (pn pc us ln:Nat) (w:World) (hp:bf w na nn nc N.p) (hq:bf w pa pn pc q) :
  Calls prog 45 #[.agg (ndC N na nn nc),.slice pa pn pc,.int .i64 us,.int .i64 ln] w λe w'=>e = .returned (.agg (yC N q us ln))/\Below w.heap.size w w':=by
 obtain ⟨w1,hw1⟩:=ay ((w.alloc (.cells (ndC N na nn nc) 67)).alloc (.cells (vdC eB false 0 false) 62))
 have hb1:Below w.heap.size w w1:=by rw [hw1]; exact al2 _ _ _
 have hs1:w1.heap.size=w.heap.size+2:=by rw [hw1]; simp
 have hN1:dL w1 w.heap.size N na nn nc:=by rw [hw1]; exact (Rg.Own.new _ _ _).below (al1 _ _)
 have gm:Rg.Own w1 (w.heap.size+1) (vdC eB false 0 false) 62:=by
  have:=Rg.Own.new (w.alloc (.cells (ndC N na nn nc) 67)) (vdC eB false 0 false) 62;rw [hw1];simpa using this
 have kx:Hid (Rg.Own (w1.alloc (.cells (vdC eB false 0 false) 62)) (w.heap.size+2) (vdC eB false 0 false) 62):=hid (by
  have:=Rg.Own.new w1 (vdC eB false 0 false) 62;rw [hs1] at this;exact this)
 have HB1:=hid hb1;have nw:=hid hN1;have HR1:=hid gm;have HW:Hid (_=_):=hid hw1;have HP:=hid (hp.below hb1);have HQ:=hid (hq.below hb1);have HK:=hid hN;obtain ⟨rb,hrb⟩:=aA ((us:Int)==(ln:Int))
 have Mz:Hid (decide (us=ln)=rb):=hid (by
  rw [<-hrb];by_cases e:us=ln
  .simp [e]
  .have e2:¬ (us:Int)=(ln:Int):=by omega
   simp [e,e2])
 clear hb1 hN1 gm hw1 hp hq hN;by_cases hk:N.kd=1
 .have fS:Hid ((ndC N na nn nc)[0]? = some (.int .i64 1)):=hid (by rw [<-hk]; rfl);by_cases hpq:N.p=q
  .have HV:Hid (yC N q us ln=vdC N.v true us rb):=hid (by unfold yC; rw [if_pos ⟨hk,hpq⟩,Mz.out]);have HE:Hid (∀ W,Below w1.heap.size w1 W->Calls prog 77 #[.slice na nn nc,.slice pa pn pc] W λe w'=>e = .returned (.bool true)/\W=w'):=hid (λW hb=>by
    have:=tJ na pa nn pn nc pc N.p q W (HP.out.below hb) (HQ.out.below hb);rw [aK hpq] at this;exact this)
   rw [HV.out];clear hk hpq HV;go_enter func45,ntmps45;go_wp2_with (first
    | (refine aB (eY _ _ _ (w.heap.size+1) (by simp) rfl) ?_; rw [<-HW.out])
    | (refine aB (eY _ _ _ (w.heap.size+2) (by rw [hs1]) rfl) ?_)
    | (refine aB (bC (wX us rb) ⟨_,rfl,rfl⟩) ?_)
    | (refine dh kx.out rfl _ _ _ _ rfl _ _ rfl rfl rfl rfl ?_; intro w3 hO3 hu3; have cm:Hid (Below w1.heap.size w1 w3):=hid (hu3.below (al1 _ _) (by omega)); have H8:=hid hO3; have i5:=hid (nw.out.below cm.out); have HR3:=hid (HR1.out.below cm.out); have ap:=hid (bst HB1.out cm.out); have k0:=aV (j:=0) i5.out fS.out; have k1:=aV (j:=1) i5.out (iO N na nn nc); have k2:=aV (j:=2) i5.out (DZ N na nn nc); clear hO3 hu3))
   refine (HE.out _ cm.out).mono ?_;rintro e y ⟨rfl,rfl⟩;obtain ⟨w4,hw4⟩:=aA (w3.setCell ⟨w.heap.size+2,0,none⟩ (.string N.v))
   have cS:Hid (Rg.Own w4 (w.heap.size+2) (vdC N.v false us rb) 62):=hid (by rw [<-hw4]; exact cO (o:=0) H8.out (.string N.v));have T3:Rg.Upd w3 (w.heap.size+2) w4:=by rw [<-hw4]; exact bQ _ _ _ _
   obtain ⟨w5,eh⟩:=aA (w4.setCell ⟨w.heap.size+2,1,none⟩ (.bool true))
   have cf:Hid (Rg.Own w5 (w.heap.size+2) (vdC N.v true us rb) 62):=hid (by rw [<-eh]; exact cO (o:=1) cS.out (.bool true));have cq:Rg.Upd w3 (w.heap.size+2) w5:=by rw [<-eh]; exact nJ T3 (bQ _ _ _ _)
   have tr:=hid (HR3.out.upd cq (by omega));have al:=hid (cq.below ap.out (by omega));have MA:=hid hw4;have Ys:=hid eh;clear hw4 eh T3 cq k0 k1;go_wp2_with (first
    | (refine rX rfl _ (Cm (off:=0) H8.out (show 0<4 by decide) N.v ⟨_,_,rfl,rfl,rfl⟩) ?_; rw [MA.out])
    | (refine rX rfl _ (wm (off:=1) cS.out (show 1<4 by decide) true ⟨_,_,rfl,rfl,rfl⟩) ?_; rw [Ys.out])
    | (refine aB (uq cf.out ⟨_,rfl,rfl⟩) ?_)
    | (refine dh tr.out rfl _ _ _ _ rfl _ _ rfl rfl rfl rfl ?_; intro w9 ae af; have b8:=hid ae; have bo:=hid (af.below al.out (by omega)); clear ae af))
   exact bodyPost_ret (jX (q:=8) rfl _ rfl b8.out) rfl ⟨rfl,bo.out⟩
  .have HV:Hid (yC N q us ln=vdC eB false us rb):=hid (by unfold yC; rw [if_neg (λh=>hpq h.2),Mz.out]);have HE:Hid (∀ W,Below w1.heap.size w1 W->Calls prog 77 #[.slice na nn nc,.slice pa pn pc] W λe w'=>e = .returned (.bool false)/\W=w'):=hid (λW hb=>by
    have:=tJ na pa nn pn nc pc N.p q W (HP.out.below hb) (HQ.out.below hb);rw [decide_eq_false hpq] at this;exact this)
   rw [HV.out];clear hk hpq HV;go_enter func45,ntmps45;go_wp2_with (first
    | (refine aB (eY _ _ _ (w.heap.size+1) (by simp) rfl) ?_; rw [<-HW.out])
    | (refine aB (eY _ _ _ (w.heap.size+2) (by rw [hs1]) rfl) ?_)
    | (refine aB (bC (wX us rb) ⟨_,rfl,rfl⟩) ?_)
    | (refine dh kx.out rfl _ _ _ _ rfl _ _ rfl rfl rfl rfl ?_; intro w3 hO3 hu3; have cm:Hid (Below w1.heap.size w1 w3):=hid (hu3.below (al1 _ _) (by omega)); have H8:=hid hO3; have i5:=hid (nw.out.below cm.out); have HR3:=hid (HR1.out.below cm.out); have ap:=hid (bst HB1.out cm.out); have k0:=aV (j:=0) i5.out fS.out; have k1:=aV (j:=1) i5.out (iO N na nn nc); clear hO3 hu3))
   refine (HE.out _ cm.out).mono ?_;rintro e y ⟨rfl,rfl⟩;go_wp2_with (first
    | (refine aB (uq H8.out ⟨_,rfl,rfl⟩) ?_)
    | (refine dh HR3.out rfl _ _ _ _ rfl _ _ rfl rfl rfl rfl ?_; intro w9 ae af; have b8:=hid ae; have bo:=hid (af.below ap.out (by omega)); clear ae af))
   exact bodyPost_ret (jX (q:=8) rfl _ rfl b8.out) rfl ⟨rfl,bo.out⟩
 .have HV:Hid (yC N q us ln=vdC eB false us rb):=hid (by unfold yC; rw [if_neg (λh=>hk h.1),Mz.out]);have hk0:(N.kd==1)=false:=by simpa using hk
  rw [HV.out];clear hk HV;go_enter func45,ntmps45;go_wp2_with (first
   | (refine aB (eY _ _ _ (w.heap.size+1) (by simp) rfl) ?_; rw [<-HW.out])
   | (refine aB (eY _ _ _ (w.heap.size+2) (by rw [hs1]) rfl) ?_)
   | (refine aB (bC (wX us rb) ⟨_,rfl,rfl⟩) ?_)
   | (refine dh kx.out rfl _ _ _ _ rfl _ _ rfl rfl rfl rfl ?_; intro w3 hO3 hu3; have cm:Hid (Below w1.heap.size w1 w3):=hid (hu3.below (al1 _ _) (by omega)); have H8:=hid hO3; have i5:=hid (nw.out.below cm.out); have HR3:=hid (HR1.out.below cm.out); have ap:=hid (bst HB1.out cm.out); have k0:w3.cell? ⟨w.heap.size,0,none⟩=some (.int .i64 N.kd):=aV (j:=0) i5.out rfl; clear hO3 hu3)
   | (refine aB (uq H8.out ⟨_,rfl,rfl⟩) ?_)
   | (refine dh HR3.out rfl _ _ _ _ rfl _ _ rfl rfl rfl rfl ?_; intro w9 ae af; have b8:=hid ae; have bo:=hid (af.below ap.out (by omega)); clear ae af))
  exact bodyPost_ret (jX (q:=8) rfl _ rfl b8.out) rfl ⟨rfl,bo.out⟩
theorem wL (l:List aM) (hx:∀ s∈l,s.size<=900000) (la:aL) (ln lc:Nat) (R:aM) (us g bu bp:Nat) (w:World) (hl:lK w la ln lc l) (hR:R.size<=900000) (m7:us<=ln) (yi:ln<=1000)
  (hg:Rg.Own w g #[.int .i64 us] 3) (hu:Rg.Own w bu #[.pointer (some ⟨g,0,none⟩)] 89) (hp:Rg.Own w bp #[.slice la ln lc] 26) (hgb:bu≠g) (Yt:bp≠g) (T4:∀ ad,la=some ad->ad.block≠g) (hT:Tab w) :
  Calls prog 72 #[.string R,.pointer (some ⟨bu,0,none⟩),.pointer (some ⟨bp,0,none⟩)] w (VT l g us R w):=by
 have HU:=hid hu;have yp:=hid hp;have HG:=hid hg;have cD:=hid hl.len;have eo:=hid hl;by_cases h32:R.size<32
 .have oc:decide ((R.size:Int)<32)=true:=aK (by omega);have od:decide (R.size<32)=true:=aK h32;have HN:Hid (nxP l us R=some (R,us)):=hid (by unfold nxP; rw [if_pos h32]);clear hl hg hu hp hT;go_enter func72,ntmps72;go_wp2;exact bodyPost_ret (results_tmp2 (t:=4) (u:=5) rfl _ _ _) rfl ⟨R,true,us,w,w,rfl,λ_=>HN.out,λe=>(by cases e),aI,qN _ _,aI,HG.out⟩
 have oc:decide ((R.size:Int)<32)=false:=decide_eq_false (by omega);have od:decide (R.size<32)=false:=decide_eq_false h32;by_cases hlt:us<ln;rotate_left
 .obtain rfl:us=ln:=by omega
  have HN:Hid (nxP l us R=none):=hid (by
   unfold nxP;rw [if_neg h32,if_neg (λh=>by have h1:=h.1; have:=cD.out; omega)])
  clear hl hg hu hp hT;go_enter func72,ntmps72;go_wp2_with fail
  refine aD (S:=λw'=>Below w.heap.size w w') (aI.drew) λhld=>?_;refine aj 0 ?_ (hy:=by intro wz hSw; (have q0:=aV (j:=0) (HU.out.below hSw) rfl; go_simp <;> with_reducible rfl));try simp only [Act.put,au]
  refine aj 1 ?_;try simp only [Act.put,au]
  refine aj 2 ?_ (hy:=by intro wz hSw; (have q0:=aV (j:=0) (HG.out.below hSw) rfl; go_simp <;> with_reducible rfl));try simp only [Act.put,au]
  refine aj 3 ?_ (hy:=by intro wz hSw; (have q0:=aV (j:=0) (yp.out.below hSw) rfl; go_simp <;> with_reducible rfl));try simp only [Act.put,au]
  refine aj 4 ?_;try simp only [Act.put,au]
  refine aj 5 ?_;try simp only [Act.put,au]
  refine aj 6 ?_;try simp only [Act.put,au]
  refine Rg.takeL (i:=7) (v:=undef) rfl (by kernel_rfl) (by kernel_rfl) (by kernel_rfl) (λ_ _ _ h=>h) (Or.inr ⟨by rfl,rfl⟩) (by assumption) ?_;try simp only [Act.put,au]
  refine Rg.takeL (i:=8) (v:=undef) rfl (by kernel_rfl) (by kernel_rfl) (by kernel_rfl) (λ_ _ _ h=>h) (Or.inr ⟨by rfl,rfl⟩) (by assumption) ?_;try simp only [Act.put,au]
  refine Rg.takeL (i:=9) (v:=undef) rfl (by kernel_rfl) (by kernel_rfl) (by kernel_rfl) (λ_ _ _ h=>h) (Or.inr ⟨by rfl,rfl⟩) (by assumption) ?_;try simp only [Act.put,au]
  refine Rg.takeL (i:=10) (v:=undef) rfl (by kernel_rfl) (by kernel_rfl) (by kernel_rfl) (λ_ _ _ h=>h) (Or.inr ⟨by rfl,rfl⟩) (by assumption) ?_;try simp only [Act.put,au]
  refine Rg.takeL (i:=11) (v:=undef) rfl (by kernel_rfl) (by kernel_rfl) (by kernel_rfl) (λ_ _ _ h=>h) (Or.inr ⟨by rfl,rfl⟩) (by assumption) ?_;try simp only [Act.put,au]
  refine Rg.takeL (i:=12) (v:=undef) rfl (by kernel_rfl) (by kernel_rfl) (by kernel_rfl) (λ_ _ _ h=>h) (Or.inr ⟨by rfl,rfl⟩) (by assumption) ?_;try simp only [Act.put,au]
  refine Rg.takeL (i:=13) (v:=undef) rfl (by kernel_rfl) (by kernel_rfl) (by kernel_rfl) (λ_ _ _ h=>h) (Or.inr ⟨by rfl,rfl⟩) (by assumption) ?_;try simp only [Act.put,au]
  refine Rg.takeL (i:=14) (v:=undef) rfl (by kernel_rfl) (by kernel_rfl) (by kernel_rfl) (λ_ _ _ h=>h) (Or.inr ⟨by rfl,rfl⟩) (by assumption) ?_;try simp only [Act.put,au]
  refine Rg.takeL (i:=15) (v:=undef) rfl (by kernel_rfl) (by kernel_rfl) (by kernel_rfl) (λ_ _ _ h=>h) (Or.inr ⟨by rfl,rfl⟩) (by assumption) ?_;try simp only [Act.put,au]
  refine aj 16 ?_;try simp only [Act.put,au]
  refine aC ?_;have am:=hid hld;clear hld;go_wp2;exact bodyPost_ret (results_tmp2 (t:=4) (u:=5) rfl _ _ _) rfl ⟨eB,false,us,w,w,rfl,λe=>(by cases e),λ_=>⟨HN.out,rfl⟩,aI,qN _ _,am.out,HG.out.below am.out⟩
 obtain ⟨b0,o0,rfl,hb0,hc0⟩:=hl.at' us hlt;have hm:l.getD us eB∈l:=Rf.gW (by rw [cD.out]; exact hlt);have hsz:=hx _ hm;obtain ⟨Y,hY⟩:=aA (l.getD us eB)
 rw [hY] at hsz hc0;have yq:=hid hc0;have MD:b0≠g:=T4 _ rfl;obtain ⟨m,hmm⟩:=aA (qV R Y)
 have HM:Hid (∀ W,Below w.heap.size w W->Calls prog 73 #[.string R,.string Y] W λe w'=>e = .returned (.bool m)/\Below W.heap.size W w'):=hid (λW hb=>by
  have:=Jo R Y hsz W (hT.below hb hT.pos);rw [hmm] at this;exact this)
 have T5:(Y.size≠0/\ofP Y=R)↔m=true:=by
  rw [<-hmm];unfold qV;simp
 have yr:=hid T5;have HY:=hid hY;have u2:(us:Int)<(ln:Int):=by omega
 have hu0:(0:Int)<=(us:Int):=by omega
 have hne:((us:Int)==(ln:Int))=false:=by
  have:¬ (us:Int)=(ln:Int):=by omega
  simp [this]
 have hne2:(us==ln)=false:=by
  have:¬ us=ln:=by omega
  simp [this]
 have oB:¬ us=ln:=by omega
 clear hl hg hu hp hT hx hm hsz hY hmm T5 hc0 T4;cases m with
 | false =>
  have HN:Hid (nxP l us R=none):=hid (by
   unfold nxP;rw [if_neg h32,HY.out,if_neg (λh=>by have:=yr.out.1 h.2; cases this)])
  clear yr HY;go_enter func72,ntmps72;go_wp2_with fail
  refine aD (S:=λw'=>Below w.heap.size w w') (aI.drew) λhld=>?_;refine aj 0 ?_ (hy:=by intro wz hSw; (have q0:=aV (j:=0) (HU.out.below hSw) rfl; go_simp <;> with_reducible rfl));try simp only [Act.put,au]
  refine aj 1 ?_;try simp only [Act.put,au]
  refine aj 2 ?_ (hy:=by intro wz hSw; (have q0:=aV (j:=0) (HG.out.below hSw) rfl; go_simp <;> with_reducible rfl));try simp only [Act.put,au]
  refine aj 3 ?_ (hy:=by intro wz hSw; (have q0:=aV (j:=0) (yp.out.below hSw) rfl; go_simp <;> with_reducible rfl));try simp only [Act.put,au]
  refine aj 4 ?_;try simp only [Act.put,au]
  refine aj 5 ?_ (hy:=by intro wz hSw; (have q0:=hne; have q1:=hne2; have q2:=oB; go_simp <;> with_reducible rfl));try simp only [Act.put,au]
  refine aj 6 ?_;try simp only [Act.put,au]
  refine aj 7 ?_;try simp only [Act.put,au]
  refine aj 8 ?_ (hy:=by intro wz hSw; (have q0:=aV (j:=0) (yp.out.below hSw) rfl; go_simp <;> with_reducible rfl));try simp only [Act.put,au]
  refine aj 9 ?_ (hy:=by intro wz hSw; (have q0:=aV (j:=0) (HU.out.below hSw) rfl; go_simp <;> with_reducible rfl));try simp only [Act.put,au]
  refine aj 10 ?_;try simp only [Act.put,au]
  refine aj 11 ?_ (hy:=by intro wz hSw; (have q0:=aV (j:=0) (HG.out.below hSw) rfl; go_simp <;> with_reducible rfl));try simp only [Act.put,au]
  refine aj 12 ?_ (hy:=by intro wz hSw; (have q0:=u2; have q1:=hu0; have q2:=hlt; go_simp <;> with_reducible rfl));try simp only [Act.put,au]
  refine aj 13 ?_ (hy:=by intro wz hSw; (have q0:=aX hSw yq.out; go_simp <;> with_reducible rfl));try simp only [Act.put,au]
  refine ak 14 λK hK=>?_;go_simp;go_at_call 73
  (with_reducible refine (HM.out _ hld).mono ?_)
  rintro e y1 ⟨rfl,hbx⟩;refine hK.out _ _ (Below.trans hld (hbx.mono hld.size)) λhld=>?_;clear hK K hbx;try simp only [Act.put,au]
  refine aj 15 ?_;try simp only [Act.put,au]
  refine aj 16 ?_;try simp only [Act.put,au]
  refine aC ?_;obtain ⟨wv,hwv⟩:=aA y1
  rw [hwv] at hld;rw [hwv];have am:=hid hld;clear hld hwv;go_wp2;exact bodyPost_ret (results_tmp2 (t:=4) (u:=5) rfl _ _ _) rfl ⟨eB,false,us,w,w,rfl,λe=>(by cases e),λ_=>⟨HN.out,rfl⟩,aI,qN _ _,am.out,HG.out.below am.out⟩
 | true =>
  have HN:Hid (nxP l us R=some (Y,us+1)):=hid (by
   unfold nxP;rw [if_neg h32,HY.out,if_pos ⟨by rw [cD.out]; exact hlt,yr.out.2 rfl⟩])
  clear yr HY;go_enter func72,ntmps72;go_wp2_with fail
  refine aD (S:=λw'=>Below w.heap.size w w') (aI.drew) λhld=>?_;refine aj 0 ?_ (hy:=by intro wz hSw; (have q0:=aV (j:=0) (HU.out.below hSw) rfl; go_simp <;> with_reducible rfl));try simp only [Act.put,au]
  refine aj 1 ?_;try simp only [Act.put,au]
  refine aj 2 ?_ (hy:=by intro wz hSw; (have q0:=aV (j:=0) (HG.out.below hSw) rfl; go_simp <;> with_reducible rfl));try simp only [Act.put,au]
  refine aj 3 ?_ (hy:=by intro wz hSw; (have q0:=aV (j:=0) (yp.out.below hSw) rfl; go_simp <;> with_reducible rfl));try simp only [Act.put,au]
  refine aj 4 ?_;try simp only [Act.put,au]
  refine aj 5 ?_ (hy:=by intro wz hSw; (have q0:=hne; have q1:=hne2; have q2:=oB; go_simp <;> with_reducible rfl));try simp only [Act.put,au]
  refine aj 6 ?_;try simp only [Act.put,au]
  refine aj 7 ?_;try simp only [Act.put,au]
  refine aj 8 ?_ (hy:=by intro wz hSw; (have q0:=aV (j:=0) (yp.out.below hSw) rfl; go_simp <;> with_reducible rfl));try simp only [Act.put,au]
  refine aj 9 ?_ (hy:=by intro wz hSw; (have q0:=aV (j:=0) (HU.out.below hSw) rfl; go_simp <;> with_reducible rfl));try simp only [Act.put,au]
  refine aj 10 ?_;try simp only [Act.put,au]
  refine aj 11 ?_ (hy:=by intro wz hSw; (have q0:=aV (j:=0) (HG.out.below hSw) rfl; go_simp <;> with_reducible rfl));try simp only [Act.put,au]
  refine aj 12 ?_ (hy:=by intro wz hSw; (have q0:=u2; have q1:=hu0; have q2:=hlt; go_simp <;> with_reducible rfl));try simp only [Act.put,au]
  refine aj 13 ?_ (hy:=by intro wz hSw; (have q0:=aX hSw yq.out; go_simp <;> with_reducible rfl));try simp only [Act.put,au]
  refine ak 14 λK hK=>?_;go_simp;go_at_call 73
  (with_reducible refine (HM.out _ hld).mono ?_)
  rintro e y1 ⟨rfl,hbx⟩;refine hK.out _ _ (Below.trans hld (hbx.mono hld.size)) λhld=>?_;clear hK K hbx;try simp only [Act.put,au]
  refine aj 15 ?_;try simp only [Act.put,au]
  refine aj 16 ?_;try simp only [Act.put,au]
  refine aC ?_;obtain ⟨wv,hwv⟩:=aA y1
  rw [hwv] at hld;rw [hwv];have am:=hid hld;clear hld hwv;obtain ⟨w7,hw7⟩:=aA (wv.setCell ⟨g,0,none⟩ (.int .i64 ((us+1:Nat):Int)))
  have BB:=hid (HG.out.below am.out);have cN:Hid (Rg.Own w7 g #[.int .i64 ((us+1:Nat):Int)] 3):=hid (by rw [<-hw7]; exact cO (o:=0) BB.out _);have cE:Rg.Upd wv g w7:=by rw [<-hw7]; exact bQ _ _ _ _
  have Yu:=hid ((HU.out.below am.out).upd cE hgb);have Yv:=hid ((yp.out.below am.out).upd cE Yt);have T6:=(World.cell?_of_block (a:=⟨b0,o0+us,none⟩) (cE.block b0 MD)).trans (aX am.out yq.out);have ME:=hid cE;have D1:=hid hw7;have k1:=aV (j:=0) (HU.out.below am.out) rfl;have k2:=aV (j:=0) BB.out rfl;have hwr:IntKind.i64.wrap ((us:Int)+1)=(us:Int)+1:=IntWalk.i64_in _ (by omega);have hwr2:IntKind.i64.wrap (((us+1:Nat):Int)-1)=(us:Int):=by rw [show ((us+1:Nat):Int)-1=(us:Int) by omega]; exact IntWalk.i64_in _ (by omega)
  have MM:IntKind.i64.wrap ((us:Int)+1-1)=(us:Int):=by rw [show (us:Int)+1-1=(us:Int) by omega]; exact IntWalk.i64_in _ (by omega)
  have MT:IntKind.i64.wrap (us:Int)=(us:Int):=IntWalk.i64_in _ (by omega);have hcast:((us+1:Nat):Int)=(us:Int)+1:=by omega
  clear hw7 cE;go_wp2_with (first
   | (refine rX rfl _ (Cx (off:=0) BB.out (show 0<1 by decide) ((us+1:Nat):Int) ⟨_,_,rfl,rfl,by rw [hcast]; first | rfl | (go_simp <;> with_reducible rfl)⟩) ?_; rw [D1.out]; have Yw:=hid T6; clear T6 k1 k2))
  refine aD (S:=λw'=>Below w7.heap.size w7 w') (aI.drew) λhld=>?_;refine aj 0 ?_ (hy:=by intro wz hSw; (have q0:=aV (j:=0) (Yv.out.below hSw) rfl; go_simp <;> with_reducible rfl));try simp only [Act.put,au]
  refine aj 1 ?_ (hy:=by intro wz hSw; (have q0:=aV (j:=0) (Yu.out.below hSw) rfl; go_simp <;> with_reducible rfl));try simp only [Act.put,au]
  refine aj 2 ?_;try simp only [Act.put,au]
  refine aj 3 ?_ (hy:=by intro wz hSw; (have q0:=aV (j:=0) (cN.out.below hSw) rfl; go_simp <;> with_reducible rfl));try simp only [Act.put,au]
  refine aj 4 ?_ (hy:=by intro wz hSw; (have q0:=hwr2; have q1:=MM; have q2:=MT; go_simp <;> with_reducible rfl));try simp only [Act.put,au]
  refine aj 5 ?_ (hy:=by intro wz hSw; (have q0:=u2; have q1:=hu0; have q2:=hlt; go_simp <;> with_reducible rfl));try simp only [Act.put,au]
  refine aj 6 ?_ (hy:=by intro wz hSw; (have q0:=aX hSw Yw.out; go_simp <;> with_reducible rfl));try simp only [Act.put,au]
  refine aj 7 ?_;try simp only [Act.put,au]
  refine aj 8 ?_;try simp only [Act.put,au]
  refine aC ?_;have cI:=hid hld;clear hld;go_wp2;exact bodyPost_ret (results_tmp2 (t:=4) (u:=5) rfl _ _ _) rfl ⟨Y,true,us+1,wv,w7,rfl,λ_=>HN.out,λe=>(by cases e),am.out,ME.out,cI.out,cN.out.below cI.out⟩
open ew
theorem Rb {w:World} {a1 a2:aL} {n1 c1 n2 c2:Nat} {l1 l2:aN} (h1:bf w a1 n1 c1 l1) (h2:bf w a2 n2 c2 l2) :
  Cc.zF (w.alloc (.cells #[.slice a1 n1 c1,.slice a2 n2 c2] 35)) (some ⟨w.heap.size,0,none⟩) 2 [l1,l2]:=by
 refine ⟨rfl,λj hj=>⟨w.heap.size,0,rfl,by simp,?_⟩⟩
 match j,hj with
 | 0,_=>exact ⟨a1,n1,c1,by simp,h1.alloc _⟩
 | 1,_=>exact ⟨a2,n2,c2,by simp,h2.alloc _⟩
def Qi (w:World) (l:aN) (e:Ending) (w':World):Prop:=∃ r:Hdl,e = .returned (.slice r.1 r.2.1 r.2.2)/\BsP (λb=>w.heap.size<=b) w' r l/\Below w.heap.size w w'
theorem QS (a:aL) (n cap:Nat) (ls:List (aN)) (hn:n<=1000000) (hL:ls.flatten.length<=1099511627776) (w:World) (h:Cc.zF w a n ls) :
  Calls prog 147 #[.slice a n cap] w (Qi w ls.flatten):=by
 have hc:=Cc.Bp a n cap ls hn hL w h;obtain ⟨r,hr⟩:=aA ls.flatten
 rw [hr] at hc ⊢;have HC:=hid hc;clear hc hr hL h;go_enter func147,ntmps147;go_wp2_with fail
 refine HC.out.mono ?_;rintro e w1 ⟨v,rfl,hown,hb⟩;have hlt:=hown.lt;obtain ⟨a',cap',rfl,hx⟩:=bf.sS hown;clear hown;go_wp2;go_ret;exact ⟨(a',r.length,cap'),rfl,⟨hx,λad e hn=>(hlt ad.block (by have e3:a'=some ad:=e; obtain ⟨b,off,e2,_⟩:=hx.at' 0 hn; rw [e3] at e2 ⊢; cases e2; rfl)).1⟩,hb⟩
theorem Gy (p:aL) (o:Nat) (h m:Hdl) (a l:Pa) (w:World) (ha:bf w h.1 h.2.1 h.2.2 a) (hm:bf w m.1 m.2.1 m.2.2 l) (hl:a.length+l.length<=64) :
  Calls prog 132 #[.agg (plA p o h),.slice m.1 m.2.1 m.2.2] w (Qi w (a++l)):=by
 obtain ⟨w1,hw1⟩:=ay (w.alloc (.cells (plA p o h) 111))
 have hb1:Below w.heap.size w w1:=by rw [hw1]; exact al1 _ _
 have c0:w1.cell? ⟨w.heap.size,2,none⟩=some (.slice h.1 h.2.1 h.2.2):=by rw [hw1]; exact Sz w p o h
 have hb2:=al1 w1 (.cells #[.slice h.1 h.2.1 h.2.2,.slice m.1 m.2.1 m.2.2] 35);have HJ:=hid (QS _ 2 2 _ (by omega) (by simp; omega) _ (Rb (ha.below hb1) (hm.below hb1)));rw [show [a,l].flatten=a++l by simp] at HJ;have hlen:(a++l).length<=64:=by rw [List.length_append]; exact hl
 have HB:Hid (∀ w2,Below (w1.alloc (.cells #[.slice h.1 h.2.1 h.2.2,.slice m.1 m.2.1 m.2.2] 35)).heap.size (w1.alloc (.cells #[.slice h.1 h.2.1 h.2.2,.slice m.1 m.2.1 m.2.2] 35)) w2->Below w.heap.size w w2):=hid (λw2 hb=>bst (bst hb1 hb2) hb);have hs:w.heap.size<=(w1.alloc (.cells #[.slice h.1 h.2.1 h.2.2,.slice m.1 m.2.1 m.2.2] 35)).heap.size:=Nat.le_trans hb1.size hb2.size;obtain ⟨L,hL⟩:=aA (a++l)
 rw [hL] at HJ hlen ⊢;clear ha hm hl hb1 hb2 hL;obtain ⟨A,hA⟩:=aA (plA p o h)
 rw [hA] at hw1 ⊢;clear hA;subst hw1;rw [show (w.alloc (.cells A 111)).heap.size=w.heap.size+1 by simp] at HJ;go_enter func132,ntmps132;go_wp2_with fail
 refine HJ.out.mono ?_;rintro e w2 ⟨r,rfl,hr,hb⟩;have hrl:=hr.1.len;have hrn:r.2.1<=64:=by omega
 have hrc:=hr.1.1;have hmin:min (r.2.1:Int) 65=(r.2.1:Int):=by omega
 have hR:BsP (λb=>w.heap.size<=b) w2 r L:=hr.to λb _ hb=>Nat.le_trans hs hb;have HR:=hid hR;have HB2:=hid (HB.out w2 hb);clear hr hb HJ HB hR c0 hs;go_wp2_with (first
  | (refine aB (yS (j:=r.2.1) fV iD hrc ⟨_,_,rfl,rfl,rfl⟩) ?_))
 go_ret;exact ⟨r,rfl,HR.out,HB2.out⟩
theorem Pq (p:aL) (w:World):Calls prog 57 #[tv p] w λe w'=>e = .returned (.func (Fn.func 90) #[] #[.pointer (some ⟨w.heap.size,0,none⟩)])/\Rg.Own w' w.heap.size #[.pointer p] 46/\Below w.heap.size w w':=by
 have eK:∀ (fn:Fn) (first cap:aO) (w:World),(Instr.makeFunc fn first cap).run prog w = .ok (.func fn first cap) w:=λ_ _ _ _=>rfl;have hO:=Rg.Own.new w #[.pointer p] 46;have hb:=al1 w (.cells #[.pointer p] 46);go_enter func57,ntmps57;go_wp2;go_ret;exact ⟨rfl,hO,hb⟩
theorem JF (into:Value) (g:Nat) (w:World) (hin:into.oneCell'=true):Calls prog 90 #[into,.pointer (some ⟨g,0,none⟩)] w λe w'=>e = .returned (.func (Fn.func 91) #[] #[.pointer (some ⟨g,0,none⟩),.pointer (some ⟨w.heap.size,0,none⟩)])/\Rg.Own w' w.heap.size #[into] 112/\Below w.heap.size w w':=by
 have eK:∀ (fn:Fn) (first cap:aO) (w:World),(Instr.makeFunc fn first cap).run prog w = .ok (.func fn first cap) w:=λ_ _ _ _=>rfl;have hO:=Rg.Own.new w #[into] 112;have hb:=al1 w (.cells #[into] 112);go_enter func90,ntmps90;go_wp2;go_ret;exact ⟨rfl,hO,hb⟩
def hv (h:Hdl):Value:=.slice h.1 h.2.1 h.2.2
def hd0:Hdl:=(none,0,0)
theorem Vx:(prog.info? 35).map (λi=>(i.zero,i.size,i.bytes))=some (some (.slice none 0 0),1,24):=by kernel_rfl
theorem BK:∃ i,prog.info? 35=some i/\i.zero=some (.slice none 0 0)/\i.size=1/\i.bytes=24:=by
 obtain ⟨i0,hi,hz,hs,hby⟩:=info_parts Vx;exact ⟨i0,hi,hz,hs,hby⟩
structure rR (B:Nat) (w:World) (v:Value) (hs:List Hdl) (l:List Pa):Prop where
 row:w.ownsRow B 35 1 v hs.length (hs.map hv)
 len:hs.length=l.length
 bs:∀ j,j<hs.length->BsP (λb=>B<=b/\v.ownBlock≠some b) w (hs.getD j hd0) (l.getD j [])
theorem rR.nil (B:Nat) (w:World):rR B w (.slice none 0 0) [] []:=⟨World.ownsRow_nil _ _ _ _,rfl,λj hj=>absurd hj (Nat.not_lt_zero _)⟩
theorem rR.keep {w w':World} {v:Value} {hs:List Hdl} {l:List Pa} (h:rR B w v hs l) (hz:w.heap.size<=w'.heap.size) (hk:∀ b,B<=b->b<w.heap.size->w'.heap[b]? = w.heap[b]?):rR B w' v hs l :=
 ⟨fC h.row λk e=>hk k (h.row.lt k e).1 (h.row.lt k e).2,h.len,λj hj=>(h.bs j hj).kept hz λb hb hlt=>hk b hb.1 hlt⟩
theorem rR.push {w w3:World} {v:Value} {hs:List Hdl} {l:List Pa} {r:Hdl} {a:Pa} (h:rR B w v hs l) (hB:B<=w.heap.size) (hb:Below w.heap.size w w2) (hr:BsP (λb=>w.heap.size<=b) w2 r a)
  (hown:w3.ownsRow B 35 1 v' (hs.length+1) (hs.map hv++[hv r])) (hg:w2.grownBy w3 v.ownBlock) (hloc:v'.ownBlock=v.ownBlock\/v'.ownBlock=some w2.heap.size):rR B w3 v' (hs++[r]) (l++[a]):=by
 have hs2:=hb.size;have hv':∀ b,b<w2.heap.size->v.ownBlock≠some b->v'.ownBlock≠some b:=λb hlt hn=>by
  rcases hloc with e | e
  .rw [e]; exact hn
  .rw [e]; intro g; have:=Option.some.inj g; omega
 refine ⟨by rw [List.length_append,List.map_append]; exact hown,by rw [List.length_append,List.length_append,h.len]; rfl,λj hj=>?_⟩;by_cases hlt:j<hs.length
 .have e1:(hs++[r]).getD j hd0=hs.getD j hd0:=by simp [List.getD,List.getElem?_append_left hlt]
  have e2:(l++[a]).getD j []=l.getD j []:=by simp [List.getD,List.getElem?_append_left (show j<l.length by rw [<-h.len]; exact hlt)]
  rw [e1,e2];have h1:=(h.bs j hlt).kept hs2 λb _ hl=>hb.block b hl;have h2:BsP (λb=>(B<=b/\v.ownBlock≠some b)/\b<w2.heap.size) w2 (hs.getD j hd0) (l.getD j []):=h1.to λb hl hp=>⟨hp,hl⟩
  exact (h2.kept hg.size λb hp hl=>hg.block b hl λe=>hp.1.2 e.symm).to λb _ hp=>⟨hp.1.1,hv' b hp.2 hp.1.2⟩
 .have hj':j=hs.length:=by rw [List.length_append] at hj; simp at hj; omega
  subst hj';have e1:(hs++[r]).getD hs.length hd0=r:=by simp [List.getD]
  have e2:(l++[a]).getD hs.length []=a:=by rw [h.len]; simp [List.getD]
  rw [e1,e2];have T7:∀ b,w.heap.size<=b->v.ownBlock≠some b:=λb hb e=>by have:=(h.row.lt b e).2; omega
  have h2:BsP (λb=>w.heap.size<=b/\b<w2.heap.size) w2 r a:=hr.to λb hl hp=>⟨hp,hl⟩
  exact (h2.kept hg.size λb hp hl=>hg.block b hl λe=>T7 b hp.1 e.symm).to λb _ hp=>⟨by omega,hv' b hp.2 (T7 b hp.1)⟩
def qX (N:Nd) (a:Pa) (i:Nat):List Pa:=if (N.ks.getD i eB).size=0 then [] else [a++if N.kd=3 then [UInt8.ofNat i] else N.p]
def lN (N:Nd) (a:Pa) (j:Nat):List Pa:=((List.range j).map (qX N a)).flatten
theorem qI (N:Nd) (a:Pa) (j:Nat):lN N a (j+1)=lN N a j++qX N a j:=by
 unfold lN;rw [List.range_succ];simp
theorem Dk (N:Nd) (a:Pa):∀ j,(lN N a j).length<=j
 | 0=>aH
 | j+1=>by
  rw [qI,List.length_append];have:=Dk N a j;have:(qX N a j).length<=1:=by unfold qX; split <;> simp
  omega
theorem NQ:List.range 16=(List.finRange 16).map (·.val):=by decide
theorem ER (n i:Nat):(List.replicate n eB).getD i eB=eB:=by
 rw [List.getD_eq_getElem?_getD,List.getElem?_replicate];split <;> rfl
theorem NG {x:Pl} (h:xk x):lN (bV x.1) x.2.2 16=(fq x).map (·.2.2):=by
 obtain ⟨t,o,a⟩:=x;obtain ⟨L,hl,g,f,hn,ho⟩:=h;have hL:L<=64:=by omega
 unfold lN;rw [NQ,List.map_map];have hz:∀ N:Nd,N.ks=zks->((List.finRange 16).map (qX N a ∘ λi=>i.val)).flatten=[]:=λN hN=>by
  have:(List.finRange 16).map (qX N a ∘ λi=>i.val)=(List.finRange 16).map λ_=>[]:=List.map_congr_left λi _=>by
   have hi:(N.ks.getD i.val eB).size=0:=by
    rw [hN];have:zks.getD i.val eB=eB:=ER 16 _;rw [this]; rfl
   show qX N a i.val=[]
   unfold qX;rw [if_pos hi]
  rw [this];simp
 cases t with
 | nil=>exact hz _ rfl
 | leaf p v=>exact hz _ rfl
 | stub r=>exact hz _ rfl
 | ext q s =>
  have hs:(ref s).size≠0:=(GL g.2.2.2.2 (by omega) f).2 (qy g.2.2.2.1);have e:(List.finRange 16).map (qX (bV (.ext q s)) a ∘ λi=>i.val)=(List.finRange 16).map λi=>if i.val=0 then [a++q] else []:=List.map_congr_left λi _=>by
   show qX _ a i.val=_;unfold qX;have hk:(bV (.ext q s)).ks.getD i.val eB=if i.val=0 then ref s else eB:=by
    show (ref s::List.replicate 15 eB).getD i.val eB=_;by_cases h0:i.val=0
    .rw [h0]; rfl
    .obtain ⟨j,hj⟩:∃ j,i.val=j+1:=⟨i.val-1,by omega⟩
     rw [hj,if_neg (by omega)];exact ER 15 j
   rw [hk];by_cases h0:i.val=0
   .rw [if_pos h0,if_pos h0,if_neg hs];rfl
   .rw [if_neg h0,if_neg h0];rfl
  rw [e];rfl
 | br ks =>
  have hr:∀ i,(ref (ks i)).size≠0↔ks i ≠ .nil:=λi=>GL (g.2.2 i) (by omega) (f i);show _=((fD ks).map λi=>(ks i,o+1,a++[iL i])).map (·.2.2);rw [List.map_map];have e:(List.finRange 16).map (qX (bV (.br ks)) a ∘ λi=>i.val)=(List.finRange 16).map λi=>if isNil (ks i) then [] else [a++[iL i]]:=List.map_congr_left λi _=>by
   show qX _ a i.val=_;unfold qX;have hk:(bV (.br ks)).ks.getD i.val eB=ref (ks i):=qY (λi=>ref (ks i)) i;rw [hk];by_cases h0:ks i = .nil
   .rw [if_pos (kF.2 h0),if_pos (by rw [h0]; rfl)]
   .rw [if_neg (λk=>h0 (kF.1 k)),if_neg ((hr i).2 h0)];rfl
  rw [e];unfold fD;generalize List.finRange 16=l
  induction l with
  | nil=>rfl
  | cons i r ih =>
   rw [List.map_cons,List.flatten_cons,ih];by_cases h0:ks i = .nil
   .rw [if_pos (kF.2 h0),List.filter_cons_of_neg (by rw [kF.2 h0]; decide)];rfl
   .rw [if_neg (λk=>h0 (kF.1 k)),List.filter_cons_of_pos (by
     cases e:isNil (ks i) with
     | true=>exact absurd (kF.1 e) h0
     | false=>rfl)]
    rfl
theorem NY {B' sz:Nat} {w:World} {v:Value} {xs:List Value} (h:w.ownsRow B e sz v n xs) (hB:B'<=B):w.ownsRow B' e sz v n xs :=
 ⟨h.1,h.2.imp id λ⟨g,cap,cur,e,hg,r⟩=>⟨g,cap,cur,e,Nat.le_trans hB hg,r⟩⟩
theorem TG (p:aL) (o:Nat) (h:Hdl) (a:Pa) (N:Nd) (na:aL) (nn nc:Nat) (hl:N.ks.length=16) (w:World) (ha:bf w h.1 h.2.1 h.2.2 a) (hN:bf w na nn nc N.p) (h3:a.length<64\/N.kd≠3) (hp:a.length+N.p.length<=64) :
  Calls prog 94 #[.agg (plA p o h),.agg (ndC N na nn nc)] w λe w'=>∃ v hs,e = .returned v/\rR w.heap.size w' v hs (lN N a 16)/\Below w.heap.size w w':=by
 obtain ⟨i0,hi,hz0,hz1,hz2⟩:=BK;have HI:Hid (_/\_/\_/\_):=hid ⟨hi,hz0,hz1,hz2⟩;obtain ⟨w1,hw1⟩:=ay (w.alloc (.cells (plA p o h) 111))
 have hb1:Below w.heap.size w w1:=by rw [hw1]; exact al1 _ _
 have hs1:w1.heap.size=w.heap.size+1:=by rw [hw1]; simp
 have bc:Rg.Own w1 w.heap.size (plA p o h) 111:=by rw [hw1]; exact Rg.Own.new _ _ _
 obtain ⟨w2,hw2⟩:=ay (w1.alloc (.cells (ndC N na nn nc) 67))
 have hb2':=al1 w1 (.cells (ndC N na nn nc) 67);have hO2:dL w2 (w.heap.size+1) N na nn nc:=by rw [hw2,<-hs1]; exact Rg.Own.new _ _ _
 rw [<-hw2] at hb2';have hb2:Below w.heap.size w w2:=bst hb1 hb2';have hs2:w2.heap.size=w.heap.size+2:=by rw [hw2]; simp; omega
 have dl:=hid (bc.below hb2');have el:=hid hO2;have HL:=hid hl;have HA:=hid (ha.below hb2);have Yx:=hid (hN.below hb2);have HB2:=hid hb2;have HS2:Hid (_=_):=hid hs2;have T8:Hid (∀ (wr:World) (m:Hdl) (l:Pa),Below w2.heap.size w2 wr->bf wr m.1 m.2.1 m.2.2 l->a.length+l.length<=64->Calls prog 132 #[.agg (plA p o h),.slice m.1 m.2.1 m.2.2] wr (Qi wr (a++l))):=hid (λwr m l hb hm hl=>Gy p o h m a l wr (HA.out.below hb) hm hl);clear hi hz0 hz1 hz2 hb1 hs1 bc hb2' hO2 hb2 hs2 ha hN hl
 go_enter func94,ntmps94;go_wp2_with (first
  | (rw [<-hw1,<-hw2]; refine aB (uG el.out HL.out ⟨_,rfl,rfl⟩) ?_))
 go_loopw [5,10] (λv i wr=>∃ (j:Nat) (hs:List Hdl),j<=16/\i = .int .i64 j/\Hid (rR (w.heap.size+2) wr v hs (lN N a j))/\Hid (Below w2.heap.size w2 wr)) (λ_ i _=>16-(intOf i).toNat)
 case atStart=>exact ⟨0,[],Nat.zero_le _,rfl,hid (rR.nil _ _),hid (by rw [hw2,hw1]; exact aI)⟩
 case round =>
  obtain ⟨j,hs,hj,rfl,HW,HB⟩:=hrel;clear hw1 hw2;have hsz:w.heap.size+2<=wr.heap.size:=by have:=HB.out.size; have:=HS2.out; omega
  by_cases hlt:j<16
  .have hsl:hs.length<=16:=by have:=HW.out.len; have:=Dk N a j; omega
   by_cases hk:(N.ks.getD j eB).size=0
   .have jz:Hid (lN N a (j+1)=lN N a j):=hid (by rw [qI]; unfold qX; rw [if_pos hk,List.append_nil]);have HE:Hid (N.ks.getD j eB=eB):=hid (cZ hk);clear hk;go_wp2_with (refine Rg.run rfl (.string (N.ks.getD j eB)) _ (kS HL.out hlt ⟨_,_,rfl,rfl,rfl⟩) ?_; rw [HE.out])
    go_roundw
    case rel=>exact ⟨j+1,hs,by omega,by go_num,hid (by rw [jz.out]; exact HW.out),HB⟩
    case measure=>simp [intOf]; omega
   .have hne:=Ni.bZ (s:=N.ks.getD j eB) (by omega);obtain ⟨K,hK⟩:=aA (N.ks.getD j eB)
    have HK:=hid hK;have hne2:(K.toList==[])=false:=by
     rw [hK] at hne;cases e:K.toList with
     | nil=>rw [e] at hne; cases hne
     | cons x r=>rfl
    rw [hK] at hne;have c0:=aV (j:=0) (el.out.below HB.out) (v:=.int .i64 N.kd) rfl;have Hi:=hid (GV.own (dl.out.below HB.out));by_cases h3':N.kd=3
    .have jz:Hid (lN N a (j+1)=lN N a j++[a++[UInt8.ofNat j]]):=hid (by rw [qI]; unfold qX; rw [if_neg hk,if_pos h3']);rw [h3'] at c0;have hwrap:IntKind.u8.wrap (j:Int)=(j:Int):=by rw [IntKind.wrap_u8]; omega
     have hlen:a.length+[UInt8.ofNat j].length<=64:=by
      rcases h3 with h3 | h3
      .show a.length+1<=64;omega
      .exact absurd h3' h3
     have oE:Hid (bf (wr.alloc (.cells #[.int .u8 j] 5)) (some ⟨wr.heap.size,0,none⟩) 1 1 [UInt8.ofNat j]):=hid (bf.new wr [UInt8.ofNat j] (by show 1<=maxLen; unfold maxLen; decide) _ _ (by
      have:(UInt8.ofNat j).toNat=j:=by rw [UInt8.toNat_ofNat']; omega
      simp [this]))
     have hal:=al1 wr (.cells #[.int .u8 j] 5);have ky:=hid (T8.out (wr.alloc (.cells #[.int .u8 j] 5)) (some ⟨wr.heap.size,0,none⟩,1,1) [UInt8.ofNat j] (bst HB.out hal) oE.out hlen);have ec:=hid hal;obtain ⟨A,hA⟩:=aA (a++[UInt8.ofNat j])
     rw [hA] at jz ky;clear hk hal h3' hK hlen hA;go_wp2_with (first
      | (refine Rg.run rfl (.string (N.ks.getD j eB)) _ (kS HL.out hlt ⟨_,_,rfl,rfl,rfl⟩) ?_; rw [HK.out])
      | (refine aB (lT Hi.out ⟨_,rfl,rfl⟩) ?_))
     refine ky.out.mono ?_;rintro e w4 ⟨r,rfl,hr,hb4⟩;have hs4:=hb4.size;have oR:=ec.out.size;have HR:Hid (BsP (λb=>wr.heap.size<=b) w4 r A):=hid (hr.to λb _ hb=>Nat.le_trans oR hb);have co:Hid (Below wr.heap.size wr w4):=hid (bst ec.out hb4);have cA:Hid (w4.ownsRow (w.heap.size+2) 35 1 u5 hs.length (hs.map hv)):=hid (HW.out.keep co.out.size (λb _ hl=>co.out.block b hl)).row;have tR:w.heap.size+2<=w4.heap.size:=by omega
     clear hr hb4 ky Hi c0 hs4 oR;go_wp2_with (first
      | (at_builtin; refine wpList_append_own_at _ rfl _ _ 160 rfl (w.heap.size+2) 35 i0 (.slice none 0 0) 1 24 underlying160 HI.out.1 HI.out.2.1 HI.out.2.2.1 HI.out.2.2.2 rfl (by decide) _ _ _ rfl (cA.out.alloc _) ⟨w4.heap.size,0,none⟩ 1 1 [hv r] rfl rfl ?d1 ?d2 ?d3 ?d4 ?d5 ?_))
     case d1=>exact Bu.cell_one_new' _ _ _ _
     case d2=>intro u hu; simp at hu; subst hu; rfl
     case d3=>unfold maxLen; omega
     case d4=>omega
     case d5=>simp; omega
     intro v' w5 hown5 dv _ j7;have dy:=al1 w4 (.cells #[hv r] 35);have HN:Hid (rR (w.heap.size+2) w5 v' (hs++[r]) (lN N a (j+1))):=hid (by
      rw [jz.out];exact rR.push HW.out hsz (bst co.out dy) (HR.out.kept dy.size λb _ hl=>dy.block b hl) hown5 dv (by simpa using j7))
     have hlt':=HW.out.row.lt;have yv:Hid (Below w2.heap.size w2 w5):=hid ((bst (bst HB.out co.out) dy).grown dv (by have:=co.out.size; have:=HB.out.size; simp; omega) (λg hg=>by have:=(hlt' g hg).1; have:=HS2.out; omega));clear dv hown5 j7 HR co cA;go_wp2;go_roundw
     case rel=>exact ⟨j+1,hs++[r],by omega,by go_num,HN,yv⟩
     case measure=>simp [intOf]; omega
    .have jz:Hid (lN N a (j+1)=lN N a j++[a++N.p]):=hid (by rw [qI]; unfold qX; rw [if_neg hk,if_neg h3']);have hk3:(N.kd==3)=false:=by simp [h3']
     have c1:=aV (j:=1) (el.out.below HB.out) (v:=.slice na nn nc) rfl;have ky:=hid (T8.out wr (na,nn,nc) N.p HB.out (Yx.out.below HB.out) hp);have ec:=hid (Below.refl wr.heap.size wr);obtain ⟨A,hA⟩:=aA (a++N.p)
     rw [hA] at jz ky;clear hk hK hA;go_wp2_with (first
      | (refine Rg.run rfl (.string (N.ks.getD j eB)) _ (kS HL.out hlt ⟨_,_,rfl,rfl,rfl⟩) ?_; rw [HK.out])
      | (refine aB (lT Hi.out ⟨_,rfl,rfl⟩) ?_))
     refine ky.out.mono ?_;rintro e w4 ⟨r,rfl,hr,hb4⟩;have hs4:=hb4.size;have oR:=ec.out.size;have HR:Hid (BsP (λb=>wr.heap.size<=b) w4 r A):=hid (hr.to λb _ hb=>Nat.le_trans oR hb);have co:Hid (Below wr.heap.size wr w4):=hid (bst ec.out hb4);have cA:Hid (w4.ownsRow (w.heap.size+2) 35 1 u5 hs.length (hs.map hv)):=hid (HW.out.keep co.out.size (λb _ hl=>co.out.block b hl)).row;have tR:w.heap.size+2<=w4.heap.size:=by omega
     clear hr hb4 ky Hi c0 hs4 oR;go_wp2_with (first
      | (at_builtin; refine wpList_append_own_at _ rfl _ _ 160 rfl (w.heap.size+2) 35 i0 (.slice none 0 0) 1 24 underlying160 HI.out.1 HI.out.2.1 HI.out.2.2.1 HI.out.2.2.2 rfl (by decide) _ _ _ rfl (cA.out.alloc _) ⟨w4.heap.size,0,none⟩ 1 1 [hv r] rfl rfl ?d1 ?d2 ?d3 ?d4 ?d5 ?_))
     case d1=>exact Bu.cell_one_new' _ _ _ _
     case d2=>intro u hu; simp at hu; subst hu; rfl
     case d3=>unfold maxLen; omega
     case d4=>omega
     case d5=>simp; omega
     intro v' w5 hown5 dv _ j7;have dy:=al1 w4 (.cells #[hv r] 35);have HN:Hid (rR (w.heap.size+2) w5 v' (hs++[r]) (lN N a (j+1))):=hid (by
      rw [jz.out];exact rR.push HW.out hsz (bst co.out dy) (HR.out.kept dy.size λb _ hl=>dy.block b hl) hown5 dv (by simpa using j7))
     have hlt':=HW.out.row.lt;have yv:Hid (Below w2.heap.size w2 w5):=hid ((bst (bst HB.out co.out) dy).grown dv (by have:=co.out.size; have:=HB.out.size; simp; omega) (λg hg=>by have:=(hlt' g hg).1; have:=HS2.out; omega));clear dv hown5 j7 HR co cA;go_wp2;go_roundw
     case rel=>exact ⟨j+1,hs++[r],by omega,by go_num,HN,yv⟩
     case measure=>simp [intOf]; omega
  .obtain rfl:j=16:=by omega
   have dT:Hid (rR w.heap.size wr u5 hs (lN N a 16)/\Below w.heap.size w wr):=hid ⟨⟨NY HW.out.row (by omega),HW.out.len,λj hj=>(HW.out.bs j hj).to λb _ h=>⟨by omega,h.2⟩⟩,bst HB2.out HB.out⟩;clear HW HB hlt;go_wp2;go_ret;exact ⟨_,_,rfl,dT.out⟩
end Tm
end
section
open Go.RowKit
namespace ew
theorem KZ {P:Program} {a:Act} {w:World} {l:List Oper} (id k:Nat) (hd:(l.take k).all jT=true) (hL:¬ LetsOut Q)
  (h:∀ K:Act->World->Prop,(∀ a w,wpListIn (FW none) 0 P l.toArray Q (l.drop k) a w->K a w)->wpList P l.toArray (Exit.then K Q) (l.take k) a w):(Code.region id l.toArray false).wp P Q a w:=by
 refine (wpIn_wide (n:=0)).1 (wpIn_region_lit ?_);have:=om (P:=P) (r:=none) (n:=0) (ops:=l.toArray) (Q:=Q) (Q1:=Exit.then (wpListIn (FW none) 0 P l.toArray Q (l.drop k)) Q) (λ_ _ _ h=>h) (Oz hL) (l.drop k) (λ_ _ h=>h) (l.take k) a w hd (h _ λ_ _ h=>h);rw [List.take_append_drop] at this;exact this
def VZ (c:Code):Code:=c
theorem Lv (id:Nat) (ops:Array Oper):Code.region id ops false=VZ (Code.region id ops false):=rfl
theorem KT {P:Program} {w:World} (h:c.wp P Q a w):(VZ c).wp P Q a w:=h
theorem Aj {P:Program} {w:World} {l:Nat} (ho:∃ y xs ts,o.op = .call { callee:=.value y,args:=xs,argTypes:=ts }/\a.eval y = .func (.yield l) #[] #[]/\xs.toList.map a.eval=args.toList) :
  (execOp a.eval o).run P w=(Instr.yield l args).run P w:=by
 obtain ⟨y,xs,ts,ho,hy,hz⟩:=ho;have hz':xs.map a.eval=args:=by
  apply Array.ext';rw [Array.toList_map];exact hz
 unfold execOp;simp only [ho,resolve,hy,hz'];simp [Deferred.ofValue,Sem.run_bind,invoke,Result.andThen_ok]
theorem EU {P:Program} {r:Option Nat} {rest:List Oper} {w:World} {l:Nat} {R:Ending->World->Prop} (hY:YieldAt Fence.wide 0 P l args w R) (hw:Region.wanted o (yielded ops a.tmps)=true) (hd:jT o=true)
  (ho:∃ y xs ts,o.op = .call { callee:=.value y,args:=xs,argTypes:=ts }/\a.eval y = .func (.yield l) #[] #[]/\xs.toList.map a.eval=args.toList)
  (h:∀ e w',R e w'->∃ v,e = .returned v/\wpListIn (FW r) 0 P ops Q rest (a.put o.dst v) w'):wpListIn (FW r) 0 P ops Q (o::rest) a w :=
 Vg (n:=0) hw hd (Aj ho) hY h
end ew
namespace Tm
open Tr Ni Pk Ky No Rf Rl ew
open Sm (Tab)
def bk (hs:List Hdl) (m:Nat):List (Nat × Hdl):=(((List.range hs.length).drop m).map λj=>(j,hs.getD j hd0)).reverse
theorem Wx (hs:List Hdl):bk hs hs.length=[]:=by simp [bk]
theorem KH (hs:List Hdl) (h:m<hs.length):bk hs m=bk hs (m+1)++[(m,hs.getD m hd0)]:=by
 unfold bk;rw [List.drop_eq_getElem_cons (by rw [List.length_range]; exact h),List.map_cons,List.reverse_cons,List.getElem_range]
theorem Tq (hs:List Hdl):∀ m k,k<=m->m<=hs.length->bk hs m<+:bk hs k:=λm k hk hm=>by
 unfold bk;rw [List.reverse_prefix];refine List.IsSuffix.map _ ?_;exact ⟨((List.range hs.length).drop k).take (m-k),by
  have h1:(List.range hs.length).drop m=((List.range hs.length).drop k).drop (m-k):=by rw [List.drop_drop]; congr 1; omega
  rw [h1,List.take_append_drop]⟩
structure Di (M:Mp) (B gb:Nat) (v:Value) (hs:List Hdl) (w:World) (K:Nat->Prop):Prop where
 o:Rg.Own w gb #[v] 160
 r:w.ownsRow B 35 1 v hs.length (hs.map hv)
 kg:¬ K gb
 kr:∀ k,v.ownBlock=some k->¬ K k
 b:B<=gb
 u:∀ k,B<=k->M.at_ k=none/\¬ M.ft k
theorem Di.on {M:Mp} {gb:Nat} {v:Value} {hs:List Hdl} {w:World} {K K':Nat->Prop} (h:Di M B gb v hs w K) (f:FrK M K w wr) (hK:∀ k,K' k->K k\/w.heap.size<=k):Di M B gb v hs wr K' :=
 ⟨⟨aJ h.o.1 f.size,(f.block gb h.o.1 (h.u gb h.b).1 h.kg).trans h.o.2⟩,fC h.r λk e=>f.block k (h.r.lt k e).2 (h.u k (h.r.lt k e).1).1 (h.kr k e),λhk=>(hK _ hk).elim h.kg (by have:=h.o.1; omega),λk e hk=>(hK _ hk).elim (h.kr k e) (by have:=(h.r.lt k e).2; omega),h.b,h.u⟩
theorem Di.at' {M:Mp} {gb:Nat} {v:Value} {hs:List Hdl} {w:World} {K:Nat->Prop} (h:Di M B gb v hs w K) (hm:m<hs.length):∃ g c,v = .slice (some ⟨g,0,none⟩) hs.length c/\w.cell? ⟨g,m,none⟩=some (hv (hs.getD m hd0)):=by
 have hr:=h.r;rcases hr.2 with ⟨_,hn⟩ | ⟨g,cap,cur,rfl,hg,hh,hnc,hcm,hsz,htk⟩
 .omega
 .refine ⟨g,cap,rfl,?_⟩;have:=hr.cells (g:=g) rfl m (hv (hs.getD m hd0)) (by
   rw [List.getElem?_map,List.getElem?_eq_getElem hm];simp [List.getD,hm])
  rw [Addr.add_mid,Nat.zero_add] at this;exact this
def bkA (x:Nat × Hdl) (_:World) (args:aO):Prop:=args = #[.int .i64 x.1,hv x.2]
theorem Ms (v:Value) (hv1:v.oneCell'=true) (w:World):Calls prog 93 #[v] w λe w'=>e = .returned (.func (Fn.func 131) #[] #[.pointer (some ⟨w.heap.size,0,none⟩)])/\Rg.Own w' w.heap.size #[v] 160/\Below w.heap.size w w':=by
 have eK:∀ (fn:Fn) (first cap:aO) (w:World),(Instr.makeFunc fn first cap).run prog w = .ok (.func fn first cap) w:=λ_ _ _ _=>rfl;have hO:=Rg.Own.new w #[v] 160;have hb:=al1 w (.cells #[v] 160);go_enter func93,ntmps93;go_wp2;go_ret;exact ⟨rfl,hO,hb⟩
theorem PY (M:Mp) (B gb:Nat) (v:Value) (hs:List Hdl) (hn:hs.length<=1000):Xb M 131 #[.pointer (some ⟨gb,0,none⟩)] bkA (bk hs 0) (Di M B gb v hs):=by
 intro l J Js K0 w hJ hJs hP hi hT h0 hY;have HP:=hid hP;have HY:=hid hY;have HJ:=hid hJ;obtain ⟨n,hnn⟩:=aA hs.length
 have HN:=hid hnn;obtain ⟨a,c,rfl⟩:=jW hP.r;rw [hnn] at HP hn;show Calls prog 131 #[.func (.yield l) #[] #[],.pointer (some ⟨gb,0,none⟩)] w _;have c0:=aV (j:=0) HP.out.o rfl;have HS:Hid (J (bk hs n) K0 w/\FrK M K0 w w/\Inv M w/\Tab w/\∀ k,K0 k->K0 k\/w.heap.size<=k):=hid ⟨by rw [<-hnn,Wx]; exact h0,FrK.refl _ _ _,hi,hT,λk h=>.inl h⟩;have hw1:IntKind.i64.wrap ((n:Int)-1)=(n:Int)-1:=IntWalk.i64_in _ (by omega);clear hP hY hJ hi hT h0 hnn hJs
 go_enter func131,ntmps131;go_wp2_with fail
 go_loopw [3] (λi wr=>∃ (m:Nat) (K:Nat->Prop),m<=n/\i = .int .i64 ((m:Int)-1)/\Hid (J (bk hs m) K wr/\FrK M K0 w wr/\Inv M wr/\Tab wr/\∀ k,K k->K0 k\/w.heap.size<=k)) (λi _=>(intOf i+1).toNat)
 case atStart=>exact ⟨n,K0,aH,rfl,HS⟩
 case round =>
  obtain ⟨m,K,hm,rfl,HR⟩:=hrel;by_cases h0:m=0
  .subst h0;have hlt:¬ ((0:Nat):Int)-1>=0:=by omega
   clear HS c0;go_wp2;refine bodyPost_end (results_none rfl _ _ _) rfl ?_;exact ⟨⟨_,rfl⟩,bk hs 0,K,.inl ⟨rfl,HR.out.1⟩,HR.out.2⟩
  .obtain ⟨j,rfl⟩:∃ j,m=j+1:=⟨m-1,by omega⟩
   have hjl:j<hs.length:=by rw [HN.out]; omega
   have MY:=HP.out.on HR.out.2.1 HR.out.2.2.2.2;obtain ⟨g,c',e1,cj⟩:=MY.at' hjl;have cb:=aV (j:=0) MY.o rfl;rw [e1] at cb;rw [HN.out] at cb;have hji:(j:Int)<(n:Int):=by omega
   have hge:((j+1:Nat):Int)-1=(j:Int):=by omega
   have hw2:IntKind.i64.wrap ((j:Int)-1)=(j:Int)-1:=IntWalk.i64_in _ (by omega);have D2:=hid (HY.out (bk hs (j+1)) K (j,hs.getD j hd0) #[.int .i64 j,hv (hs.getD j hd0)] wr HR.out.1 HR.out.2.1 HR.out.2.2.1 HR.out.2.2.2.1 (by rw [<-KH hs hjl]; exact Tq hs j 0 (Nat.zero_le _) (by omega)) rfl);obtain ⟨z,hz⟩:=aA (hs.getD j hd0)
   rw [hz] at cj D2;unfold hv at cj D2;have HZ:Hid (bk hs (j+1)++[(j,z)]=bk hs j):=hid (by rw [KH hs hjl,hz]);rw [hge,Lv 3];clear HS c0 MY hge e1 hz;go_wp2_with (first
    | (refine KT (KZ 3 6 rfl (by rintro ⟨_,_,⟨⟨_,h⟩,_⟩⟩; cases h) ?_); intro _ _; dsimp only [List.take_succ_cons,List.take_zero,List.drop_succ_cons,List.drop_zero]))
   refine EU D2.out ?_ ?_ ?_ ?_
   .rfl
   .rfl
   .exact ⟨_,_,_,rfl,rfl,rfl⟩
   rintro e w2 ⟨K2,h⟩;rcases h with ⟨rfl,h2⟩ | ⟨rfl,h2⟩
   .refine ⟨_,rfl,uN rfl (by rintro ⟨_,_,⟨⟨_,h⟩,_⟩⟩; cases h) ?_⟩;have hs2:=HR.out.2.1.size;have H2:Hid (J (bk hs j) K2 w2/\FrK M K0 w w2/\Inv M w2/\Tab w2/\∀ k,K2 k->K0 k\/w.heap.size<=k):=hid ⟨by rw [<-HZ.out]; exact h2.j,HR.out.2.1.trans h2.f HR.out.2.2.2.2,h2.i,h2.t,λk hk=>(h2.sub k hk).elim (HR.out.2.2.2.2 k) (λh=>.inr (by omega))⟩;clear h2 D2 HR HZ;go_wp2;go_roundw
    case rel=>exact ⟨j,K2,by omega,by go_num,H2⟩
    case measure=>simp [intOf] <;> omega
   .refine ⟨_,rfl,uN rfl (by rintro ⟨_,_,⟨⟨_,h⟩,_⟩⟩; cases h) ?_⟩;have hs2:=HR.out.2.1.size;have H2:Hid (∃ V K,(V=bk hs 0/\J V K w2\/V<+:bk hs 0/\Js V K w2)/\FrK M K0 w w2/\Inv M w2/\Tab w2/\∀ k,K k->K0 k\/w.heap.size<=k):=hid ⟨bk hs j,K2,.inr ⟨Tq hs j 0 (Nat.zero_le _) (by omega),by rw [<-HZ.out]; exact h2.j⟩,HR.out.2.1.trans h2.f HR.out.2.2.2.2,h2.i,h2.t,λk hk=>(h2.sub k hk).elim (HR.out.2.2.2.2 k) (λh=>.inr (by omega))⟩;clear h2 D2 HR HZ;go_wp2;refine bodyPost_ret (results_none rfl _ _ _) rfl ?_;exact ⟨⟨_,rfl⟩,H2.out⟩
end Tm
end
section
open Go.RowKit
namespace Tm
open Tr Ni Pk Ky No Rf Rl ew
open Sm (Tab)
theorem yM {w w':World} (h:Tab w) (hu:Rg.Upd w g w') (hg:0<g):Tab w':=λi hi=>by
 rw [World.cell?_of_block (hu.block 0 (by omega))];exact h i hi
def goA (M:Mp) (x:Pl) (w:World) (args:aO):Prop:=∃ (p:aL) (h:Hdl) (na:aL) (nn nc:Nat),args = #[.agg (plA p x.2.1 h),.agg (ndC (bV x.1) na nn nc)]/\IsT M p x.1/\bf w h.1 h.2.1 h.2.2 x.2.2/\bf w na nn nc (bV x.1).p/\xk x
structure WS (M:Mp) (g0 gi fi:Nat) (cp:aO) (p0:aL) (I:Pa->Bool) (w:World) (K:Nat->Prop):Prop where
 c0:w.cell? ⟨g0,0,none⟩=some (.pointer p0)
 ci:w.cell? ⟨gi,0,none⟩=some (.func (Fn.func fi) #[] cp)
 hi:M.at_ gi=none
 ki:¬ K gi
 into:∀ wr,FrK M K w wr->∀ (p:aL) (o:Nat) (h:Hdl) (a:Pa),bf wr h.1 h.2.1 h.2.2 a->a.length<=64->Calls prog fi (#[.agg (plA p o h)]++cp) wr λe w'=>e = .returned (.bool (I a))/\Below wr.heap.size wr w'
def xR (M:Mp) (bx:Nat) (w:World):Nat:=match w.cell? ⟨bx,0,none⟩ with
 | some (.slice (some a) n _)=>((List.range n).map λj=>match w.cell? (a.add (j*3)) with
  | some (.pointer p)=>lH (KQ M p)
  | _=>0).sum
 | _=>0
structure Gq (M:Mp) (J:List Pl->(Nat->Prop)->World->Prop) (K0:Nat->Prop) (w0:World) (bx:Nat) (v:Value) (l:List Pc) (V:List Pl) (K:Nat->Prop) (Ds:List Nat) (w:World):Prop where
 ob:Rg.Own w bx #[v] 154
 row:jN w0.heap.size w v l
 ok:∀ y∈l,IsT M y.p y.x.1/\xk y.x/\BsP (λb=>w0.heap.size<=b/\¬ K b/\b≠bx/\v.ownBlock≠some b) w y.h y.x.2.2
 j:J V K w
 kb:¬ K bx
 kr:∀ k,v.ownBlock=some k->¬ K k
 nb:v.ownBlock≠some bx
 bb:w0.heap.size<=bx
 f:FrK M K0 w0 w
 sub:∀ k,K k->K0 k\/w0.heap.size<=k
 i:Inv M w
 t:Tab w
 u:∀ k,w0.heap.size<=k->M.at_ k=none/\¬ M.ft k
 z:0<w0.heap.size
 dn:Ds.Nodup
 dm:∀ D∈Ds,w0.heap.size<=D/\w.heap[D]? = some (.deferred (some []))/\¬ K D
section
variable {M:Mp} {J:List Pl->(Nat->Prop)->World->Prop} {K0:Nat->Prop} {w0:World} {bx:Nat} {v:Value} {l:List Pc} {V:List Pl} {K:Nat->Prop} {Ds:List Nat} {w w':World}
theorem Gq.keep (h:Gq M J K0 w0 bx v l V K Ds w) {V':List Pl} {K':Nat->Prop} (hz:w.heap.size<=w'.heap.size) (hk:∀ k,w0.heap.size<=k->k<w.heap.size->¬ K k->w'.heap[k]? = w.heap[k]?) (j':J V' K' w') (hs:∀ k,K' k->K k\/w.heap.size<=k) (f':FrK M K0 w0 w') (i':Inv M w') (t':Tab w') :
  Gq M J K0 w0 bx v l V' K' Ds w':=by
 have hn:∀ k,k<w.heap.size->¬ K k->¬ K' k:=λk hl hk hk'=>(hs k hk').elim hk (by omega);refine ⟨⟨aJ h.ob.1 hz,(hk bx h.bb h.ob.1 h.kb).trans h.ob.2⟩,fC h.row λk e=>hk k (h.row.lt k e).1 (h.row.lt k e).2 (h.kr k e),λy hy=>⟨(h.ok y hy).1,(h.ok y hy).2.1,?_⟩,j',hn bx h.ob.1 h.kb,λk e=>hn k (h.row.lt k e).2 (h.kr k e),h.nb,h.bb,f',λk hk'=>(hs k hk').elim (h.sub k) (λg=>.inr (Nat.le_trans h.f.size g)),i',t',h.u,h.z,h.dn,λD hD=>?_⟩
 .have h2:BsP (λb=>(w0.heap.size<=b/\¬ K b/\b≠bx/\v.ownBlock≠some b)/\b<w.heap.size) w y.h y.x.2.2:=(h.ok y hy).2.2.to λb hl hp=>⟨hp,hl⟩
  exact (h2.kept hz λb hp hl=>hk b hp.1.1 hl hp.1.2.1).to λb _ hp=>⟨hp.1.1,hn b hp.2 hp.1.2.1,hp.1.2.2⟩
 .obtain ⟨h1,h2,h3⟩:=h.dm D hD;have hl:=(Array.getElem?_eq_some_iff.1 h2).1;exact ⟨h1,(hk D h1 hl h3).trans h2,hn D hl h3⟩
theorem Gq.below (h:Gq M J K0 w0 bx v l V K Ds w) (hM:Sta M J) (hb:Below w.heap.size w w'):Gq M J K0 w0 bx v l V K Ds w' :=
 h.keep hb.size (λk _ hl _=>hb.block k hl) (hM.st _ _ _ _ h.j hb.size λk hk=>hb.block k (hM.lt _ _ _ h.j k hk).1) (λk hk=>.inl hk) (h.f.below hb h.f.size) (h.i.below hb) (h.t.below hb h.t.pos)
theorem Gq.open_ (h:Gq M J K0 w0 bx v l V K Ds w) (hM:Sta M J) (f:Fr M M w w') (i':Inv M w') (t':Tab w'):Gq M J K0 w0 bx v l V K Ds w' :=
 h.keep f.size (λk hB hl _=>f.block k hl (h.u k hB).1) (hM.st _ _ _ _ h.j f.size λk hk=>f.block k (hM.lt _ _ _ h.j k hk).1 (hM.lt _ _ _ h.j k hk).2.1) (λk hk=>.inl hk) (h.f.trans (FrK.of (K:=λ_=>False) f) λ_ h=>h.elim) i' t'
theorem Gq.box (h:Gq M J K0 w0 bx v l V K Ds w) (hM:Sta M J) {l':List Pc} (hu:Rg.Upd w bx w') (Yy:Rg.Own w' bx #[v'] 154) (row':jN w0.heap.size w' v' l') (hv:v'.ownBlock=v.ownBlock) (hl:∀ y∈l',y∈l):Gq M J K0 w0 bx v' l' V K Ds w':=by
 have hkb:∀ k,K k->w'.heap[k]? = w.heap[k]? := λk hk=>hu.block k λe=>h.kb (by rw [<-e]; exact hk);refine ⟨Yy,row',λy hy=>⟨(h.ok y (hl y hy)).1,(h.ok y (hl y hy)).2.1,?_⟩,hM.st _ _ _ _ h.j (by rw [hu.size]; exact aH) hkb,h.kb,λk e=>h.kr k (by rw [<-hv]; exact e),by rw [hv]; exact h.nb,h.bb,?_,h.sub,h.i.upd hu (h.u bx h.bb).2,yM h.t hu (by have:=h.bb; have:=h.z; omega),h.u,h.z,h.dn,λD hD=>?_⟩
 .rw [hv];exact (h.ok y (hl y hy)).2.2.kept (by rw [hu.size]; exact aH) λb hp _=>hu.block b hp.2.2.1
 .have hb:=h.bb;exact ⟨hu.os.trans h.f.os,hu.tape.trans h.f.tape,hu.output.trans h.f.output,by rw [hu.size]; exact h.f.size,λk hk hm hn=>(hu.block k (by omega)).trans (h.f.block k hk hm hn)⟩
 .obtain ⟨h1,h2,h3⟩:=h.dm D hD;refine ⟨h1,(hu.block D λe=>?_).trans h2,h3⟩;rw [e,h.ob.2] at h2;cases h2
structure Ex (w0:World) (K:Nat->Prop) (w:World) (b:Nat) (cs:aO) (T:TypeId):Prop where
 o:Rg.Own w b cs T
 g:w0.heap.size<=b
 k:¬ K b
theorem Ex.keep {b:Nat} {cs:aO} {T:TypeId} (h:Ex w0 K w b cs T) {K':Nat->Prop} (hz:w.heap.size<=w'.heap.size) (hk:w0.heap.size<=b->b<w.heap.size->¬ K b->w'.heap[b]? = w.heap[b]?) (hs:∀ k,K' k->K k\/w.heap.size<=k):Ex w0 K' w' b cs T :=
 ⟨⟨aJ h.o.1 hz,(hk h.g h.o.1 h.k).trans h.o.2⟩,h.g,λhk'=>(hs b hk').elim h.k (by have:=h.o.1; omega)⟩
end
theorem Ic:∀ (l:List Pc) (j:Nat) (hj:j<l.length),(sP l)[j*3]? = some (.pointer (l[j]).p)
 | [],_,h=>absurd h (Nat.not_lt_zero _)
 | y::l,0,_=>rfl
 | y::l,j+1,h=>by
  show (y.cs++sP l)[(j+1)*3]? = _;have hx:y.cs.length=3:=rfl;rw [List.getElem?_append_right (by omega),hx,show (j+1)*3-3=j*3 by omega,Ic l j (by simpa using h)];rfl
theorem Bb {M:Mp} {bx:Nat} {w:World} {v:Value} {l:List Pc} (ob:Rg.Own w bx #[v] 154) (row:jN B w v l) (ok:∀ y∈l,IsT M y.p y.x.1):xR M bx w=ng (l.map (·.x)):=by
 have hc:=aV (j:=0) ob rfl;have hr:=row;rcases row.2 with ⟨rfl,hn⟩ | ⟨g,cap,cur,rfl,_⟩
 .have:l=[]:=List.length_eq_zero_iff.1 hn;subst this;unfold xR;rw [hc];rfl
 .unfold xR;rw [hc];show ((List.range l.length).map _).sum=((l.map (·.x)).map λx=>lH x.1).sum;congr 1;apply List.ext_getElem
  .simp
  .intro j h1 h2;have hj:j<l.length:=by simpa using h1
   simp only [List.getElem_map,List.getElem_range];have h3:=hr.cells (g:=g) rfl (j*3) (.pointer (l[j]).p) (Ic l j hj);rw [h3];dsimp only;rw [(ok l[j] (List.getElem_mem hj)).KQ]
structure Mv (w0:World) (K:Nat->Prop) (w:World) (K':Nat->Prop) (w':World):Prop where
 sz:w.heap.size<=w'.heap.size
 bl:∀ b,w0.heap.size<=b->b<w.heap.size->¬ K b->w'.heap[b]? = w.heap[b]?
 sub:∀ k,K' k->K k\/w.heap.size<=k
section
variable {M:Mp} {w0 w w':World} {K K':Nat->Prop}
theorem Mv.below (hb:Below w.heap.size w w'):Mv w0 K w K w':=⟨hb.size,λb _ hl _=>hb.block b hl,λ_ hk=>.inl hk⟩
theorem Mv.fr (hu:∀ k,w0.heap.size<=k->M.at_ k=none/\¬ M.ft k) (f:Fr M M w w'):Mv w0 K w K w':=⟨f.size,λb hB hl _=>f.block b hl (hu b hB).1,λ_ hk=>.inl hk⟩
theorem Mv.not (m:Mv w0 K w K' w') {b:Nat} (hl:b<w.heap.size) (hn:¬ K b):¬ K' b:=λh=>(m.sub b h).elim hn (by omega)
theorem Ex.mv {b:Nat} {cs:aO} {T:TypeId} (h:Ex w0 K w b cs T) (m:Mv w0 K w K' w'):Ex w0 K' w' b cs T:=h.keep m.sz (λhB hl hn=>m.bl b hB hl hn) m.sub
def BsK (w0:World) (K:Nat->Prop) (w:World) (h:Hdl) (l:aN):Prop:=BsP (λb=>w0.heap.size<=b/\¬ K b) w h l
theorem BsK.mv {h:Hdl} {l:aN} (g:BsK w0 K w h l) (m:Mv w0 K w K' w'):BsK w0 K' w' h l:=by
 have h2:BsP (λb=>(w0.heap.size<=b/\¬ K b)/\b<w.heap.size) w h l:=BsP.to g λb hl hp=>⟨hp,hl⟩
 exact (h2.kept m.sz λb hp hl=>m.bl b hp.1.1 hl hp.1.2).to λb _ hp=>⟨hp.1.1,m.not hp.2 hp.1.2⟩
def Ew (w0:World) (K:Nat->Prop) (w:World) (a:aL) (ps:List (aL)):Prop:=ps=[]\/∃ g cs,a=some ⟨g,0,none⟩/\Ex w0 K w g cs 46/\∀ j,j<ps.length->cs[j]? = some (.pointer (ps.getD j none))
theorem Ew.mv {a:aL} {ps:List (aL)} (h:Ew w0 K w a ps) (m:Mv w0 K w K' w'):Ew w0 K' w' a ps:=h.imp id λ⟨g,cs,e,hx,hc⟩=>⟨g,cs,e,hx.mv m,hc⟩
theorem Ew.cell {a:aL} {ps:List (aL)} (h:Ew w0 K w a ps) (hj:j<ps.length):∃ g cs,a=some ⟨g,0,none⟩/\w.cell? ⟨g,j,none⟩=some (.pointer (ps.getD j none))/\w0.heap.size<=g/\Rg.Own w g cs 46:=by
 rcases h with rfl | ⟨g,cs,e,hx,hc⟩
 .exact absurd hj (Nat.not_lt_zero _)
 .exact ⟨g,cs,e,aV hx.o (hc j hj),hx.g,hx.o⟩
theorem Ew.ofRow {kc:Nat} {ka:aL} {ps:List (aL)} (h:uY B w (.slice ka n kc) ps) (hB:w0.heap.size<=B) (hK:∀ k,K k->k<B):Ew w0 K w ka ps:=by
 rcases h with ⟨_,rfl⟩ | ⟨g,cap,e,hg,cur,ho,_,_,_,hc⟩
 .exact .inl rfl
 .injection e with e1;exact .inr ⟨g,cur,e1,⟨ho,Nat.le_trans hB hg,λhk=>by have:=hK g hk; omega⟩,hc⟩
end
theorem Ww {x:Pl} (h:xk x):(x.2.2.length<64\/(bV x.1).kd≠3)/\x.2.2.length+(bV x.1).p.length<=64:=by
 obtain ⟨t,o,a⟩:=x;obtain ⟨L,hl,g,f,hn,ho⟩:=h;have hl':a.length+L=64:=hl;cases t with
 | nil=>exact ⟨.inr (by show ¬ (0:Int)=3; decide),by show a.length+0<=64; omega⟩
 | stub r=>exact ⟨.inr (by show ¬ (0:Int)=3; decide),by show a.length+0<=64; omega⟩
 | leaf p v=>exact ⟨.inr (by show ¬ (1:Int)=3; decide),by show a.length+p.length<=64; have:=g.1; omega⟩
 | ext q s=>exact ⟨.inr (by show ¬ (2:Int)=3; decide),by show a.length+q.length<=64; have:=g.2.2.1; omega⟩
 | br ks=>exact ⟨.inl (by show a.length<64; have:=g.1; omega),by show a.length+0<=64; omega⟩
def jg (x:Pl) (j:Nat):Pl:=(fq x).getD j (.nil,0,[])
theorem Ur {x:Pl} {hs:List Hdl} (h:hs.length=(fq x).length):(bk hs 0).map (λz=>jg x z.1)=(fq x).reverse:=by
 unfold bk;rw [List.drop_zero,<-List.map_reverse,List.map_map,List.map_reverse];congr 1;apply List.ext_getElem
 .simp [h]
 .intro j h1 h2;simp [jg,List.getD,h2]
theorem II (x:Pl):(fq x).length<=16:=by
 have:=congrArg List.length (nU x);rw [List.length_map] at this;rw [this];exact Qe x.1
structure Bo2 (P:Nat->Prop) (w w':World):Prop where
 os:w'.os=w.os
 tape:w'.tape=w.tape
 output:w'.output=w.output
 size:w.heap.size<=w'.heap.size
 block:∀ k,k<w.heap.size->¬ P k->w'.heap[k]? = w.heap[k]?
theorem Bo2.below {w:World} (h:Bo2 P w w1) (hb:Below w1.heap.size w1 w2):Bo2 P w w2 :=
 ⟨hb.os.trans h.os,hb.tape.trans h.tape,hb.output.trans h.output,Nat.le_trans h.size hb.size,λk hk hn=>(hb.block k (aJ hk h.size)).trans (h.block k hk hn)⟩
theorem Bo2.of {w:World} (hb:Below w.heap.size w w2):Bo2 P w w2:=⟨hb.os,hb.tape,hb.output,hb.size,λk hk _=>hb.block k hk⟩
theorem Bo2.upd {w:World} (h:Bo2 P w w1) (hu:Rg.Upd w1 g w2) (hg:P g):Bo2 P w w2 :=
 ⟨hu.os.trans h.os,hu.tape.trans h.tape,hu.output.trans h.output,by rw [hu.size]; exact h.size,λk hk hn=>(hu.block k λe=>hn (by rw [e]; exact hg)).trans (h.block k hk hn)⟩
theorem Bo2.grown {w:World} {r:Option Nat} (h:Bo2 P w w1) (hg:w1.grownBy w2 r) (hr:∀ k,r=some k->P k):Bo2 P w w2 :=
 ⟨hg.os.trans h.os,hg.tape.trans h.tape,hg.output.trans h.output,Nat.le_trans h.size hg.size,λk hk hn=>(hg.block k (aJ hk h.size) λe=>hn (hr k e.symm)).trans (h.block k hk hn)⟩
theorem Bo2.cell {w w':World} (h:Bo2 P w w') {b o:Nat} {v:Value} (hc:w.cell? ⟨b,o,none⟩=some v) (hn:¬ P b):w'.cell? ⟨b,o,none⟩=some v:=by
 rw [World.cell?_of_block (h.block b (World.block_lt_of_cell? w _ hc) hn)];exact hc
theorem Bo2.frK {M:Mp} {w w':World} (h:Bo2 P w w'):FrK M P w w':=⟨h.os,h.tape,h.output,h.size,λk hk _ hn=>h.block k hk hn⟩
theorem xu {w:World} {b:Nat} {v:Value} (hc:w.cell? ⟨b,off,none⟩=some v) (ho:∃ x,o.op = .load 154 x/\ev x = .pointer (some ⟨b,off,none⟩)) :
  (execOp ev o).run prog w = .ok (.value v) w:=by
 obtain ⟨x,ho,hx⟩:=ho;unfold execOp;simp [ho,hx,go_sem,hc]
theorem vE {a:Go.Act} {w:World} {K:Go.Act->World->Prop} {Q:Exit->Go.Act->World->Prop} {b2:Nat} {v:Value} {l:List Pc} (y:Pc) (hw:Region.wanted o (yielded ops a.tmps)=true)
  (ho:∃ s y,o.op = .call { callee:=.builtin .append,args:=#[s,y],argTypes:=#[154,154] }/\a.eval s=v/\a.eval y = .slice (some ⟨b2,0,none⟩) 1 1)
  (hR:jN B w v l) (h2:Rg.Own w b2 (plA y.p y.x.2.1 y.h) 111) (hn:l.length<=1000000) (hB:B<=w.heap.size)
  (H:∀ v' w',jN B w' v' (l++[y])->w.grownBy w' v.ownBlock->(v'.ownBlock=v.ownBlock\/v'.ownBlock=some w.heap.size)->K (a.put o.dst v') w'):if Region.wanted o (yielded ops a.tmps)=true then Oper.wp prog o a w K Q else K (a.put o.dst undef) w:=by
 obtain ⟨s,y',ho,hs,hy⟩:=ho;obtain ⟨v',w',hr,h3,h4,h5⟩:=Ih (ty:=o.type) hR h2 hn hB;refine Rg.want hw ?_;unfold Oper.wp execOp;simp only [ho,resolve,invoke,builtin,Sem.run_bind,Sem.run_pure,Result.andThen_ok,List.map_toArray,List.map_cons,List.map_nil,hs,hy,hr];exact H v' w' h3 h4 h5
theorem Oy {w:World} {b:Nat} {v:Value} (h:Rg.Own w b #[v] 154) (a:aL) (n c:Nat) :
  (Instr.storeAt 154 (.pointer (some ⟨b,0,none⟩)) (.slice a n c)).run prog w = .ok () (w.setCell ⟨b,0,none⟩ (.slice a n c)):=by
 have hc:w.cell? ⟨b,0,none⟩=some v:=aV (j:=0) h rfl;have hz:w.frozen? ⟨b,0,none⟩=false:=fB (j:=0) h;simp [go_sem,hc,hz]
theorem rV {a:Go.Act} {w:World} {K:Go.Act->World->Prop} {Q:Exit->Go.Act->World->Prop} {b:Nat} {v:Value} (hw:Region.wanted o (yielded ops a.tmps)=true) (hg:Rg.Own w b #[v] 154)
  (ho:∃ x y,o.op = .store 154 x y/\a.eval x = .pointer (some ⟨b,0,none⟩)/\a.eval y=v') (hv:∃ s n c,v' = .slice s n c)
  (h:∀ w',Rg.Own w' b #[v'] 154->Rg.Upd w b w'->K (a.put o.dst undef) w'):if Region.wanted o (yielded ops a.tmps)=true then Oper.wp prog o a w K Q else K (a.put o.dst undef) w:=by
 obtain ⟨x,y,ho,hx,hy⟩:=ho;obtain ⟨s,n,c,rfl⟩:=hv;refine Rg.want hw ?_;unfold Oper.wp execOp;simp only [ho,hx,hy,Sem.run_bind,Sem.run_pure,Result.andThen_ok,Oy hg s n c];exact h _ (cO (o:=0) hg _) (bQ _ _ _ _)
structure LX (M:Mp) (B bx:Nat) (l:List Pc) (mk:Nat × Hdl->Pc) (V:List (Nat × Hdl)) (K:Nat->Prop) (w:World) (v:Value):Prop where
 o:Rg.Own w bx #[v] 154
 r:jN B w v (l++V.map mk)
 k:∀ k,K k↔k=bx\/v.ownBlock=some k
 nb:v.ownBlock≠some bx
 bb:B<=bx
 u:∀ k,B<=k->M.at_ k=none/\¬ M.ft k
def PI (M:Mp) (B bx:Nat) (l:List Pc) (mk:Nat × Hdl->Pc) (V:List (Nat × Hdl)) (K:Nat->Prop) (w:World):Prop:=∃ v,LX M B bx l mk V K w v
theorem RF (M:Mp) (B bx:Nat) (l:List Pc) (mk:Nat × Hdl->Pc):Sta M (PI M B bx l mk):=by
 refine ⟨λV K w w' ⟨v,h⟩ hs hk=>⟨v,⟨⟨aJ h.o.1 hs,(hk bx ((h.k bx).2 (.inl rfl))).trans h.o.2⟩,fC h.r λk e=>hk k ((h.k k).2 (.inr e)),h.k,h.nb,h.bb,h.u⟩⟩,λV K w ⟨v,h⟩ k hk=>?_⟩;rcases (h.k k).1 hk with rfl | e
 .exact ⟨h.o.1,h.u k h.bb⟩
 .exact ⟨(h.r.lt k e).2,h.u k (h.r.lt k e).1⟩
theorem SF {α:Type} (M:Mp):Sta M (λ(_:List α) (_:Nat->Prop) (_:World)=>False):=⟨λ_ _ _ _ h=>h.elim,λ_ _ _ h=>h.elim⟩
theorem Ga {M:Mp} {bx:Nat} {l:List Pc} {mk:Nat × Hdl->Pc} {V:List (Nat × Hdl)} {K:Nat->Prop} {w w5:World} {v:Value} {x:Nat × Hdl} (h:LX M B bx l mk V K w v) (hi:Inv M w) (ht:Tab w) (hz:0<B) (hn:n<=w.heap.size) (hb:Bo2 K w w5)
  (ho:Rg.Own w5 bx #[v'] 154) (hr:jN B w5 v' (l++V.map mk++[mk x])) (hl:v'.ownBlock=v.ownBlock\/∃ k,w.heap.size<=k/\v'.ownBlock=some k):∃ K',Rnd M (PI M B bx l mk) V K n x w w5 K':=by
 refine ⟨λk=>k=bx\/v'.ownBlock=some k,⟨v',⟨ho,by rw [List.map_append,<-List.append_assoc]; exact hr,λk=>Iff.rfl,λe=>?_,h.bb,h.u⟩⟩,λk hk=>?_,hb.frK,hi.keep hb.size λk hk=>hb.block k (hi.lt_ k hk) λg=>?_,λj hj=>?_⟩
 .rcases hl with e2 | ⟨k,hk,e2⟩
  .exact h.nb (by rw [<-e2]; exact e)
  .rw [e2] at e;have:=Option.some.inj e;have:=h.o.1;omega
 .rcases hk with rfl | e
  .exact .inl ((h.k _).2 (.inl rfl))
  .rcases hl with e2 | ⟨k',hk',e2⟩
   .exact .inl ((h.k k).2 (.inr (by rw [<-e2]; exact e)))
   .rw [e2] at e;have:=Option.some.inj e;exact .inr (by omega)
 .exact ((RF M B bx l mk).lt V K w ⟨v,h⟩ k g).2.2 hk
 .have hlt:0<w.heap.size:=ht.pos;have hk:¬ K 0:=λg=>by
   rcases (h.k _).1 g with e | e
   .have:=h.bb;omega
   .have:=(h.r.lt _ e).1;omega
  rw [World.cell?_of_block (hb.block 0 hlt hk)];exact ht j hj
theorem Wn {hs:List Hdl} {V:List (Nat × Hdl)} {x:Nat × Hdl} (h:V++[x]<+:bk hs 0):x.1<hs.length/\x.2=hs.getD x.1 hd0:=by
 have hx:x∈bk hs 0:=h.subset (by simp);unfold bk at hx;rw [List.mem_reverse] at hx;obtain ⟨j,hj,rfl⟩:=List.mem_map.1 hx;exact ⟨by simpa using hj,rfl⟩
theorem Jj {x:Pl} (h:j<(fq x).length):(jg x j).2.1=x.2.1+1:=Fz x _ (by
 unfold jg;rw [List.getD_eq_getElem?_getD,List.getElem?_eq_getElem h];exact List.getElem_mem h)
theorem SX {x:Pl} (hx:xk x) (h:j<(fq x).length):xk (jg x j):=(hx.kids _ (by
 unfold jg;rw [List.getD_eq_getElem?_getD,List.getElem?_eq_getElem h];exact List.getElem_mem h)).1
theorem Ke {x:Pl} (h:j<(fq x).length):(jg x j).1=(zN x.1).getD j .nil:=by
 rw [<-nU];unfold jg;simp [List.getD,h]
theorem ND {x:Pl} (h:j<(fq x).length):(jg x j).2.2=((fq x).map (·.2.2)).getD j []:=by
 unfold jg;simp [List.getD,h]
theorem Gq.pushed {M:Mp} {J:List Pl->(Nat->Prop)->World->Prop} {K0:Nat->Prop} {w0:World} {bx cap:Nat} {l:List Pc} {V:List Pl} {K:Nat->Prop} {Ds:List Nat} {w w':World} (h:Gq M J K0 w0 bx (.slice (some ⟨g,0,none⟩) n cap) l V K Ds w) (hM:Sta M J) {x:Pl} (hx:xk x) {qs:List (aL)} (hA:Are M qs (zN x.1)) {hs:List Hdl}
  (hW:rR B w v12 hs ((fq x).map (·.2.2))) (hB:w0.heap.size<=B) (hBb:bx<B) (hBg:g<B) (Yz:∀ k,K k->k<B) (hBw:B<=w.heap.size) (hP:LX M w0.heap.size bx l (λz=>⟨qs.getD z.1 none,z.2,jg x z.1⟩) (bk hs 0) Ki w' v')
  (f:FrK M (λk=>k=bx\/(Value.slice (some ⟨g,0,none⟩) n cap).ownBlock=some k) w w') (i':Inv M w') (t':Tab w') (hsub:∀ k,Ki k->(k=bx\/(Value.slice (some ⟨g,0,none⟩) n cap).ownBlock=some k)\/w.heap.size<=k) (hD:w'.heap[w.heap.size]? = some (.deferred (some []))) :
  Gq M J K0 w0 bx v' (l++(bk hs 0).map λz=>⟨qs.getD z.1 none,z.2,jg x z.1⟩) V K (w.heap.size::Ds) w':=by
 have hlen:hs.length=(fq x).length:=by rw [hW.len,List.length_map]
 have hb:∀ k,w0.heap.size<=k->k<w.heap.size->k≠bx->k≠g->w'.heap[k]? = w.heap[k]? := λk hk hl h1 h2=>f.block k hl (h.u k hk).1 λe=>e.elim h1 λe=>h2 (Option.some.inj e).symm;have hv':∀ k,v'.ownBlock=some k->k=g\/w.heap.size<=k:=λk e=>(hsub k ((hP.k k).2 (.inr e))).elim (λe2=>e2.elim (λe3=>absurd (by rw [<-e3]; exact e) hP.nb) λe3=>.inl (Option.some.inj e3).symm) .inr;have mB:∀ k,K k->k<w.heap.size:=λk hk=>(hM.lt _ _ _ h.j k hk).1
 have hKn:∀ k,K k->k≠bx/\k≠g:=λk hk=>⟨λe=>h.kb (by rw [<-e]; exact hk),λe=>h.kr g rfl (by rw [<-e]; exact hk)⟩
 refine ⟨hP.o,hP.r,λy hy=>?_,hM.st _ _ _ _ h.j f.size λk hk=>f.block k (mB k hk) (hM.lt _ _ _ h.j k hk).2.1 λe=>e.elim (hKn k hk).1 λe=>(hKn k hk).2 (Option.some.inj e).symm,h.kb,λk e hk=>?_,hP.nb,h.bb,h.f.trans f λk e=>.inr ?_,h.sub,i',t',h.u,h.z,List.nodup_cons.2 ⟨λhd=>?_,h.dn⟩,λD hd=>?_⟩
 .rcases List.mem_append.1 hy with hy | hy
  .obtain ⟨h1,h2,h3⟩:=h.ok y hy;refine ⟨h1,h2,?_⟩;have h4:BsP (λb=>(w0.heap.size<=b/\¬ K b/\b≠bx/\(Value.slice (some ⟨g,0,none⟩) n cap).ownBlock≠some b)/\b<w.heap.size) w y.h y.x.2.2:=h3.to λb hl hp=>⟨hp,hl⟩
   exact (h4.kept f.size λb hp hl=>hb b hp.1.1 hl hp.1.2.2.1 λe=>hp.1.2.2.2 (by rw [e]; rfl)).to λb _ hp=>⟨hp.1.1,hp.1.2.1,hp.1.2.2.1,λe=>(hv' b e).elim (λe2=>hp.1.2.2.2 (by rw [e2]; rfl)) (by omega)⟩
  .obtain ⟨z,hz,rfl⟩:=List.mem_map.1 hy;have hzj:z.1<hs.length/\z.2=hs.getD z.1 hd0:=by
    unfold bk at hz;rw [List.mem_reverse] at hz;obtain ⟨j,hj,rfl⟩:=List.mem_map.1 hz;exact ⟨by simpa using hj,rfl⟩
   have N3:z.1<(fq x).length:=by omega
   have de:qs.length=(fq x).length:=by rw [hA.1,<-nU,List.length_map]
   refine ⟨?_,SX hx N3,?_⟩
   .show IsT M (qs.getD z.1 none) (jg x z.1).1;rw [Ke N3];exact hA.2 z.1 (by omega)
   .show BsP _ w' z.2 (jg x z.1).2.2;rw [ND N3,hzj.2];have h3:=hW.bs z.1 hzj.1;have h4:BsP (λb=>B<=b/\b<w.heap.size) w (hs.getD z.1 hd0) (((fq x).map (·.2.2)).getD z.1 []):=h3.to λb hl hp=>⟨hp.1,hl⟩
    exact (h4.kept f.size λb hp hl=>hb b (by omega) hl (by omega) (by omega)).to λb _ hp=>⟨by omega,λhk=>by have:=Yz b hk; omega,by omega,λe=>(hv' b e).elim (by omega) (by omega)⟩
 .rcases hv' k e with e2 | e2
  .exact (hKn k hk).2 e2
  .have:=mB k hk;omega
 .rcases e with e | e
  .rw [e]; exact h.bb
  .rw [<-(Option.some.inj e:g=k)];exact (h.row.lt g rfl).1
 .have:=(Array.getElem?_eq_some_iff.1 (h.dm _ hd).2.1).1;omega
 .rcases List.mem_cons.1 hd with rfl | hd
  .exact ⟨h.f.size,hD,λhk=>by have:=mB _ hk; omega⟩
  .obtain ⟨h1,h2,h3⟩:=h.dm D hd;have hl:=(Array.getElem?_eq_some_iff.1 h2).1;refine ⟨h1,(hb D h1 hl (λe=>?_) (λe=>?_)).trans h2,h3⟩
   .rw [e,h.ob.2] at h2;cases h2
   .rcases h.row.2 with ⟨e2,_⟩ | ⟨g',_,_,e2,_,hh,_⟩
    .cases e2
    .injection e2 with e3;injection e3 with e3;injection e3 with e3;rw [e,e3,hh] at h2;cases h2
theorem NZ:prog.underlying 154=some (.slice (prog.elem 154)):=by kernel_rfl
theorem UA (w:World):(sizeOf (prog.elem 154)).run prog w = .ok 3 w:=by kernel_rfl
theorem Kw {w:World} {b:Nat} {v:Value} (hc:w.cell? ⟨b,off,none⟩=some v) (ho:∃ x,o.op = .load 112 x/\ev x = .pointer (some ⟨b,off,none⟩)) :
  (execOp ev o).run prog w = .ok (.value v) w:=by
 obtain ⟨x,ho,hx⟩:=ho;unfold execOp;simp [ho,hx,go_sem,hc]
def ED {α:Type} (M:Mp) (J Js:List α->(Nat->Prop)->World->Prop) (G:List α) (K0:Nat->Prop) (w:World) (e:Ending) (w':World):Prop :=
 (∃ v,e = .returned v)/\∃ V K,(V=G/\J V K w'\/V<+:G/\Js V K w')/\FrK M K0 w w'/\Inv M w'/\Tab w'/\∀ k,K k->K0 k\/w.heap.size<=k
theorem Fb {α:Type} {M:Mp} {J Js:List α->(Nat->Prop)->World->Prop} {G:List α} {K0:Nat->Prop} {w:World} {V:List α} {K:Nat->Prop} {Ds:List Nat} (hJ:Sta M J) (hJs:Sta M Js) (hV:V=G/\J V K wr\/V<+:G/\Js V K wr) (f:FrK M K0 w wr) (i:Inv M wr) (t:Tab wr)
  (hs:∀ k,K k->K0 k\/w.heap.size<=k) (hu:∀ k,w.heap.size<=k->M.at_ k=none/\¬ M.ft k) (hz:0<w.heap.size) (hd:∀ D∈Ds,w.heap.size<=D/\wr.heap[D]? = some (.deferred (some []))/\¬ K D) (v:Value):ED M J Js G K0 w (.returned v) (shut wr Ds):=by
 have hb:=qC Ds wr;have hsz:=sF Ds wr;have hK:∀ k,K k->(shut wr Ds).heap[k]? = wr.heap[k]? := λk hk=>hb k λh=>(hd k h).2.2 hk;obtain ⟨s1,s2,s3⟩:=Ca Ds wr;refine ⟨⟨v,rfl⟩,V,K,hV.imp (λh=>⟨h.1,hJ.st _ _ _ _ h.2 (by omega) hK⟩) (λh=>⟨h.1,hJs.st _ _ _ _ h.2 (by omega) hK⟩),⟨s1.trans f.os,s2.trans f.tape,s3.trans f.output,by have:=f.size; omega,λk hk hm hn=>(hb k λh=>by have:=(hd k h).1; omega).trans (f.block k hk hm hn)⟩,i.keep (by omega) λk hk=>hb k λh=>(hu k (hd k h).1).2 hk,λj hj=>?_,hs⟩
 rw [World.cell?_of_block (hb 0 λh=>by have:=(hd _ h).1; omega)];exact t j hj
theorem Xp (t:aO) (i j:Nat) (a b:Value):(#[i,j].zip #[a,b]).foldl (λt (p,v)=>t.setIfInBounds p v) t=(t.setIfInBounds i a).setIfInBounds j b:=by simp
theorem Ud {M:Mp} {w wd:World} {K:Nat->Prop} (hb:Below w.heap.size w w4) (f:FrK M K w4 wd) (i:Inv M wd) (t:Tab wd) (hi:Inv M w) (hz:0<w.heap.size) (hK:∀ k,K k->w.heap.size<=k) (hD:w.heap.size<=D):Fr M M w (shut wd [D])/\Inv M (shut wd [D])/\Tab (shut wd [D]):=by
 have hu:Rg.Upd wd D (shut wd [D]):=⟨rfl,rfl,rfl,sF _ _,λk hk=>qC [D] wd k (by simpa using hk)⟩
 have hsz:=hb.size;refine ⟨⟨hu.os.trans (f.os.trans hb.os),hu.tape.trans (f.tape.trans hb.tape),hu.output.trans (f.output.trans hb.output),by rw [hu.size]; exact Nat.le_trans hb.size f.size,λk hk hm=>?_,λ_ _ h=>h,λ_ _ h=>h,λ_ h=>h,λ_ h=>Or.inl h⟩,i.upd hu (hi.free hD),yM t hu (by omega)⟩;rw [hu.block k (by omega),f.block k (by omega) hm (λh=>by have:=hK k h; omega),hb.block k hk]
theorem IQ {P:Program} {fn:Func} {R:Ending->World->Prop} {w:World} (hD:w.heap[D]? = some (.deferred (some []))) (h:LeavesIn Fence.wide 0 P fn tmps R [] .returning (shut w [D])):LeavesInM Fence.wide 0 P fn tmps R [{ target:=.collected D,args:=#[] }] .returning w :=
 nE [D] w (by simp) (λE hE=>by rw [List.mem_singleton.1 hE]; exact hD) h
theorem KR {t:T}:(bV t).kd=0↔isNode t=false:=by
 cases t with
 | nil=>exact ⟨λ_=>rfl,λ_=>rfl⟩
 | stub r=>exact ⟨λ_=>rfl,λ_=>rfl⟩
 | leaf p v=>exact ⟨λh=>absurd (show (1:Int)=0 from h) (by decide),λh=>by cases h⟩
 | ext q s=>exact ⟨λh=>absurd (show (2:Int)=0 from h) (by decide),λh=>by cases h⟩
 | br ks=>exact ⟨λh=>absurd (show (3:Int)=0 from h) (by decide),λh=>by cases h⟩
theorem Ql {M:Mp} {x:Pl} (h:goA M x W args):args.size=2:=by
 obtain ⟨_,_,_,_,_,rfl,_⟩:=h;rfl
end Tm
end
end Go.Proofs.YtokaiemgjngcoaaGreatDoor
