/-
 The contracts of root.dropped, root.Whole, root.Of, root.Same.
-/
import Derived.Test.YtoipgepkhomfgaaGreatDoorPo12
open Go.Lib (hid)
open Go.Proofs.Tryz
set_option linter.unusedSimpArgs false
set_option linter.unusedVariables false
set_option maxHeartbeats 40000000
set_option maxRecDepth 100000
namespace Go.Proofs.YtoipgepkhomfgaaGreatDoor
variable {w w':World} {B L c cap g i j lv m n:Nat} {a ad p:aK} {ty:TypeId} {o:Oper} {ops:Array Oper} {ev:Operand->Value} {e k:aL} {V v:Value} {cur cur':aN}
section
open Go.RowKit
namespace Tm
open Tr Ni Pk Ky No Rf Rl
open Sm (Tab)
def UN (M:Mp) (w:World) (v:Value) (e:Ending) (w':World):Prop:=e = .returned v/\Fr M M w w'/\Inv M w'/\Tab w'
theorem Tab.upd (h:Tab w) (hu:Rg.Upd w g w') (hg:0<g):Tab w':=λi hi=>by
 rw [World.cell?_of_block (hu.block 0 (by omega))];exact h i hi
theorem UN.upd {M:Mp} {w w1 w':World} {g:Nat} (hi:Inv M w) (h0:0<w.heap.size) (f:Fr M M w w1) (i:Inv M w1) (t:Tab w1) (hu:Rg.Upd w1 g w') (hg:w.heap.size<=g):Fr M M w w'/\Inv M w'/\Tab w' :=
 ⟨f.upd hu hg,i.upd hu (hi.free hg),Tab.upd t hu (by omega)⟩
theorem Whl.size {t:T} (h:Whl t):(bF t).size<=900000:=by
 by_cases hn:t = .nil
 .subst hn; exact Nat.zero_le _
 .exact (h.enc hn).2
theorem Xo (M:Mp) (p:aK) (t:T) (hx:Whl t) (w:World) (hi:Inv M w) (ht:IsT M p t) (hT:Tab w):Calls prog 18 #[tv p] w (UN M w (.agg (Sm.kc (fO (bF t))))):=by
 obtain ⟨w1,hw1⟩:=au ((w.alloc (.cells #[.pointer p] 35)).alloc (.cells (Sm.kc Sm.zk) 48))
 have hb1:Below w.heap.size w w1:=by rw [hw1]; exact al2 _ _ _
 have af:Rg.Own w1 w.heap.size #[.pointer p] 35:=by rw [hw1]; exact (Rg.Own.new _ _ _).below (al1 _ _)
 have hS1:Rg.Own w1 (w.heap.size+1) (Sm.kc Sm.zk) 48:=by
  have:=Rg.Own.new (w.alloc (.cells #[.pointer p] 35)) (Sm.kc Sm.zk) 48;rw [hw1];simpa using this
 obtain ⟨L,hL,hg⟩:=hx.good;have HE:=hid (Gr M p t L hg hL hx.fine w1 (hi.below hb1) ht (hT.below hb1 hT.pos));have HR:Hid (∀ w2,Tab w2->Calls prog 34 #[.string (bF t)] w2 λe w'=>e = .returned (.agg (Sm.kc (fO (bF t))))/\Below w2.heap.size w2 w'):=hid (λw2 h=>Cz (bF t) hx.size w2 h);have cm:=hid (iZ (bF t))
 have HF:Hid (∀ w2 w3,Fr M M w1 w2->Inv M w2->Tab w2->Below w2.heap.size w2 w3->Rg.Own w3 (w.heap.size+1) (Sm.kc Sm.zk) 48/\∀ w4,Rg.Upd w3 (w.heap.size+1) w4->Fr M M w w4/\Inv M w4/\Tab w4):=hid (λw2 w3 f i t hb=>by
  have f0:=(Fr.below M hb1).trans hi f;exact ⟨(mq hS1 f (hi.out (by omega))).below hb,λw4 hu=>UN.upd hi hT.pos (f0.KW f0.size hb) (i.below hb) (t.below hb t.pos) hu (by omega)⟩)
 have du:=hid af;have HW:Hid (_=_):=hid hw1;obtain ⟨E,hE⟩:=ay (bF t)
 rw [hE] at HE HR cm ⊢;obtain ⟨K,hK⟩:=ay (fO E)
 rw [hK] at HR cm ⊢;clear hx hi ht hT hb1 af hS1 hw1 hL hg hE hK;go_enter func18,ntmps18;go_wp2_with (first
  | (refine aA (Sm.jY _ _ rfl _ (w.heap.size+1) (by simp)) ?_; rw [<-HW.out])
  | (refine aA (aU (aV (j:=0) du.out rfl) ⟨_,rfl,rfl⟩) ?_))
 refine HE.out.mono ?_;rintro e w2 ⟨rfl,f2,i2,t2⟩;have HH:Hid (Fr M M w1 w2/\Inv M w2/\Tab w2):=hid ⟨f2,i2,t2⟩;clear f2 i2 t2 HE du;go_wp2_with fail
 refine (HR.out w2 HH.out.2.2).mono ?_;rintro e w3 ⟨rfl,hb3⟩;obtain ⟨hO3,qq⟩:=HF.out w2 w3 HH.out.1 HH.out.2.1 HH.out.2.2 hb3;have aq:=hid hO3;have ge:=hid qq;clear hO3 qq hb3 HF HH HR;go_wp2_with (refine wpList_store_rowTo rfl 48 _ _ rfl rfl _ (Sm.kc K) rfl rfl 48 (Sm.kc Sm.zk) aq.out.2 (Sm.kD K cm.out) (by rw [Sm.jN,Sm.jN,cm.out]; rfl) (Sm.FI _) ?_)
 exact bodyPost_ret (results_cell_row rfl _ _ (w.heap.size+1) 48 (Sm.kc K) (0,0) _ rfl (setRow_heap _ _ _ _ _ _ aq.out.2) underlying48 rfl (Sm.kD K cm.out)) rfl ⟨rfl,ge.out _ (Rg.Upd.set _ _ _)⟩
def XY (M:Mp) (w:World) (s:aL) (e:Ending) (w':World):Prop:=∃ b,e = .returned (.func (Fn.func 46) #[] #[.pointer (some ⟨b,0,none⟩)])/\Rg.Own w' b #[.string s] 9/\M.at_ b=none/\¬ M.ft b/\Fr M M w w'/\Inv M w'/\Tab w'
theorem eH (M:Mp) (p:aK) (t:T) (L:Nat) (g:Tr.Good t L) (hL:L<=64) (f:Fine t) (w:World) (hi:Inv M w) (ht:IsT M p t) (hT:Tab w) :
  Calls prog 26 #[tv p] w (XY M w (bF t)):=by
 have hA1:=al1 w (.cells #[.pointer p] 35);have h0:=fG w p;have HE:=hid (Gr M p t L g hL f (w.alloc (.cells #[.pointer p] 35)) (hi.below hA1) ht (hT.below hA1 hT.pos));have HF:Hid (∀ w2 (E:aL),Fr M M (w.alloc (.cells #[.pointer p] 35)) w2->Inv M w2->Tab w2->M.at_ w2.heap.size=none/\¬ M.ft w2.heap.size/\Fr M M w (w2.alloc (.cells #[.string E] 9))/\Inv M (w2.alloc (.cells #[.string E] 9))/\Tab (w2.alloc (.cells #[.string E] 9))):=hid (λw2 E f i t=>by
  have f0:=(Fr.below M hA1).trans hi f;have hb:=al1 w2 (.cells #[.string E] 9);exact ⟨i.out aG,i.free aG,f0.KW f0.size hb,i.below hb,t.below hb t.pos⟩)
 obtain ⟨E,hE⟩:=ay (bF t)
 rw [hE] at HE ⊢;clear hE g hL f hi ht hT hA1;go_enter func26,ntmps26;go_wp2_with (first
  | (refine aA (aU h0 ⟨_,rfl,rfl⟩) ?_))
 refine HE.out.mono ?_;rintro e w2 ⟨rfl,f2,i2,t2⟩;have Hd:=hid (HF.out w2 E f2 i2 t2);clear HE HF h0 f2 i2 t2;go_wp2;go_ret;exact ⟨w2.heap.size,rfl,Rg.Own.new _ _ _,Hd.out⟩
theorem kJ (b:Nat) (r s:aL) (w:World) (hc:w.cell? ⟨b,0,none⟩=some (.string r)) :
  Calls prog 46 #[.string s,.pointer (some ⟨b,0,none⟩)] w λe w'=>e = .returned (.bool (decide (s=r\/32<=s.size)))/\Below w.heap.size w w':=by
 by_cases h:s=r
 .have HD:Hid (decide (s=r\/32<=s.size)=true):=hid (aJ (.inl h));subst h;rw [HD.out];clear HD;go_enter func46,ntmps46;go_wp2;go_ret;exact ⟨rfl,aH⟩
 .have hne:=FH h;by_cases h32:32<=s.size
  .have HD:Hid (decide (s=r\/32<=s.size)=true):=hid (aJ (.inr h32));have q1:decide ((32:Int)<=(s.size:Int))=true:=aJ (by omega);have DG:decide (32<=s.size)=true:=aJ h32;rw [HD.out];clear HD;go_enter func46,ntmps46;go_wp2;go_ret;exact ⟨rfl,aH⟩
  .have HD:Hid (decide (s=r\/32<=s.size)=false):=hid (decide_eq_false (λe=>e.elim h h32));have q1:decide ((32:Int)<=(s.size:Int))=false:=decide_eq_false (by omega);have DG:decide (32<=s.size)=false:=decide_eq_false h32;rw [HD.out];clear HD;go_enter func46,ntmps46;go_wp2;go_ret;exact ⟨rfl,aH⟩
end Tm
end
section
namespace Tr
open Rf Rl Ni No
end Tr
end
section
namespace Tr
open Rf Rl Ni No
def Tv (l:List aL):List aL:=l.filter λx=>decide (32<=x.size)
end Tr
end
section
namespace Tr
open Rf Rl Ni No
def bD:T->Pa->List Nd
 | .nil,_=>[]
 | .leaf p v,_=>[bC (.leaf p v)]
 | .ext q t,w=>bC (.ext q t)::if q<+:w then bD t (w.drop q.length) else []
 | .br ks,[]=>[bC (.br ks)]
 | .br ks,c::w=>bC (.br ks)::bD (ks (nb c)) w
 | .stub _,_=>[]
theorem xG:∀ (t:T) (L:Nat) (a:Pa),Good t L->Full t->t ≠ .nil->iB t a≠[]
 | .nil,_,_,_,_,h=>absurd rfl h
 | .leaf _ _,_,_,_,_,_=>by intro e; cases e
 | .ext q t,L,a,g,f,_=>xG t _ (a++q) g.2.2.2.2 f (jZ g.2.2.2.1)
 | .br ks,L,a,g,f,_=>by
  obtain ⟨i,_,_,hi,_⟩:=g.2.1;have h:=xG (ks i) _ (a++[bY i]) (g.2.2 i) (f i) hi;intro e;have e':((List.finRange 16).map λi=>iB (ks i) (a++[bY i])).flatten=[]:=e;rw [List.flatten_eq_nil_iff] at e';exact h (e' _ (List.mem_map.2 ⟨i,List.mem_finRange i,rfl⟩))
 | .stub _,_,_,_,f,_=>f.elim
end Tr
end
section
open Go.RowKit
namespace Tm
open Tr Ni Pk Ky No
theorem RY:(prog.info? 69).map (λi=>(i.size,i.bytes))=some (19,304):=by kernel_rfl
theorem FQ:((prog.info? 69).bind (·.zero)).isSome=true:=by kernel_rfl
theorem Da:((prog.info? 69).bind (·.zero)).map (·.cells.size)=some 19:=by kernel_rfl
theorem uK:∃ i z,prog.info? 69=some i/\i.zero=some z/\i.size=19/\i.bytes=304/\z.cells.size=19:=by
 have h1:=RY;have h2:=FQ;have h3:=Da;cases hi:prog.info? 69 with
 | none=>rw [hi] at h1; simp at h1
 | some i =>
  rw [hi] at h1 h2 h3;simp at h1 h2 h3;cases hz:i.zero with
  | none=>rw [hz] at h2; simp at h2
  | some z =>
   rw [hz] at h3;simp at h3;exact ⟨i,z,rfl,hz,h1.1,h1.2,h3⟩
def ndL (N:Nd) (h:Hdl):List Value:=.int .i64 N.kd :: .slice h.1 h.2.1 h.2.2 :: .string N.v::N.ks.map Value.string
theorem pI {N:Nd} {h:Hdl} (hl:N.ks.length=16):(ndL N h).length=19:=by simp [ndL,hl]
theorem NA (N:Nd) (h:Hdl):∀ u∈ndL N h,u.oneCell'=true:=λu hu=>by
 unfold ndL at hu;simp only [List.mem_cons,List.mem_map] at hu;rcases hu with rfl | rfl | rfl | ⟨_,_,rfl⟩ <;> rfl
theorem Tn (N:Nd) (h:Hdl) (j:Nat) (x:Int):(ndC N h.1 h.2.1 h.2.2)[j]? ≠ some (Value.int .u8 x):=λe=>by
 have e':(ndL N h)[j]? = some (Value.int .u8 x):=by
  rw [<-e];unfold ndC ndL;simp
 have hm:=List.mem_of_getElem? e';unfold ndL at hm;simp at hm
abbrev Nz:Type:=Nd × Hdl
def nz0:Nz:=(nd0,(none,0,0))
def zo (z:List Nz):List Value:=z.flatMap λp=>ndL p.1 p.2
theorem Bv:∀ (z:List Nz),(∀ p∈z,p.1.ks.length=16)->(zo z).length=z.length*19
 | [],_=>rfl
 | x::z,h=>by
  show (ndL x.1 x.2++zo z).length=_;rw [List.length_append,pI (h x List.mem_cons_self),Bv z (λy hy=>h y (List.mem_cons_of_mem _ hy)),List.length_cons];omega
theorem zQ:∀ (z:List Nz),(∀ p∈z,p.1.ks.length=16)->∀ j i,j<z.length->i<19->(zo z)[j*19+i]? = (ndL (z.getD j nz0).1 (z.getD j nz0).2)[i]?
 | [],_,_,_,h,_=>absurd h (Nat.not_lt_zero _)
 | x::z,h,0,i,_,hi=>by
  show (ndL x.1 x.2++zo z)[0*19+i]? = _;rw [Nat.zero_mul,Nat.zero_add,List.getElem?_append_left (by rw [pI (h x List.mem_cons_self)]; exact hi)];rfl
 | x::z,h,j+1,i,hj,hi=>by
  show (ndL x.1 x.2++zo z)[(j+1)*19+i]? = _;have hx:=pI (h:=x.2) (h x List.mem_cons_self);rw [List.getElem?_append_right (by omega),hx,show (j+1)*19+i-19=j*19+i by omega,zQ z (λy hy=>h y (List.mem_cons_of_mem _ hy)) j i (by simpa using hj) hi];rfl
theorem Vm (z:List Nz):∀ u∈zo z,u.oneCell'=true:=λu hu=>by
 obtain ⟨x,_,h⟩:=List.mem_flatMap.1 hu;exact NA x.1 x.2 u h
def mZ (w:World) (a:aK) (n c:Nat) (l:List Nd):Prop :=
 n<=c/\c<=maxLen/\(a=none->c=0)/\∃ z:List Nz,z.map Prod.fst=l/\z.length=n/\(∀ p∈z,p.1.ks.length=16/\aZ w p.2.1 p.2.2.1 p.2.2.2 p.1.p)/\
  ∀ j,j<n->∃ b off,a=some ⟨b,off,none⟩/\b<w.heap.size/\w.rangeAt b (off+j*19) (ndL (z.getD j nz0).1 (z.getD j nz0).2)
theorem mZ.len {l:List Nd} (h:mZ w a n c l):l.length=n:=by
 obtain ⟨_,_,_,z,rfl,hz,_⟩:=h;rw [List.length_map,hz]
theorem mZ.nil (w:World):mZ w none 0 0 []:=⟨aG,Nat.zero_le _,λ_=>rfl,[],rfl,rfl,λ_ h=>(by cases h),λ_ h=>absurd h (Nat.not_lt_zero _)⟩
theorem iy {α:Type} {l:List α} {d : α} (h:j<l.length):l.getD j d∈l:=by
 rw [List.getD_eq_getElem?_getD,List.getElem?_eq_getElem h];exact List.getElem_mem _
theorem mZ.at' {l:List Nd} (h:mZ w a n c l) (j:Nat) (hj:j<n):∃ b off g,a=some ⟨b,off,none⟩/\b<w.heap.size/\w.rangeAt b (off+j*19) (ndL (l.getD j nd0) g)/\(l.getD j nd0).ks.length=16/\aZ w g.1 g.2.1 g.2.2 (l.getD j nd0).p:=by
 obtain ⟨_,_,_,z,rfl,hz,hp,hr⟩:=h;obtain ⟨b,off,e,hlt,hc⟩:=hr j hj;have hg:(z.map Prod.fst).getD j nd0=(z.getD j nz0).1:=by
  have:j<z.length:=by omega
  simp [List.getD,this]
 obtain ⟨h1,h2⟩:=hp _ (iy (d:=nz0) (show j<z.length by omega));exact ⟨b,off,(z.getD j nz0).2,e,hlt,by rw [hg]; exact hc,by rw [hg]; exact h1,by rw [hg]; exact h2⟩
theorem xQ {b:Nat} {N:Nd} {h:Hdl} (hO:Rg.Own w b (ndC N h.1 h.2.1 h.2.2) 69) (hl:N.ks.length=16) (hp:aZ w h.1 h.2.1 h.2.2 N.p):mZ w (some ⟨b,0,none⟩) 1 1 [N]:=by
 refine ⟨aG,by unfold maxLen; decide,λe=>(by cases e),[(N,h)],rfl,rfl,λp hm=>?_,λj hj=>?_⟩
 .rw [List.mem_singleton.1 hm]; exact ⟨hl,hp⟩
 .obtain rfl:j=0:=by omega
  refine ⟨b,0,rfl,hO.1,λi v hv=>?_⟩;have:(ndC N h.1 h.2.1 h.2.2)[i]? = some v:=by
   rw [<-hv];unfold ndC ndL;simp
  have:=aV hO this;simpa using this
theorem Au {l:aM} (h:aZ w a n c l) (hg:¬ gG w g) (hu:w.grownBy w' (some g)):aZ w' a n c l:=by
 refine ⟨h.1,h.2.1,h.2.2.1,h.2.2.2.1,λj hj=>?_⟩;obtain ⟨b,off,e,hlt,hc⟩:=h.2.2.2.2 j hj;have hbg:b≠g:=by
  rintro rfl;exact hg ⟨_,_,hc⟩
 exact ⟨b,off,e,aI hlt hu.size,by rw [World.cell?_of_block (hu.block b hlt (λe=>hbg (Option.some.inj e)))]; exact hc⟩
theorem Ap {b:Nat} {N:Nd} {h:Hdl} {ys:List Nd} (hO:Rg.Own w b (ndC N h.1 h.2.1 h.2.2) 69) (hl:N.ks.length=16) (hp:aZ w h.1 h.2.1 h.2.2 N.p) (hY:mZ w ad m c ys) (hm:m<=1000) :
  ∃ w' a' c',(Builtin.append_ #[65,65] ty #[.slice (some ⟨b,0,none⟩) 1 1,.slice ad m c]).run prog w = .ok (.slice a' (1+m) c') w'/\mZ w' a' (1+m) c' (N::ys)/\Below b w w':=by
 obtain ⟨i0,z0,hi,hz,hsz,hby,hzc⟩:=uK;have hR:w.ownsRow b 69 19 (.slice (some ⟨b,0,none⟩) 1 1) 1 (ndL N h):=⟨by rw [pI hl],.inr ⟨b,1,ndC N h.1 h.2.1 h.2.2,rfl,aG,hO.2,aG,by unfold maxLen; decide,by rw [eF _ _ _ _ hl],by
  rw [List.take_of_length_le (by simp [ndC,hl])];rfl⟩⟩
 have hnb:=dH hO (Tn N h);have hlen:=hY.len;obtain ⟨y1,y2,y3,z,rfl,hzl,P7,Y0⟩:=hY;rcases ad with _ | ad
 .have hc:c=0:=y3 rfl;have hm0:m=0:=by omega
  subst hc;subst hm0;have hz':z=[]:=List.length_eq_zero_iff.1 hzl;subst hz';exact ⟨w,some ⟨b,0,none⟩,1,run_append_owned_none (P:=prog) (w:=w) b 65 ty 69 i0 19 underlying65 hi _ 1 _ hR,xQ hO hl hp,aH⟩
 .have hks:∀ p∈z,p.1.ks.length=16:=λp hm=>(P7 p hm).1;obtain ⟨v',w',hr,h3,h4,_,h5⟩:=run_append_own_at (P:=prog) w b 65 ty 69 i0 z0 19 304 underlying65 hi hz hsz hby hzc (by decide) _ 1 _ hR ad m c (zo z) (by rw [Bv z hks,hzl])
   (λj u hu=>by
    have hj:j<z.length*19:=by
     have:=(List.getElem?_eq_some_iff.1 hu).1;rwa [Bv z hks] at this
    obtain ⟨b2,off,e,_,hc⟩:=Y0 (j/19) (by omega);obtain rfl:=Option.some.inj e;have hk:=zQ z hks (j/19) (j%19) (by omega) (Nat.mod_lt _ (by decide));rw [show j/19*19+j%19=j by omega,hu] at hk;have:=hc (j%19) u hk.symm;rw [Addr.add_mid,show off+j=off+j/19*19+j%19 by omega];exact this)
   (Vm z) (by unfold maxLen; omega) (by omega) (Nat.le_of_lt hO.1)
  have hb':Below b w w':=(Below.refl b w).grown h4 (Nat.le_of_lt hO.1) (λk hk=>by cases hk; exact aG);rcases h3.2 with ⟨rfl,h0⟩ | ⟨g,cap,cur,rfl,hbg,hg,hnc,hcm,hcs,htake⟩
  .omega
  .refine ⟨w',_,_,hr,⟨hnc,hcm,λe=>(by cases e),(N,h)::z,rfl,by rw [List.length_cons,hzl]; omega,λp hm=>?_,λj hj=>⟨g,0,rfl,(Array.getElem?_eq_some_iff.1 hg).1,λi u hu=>?_⟩⟩,hb'⟩
   .rcases List.mem_cons.1 hm with rfl | hm
    .exact ⟨hl,Au hp hnb h4⟩
    .exact ⟨hks p hm,Au (P7 p hm).2 hnb h4⟩
   .have hall:∀ p∈(N,h)::z,p.1.ks.length=16:=λp hm=>by
     rcases List.mem_cons.1 hm with rfl | hm
     .exact hl
     .exact hks p hm
    have hjz:j<((N,h)::z).length:=by rw [List.length_cons,hzl]; omega
    have sC:i<19:=by
     have:=(List.getElem?_eq_some_iff.1 hu).1;rwa [pI (hall _ (iy hjz))] at this
    have:=h3.cells (g:=g) rfl (j*19+i) u (by
     show (zo ((N,h)::z))[j*19+i]? = some u;rw [zQ _ hall j i hjz sC];exact hu)
    rw [Addr.add_mid] at this;rw [Nat.add_assoc];exact this
theorem rG {a:Go.Act} {K:Go.Act->World->Prop} {Q:Exit->Go.Act->World->Prop} {b:Nat} {N:Nd} {h:Hdl} {ys:List Nd} (hw:Region.wanted o (yielded ops a.tmps)=true)
  (ho:∃ s y,o.op = .call { callee:=.builtin .append,args:=#[s,y],argTypes:=#[65,65] }/\a.eval s = .slice (some ⟨b,0,none⟩) 1 1/\a.eval y = .slice ad m c)
  (hO:Rg.Own w b (ndC N h.1 h.2.1 h.2.2) 69) (hl:N.ks.length=16) (hp:aZ w h.1 h.2.1 h.2.2 N.p) (hY:mZ w ad m c ys) (hm:m<=1000)
  (H:∀ a' c' w',mZ w' a' (1+m) c' (N::ys)->Below b w w'->K (a.put o.dst (.slice a' (1+m) c')) w'):if Region.wanted o (yielded ops a.tmps)=true then Oper.wp prog o a w K Q else K (a.put o.dst undef) w:=by
 obtain ⟨s,y,ho,hs,hy⟩:=ho;obtain ⟨w',a',c',hr,h3,h4⟩:=Ap (ty:=o.type) hO hl hp hY hm;refine Rg.want hw ?_;unfold Oper.wp execOp;simp only [ho,resolve,invoke,builtin,Sem.run_bind,Sem.run_pure,Result.andThen_ok,List.map_toArray,List.map_cons,List.map_nil,hs,hy,hr];exact H a' c' w' h3 h4
theorem EK {N:Nd} {h:Hdl} (hl:N.ks.length=16) (b:Nat) (hb:b=w.heap.size) (ho:∃ y,o.op = .buildSlice 65 1 #[(0,y)]/\ev y = .agg (ndC N h.1 h.2.1 h.2.2)) :
  (execOp ev o).run prog w = .ok (.value (.slice (some ⟨b,0,none⟩) 1 1)) (w.alloc (.cells (ndC N h.1 h.2.1 h.2.2) 69)):=by
 obtain ⟨y,ho,hx⟩:=ho;obtain ⟨kd,p,v,ks⟩:=N;subst hb;obtain ⟨x0,x1,x2,x3,x4,x5,x6,x7,x8,x9,x10,P8,P9,Pi,bo,Pp,rfl⟩:=sixteen ks hl;unfold execOp;simp only [ho,List.map_toArray,List.map_cons,List.map_nil,hx];kernel_rfl
end Tm
end
section
namespace Tr
open Rf Rl Ni No
theorem xV:∀ {q p:Pa},q<+:p↔cp q p=q.length
 | [],_=>by simp [cp]
 | _::_,[]=>by simp [cp]
 | a::q,b::p=>by
  rw [List.cons_prefix_cons,xV (q:=q) (p:=p)];by_cases e:a=b
  .simp [cp,e]
  .simp [cp,e]
theorem Dz (L:Nat):build L [] = .nil:=by rw [build]
theorem xU (L:Nat) (x:In):build L [x] = .leaf x.1 x.2:=by rw [build]
theorem qD {x y:In} {r:List In} (ok:Ok L (x::y::r)) (h:0<bE (x::y::r)):bE (x::y::r)<L/\build L (x::y::r) = .ext (x.1.take (bE (x::y::r))) (build (L-bE (x::y::r)) (bN (x::y::r) (bE (x::y::r))))/\Ok (L-bE (x::y::r)) (bN (x::y::r) (bE (x::y::r))):=by
 have hcl:=jJ ok;refine ⟨hcl,?_,tZ ok (by omega) (λz hz z' hz'=>by rw [iD hz,iD hz'])⟩;rw [build,dif_pos ⟨h,by omega⟩]
theorem AB {x y:In} {r:List In} (ok:Ok L (x::y::r)) (h:¬ 0<bE (x::y::r)):0<L/\build L (x::y::r) = .br (λc=>build (L-1) (bN (bJ (x::y::r) c) 1)):=by
 have hcl:=jJ ok;refine ⟨by omega,?_⟩;rw [build,dif_neg (λg=>h g.1),dif_pos (by omega)]
theorem SF {L:Nat} {l:List In} (ok:Ok L l) (hne:l≠[]) (w:Pa) :
  ((bC (build L l)).kd=1/\bD (build L l) w=[bC (build L l)])\/
  ((bC (build L l)).kd=2/\∃ K,0<K/\K<=L/\(bC (build L l)).p.length=K/\Ok (L-K) (bN l K)/\bD (build L l) w=bC (build L l)::if cp (bC (build L l)).p w=K then bD (build (L-K) (bN l K)) (w.drop K) else [])\/
  ((bC (build L l)).kd=3/\0<L/\(w=[]->bD (build L l) w=[bC (build L l)])/\∀ c r,w=c::r->bD (build L l) w=bC (build L l)::bD (build (L-1) (bN (bJ l (nb c)) 1)) r):=by
 match l,hne with
 | [x],_=>rw [xU]; exact .inl ⟨rfl,rfl⟩
 | x::y::r,_ =>
  have hxl:=(ok.1 x List.mem_cons_self).1;by_cases h:0<bE (x::y::r)
  .obtain ⟨h1,h3,h4⟩:=qD ok h;have hlen:(x.1.take (bE (x::y::r))).length=bE (x::y::r):=by rw [List.length_take]; omega
   rw [h3];refine .inr (.inl ⟨rfl,_,h,by omega,hlen,h4,?_⟩);show (_::if _ then _ else _)=_::if cp (x.1.take (bE (x::y::r))) w=_ then _ else _
   congr 1;by_cases hp:x.1.take (bE (x::y::r))<+:w
   .rw [if_pos hp,if_pos (by rw [xV.1 hp,hlen]),hlen]
   .rw [if_neg hp,if_neg (λe=>hp (xV.2 (by rw [e,hlen])))]
  .obtain ⟨h1,h3⟩:=AB ok h;rw [h3];refine .inr (.inr ⟨rfl,h1,λe=>by rw [e]; rfl,λc r' e=>by rw [e]; rfl⟩)
end Tr
end
section
open Go.RowKit
namespace Tr
open Rf Rl Ni No
theorem at_len:∀ (t:T) (L:Nat) (w:Pa),Good t L->(bD t w).length<=w.length+1
 | .nil,_,_,_=>Nat.zero_le _
 | .leaf _ _,_,_,_=>by
  show 1<=_;omega
 | .ext q t,L,w,g=>by
  have hq:0<q.length:=List.length_pos_iff.2 g.1;have ih:=at_len t _ (w.drop q.length) g.2.2.2.2;rw [List.length_drop] at ih;show (_::if _ then _ else _).length<=_;by_cases h:q<+:w
  .rw [if_pos h,List.length_cons];have:=h.length_le;omega
  .rw [if_neg h];simp
 | .br ks,L,[],_=>aG
 | .br ks,L,c::w,g=>by
  have ih:=at_len (ks (nb c)) _ w (g.2.2 _);show (bD (ks (nb c)) w).length+1<=(w.length+1)+1;omega
 | .stub _,_,_,_=>Nat.zero_le _
end Tr
namespace Tm
open Tr Ni Pk Ky No
def RV (w:World) (l:List Nd) (e:Ending) (w':World):Prop:=∃ a n c,e = .returned (.slice a n c)/\mZ w' a n c l/\Below w.heap.size w w'
def Ud (L:Nat):Prop:=∀ (l:List Tr.In),Ok L l->qx l->∀ (a:aK) (n c:Nat) (w:World),iq w a n c l->n<=1000->∀ (q:Pa),Nib q->q.length=L->∀ (d:aK) (k:Nat),aZ w d L k q->
 Calls prog 30 #[.slice a n c,.slice d L k] w (RV w (bD (build L l) q))
theorem Tz {L:Nat} (hL:L<=64) (ih:∀ m,m<L->Ud m):Ud L:=λl ok f a n c w h hn q hq fN d k nz=>by
 by_cases hne:l=[]
 .subst hne;obtain rfl:n=0:=h.len.symm;rw [Dz];have HC:=hid (Et a c w);clear h nz;go_enter func30,ntmps30;go_wp2_with fail
  refine HC.out.mono ?_;rintro e w1 ⟨rfl,hb1⟩;have HB1:=hid hb1;have hNew:=Rg.Own.new w1 (ndC nd0 none 0 0) 69;have HN:=hid hNew;clear hb1 hNew;go_wp2_with (first
   | (refine aA (aY _ _ _ w1.heap.size rfl rfl) ?_)
   | (refine dB HN.out rfl nd0 none 0 0 rfl rfl _ _ rfl rfl rfl rfl ?_; intro w4 hO4 cz; have aw:Hid (Below w1.heap.size w1 w4):=hid (cz.below (al1 _ _) aG); clear hO4 cz))
  go_ret;exact ⟨_,_,_,rfl,mZ.nil _,bst HB1.out aw.out⟩
 .have hnl:=h.len;have HC:=hid (Hq hL (λm hm=>UG m (by omega)) ok f hne a n c w h (by omega));have hl:=cu (build L l);have hall:∀ z∈l,z.1.length=L:=λz hz=>(ok.1 z hz).1;have hD:=SF ok hne q;have hln:(bD (build L l) q).length<=65:=Nat.le_trans (at_len _ L q (jc L l ok)) (by omega);have hRs:∀ (m:Nat) wz,m<=L->Below w.heap.size w wz->Calls prog 42 #[.slice a n c,.int .i64 m] wz (AZ wz (bN l m)):=λm wz hm' hb=>wK l a n c m (λz hz=>by rw [hall z hz]; exact hm') wz (h.below hb) (by omega)
  have yo:∀ (K:Nat),0<K->K<=L->Ok (L-K) (bN l K)->∀ a' n' c' wz,iq wz a' n' c' (bN l K)->Below w.heap.size w wz->Calls prog 30 #[.slice a' n' c',.slice (dY d k K) (L-K) (k-K)] wz (RV wz (bD (build (L-K) (bN l K)) (q.drop K))):=λK h0 hK hok a' n' c' wz hI hb=>ih (L-K) (by omega) _ hok (f.rest K) a' n' c' wz hI (by rw [<-hI.len]; unfold bN; rw [List.length_map]; omega) (q.drop K) (hq.drop K) (by rw [List.length_drop]; omega) _ _ (tN (nz.below hb) K hK)
  have hBg:0<L->∀ (d:Fin 16) wz,Below w.heap.size w wz->Calls prog 43 #[.slice a n c,.int .i64 d.val] wz (AZ wz (bJ l d)):=λhL0 d wz hb=>Ec l a n c d (λz hz=>by rw [hall z hz]; exact hL0) wz (h.below hb) (by omega)
  have yp:0<L->∀ (d:Fin 16) a' n' c' wz,iq wz a' n' c' (bJ l d)->Calls prog 42 #[.slice a' n' c',.int .i64 1] wz (AZ wz (bN (bJ l d) 1)):=λhL0 d a' n' c' wz hi=>wK (bJ l d) a' n' c' 1 (λz hz=>by rw [hall z (mD.1 hz).1]; omega) wz hi (by rw [<-hi.len]; exact Nat.le_trans (List.length_filter_le _ _) (by omega))
  have yq:0<L->∀ (e:Fin 16) a' n' c' wz,iq wz a' n' c' (bN (bJ l e) 1)->Below w.heap.size w wz->Calls prog 30 #[.slice a' n' c',.slice (dY d k 1) (L-1) (k-1)] wz (RV wz (bD (build (L-1) (bN (bJ l e) 1)) (q.drop 1))):=λhL0 e a' n' c' wz hI hb=>ih (L-1) (by omega) _ (oD ok hL0 e) ((f.begin e).rest 1) a' n' c' wz hI (by
   rw [<-hI.len];unfold bN;rw [List.length_map];exact Nat.le_trans (List.length_filter_le _ _) (by omega)) (q.drop 1) (hq.drop 1) (by rw [List.length_drop]; omega) _ _ (tN (nz.below hb) 1 hL0)
  have Pr:∀ a1 n1 c1 wz,n1<=1000->aZ wz a1 n1 c1 (bC (build L l)).p->Below w.heap.size w wz->Calls prog 55 #[.slice a1 n1 c1,.slice d L k] wz λe w'=>e = .returned (.int .i64 (cp (bC (build L l)).p q:Nat))/\Below wz.heap.size wz w':=λa1 n1 c1 wz h1 hb1 hb=>(yT a1 d n1 L c1 k _ q (by omega) (by omega) wz hb1 (nz.below hb)).mono λe w' hh=>by
   obtain ⟨h2,m,rfl⟩:=hh;rw [um] at h2;exact ⟨h2,below_drewN aH m⟩
  have ik:=hid hRs;have lO:=hid yo;have lP:=hid hBg;have lR:=hid yp;have m3:=hid yq;have Y1:=hid nz;have Ps:=hid fN;have Y2:=hid hq;have Pu:=hid hln;have uB:=hid Pr;generalize Y3:bC (build L l)=N at *
  have HL:=hid hl;have HD:=hid hD;clear h hl hD hRs yo hBg yp yq hall ok f hnl ih hne Y3 nz fN hq hln Pr;go_enter func30,ntmps30;go_wp2_with fail
  refine HC.out.mono ?_;rintro e w1 ⟨a1,n1,c1,rfl,hp1,hb1⟩;have HB1:=hid hb1;have hNew:=Rg.Own.new w1 (ndC nd0 none 0 0) 69;have HN:=hid hNew;have HP:=hid hp1;clear hb1 hNew hp1 HC;obtain ⟨g,hg⟩:=ay w1.heap.size
  have HG:=hid hg;rw [hg] at HN;go_wp2_with (first
   | (refine aA (aY _ _ _ g HG.out.symm rfl) ?_)
   | (refine dB HN.out rfl N a1 n1 c1 HL.out rfl _ _ rfl rfl rfl rfl ?_; intro w4 hO4 cz; have b8:=hid hO4; have aw:Hid (Below w1.heap.size w1 w4):=hid (cz.below (al1 _ _) (Nat.le_of_eq HG.out)); have r5:Hid (w4.heap.size=g+1):=hid (by rw [cz.size]; simp [HG.out]); clear hO4 cz)
   | (refine aA (bU b8.out HL.out ⟨_,rfl,rfl⟩) ?_)
   | (refine aA (EK (h:=(a1,n1,c1)) HL.out _ rfl ⟨_,rfl,rfl⟩) ?_))
  obtain ⟨w6,m5⟩:=ay (w4.alloc (.cells (ndC N a1 n1 c1) 69))
  have hb6:Below w4.heap.size w4 w6:=by rw [<-m5]; exact al1 _ _
  obtain ⟨g2,hg2⟩:=ay w4.heap.size
  have yb:Rg.Own w6 g2 (ndC N a1 n1 c1) 69:=by rw [<-m5,<-hg2]; exact Rg.Own.new _ _ _
  have el:=hid yb;have ap:Hid (Below w.heap.size w w6):=hid (bst (bst HB1.out aw.out) hb6);have cf:=hid (b8.out.below hb6);have uC:Hid (aZ w6 a1 n1 c1 N.p):=hid ((HP.out.below aw.out).below hb6);have PA:Hid (g<g2):=hid (by rw [<-hg2,r5.out]; omega);have PB:Hid (w.heap.size<=g2):=hid (by have:=HB1.out.size; have:=HG.out; have:=r5.out; omega);have hpn:N.p.length=n1:=HP.out.len;rw [m5,hg2];clear m5 hb6 yb b8 aw HN HB1 HP r5 HG hg hg2;rcases HD.out with ⟨hk,hx⟩ | ⟨hk,K,nh,fS,PC,hok,hx⟩ | ⟨hk,hL0,_,hx⟩
  .have gS:=hid hk;have HX:=hid hx;clear hx hk HD ik lO lP lR m3 uB hpn;go_wp2_with fail
   refine aC (S:=λw'=>Below w.heap.size w w'/\dI w' g N a1 n1 c1) (⟨ap.out.drew,cf.out.drew⟩) λhld=>?_;refine ah 0 ?_;try simp only [Act.put,ak]
   refine ah 1 ?_ (hy:=by intro wz hSw; (have k0:wz.cell? ⟨g,0,none⟩=some (.int .i64 1):=gS.out ▸ aV (j:=0) hSw.2 rfl; go_simp <;> with_reducible rfl));try simp only [Act.put,ak]
   refine ah 2 ?_;try simp only [Act.put,ak]
   refine ah 3 ?_;try simp only [Act.put,ak]
   refine Rg.takeL (i:=4) (v:=undef) rfl (by kernel_rfl) (by kernel_rfl) (by kernel_rfl) (λ_ _ _ h=>h) (Or.inr ⟨by rfl,rfl⟩) (by assumption) ?_;try simp only [Act.put,ak]
   refine Rg.takeL (i:=5) (v:=undef) rfl (by kernel_rfl) (by kernel_rfl) (by kernel_rfl) (λ_ _ _ h=>h) (Or.inr ⟨by rfl,rfl⟩) (by assumption) ?_;try simp only [Act.put,ak]
   refine Rg.takeL (i:=6) (v:=undef) rfl (by kernel_rfl) (by kernel_rfl) (by kernel_rfl) (λ_ _ _ h=>h) (Or.inr ⟨by rfl,rfl⟩) (by assumption) ?_;try simp only [Act.put,ak]
   refine Rg.takeL (i:=7) (v:=undef) rfl (by kernel_rfl) (by kernel_rfl) (by kernel_rfl) (λ_ _ _ h=>h) (Or.inr ⟨by rfl,rfl⟩) (by assumption) ?_;try simp only [Act.put,ak]
   refine Rg.takeL (i:=8) (v:=undef) rfl (by kernel_rfl) (by kernel_rfl) (by kernel_rfl) (λ_ _ _ h=>h) (Or.inr ⟨by rfl,rfl⟩) (by assumption) ?_;try simp only [Act.put,ak]
   refine Rg.takeL (i:=9) (v:=undef) rfl (by kernel_rfl) (by kernel_rfl) (by kernel_rfl) (λ_ _ _ h=>h) (Or.inr ⟨by rfl,rfl⟩) (by assumption) ?_;try simp only [Act.put,ak]
   refine ah 10 ?_;try simp only [Act.put,ak]
   refine ah 11 ?_;try simp only [Act.put,ak]
   refine Rg.takeL (i:=12) (v:=undef) rfl (by kernel_rfl) (by kernel_rfl) (by kernel_rfl) (λ_ _ _ h=>h) (Or.inr ⟨by rfl,rfl⟩) (by assumption) ?_;try simp only [Act.put,ak]
   refine Rg.takeL (i:=13) (v:=undef) rfl (by kernel_rfl) (by kernel_rfl) (by kernel_rfl) (λ_ _ _ h=>h) (Or.inr ⟨by rfl,rfl⟩) (by assumption) ?_;try simp only [Act.put,ak]
   refine Rg.takeL (i:=14) (v:=undef) rfl (by kernel_rfl) (by kernel_rfl) (by kernel_rfl) (λ_ _ _ h=>h) (Or.inr ⟨by rfl,rfl⟩) (by assumption) ?_;try simp only [Act.put,ak]
   refine Rg.takeL (i:=15) (v:=undef) rfl (by kernel_rfl) (by kernel_rfl) (by kernel_rfl) (λ_ _ _ h=>h) (Or.inr ⟨by rfl,rfl⟩) (by assumption) ?_;try simp only [Act.put,ak]
   refine Rg.takeL (i:=16) (v:=undef) rfl (by kernel_rfl) (by kernel_rfl) (by kernel_rfl) (λ_ _ _ h=>h) (Or.inr ⟨by rfl,rfl⟩) (by assumption) ?_;try simp only [Act.put,ak]
   refine Rg.takeL (i:=17) (v:=undef) rfl (by kernel_rfl) (by kernel_rfl) (by kernel_rfl) (λ_ _ _ h=>h) (Or.inr ⟨by rfl,rfl⟩) (by assumption) ?_;try simp only [Act.put,ak]
   refine Rg.takeL (i:=18) (v:=undef) rfl (by kernel_rfl) (by kernel_rfl) (by kernel_rfl) (λ_ _ _ h=>h) (Or.inr ⟨by rfl,rfl⟩) (by assumption) ?_;try simp only [Act.put,ak]
   refine Rg.takeL (i:=19) (v:=undef) rfl (by kernel_rfl) (by kernel_rfl) (by kernel_rfl) (λ_ _ _ h=>h) (Or.inr ⟨by rfl,rfl⟩) (by assumption) ?_;try simp only [Act.put,ak]
   refine ah 20 ?_;try simp only [Act.put,ak]
   refine aB ?_;have bc:Hid (Below w.heap.size w w6.drew):=hid hld.1;have dl:=hid hld.2;have cM:=hid (el.out.drew);have oR:=hid (uC.out.below aH.drew);clear hld;obtain ⟨w7,hw7⟩:=ay w6.drew
   rw [hw7] at bc dl cM oR ⊢;clear hw7;have k7:w7.cell? ⟨g,0,none⟩=some (.int .i64 1):=gS.out ▸ aV (j:=0) dl.out rfl;go_wp2;go_ret;exact ⟨_,_,_,rfl,by rw [HX.out]; exact xQ (h:=(a1,n1,c1)) cM.out HL.out oR.out,bc.out⟩
  .obtain rfl:n1=K:=by omega
   have gS:=hid hk;have hkl:(n1:Int)<=(L:Int):=by omega
   have Hh:=hid fS;by_cases hc:cp N.p q=n1
   .rw [if_pos hc] at hx;have v9:=uB.out a1 n1 c1;rw [hc] at v9;have HI:=hid (lO.out n1 nh fS hok);have yr:=hid (λwz hb=>ik.out n1 wz fS hb);have ip:=Pu.out;rw [hx,List.length_cons] at ip;have Hi:=hid ip;have HX:=hid hx;generalize bD (build (L-n1) (bN l n1)) (q.drop n1)=ys at *
    generalize bN l n1=rl at *
    have Hj:Hid (∀ wz,Below w.heap.size w wz->aZ wz a1 n1 c1 N.p->Calls prog 55 #[.slice a1 n1 c1,.slice d L k] wz λe w'=>e = .returned (.int .i64 n1)/\Below wz.heap.size wz w'):=hid (λwz hb h1=>v9 wz (by omega) h1 hb);clear hx hk HD ik lO lP lR m3 uB hpn hc v9 hok ip PC;go_wp2_with fail
    have h2:=el.out;refine aC (S:=λw'=>Below w.heap.size w w'/\dI w' g N a1 n1 c1) (⟨ap.out.drew,cf.out.drew⟩) λhld=>?_;replace h2:=h2.drew;refine ah 0 ?_;try simp only [Act.put,ak]
    refine ah 1 ?_ (hy:=by intro wz hSw; (have k0:wz.cell? ⟨g,0,none⟩=some (.int .i64 2):=gS.out ▸ aV (j:=0) hSw.2 rfl; go_simp <;> with_reducible rfl));try simp only [Act.put,ak]
    refine ah 2 ?_;try simp only [Act.put,ak]
    refine ah 3 ?_;try simp only [Act.put,ak]
    refine ah 4 ?_;try simp only [Act.put,ak]
    refine ah 5 ?_;try simp only [Act.put,ak]
    refine ah 6 ?_;try simp only [Act.put,ak]
    refine ah 7 ?_ (hy:=by intro wz hSw; (have k1:wz.cell? ⟨g,1,none⟩=some (.slice a1 n1 c1):=aV (j:=1) hSw.2 rfl; go_simp <;> with_reducible rfl));try simp only [Act.put,ak]
    refine ah 8 ?_;try simp only [Act.put,ak]
    refine ah 9 ?_ (hy:=by intro wz hSw; (have q0:=hkl; go_simp <;> with_reducible rfl));try simp only [Act.put,ak]
    refine ah 10 ?_;try simp only [Act.put,ak]
    refine ah 11 ?_;try simp only [Act.put,ak]
    refine ah 12 ?_;try simp only [Act.put,ak]
    refine ah 13 ?_ (hy:=by intro wz hSw; (have k1:wz.cell? ⟨g,1,none⟩=some (.slice a1 n1 c1):=aV (j:=1) hSw.2 rfl; go_simp <;> with_reducible rfl));try simp only [Act.put,ak]
    refine ah 14 ?_;try simp only [Act.put,ak]
    refine ah 16 ?_;try simp only [Act.put,ak]
    refine ah 17 ?_ (hy:=by intro wz hSw; (have k1:wz.cell? ⟨g,1,none⟩=some (.slice a1 n1 c1):=aV (j:=1) hSw.2 rfl; go_simp <;> with_reducible rfl));try simp only [Act.put,ak]
    refine ah 18 ?_;try simp only [Act.put,ak]
    refine aj 15 λK hK=>?_;go_simp;go_at_call 55
    (with_reducible refine (Hj.out _ hld.1 (uC.out.below aH.drew)).mono ?_)
    rintro e cJ ⟨rfl,hbx⟩;have Hm:Hid (aZ cJ a1 n1 c1 N.p):=hid ((uC.out.below aH.drew).below hbx);replace h2:=h2.below hbx;refine hK.out _ _ (⟨bst hld.1 hbx,hld.2.below hbx⟩) λhld=>?_;clear hK K hbx;try simp only [Act.put,ak]
    refine ah 19 ?_ (hy:=by intro wz hSw; (go_simp <;> with_reducible rfl));try simp only [Act.put,ak]
    refine ah 20 ?_;try simp only [Act.put,ak]
    refine aB ?_;have bc:Hid (Below w.heap.size w cJ):=hid hld.1;have dl:=hid hld.2;have cM:=hid h2;have oR:Hid (aZ cJ a1 n1 c1 N.p):=Hm;clear hld h2;go_wp2_with fail
    have h2:=cM.out;have hp:=oR.out.below aH.drew;refine aC (S:=λw'=>Below w.heap.size w w'/\dI w' g N a1 n1 c1) (⟨bc.out.drew,dl.out.drew⟩) λhld=>?_;replace h2:=h2.drew;refine ah 0 ?_;try simp only [Act.put,ak]
    refine ah 1 ?_;try simp only [Act.put,ak]
    refine ah 2 ?_;try simp only [Act.put,ak]
    refine ah 3 ?_ (hy:=by intro wz hSw; (have k1:wz.cell? ⟨g,1,none⟩=some (.slice a1 n1 c1):=aV (j:=1) hSw.2 rfl; go_simp <;> with_reducible rfl));try simp only [Act.put,ak]
    refine ah 4 ?_;try simp only [Act.put,ak]
    refine ah 6 ?_;try simp only [Act.put,ak]
    refine ah 7 ?_;try simp only [Act.put,ak]
    refine ah 8 ?_ (hy:=by intro wz hSw; (have k1:wz.cell? ⟨g,1,none⟩=some (.slice a1 n1 c1):=aV (j:=1) hSw.2 rfl; go_simp <;> with_reducible rfl));try simp only [Act.put,ak]
    refine ah 9 ?_;try simp only [Act.put,ak]
    refine ah 10 ?_ (hy:=by intro wz hSw; (refine jL (a:=d) (n:=L) (c:=k) (i:=n1) gI jv Hh.out ?_; exact ⟨_,_,rfl,rfl,rfl⟩));try simp only [Act.put,ak]
    refine aj 5 λK hK=>?_;go_simp;go_at_call 42
    (with_reducible refine (yr.out _ hld.1).mono ?_)
    rintro e cJ ⟨a7,n7,c7,rfl,r6,hbx⟩;replace hp:=hp.below hbx;replace h2:=h2.below hbx;refine hK.out _ _ (⟨bst hld.1 hbx,hld.2.below hbx⟩) λhld=>?_;clear hK K hbx;try simp only [Act.put,ak]
    refine aj 11 λK hK=>?_;go_simp;go_at_call 30
    (with_reducible refine (HI.out a7 n7 c7 _ r6 hld.1).mono ?_)
    rintro e wv1 ⟨a8,n8,c8,rfl,hY,hbx⟩;replace hp:=hp.below hbx;replace h2:=h2.below hbx;refine hK.out _ _ (⟨bst hld.1 hbx,hld.2.below hbx⟩) λhld=>?_;clear hK K hbx;try simp only [Act.put,ak]
    refine aj 12 λK hK=>?_;refine rG (h:=(a1,n1,c1)) (by rfl) ⟨_,_,rfl,rfl,rfl⟩ h2 HL.out hp hY (by have:=hY.len; have:=Hi.out; omega) ?_;intro a9 c9 w9 yv cF;have sE:Below w.heap.size w w9:=hld.1.trans (cF.mono PB.out);refine hK.out _ _ (⟨sE,aI hld.2.1 cF.size,by rw [cF.block g PA.out]; exact hld.2.2⟩) λhld=>?_;clear hK K cF h2;try simp only [Act.put]
    refine ah 13 ?_;try simp only [Act.put,ak]
    refine aB ?_;have ve:=hid yv;have gR:=hid sE;clear hld yv sE hY hp;go_wp2;go_ret;exact ⟨_,_,_,rfl,by rw [HX.out]; exact ve.out,gR.out⟩
   .rw [if_neg hc] at hx;have HX:=hid hx;have hneq:(((cp N.p q:Nat):Int)==(n1:Int))=false:=by simp; omega
    have v9:=uB.out a1 n1 c1;generalize cp N.p q=u at *
    have Hj:Hid (∀ wz,Below w.heap.size w wz->aZ wz a1 n1 c1 N.p->Calls prog 55 #[.slice a1 n1 c1,.slice d L k] wz λe w'=>e = .returned (.int .i64 u)/\Below wz.heap.size wz w'):=hid (λwz hb h1=>v9 wz (by omega) h1 hb);clear hx hk HD ik lO lP lR m3 uB hpn hc v9 hok PC;go_wp2_with fail
    have h2:=el.out;refine aC (S:=λw'=>Below w.heap.size w w'/\dI w' g N a1 n1 c1) (⟨ap.out.drew,cf.out.drew⟩) λhld=>?_;replace h2:=h2.drew;refine ah 0 ?_;try simp only [Act.put,ak]
    refine ah 1 ?_ (hy:=by intro wz hSw; (have k0:wz.cell? ⟨g,0,none⟩=some (.int .i64 2):=gS.out ▸ aV (j:=0) hSw.2 rfl; go_simp <;> with_reducible rfl));try simp only [Act.put,ak]
    refine ah 2 ?_;try simp only [Act.put,ak]
    refine ah 3 ?_;try simp only [Act.put,ak]
    refine ah 4 ?_;try simp only [Act.put,ak]
    refine ah 5 ?_;try simp only [Act.put,ak]
    refine ah 6 ?_;try simp only [Act.put,ak]
    refine ah 7 ?_ (hy:=by intro wz hSw; (have k1:wz.cell? ⟨g,1,none⟩=some (.slice a1 n1 c1):=aV (j:=1) hSw.2 rfl; go_simp <;> with_reducible rfl));try simp only [Act.put,ak]
    refine ah 8 ?_;try simp only [Act.put,ak]
    refine ah 9 ?_ (hy:=by intro wz hSw; (have q0:=hkl; go_simp <;> with_reducible rfl));try simp only [Act.put,ak]
    refine ah 10 ?_;try simp only [Act.put,ak]
    refine ah 11 ?_;try simp only [Act.put,ak]
    refine ah 12 ?_;try simp only [Act.put,ak]
    refine ah 13 ?_ (hy:=by intro wz hSw; (have k1:wz.cell? ⟨g,1,none⟩=some (.slice a1 n1 c1):=aV (j:=1) hSw.2 rfl; go_simp <;> with_reducible rfl));try simp only [Act.put,ak]
    refine ah 14 ?_;try simp only [Act.put,ak]
    refine ah 16 ?_;try simp only [Act.put,ak]
    refine ah 17 ?_ (hy:=by intro wz hSw; (have k1:wz.cell? ⟨g,1,none⟩=some (.slice a1 n1 c1):=aV (j:=1) hSw.2 rfl; go_simp <;> with_reducible rfl));try simp only [Act.put,ak]
    refine ah 18 ?_;try simp only [Act.put,ak]
    refine aj 15 λK hK=>?_;go_simp;go_at_call 55
    (with_reducible refine (Hj.out _ hld.1 (uC.out.below aH.drew)).mono ?_)
    rintro e cJ ⟨rfl,hbx⟩;have Hm:Hid (aZ cJ a1 n1 c1 N.p):=hid ((uC.out.below aH.drew).below hbx);replace h2:=h2.below hbx;refine hK.out _ _ (⟨bst hld.1 hbx,hld.2.below hbx⟩) λhld=>?_;clear hK K hbx;try simp only [Act.put,ak]
    refine ah 19 ?_ (hy:=by intro wz hSw; (have q0:=hneq; go_simp <;> with_reducible rfl));try simp only [Act.put,ak]
    refine ah 20 ?_;try simp only [Act.put,ak]
    refine aB ?_;have bc:Hid (Below w.heap.size w cJ):=hid hld.1;have dl:=hid hld.2;have cM:=hid h2;have oR:Hid (aZ cJ a1 n1 c1 N.p):=Hm;clear hld h2;have k7:cJ.cell? ⟨g,0,none⟩=some (.int .i64 2):=gS.out ▸ aV (j:=0) dl.out rfl;go_wp2;go_ret;exact ⟨_,_,_,rfl,by rw [HX.out]; exact xQ (h:=(a1,n1,c1)) cM.out HL.out oR.out,bc.out⟩
  .have gS:=hid hk;have Hn:(0:Int)<(L:Int):=by omega
   obtain ⟨bq,oq,Y4,hbq,hcq⟩:=Y1.out.at' 0 hL0;have hx':=hx (q.getD 0 0) (q.drop 1) (by
    have h0:0<q.length:=by rw [Ps.out]; exact hL0
    have:q.getD 0 0=q[0]:=by simp [List.getD,h0]
    rw [this];exact (List.getElem_cons_drop h0).symm)
   have hc16:(q.getD 0 0).toNat<16:=Y2.out _ (iy (by rw [Ps.out]; exact hL0));have hnb:nb (q.getD 0 0)=⟨(q.getD 0 0).toNat,hc16⟩:=Fin.ext (Nat.mod_eq_of_lt hc16);rw [hnb] at hx';have HI:=hid (m3.out hL0 ⟨_,hc16⟩);have yr:=hid (lR.out hL0 ⟨_,hc16⟩);have G7:=hid (lP.out hL0 ⟨_,hc16⟩);have Hh:=hid hL0;have ip:=Pu.out;rw [hx',List.length_cons] at ip;have Hi:=hid ip;have HX:=hid hx';have hc256:((q.getD 0 0).toNat:Int)<256:=by omega
   have Y5:w.cell? ⟨bq,oq,none⟩=some (.int .u8 (q.getD 0 0).toNat):=hcq;subst Y4;generalize bD (build (L-1) (bN (bJ l ⟨_,hc16⟩) 1)) (q.drop 1)=ys at *
   generalize bN (bJ l ⟨_,hc16⟩) 1=rl at *
   generalize bJ l ⟨_,hc16⟩=bl at *
   clear hx' hx hk HD ik lO lP lR m3 uB hpn hnb ip hcq;generalize (q.getD 0 0).toNat=u at *
   have Y6:Hid (IntKind.i64.wrap (u:Int)=u):=hid (by rw [IntKind.wrap_i64]; omega);go_wp2_with fail
   refine aC (S:=λw'=>Below w.heap.size w w'/\dI w' g N a1 n1 c1) (⟨ap.out.drew,cf.out.drew⟩) λhld=>?_;refine ah 0 ?_;try simp only [Act.put,ak]
   refine ah 1 ?_ (hy:=by intro wz hSw; (have k0:wz.cell? ⟨g,0,none⟩=some (.int .i64 3):=gS.out ▸ aV (j:=0) hSw.2 rfl; go_simp <;> with_reducible rfl));try simp only [Act.put,ak]
   refine ah 2 ?_;try simp only [Act.put,ak]
   refine ah 3 ?_;try simp only [Act.put,ak]
   refine Rg.takeL (i:=4) (v:=undef) rfl (by kernel_rfl) (by kernel_rfl) (by kernel_rfl) (λ_ _ _ h=>h) (Or.inr ⟨by rfl,rfl⟩) (by assumption) ?_;try simp only [Act.put,ak]
   refine Rg.takeL (i:=5) (v:=undef) rfl (by kernel_rfl) (by kernel_rfl) (by kernel_rfl) (λ_ _ _ h=>h) (Or.inr ⟨by rfl,rfl⟩) (by assumption) ?_;try simp only [Act.put,ak]
   refine Rg.takeL (i:=6) (v:=undef) rfl (by kernel_rfl) (by kernel_rfl) (by kernel_rfl) (λ_ _ _ h=>h) (Or.inr ⟨by rfl,rfl⟩) (by assumption) ?_;try simp only [Act.put,ak]
   refine Rg.takeL (i:=7) (v:=undef) rfl (by kernel_rfl) (by kernel_rfl) (by kernel_rfl) (λ_ _ _ h=>h) (Or.inr ⟨by rfl,rfl⟩) (by assumption) ?_;try simp only [Act.put,ak]
   refine Rg.takeL (i:=8) (v:=undef) rfl (by kernel_rfl) (by kernel_rfl) (by kernel_rfl) (λ_ _ _ h=>h) (Or.inr ⟨by rfl,rfl⟩) (by assumption) ?_;try simp only [Act.put,ak]
   refine Rg.takeL (i:=9) (v:=undef) rfl (by kernel_rfl) (by kernel_rfl) (by kernel_rfl) (λ_ _ _ h=>h) (Or.inr ⟨by rfl,rfl⟩) (by assumption) ?_;try simp only [Act.put,ak]
   refine ah 10 ?_;try simp only [Act.put,ak]
   refine ah 11 ?_;try simp only [Act.put,ak]
   refine Rg.takeL (i:=12) (v:=undef) rfl (by kernel_rfl) (by kernel_rfl) (by kernel_rfl) (λ_ _ _ h=>h) (Or.inr ⟨by rfl,rfl⟩) (by assumption) ?_;try simp only [Act.put,ak]
   refine Rg.takeL (i:=13) (v:=undef) rfl (by kernel_rfl) (by kernel_rfl) (by kernel_rfl) (λ_ _ _ h=>h) (Or.inr ⟨by rfl,rfl⟩) (by assumption) ?_;try simp only [Act.put,ak]
   refine Rg.takeL (i:=14) (v:=undef) rfl (by kernel_rfl) (by kernel_rfl) (by kernel_rfl) (λ_ _ _ h=>h) (Or.inr ⟨by rfl,rfl⟩) (by assumption) ?_;try simp only [Act.put,ak]
   refine Rg.takeL (i:=15) (v:=undef) rfl (by kernel_rfl) (by kernel_rfl) (by kernel_rfl) (λ_ _ _ h=>h) (Or.inr ⟨by rfl,rfl⟩) (by assumption) ?_;try simp only [Act.put,ak]
   refine Rg.takeL (i:=16) (v:=undef) rfl (by kernel_rfl) (by kernel_rfl) (by kernel_rfl) (λ_ _ _ h=>h) (Or.inr ⟨by rfl,rfl⟩) (by assumption) ?_;try simp only [Act.put,ak]
   refine Rg.takeL (i:=17) (v:=undef) rfl (by kernel_rfl) (by kernel_rfl) (by kernel_rfl) (λ_ _ _ h=>h) (Or.inr ⟨by rfl,rfl⟩) (by assumption) ?_;try simp only [Act.put,ak]
   refine Rg.takeL (i:=18) (v:=undef) rfl (by kernel_rfl) (by kernel_rfl) (by kernel_rfl) (λ_ _ _ h=>h) (Or.inr ⟨by rfl,rfl⟩) (by assumption) ?_;try simp only [Act.put,ak]
   refine Rg.takeL (i:=19) (v:=undef) rfl (by kernel_rfl) (by kernel_rfl) (by kernel_rfl) (λ_ _ _ h=>h) (Or.inr ⟨by rfl,rfl⟩) (by assumption) ?_;try simp only [Act.put,ak]
   refine ah 20 ?_;try simp only [Act.put,ak]
   refine aB ?_;have bc:Hid (Below w.heap.size w w6.drew):=hid hld.1;have dl:=hid hld.2;have cM:=hid (el.out.drew);have oR:=hid (uC.out.below aH.drew);clear hld;obtain ⟨w7,hw7⟩:=ay w6.drew
   rw [hw7] at bc dl cM oR ⊢;clear hw7;have k7:w7.cell? ⟨g,0,none⟩=some (.int .i64 3):=gS.out ▸ aV (j:=0) dl.out rfl;go_wp2_with fail
   have h2:=cM.out;have hp:=oR.out.below aH.drew;refine aC (S:=λw'=>Below w.heap.size w w'/\dI w' g N a1 n1 c1) (⟨bc.out.drew,dl.out.drew⟩) λhld=>?_;replace h2:=h2.drew;refine ah 0 ?_;try simp only [Act.put,ak]
   refine ah 1 ?_;try simp only [Act.put,ak]
   refine ah 2 ?_;try simp only [Act.put,ak]
   refine ah 3 ?_ (hy:=by intro wz hSw; (have q0:=Hn; go_simp <;> with_reducible rfl));try simp only [Act.put,ak]
   refine ah 4 ?_ (hy:=by intro wz hSw; (have kq:=aW hSw.1 Y5; go_simp <;> with_reducible rfl));try simp only [Act.put,ak]
   refine ah 5 ?_ (hy:=by intro wz hSw; (have q1:=Y6.out; go_simp <;> with_reducible rfl));try simp only [Act.put,ak]
   refine ah 8 ?_;try simp only [Act.put,ak]
   refine ah 9 ?_ (hy:=by intro wz hSw; (refine jL (a:=some ⟨bq,oq,none⟩) (n:=L) (c:=k) (i:=1) gI jv Hh.out ?_; exact ⟨_,_,rfl,rfl,rfl⟩));try simp only [Act.put,ak]
   refine aj 6 λK hK=>?_;go_simp;go_at_call 43
   (with_reducible refine (G7.out _ hld.1).mono ?_)
   rintro e cJ ⟨a6,n6,c6,rfl,nl,hbx⟩;replace hp:=hp.below hbx;replace h2:=h2.below hbx;refine hK.out _ _ (⟨bst hld.1 hbx,hld.2.below hbx⟩) λhld=>?_;clear hK K hbx;try simp only [Act.put,ak]
   refine aj 7 λK hK=>?_;go_simp;go_at_call 42
   (with_reducible refine (yr.out a6 n6 c6 _ nl).mono ?_)
   rintro e wv1 ⟨a7,n7,c7,rfl,r6,hbx⟩;replace hp:=hp.below hbx;replace h2:=h2.below hbx;refine hK.out _ _ (⟨bst hld.1 hbx,hld.2.below hbx⟩) λhld=>?_;clear hK K hbx;try simp only [Act.put,ak]
   refine aj 10 λK hK=>?_;go_simp;go_at_call 30
   (with_reducible refine (HI.out a7 n7 c7 _ r6 hld.1).mono ?_)
   rintro e wv2 ⟨a8,n8,c8,rfl,hY,hbx⟩;replace hp:=hp.below hbx;replace h2:=h2.below hbx;refine hK.out _ _ (⟨bst hld.1 hbx,hld.2.below hbx⟩) λhld=>?_;clear hK K hbx;try simp only [Act.put,ak]
   refine aj 11 λK hK=>?_;refine rG (h:=(a1,n1,c1)) (by rfl) ⟨_,_,rfl,rfl,rfl⟩ h2 HL.out hp hY (by have:=hY.len; have:=Hi.out; omega) ?_;intro a9 c9 w9 yv cF;have sE:Below w.heap.size w w9:=hld.1.trans (cF.mono PB.out);refine hK.out _ _ (⟨sE,aI hld.2.1 cF.size,by rw [cF.block g PA.out]; exact hld.2.2⟩) λhld=>?_;clear hK K cF h2;try simp only [Act.put]
   refine ah 12 ?_;try simp only [Act.put,ak]
   refine aB ?_;have ve:=hid yv;have gR:=hid sE;clear hld yv sE hY hp;go_wp2;go_ret;exact ⟨_,_,_,rfl,by rw [HX.out]; exact ve.out,gR.out⟩
theorem KF (L:Nat):L<=64->Ud L:=by
 induction L using Nat.strongRecOn with
 | ind L ih=>exact λhL=>Tz hL λm hm=>ih m hm (by omega)
end Tm
end
section
namespace Tr
open Rf Rl Ni No
def jI (l:List Nd):List aL:=(l.take 1).map gP++Tv ((l.drop 1).map gP)
theorem GJ (l:List Nd) (h:j<l.length):jI (l.take (j+1))=jI (l.take j)++if j=0\/32<=(gP (l.getD j nd0)).size then [gP (l.getD j nd0)] else []:=by
 have e:l.take (j+1)=l.take j++[l.getD j nd0]:=by
  have e1:l.getD j nd0=l[j]:=by simp [List.getD,h]
  rw [e1,List.take_succ_eq_append_getElem h]
 rw [e];generalize l.getD j nd0=x;by_cases hj:j=0
 .subst hj;rw [if_pos (.inl rfl),List.take_zero];rfl
 .have hl:1<=(l.take j).length:=by rw [List.length_take]; omega
  unfold jI;rw [List.take_append_of_le_length hl,List.drop_append_of_le_length hl,List.map_append,List.append_assoc];congr 1;unfold Tv;rw [List.filter_append];congr 1;by_cases h32:32<=(gP x).size
  .rw [if_pos (.inr h32),List.map_cons,List.map_nil,List.filter_cons_of_pos (by simpa using h32)]; rfl
  .rw [if_neg (λh=>h.elim hj h32),List.map_cons,List.map_nil,List.filter_cons_of_neg (by simpa using h32)]; rfl
theorem Gi (l:List Nd):(jI l).length<=l.length:=by
 unfold jI Tv;rw [List.length_append,List.length_map];have:=List.length_filter_le (λx:aL=>decide (32<=x.size)) ((l.drop 1).map gP);rw [List.length_map,List.length_drop] at this;rw [List.length_take];omega
theorem sS:∀ (t:T) (L:Nat) (w:Pa),Good t L->L<=64->Fine t->∀ N∈bD t w,∃ (s:T) (K:Nat),N=bC s/\bF s=gP N/\s ≠ .nil/\¬ eP s/\K<=64/\Good s K/\Fine s
 | .nil,_,_,_,_,_,_,h=>by cases h
 | .leaf p v,L,w,g,hL,f,N,h=>by
  rw [List.mem_singleton.1 h];exact ⟨_,L,rfl,rfl,λe=>(by cases e),λh=>h,hL,g,f⟩
 | .ext q t,L,w,g,hL,f,N,h=>by
  rcases List.mem_cons.1 h with rfl | h
  .exact ⟨_,L,rfl,rfl,λe=>(by cases e),λh=>h,hL,g,f⟩
  .by_cases hq:q<+:w
   .rw [if_pos hq] at h;exact sS t (L-q.length) (w.drop q.length) g.2.2.2.2 (by omega) f N h
   .rw [if_neg hq] at h;cases h
 | .br ks,L,[],g,hL,f,N,h=>by
  rw [List.mem_singleton.1 h];exact ⟨_,L,rfl,rfl,λe=>(by cases e),λh=>h,hL,g,f⟩
 | .br ks,L,c::w,g,hL,f,N,h=>by
  rcases List.mem_cons.1 h with rfl | h
  .exact ⟨_,L,rfl,rfl,λe=>(by cases e),λh=>h,hL,g,f⟩
  .exact sS (ks (nb c)) (L-1) w (g.2.2 _) (by omega) (f _) N h
 | .stub _,_,_,_,_,_,_,h=>by cases h
theorem Az {α:Type} {f:Fin 16->List α} {i j:Fin 16} (hij:i≠j):(f i).length+(f j).length<=((List.finRange 16).map f).flatten.length:=by
 have key:∀ l:List (Fin 16),l.Nodup->i∈l->j∈l->(f i).length+(f j).length<=(l.map f).flatten.length:=by
  have one:∀ (l:List (Fin 16)) (k:Fin 16),k∈l->(f k).length<=(l.map f).flatten.length:=by
   intro l
   induction l with
   | nil=>intro k h; cases h
   | cons x r ih =>
    intro k h;rw [List.map_cons,List.flatten_cons,List.length_append];rcases List.mem_cons.1 h with rfl | h
    .omega
    .have:=ih k h; omega
  intro l
  induction l with
  | nil=>intro _ h; cases h
  | cons x r ih =>
   intro hn hi hj;rw [List.map_cons,List.flatten_cons,List.length_append];obtain ⟨hx,hr⟩:=List.nodup_cons.1 hn;rcases List.mem_cons.1 hi with hi | hi
   .rcases List.mem_cons.1 hj with hj | hj
    .exact absurd (hi.trans hj.symm) hij
    .have:=one r j hj;rw [hi];omega
   .rcases List.mem_cons.1 hj with hj | hj
    .have:=one r i hi;rw [hj];omega
    .have:=ih hr hi hj;omega
 exact key _ (List.nodup_finRange 16) (List.mem_finRange i) (List.mem_finRange j)
theorem Fz:∀ (t:T) (L:Nat) (w a:Pa),Good t L->Full t->t ≠ .nil->(bD t w).length+1<=2*(iB t a).length/\(LJ t->(bD t w).length+2<=2*(iB t a).length)
 | .nil,_,_,_,_,_,h=>absurd rfl h
 | .leaf p v,_,_,_,_,_,_=>⟨aG,λh=>h.elim⟩
 | .ext q t,L,w,a,g,f,_=>by
  refine ⟨?_,λh=>h.elim⟩;have ih:=(Fz t _ (w.drop q.length) (a++q) g.2.2.2.2 f (jZ g.2.2.2.1)).2 g.2.2.2.1;show (_::if q<+:w then bD t (w.drop q.length) else []).length+1<=2*(iB t (a++q)).length;by_cases h:q<+:w
  .rw [if_pos h,List.length_cons]; omega
  .rw [if_neg h];simp only [List.length_cons,List.length_nil];omega
 | .br ks,L,w,a,g,f,_=>by
  have hp:∀ i,ks i ≠ .nil->1<=(iB (ks i) (a++[bY i])).length:=λi hi=>by
   have:=xG (ks i) _ (a++[bY i]) (g.2.2 i) (f i) hi;have h0:(iB (ks i) (a++[bY i])).length≠0:=λe=>this (List.length_eq_zero_iff.1 e);omega
  have hb:(bD (.br ks) w).length+2<=2*(iB (.br ks) a).length:=by
   show _<=2*((List.finRange 16).map λi=>iB (ks i) (a++[bY i])).flatten.length;obtain ⟨i,j,hij,hi,hj⟩:=g.2.1;have h2:=Az (f:=λi=>iB (ks i) (a++[bY i])) hij;have h3:=hp i hi;have h4:=hp j hj;try dsimp only at h2
   cases w with
   | nil =>
    show 1+2<=_;omega
   | cons c w =>
    show ((bD (ks (nb c)) w).length+1)+2<=_;by_cases hk:ks (nb c) = .nil
    .rw [hk];show (0+1)+2<=_;omega
    .have ih:=(Fz (ks (nb c)) _ w (a++[bY (nb c)]) (g.2.2 _) (f _) hk).1;by_cases hi':i=nb c
     .have h5:=Az (f:=λi=>iB (ks i) (a++[bY i])) (i:=nb c) (j:=j) (by rw [<-hi']; exact hij);try dsimp only at h5
      omega
     .have h5:=Az (f:=λi=>iB (ks i) (a++[bY i])) (i:=nb c) (j:=i) (λe=>hi' e.symm);try dsimp only at h5
      omega
  exact ⟨by omega,λ_=>hb⟩
 | .stub _,_,_,_,_,f,_=>f.elim
end Tr
end
section
namespace Tr
open Rf Rl Ni No
theorem IE {xs:List It} {n:Nd} (h:dZ xs=some n):∀ k∈n.ks,k=eB\/∃ x∈xs,lH x=some k:=by
 unfold dZ at h;by_cases h2:xs.length=2
 .rw [if_pos h2] at h;unfold iI at h;split at h
  .cases h
  .split at h
   .obtain rfl:=Option.some.inj h;exact λk hk=>.inl (List.eq_of_mem_replicate hk)
   .obtain ⟨k,hk,rfl⟩:=Option.map_eq_some_iff.1 h;intro j hj;rcases List.mem_cons.1 hj with rfl | hj
    .exact .inr ⟨_,No.iy (by omega),hk⟩
    .exact .inl (List.eq_of_mem_replicate hj)
 .rw [if_neg h2] at h;by_cases fp:xs.length=17
  .rw [if_pos fp] at h;unfold dM at h;split at h
   .cases h
   .rename_i ks hks;split at h
    .obtain rfl:=Option.some.inj h;intro k hk;obtain ⟨x,hx,e⟩:=(Ak hks).2 k hk;exact .inr ⟨x,List.mem_of_mem_take hx,e⟩
    .cases h
  .rw [if_neg fp] at h; cases h
theorem Oi {s:aM} (hs:s.length<=4294967296) {n:Nd} (h:uq s=some n):∀ k∈n.ks,k.size≠0->k.size<s.length:=by
 obtain ⟨x,h1,h2,_⟩:=wU hs h;obtain ⟨g1,g2,_⟩:=lN hs h1;intro k hk h0;rcases IE h2 k hk with rfl | ⟨y,hy,e⟩
 .exact absurd rfl h0
 .have hlt:=vF g2 (by rw [g1]; exact hs) hy;rw [g1] at hlt;have hi:=mY y;unfold lH at e;split at e
  .split at e
   .have e:=Option.some.inj e;rw [<-e,Rl.eU];exact hlt
   .cases e
  .split at e
   .have e:=Option.some.inj e;cases y with
    | mk l s' xs =>
     rw [inner_mk,List.length_append,jl] at hi;rw [<-e];show s'.size<_;omega
   .cases e
theorem Vy {t:T} (hn:t ≠ .nil) (hs:¬ eP t):bF t=gP (bC t):=by
 cases t with
 | nil=>exact absurd rfl hn
 | stub r=>exact absurd trivial hs
 | leaf p v=>rfl
 | ext q t=>rfl
 | br ks=>rfl
theorem Fp {t s:T} {K:Nat} (g:Good t L) (hL:L<=64) (f:Fine t) (hn:t ≠ .nil) (hs:¬ eP t) (g':Good s K) (hK:K<=64) (f':Fine s) (hn':s ≠ .nil) (hs':¬ eP s) (hk:ref s∈(bC t).ks) (h:(bF t).size<32):(bF s).size<(bF t).size:=by
 have hm:=(gH t L g hL f hn).1 hs;have hsz:(bF t).size=(jC (bC t)).length:=by rw [Vy hn hs,xO]
 have hu:=Oi (by omega) (No.get_put (cu t) hm) (ref s) hk (gH s K g' hK f' hn').2.2;rw [<-hsz] at hu;have hr:=iX hs';by_cases h32:(bF s).size<32
 .rw [hr] at hu;unfold ofP at hu;rw [if_pos h32] at hu;exact hu
 .exfalso;rw [hr] at hu;unfold ofP at hu;rw [if_neg h32] at hu;have hz:(⟨(qm (bF s)).toArray⟩:aL).size=32:=by
   have:(⟨(qm (bF s)).toArray⟩:aL).size=(qm (bF s)).length:=by show (qm (bF s)).toArray.size=_; simp
   rw [this,ny]
  omega
theorem zK {s:T} {w:Pa} {N:Nd} (h:N∈bD s w):s ≠ .nil/\¬ eP s:=by
 cases s with
 | nil=>cases h
 | stub r=>cases h
 | leaf p v=>exact ⟨λe=>(by cases e),λh=>h⟩
 | ext q t=>exact ⟨λe=>(by cases e),λh=>h⟩
 | br ks=>exact ⟨λe=>(by cases e),λh=>h⟩
theorem TQ (q:Pa) (t:T):ref t∈(bC (.ext q t)).ks:=List.mem_cons_self ..
theorem XU (ks:Fin 16->T) (i:Fin 16):ref (ks i)∈(bC (.br ks)).ks:=List.mem_map.2 ⟨i,List.mem_finRange i,rfl⟩
theorem MK:∀ (t:T) (L:Nat) (w:Pa),Good t L->L<=64->Fine t->(bF t).size<32->∀ N∈bD t w,(gP N).size<=(bF t).size
 | .nil,_,_,_,_,_,_,_,h=>by cases h
 | .leaf p v,L,w,g,hL,f,_,N,h=>by rw [List.mem_singleton.1 h]; exact aG
 | .ext q t,L,w,g,hL,f,h32,N,h=>by
  rcases List.mem_cons.1 h with rfl | h
  .exact aG
  .by_cases hq:q<+:w
   .rw [if_pos hq] at h;obtain ⟨h1,h2⟩:=zK h;have:=Fp (t:=.ext q t) g hL f (λe=>(by cases e)) (λh=>h) g.2.2.2.2 (by omega) f h1 h2 (TQ q t) h32;have:=MK t (L-q.length) (w.drop q.length) g.2.2.2.2 (by omega) f (by omega) N h;omega
   .rw [if_neg hq] at h;cases h
 | .br ks,L,[],g,hL,f,_,N,h=>by rw [List.mem_singleton.1 h]; exact aG
 | .br ks,L,c::w,g,hL,f,h32,N,h=>by
  rcases List.mem_cons.1 h with rfl | h
  .exact aG
  .obtain ⟨h1,h2⟩:=zK h;have:=Fp (t:=.br ks) g hL f (λe=>(by cases e)) (λh=>h) (g.2.2 _) (by omega) (f _) h1 h2 (XU ks (nb c)) h32;have:=MK (ks (nb c)) (L-1) w (g.2.2 _) (by omega) (f _) (by omega) N h;omega
 | .stub _,_,_,_,_,_,_,_,h=>by cases h
theorem Za (t:T) (L:Nat) (w:Pa) (g:Good t L) (hL:L<=64) (f:Fine t) (h32:(bF t).size<32):∀ N∈(bD t w).drop 1,(gP N).size<(bF t).size:=by
 intro N h
 match t,w,g,f,h32,h with
 | .nil,_,_,_,_,h=>cases h
 | .leaf p v,_,_,_,_,h=>cases h
 | .ext q t,w,g,f,h32,h =>
  have h:N∈(if q<+:w then bD t (w.drop q.length) else []):=h;by_cases hq:q<+:w
  .rw [if_pos hq] at h;obtain ⟨h1,h2⟩:=zK h;have:=Fp (t:=.ext q t) g hL f (λe=>(by cases e)) (λh=>h) g.2.2.2.2 (by omega) f h1 h2 (TQ q t) h32;have:=MK t (L-q.length) (w.drop q.length) g.2.2.2.2 (by omega) f (by omega) N h;omega
  .rw [if_neg hq] at h;cases h
 | .br ks,[],_,_,_,h=>cases h
 | .br ks,c::w,g,f,h32,h =>
  have h:N∈bD (ks (nb c)) w:=h;obtain ⟨h1,h2⟩:=zK h;have:=Fp (t:=.br ks) g hL f (λe=>(by cases e)) (λh=>h) (g.2.2 _) (by omega) (f _) h1 h2 (XU ks (nb c)) h32;have:=MK (ks (nb c)) (L-1) w (g.2.2 _) (by omega) (f _) (by omega) N h;omega
 | .stub _,_,_,_,_,h=>cases h
theorem SB {t:T} {w:Pa} {N:Nd} (h:(bD t w).getD 0 nd0=N) (hl:0<(bD t w).length):gP N=bF t:=by
 cases t with
 | nil=>cases hl
 | stub r=>cases hl
 | leaf p v=>rw [<-h]; rfl
 | ext q t=>rw [<-h]; rfl
 | br ks=>cases w with
  | nil=>rw [<-h]; rfl
  | cons c w=>rw [<-h]; rfl
theorem WM {t:T} {w:Pa} (g:Good t L) (hL:L<=64) (f:Fine t) (hj:j<(bD t w).length):(gP ((bD t w).getD j nd0)=bF t\/32<=(gP ((bD t w).getD j nd0)).size)↔(j=0\/32<=(gP ((bD t w).getD j nd0)).size):=by
 constructor
 .rintro (h | h)
  .by_cases h0:j=0
   .exact .inl h0
   .by_cases h32:(bF t).size<32
    .have hm:(bD t w).getD j nd0∈(bD t w).drop 1:=by
      have e:(bD t w).getD j nd0=((bD t w).drop 1)[j-1]'(by rw [List.length_drop]; omega):=by
       rw [List.getElem_drop];simp [List.getD,hj,show 1+(j-1)=j by omega]
      rw [e];exact List.getElem_mem _
     have:=Za t L w g hL f h32 _ hm;rw [h] at this;omega
    .rw [<-h] at h32;exact .inr (by omega)
  .exact .inr h
 .rintro (h | h)
  .subst h;exact .inl (SB rfl hj)
  .exact .inr h
end Tr
end
section
open Go.RowKit Go.Maps
namespace Rf
open Rl Ni No Sh Sm
end Rf
end
section
open Go.RowKit Go.Maps
namespace Tm
open Tr Ni Pk Ky No Rf Rl
open Sm (Tab)
abbrev Ent:=aL × T × Nat
abbrev Fs:=aL->Option Ent
def mX (f:Fs) (k:aL) (v:Ent):Fs:=λs=>if s=k then some v else f s
def gone (f:Fs) (s:aL):Bool:=match f s with
 | none=>true
 | some (_,_,lv)=>decide (0<lv)
def rF (v:Value):Option (DataW Value × List MemPlace):=some (.held v,[])
def kV (s:aL):Lit:=.string s.data.toList
def bQ (e:aL) (p:aK) (lv:Nat):aN:=#[.string e,.pointer p,.int .i64 lv]
theorem Ca {s:aL} (h:kV s=kV k):s=k:=by
 unfold kV at h;injection h with h;apply ByteArray.ext;exact Array.ext' h
theorem kof {s:aL} (hs:s.size<=maxLen):keyOf prog 9 (.string s)=some (kV s):=Go.WideMaps.keyOf_string_mk underlying9 hs
theorem Ns {s:aL} (hs:s.size<=maxLen):WideAt.IsKeyLit (kV s):=(string_keyed underlying9).key (kof hs)
theorem Ey (w:World):(zeroValue 110).run prog w = .ok (.agg (bQ eB none 0)) w:=by kernel_rfl
abbrev Shf (w:World) (b n:Nat) (D:DataW Value):Prop:=w.ownsMap prog 9 rF b n D
structure ShS (M:Mp) (w:World) (b:Nat) (f:Fs) (n:Nat) (D:DataW Value):Prop where
 own:Shf w b n D
 none_:∀ s,s.size<=maxLen->f s=none->Maps.has D (kV s)=false
 some_:∀ s e t lv,s.size<=maxLen->f s=some (e,t,lv)->Maps.has D (kV s)=true/\∃ p,IsT M p t/\∀ z,D.atKey (kV s) z = .held (.agg (bQ e p lv))
 nf:¬ M.ft b
theorem ShS.lt {M:Mp} {w:World} {b:Nat} {f:Fs} {n:Nat} {D:DataW Value} (h:ShS M w b f n D):b<w.heap.size:=h.own.lt
theorem ShS.same {M M':Mp} {b:Nat} {f:Fs} {D:DataW Value} (h:ShS M w b f n D) (hb:w'.heap[b]? = w.heap[b]?) (hm:∀ k t,M.at_ k=some t->M'.at_ k=some t) (hf:¬ M'.ft b):ShS M' w' b f n D:=by
 refine ⟨?_,h.none_,λs e t lv hs he=>?_,hf⟩
 .obtain ⟨es,clock,h1,h2⟩:=h.own;exact ⟨es,clock,hb.trans h1,h2⟩
 .obtain ⟨h1,p,h2,h3⟩:=h.some_ s e t lv hs he;exact ⟨h1,p,h2.mono hm,h3⟩
theorem ShS.below {M:Mp} {b:Nat} {f:Fs} {D:DataW Value} (h:ShS M w b f n D) (hb:Below B w w') (hB:b<B):ShS M w' b f n D:=h.same (hb.block b hB) (λ_ _ h=>h) h.nf
theorem ShS.at_ {M:Mp} {b:Nat} {f:Fs} {D:DataW Value} (h:ShS M w b f n D) (hi:Inv M w):M.at_ b=none:=Iw hi h.nf
theorem ShS.frm {M M':Mp} {b:Nat} {f:Fs} {D:DataW Value} (h:ShS M w b f n D) (hi:Inv M w) (g:Fr M M' w w'):ShS M' w' b f n D:=by
 refine h.same (g.block b h.lt (h.at_ hi)) g.mono (g.box h.nf h.lt λ⟨j,x,hc⟩=>?_);obtain ⟨es,clock,h1,_⟩:=h.own;rw [World.cell?,h1] at hc;cases hc
theorem ShS.put {M:Mp} {b:Nat} {f:Fs} {D:DataW Value} {t:T} (h:ShS M w b f n D) (hk:k.size<=maxLen) (hO:Shf w' b (n+1) (D.put (kV k) (.held (.agg (bQ e p lv))))) (ht:IsT M p t):ShS M w' b (mX f k (e,t,lv)) (n+1) (D.put (kV k) (.held (.agg (bQ e p lv)))):=by
 have hD:=h.own.isMap;refine ⟨hO,λs hs hn=>?_,λs e' t' Y7 hs he=>?_,h.nf⟩
 .unfold mX at hn;by_cases hsk:s=k
  .rw [if_pos hsk] at hn; cases hn
  .rw [if_neg hsk] at hn;rw [Maps.has_put_other (λe=>hsk (Ca e))];exact h.none_ s hs hn
 .unfold mX at he;by_cases hsk:s=k
  .subst hsk;rw [if_pos rfl] at he;injection he with he;injection he with he1 he2;injection he2 with he2 i5;subst he1 he2 i5;exact ⟨Maps.has_put_same hD (Ns hk) _,p,ht,λz=>Maps.atKey_put_same hD (Ns hk) _ z⟩
  .rw [if_neg hsk] at he;obtain ⟨h1,q,h2,h3⟩:=h.some_ s e' t' Y7 hs he;have hne:kV s≠kV k:=λe=>hsk (Ca e);exact ⟨by rw [Maps.has_put_other hne]; exact h1,q,h2,λz=>by rw [Maps.atKey_put_other hne]; exact h3 z⟩
theorem sw {b:Nat} {D:DataW Value} {s:aL} (h:Shf w b n D) (hs:s.size<=maxLen):∃ v,(Instr.lookup 113 (.map (some b)) (.string s) true).run prog w = .ok (.tuple #[v,.bool (Maps.has D (kV s))]) w/\(Instr.lookup 113 (.map (some b)) (.string s) false).run prog w = .ok v w/\.held v=D.atKey (kV s) (.held (.agg (bQ eB none 0))):=by
 obtain ⟨v,ps,h1,h2⟩:=h.look_ok (string_keyed underlying9) underlying113 (Ey w) (zd:=.held (.agg (bQ eB none 0))) (zp:=[]) rfl (kof hs);obtain ⟨v',ps',h3,h4⟩:=h.lookup (string_keyed underlying9) underlying113 (Ey w) (zd:=.held (.agg (bQ eB none 0))) (zp:=[]) rfl (kof hs);have e1:DataW.held v=D.atKey (kV s) (.held (.agg (bQ eB none 0))):=by
  unfold rF at h2;injection h2 with h2;injection h2
 have e2:DataW.held v'=D.atKey (kV s) (.held (.agg (bQ eB none 0))):=by
  unfold rF at h4;injection h4 with h4;injection h4
 have e3:v'=v:=by
  have:=e2.trans e1.symm;injection this
 exact ⟨v,h1,by rw [<-e3]; exact h3,e1⟩
theorem BU {b:Nat} {D:DataW Value} {s:aL} (h:Shf w b n D) (hs:s.size<=maxLen) (hh:Maps.has D (kV s)=true) (hat:∀ z,D.atKey (kV s) z = .held V)
  (ho:∃ m x,o.op = .lookup 113 m x true/\ev m = .map (some b)/\ev x = .string s):(execOp ev o).run prog w = .ok (.value (.tuple #[V,.bool true])) w:=by
 obtain ⟨m,x,ho,hm,hx⟩:=ho;obtain ⟨v,h1,_,h3⟩:=sw h hs;rw [hat] at h3;injection h3 with h3;subst h3;rw [hh] at h1;unfold execOp;simp only [ho,hm,hx,Sem.run_bind,Sem.run_pure,Result.andThen_ok,h1]
theorem Ar {b:Nat} {D:DataW Value} {s:aL} (h:Shf w b n D) (hs:s.size<=maxLen) (hh:Maps.has D (kV s)=false)
  (ho:∃ m x,o.op = .lookup 113 m x true/\ev m = .map (some b)/\ev x = .string s):(execOp ev o).run prog w = .ok (.value (.tuple #[.agg (bQ eB none 0),.bool false])) w:=by
 obtain ⟨m,x,ho,hm,hx⟩:=ho;obtain ⟨v,h1,_,h3⟩:=sw h hs;rw [Maps.atKey_of_not_has hh] at h3;injection h3 with h3;subst h3;rw [hh] at h1;unfold execOp;simp only [ho,hm,hx,Sem.run_bind,Sem.run_pure,Result.andThen_ok,h1]
theorem wN {b:Nat} {D:DataW Value} {s:aL} (h:Shf w b n D) (hs:s.size<=maxLen) (hat:∀ z,D.atKey (kV s) z = .held V)
  (ho:∃ m x,o.op = .lookup 113 m x false/\ev m = .map (some b)/\ev x = .string s):(execOp ev o).run prog w = .ok (.value V) w:=by
 obtain ⟨m,x,ho,hm,hx⟩:=ho;obtain ⟨v,_,h2,h3⟩:=sw h hs;rw [hat] at h3;injection h3 with h3;subst h3;unfold execOp;simp only [ho,hm,hx,Sem.run_bind,Sem.run_pure,Result.andThen_ok,h2]
theorem MP {rest:List Oper} {a:Go.Act} {Q:Exit->Go.Act->World->Prop} {b:Nat} {D:DataW Value} (hown:Shf w b n D) (hn:n<maxLen) {s:aL} (hs:s.size<=maxLen) (V:Value)
  (hg:o.guard=none) (m x v:Operand) (hop:o.op=Op.mapUpdate 113 m x v) (hm:a.eval m = .map (some b)) (hx:a.eval x = .string s) (hv:a.eval v=V)
  (hQ:∀ w',Shf w' b (n+1) (D.put (kV s) (.held V))->w.grownBy w' (some b)->wpList prog ops Q rest (a.put o.dst undef) w'):wpList prog ops Q (o::rest) a w :=
 wpList_mapUpdate_own w hg m x v 113 hop 9 110 (string_keyed underlying9) underlying113 rF b n D hm hown hn _ _ (kV s) hx hv (kof hs) _ [] rfl hQ
theorem nY:(prog.info? 110).map (·.size)=some 3:=by kernel_rfl
theorem qh (e:aL) (p:aK) (lv:Nat):(bQ e p lv).all (·.oneCell')=true:=by simp [bQ,Value.oneCell']
theorem bR (ev:Operand->Value) (o:Oper) (w:World) (b:Nat) (hb:b=w.heap.size) (ho:o.op = .alloc 110):(execOp ev o).run prog w = .ok (.value (.pointer (some ⟨b,0,none⟩))) (w.alloc (.cells (bQ eB none 0) 110)):=by
 subst hb;unfold execOp;rw [ho];kernel_rfl
theorem cB {rest:List Oper} {act:Go.Act} {Q:Exit->Go.Act->World->Prop} {b:Nat} {cs:aN} (h:Rg.Own w b cs 110) (hs:cs.size=3) (e:aL) (p:aK) (lv:Nat)
  (hgd:o.guard=none) (x y:Operand) (ho:o.op = .store 110 x y) (hx:act.eval x = .pointer (some ⟨b,0,none⟩)) (hy:act.eval y = .agg (bQ e p lv)) (hd:o.dst=none)
  (hQ:∀ w',Rg.Own w' b (bQ e p lv) 110->Rg.Upd w b w'->wpList prog ops Q rest act w'):wpList prog ops Q (o::rest) act w :=
 wpList_store_rowTo hgd 110 x y ho hd b _ hx hy 110 _ h.2 nY hs (qh _ _ _) (hQ _ ⟨by simp; exact h.1,setRow_heap _ _ _ _ _ _ h.2⟩ (Rg.Upd.set _ _ _))
theorem Ej {b:Nat} (h:Rg.Own w b (bQ e p lv) 110):(loadVar 110 ⟨b,0,none⟩).run prog w = .ok (.agg (bQ e p lv)) w :=
 run_loadVar_row (P:=prog) w b 110 110 (bQ e p lv) (0,0) _ h.2 underlying110 rfl nY
theorem vT {b:Nat} (h:Rg.Own w b (bQ e p lv) 110) (ho:∃ x,o.op = .load 110 x/\ev x = .pointer (some ⟨b,0,none⟩)):(execOp ev o).run prog w = .ok (.value (.agg (bQ e p lv))) w:=by
 obtain ⟨x,ho,hx⟩:=ho;unfold execOp;simp only [ho,hx,Instr.loadAt,Instr.sureAddr,Sem.run_bind,Sem.run_pure,Result.andThen_ok,Ej h]
theorem uM (ho:∃ x,o.op = .field 110 x 0/\ev x = .agg (bQ e p lv)):(execOp ev o).run prog w = .ok (.value (.string e)) w:=by
 obtain ⟨x,ho,hx⟩:=ho;unfold execOp;simp only [ho,hx];kernel_rfl
theorem Ke (e:aL):prog.built 110 [(0,.string e)]=some (bQ e none 0):=by kernel_rfl
theorem GX (e:aL) (p:aK) (k:Int):prog.built 110 [(0,.string e),(1,tv p),(2,.int .i64 k)]=some #[.string e,.pointer p,.int .i64 k]:=by kernel_rfl
theorem qB (w:World) (b:Nat) (hb:b=w.heap.size):Rg.Own (w.alloc (.cells (bQ eB none 0) 110)) b (bQ eB none 0) 110:=by
 subst hb;exact Rg.Own.new _ _ _
theorem vL {fn:Func} {q u:Tmp} (hf:fn.results = #[.cell q 110,.tmp u]) (tmps:aN) {b:Nat} (hp:tmps.getD q undef = .pointer (some ⟨b,0,none⟩)) (h:Rg.Own w b (bQ e p lv) 110) :
  (results fn tmps).run prog w = .ok (.tuple #[.agg (bQ e p lv),tmps.getD u undef]) w:=by
 have hp':tmps[q]?.getD undef = .pointer (some ⟨b,0,none⟩):=by simpa using hp
 simp [results,hf,hp',asAddr,Ej h]
end Tm
end
section
open Go.RowKit
namespace Tm
open Tr Ni Pk Ky No Rf Rl
theorem zL {B' sz:Nat} {e:TypeId} {xs:List Value} (h:w.ownsRow B e sz v n xs) (hb:B'<=B):w.ownsRow B' e sz v n xs:=by
 obtain ⟨h1,h2⟩:=h;exact ⟨h1,h2.imp id λ⟨g,cap,cur,e,hg,r⟩=>⟨g,cap,cur,e,Nat.le_trans hb hg,r⟩⟩
theorem wY {rest:List Oper} {a:Go.Act} {Q:Exit->Go.Act->World->Prop} {B2:Nat} {v2:Value} {xs ys:List aL} (hgd:o.guard=none) (s x:Operand) (ho:o.op = .call { callee:=.builtin .append,args:=#[s,x],argTypes:=#[28,28] })
  (hs:a.eval s=v) (hx:a.eval x=v2) (hR:w.ownsRow B 9 1 v xs.length (xs.map Value.string)) (hS:w.ownsRow B2 9 1 v2 ys.length (ys.map Value.string)) (hn:xs.length+ys.length<=1000000) (hB:B<=w.heap.size)
  (h:∀ v' w',w'.ownsRow B 9 1 v' (xs++ys).length ((xs++ys).map Value.string)->w.grownBy w' v.ownBlock->(v'.ownBlock=v.ownBlock\/v'.ownBlock=some w.heap.size)->wpList prog ops Q rest (a.put o.dst v') w'):wpList prog ops Q (o::rest) a w:=by
 obtain ⟨i0,hi,hz0,hz1,hz2⟩:=fP;rcases hS.2 with ⟨rfl,h0⟩ | ⟨g,cap,cur,rfl,hg,hh,hnc,hcm,hsz,htk⟩
 .have hy:ys=[]:=List.length_eq_zero_iff.1 h0;subst hy;refine wpList_append_own_none hgd s x 28 ho B 9 i0 1 underlying28 hi v xs.length (xs.map Value.string) hs hR hx (h v w ?_ ⟨rfl,rfl,rfl,aG,λ_ _ _=>rfl⟩ (.inl rfl));rw [List.append_nil];exact hR
 .refine wpList_append_own_at w hgd s x 28 ho B 9 i0 (.string ⟨#[]⟩) 1 16 underlying28 hi hz0 hz1 hz2 rfl (by decide) v xs.length (xs.map Value.string) hs hR ⟨g,0,none⟩ ys.length cap (ys.map Value.string) hx (by simp) (λj u hu=>?_) (λu hu=>?_) (by unfold maxLen; omega) (by omega) hB (λv' w' h1 h2 _ h4=>h v' w' ?_ h2 h4)
  .rw [Addr.add_mid,Nat.zero_add,cell_of_row w g _ _ _ _ hh];have hj:j<ys.length:=by have:=(List.getElem?_eq_some_iff.1 hu).1; simpa using this
   rw [<-Array.getElem?_toList,<-hu,<-htk,List.getElem?_take_of_lt (by omega)]
  .obtain ⟨y,_,rfl⟩:=List.mem_map.1 hu;rfl
  .rw [List.length_append,List.map_append];exact h1
def CV (w:World) (xs:List aL) (e:Ending) (w':World):Prop:=∃ v,e = .returned v/\w'.ownsRow w.heap.size 9 1 v xs.length (xs.map Value.string)/\Below w.heap.size w w'
open Sm (Tab)
theorem zD {xs:List aL} (h:j<xs.length):xs.getD j eB∈xs:=by
 rw [List.getD_eq_getElem?_getD,List.getElem?_eq_getElem h];exact List.getElem_mem h
def Vr (P:aL->Bool) (xs:List aL) (i:Int):Prop :=
 (i = -1/\∀ j,j<xs.length->P (xs.getD j eB)=false)\/∃ k:Nat,i=k/\k<xs.length/\P (xs.getD k eB)=true/\∀ j,j<k->P (xs.getD j eB)=false
theorem FY (P:aL->Bool) (c:Nat) (xs:List aL) (a:aK) (n cap:Nat) (w:World) (h:fH w a n cap xs)
  (hel:∀ s∈xs,∀ wz,Below w.heap.size w wz->Calls prog 154 #[.string s,.pointer (some ⟨c,0,none⟩)] wz λe w'=>e = .returned (.bool (P s))/\Below wz.heap.size wz w') :
  Calls prog 60 #[.slice a n cap,.func (Fn.func 154) #[] #[.pointer (some ⟨c,0,none⟩)]] w λe w'=>∃ i:Int,e = .returned (.int .i64 i)/\Vr P xs i/\Below w.heap.size w w':=by
 have hm:=h.2.1;have hnc:=h.1;have hl:=h.len;unfold maxLen at hm;have H:=hid h;have HL:=hid hl;have HE:=hid hel;clear h hl hel;go_enter func60,ntmps60;go_wp2;go_loopw [8] (λi wr=>∃ j:Nat,j<=n/\i = .int .i64 j/\Hid (∀ q,q<j->P (xs.getD q eB)=false)/\Hid (Below w.heap.size w wr)) (λi _=>n-(intOf i).toNat)
 case atStart=>exact ⟨0,Nat.zero_le _,rfl,hid (λq hq=>absurd hq (Nat.not_lt_zero _)),hid aH⟩
 case round =>
  obtain ⟨j,hj,rfl,HJ,HB⟩:=hrel;by_cases hlt:j<n
  .obtain ⟨b,off,rfl,hblt,hcj⟩:=H.out.at' j hlt;have hc':=(Below.cell (p:=⟨b,off+j,none⟩) HB.out hblt).trans hcj;have HM:Hid (j<xs.length):=hid (by rw [HL.out]; exact hlt);have H1:=hid (HE.out (xs.getD j eB) (zD HM.out) wr HB.out);obtain ⟨F,hF⟩:=ay (P (xs.getD j eB))
   rw [hF] at H1;have HF:=hid hF;obtain ⟨K,hK⟩:=ay (xs.getD j eB)
   rw [hK] at H1 hc';clear hK hcj hF;go_wp2_with fail
   refine H1.out.mono ?_;rintro e w5 ⟨rfl,hb5⟩;have ae:=hid (bst HB.out hb5);clear hb5 H1 HB hc';cases F with
   | false =>
    have sc:Hid (∀ q,q<j+1->P (xs.getD q eB)=false):=hid (λq hq=>by
     by_cases e:q=j
     .rw [e]; exact HF.out
     .exact HJ.out q (by omega))
    clear HF;go_wp2;go_roundw
    case rel=>exact ⟨j+1,by omega,by go_num,sc,ae⟩
    case measure=>simp [intOf]; omega
   | true =>
    go_wp2;go_ret;exact ⟨(j:Int),rfl,.inr ⟨j,rfl,HM.out,HF.out,HJ.out⟩,ae.out⟩
  .obtain rfl:j=n:=by omega
   go_wp2;go_ret;exact ⟨-1,rfl,.inl ⟨rfl,by rw [HL.out]; exact HJ.out⟩,HB.out⟩
theorem KX (P:aL->Bool) (c:Nat) (xs:List aL) (a:aK) (n cap:Nat) (w:World) (h:fH w a n cap xs)
  (hel:∀ s∈xs,∀ wz,Below w.heap.size w wz->Calls prog 61 #[.string s,.pointer (some ⟨c,0,none⟩)] wz λe w'=>e = .returned (.bool (P s))/\Below wz.heap.size wz w') :
  Calls prog 60 #[.slice a n cap,.func (Fn.func 61) #[] #[.pointer (some ⟨c,0,none⟩)]] w λe w'=>∃ i:Int,e = .returned (.int .i64 i)/\Vr P xs i/\Below w.heap.size w w':=by
 have hm:=h.2.1;have hnc:=h.1;have hl:=h.len;unfold maxLen at hm;have H:=hid h;have HL:=hid hl;have HE:=hid hel;clear h hl hel;go_enter func60,ntmps60;go_wp2;go_loopw [8] (λi wr=>∃ j:Nat,j<=n/\i = .int .i64 j/\Hid (∀ q,q<j->P (xs.getD q eB)=false)/\Hid (Below w.heap.size w wr)) (λi _=>n-(intOf i).toNat)
 case atStart=>exact ⟨0,Nat.zero_le _,rfl,hid (λq hq=>absurd hq (Nat.not_lt_zero _)),hid aH⟩
 case round =>
  obtain ⟨j,hj,rfl,HJ,HB⟩:=hrel;by_cases hlt:j<n
  .obtain ⟨b,off,rfl,hblt,hcj⟩:=H.out.at' j hlt;have hc':=(Below.cell (p:=⟨b,off+j,none⟩) HB.out hblt).trans hcj;have HM:Hid (j<xs.length):=hid (by rw [HL.out]; exact hlt);have H1:=hid (HE.out (xs.getD j eB) (zD HM.out) wr HB.out);obtain ⟨F,hF⟩:=ay (P (xs.getD j eB))
   rw [hF] at H1;have HF:=hid hF;obtain ⟨K,hK⟩:=ay (xs.getD j eB)
   rw [hK] at H1 hc';clear hK hcj hF;go_wp2_with fail
   refine H1.out.mono ?_;rintro e w5 ⟨rfl,hb5⟩;have ae:=hid (bst HB.out hb5);clear hb5 H1 HB hc';cases F with
   | false =>
    have sc:Hid (∀ q,q<j+1->P (xs.getD q eB)=false):=hid (λq hq=>by
     by_cases e:q=j
     .rw [e]; exact HF.out
     .exact HJ.out q (by omega))
    clear HF;go_wp2;go_roundw
    case rel=>exact ⟨j+1,by omega,by go_num,sc,ae⟩
    case measure=>simp [intOf]; omega
   | true =>
    go_wp2;go_ret;exact ⟨(j:Int),rfl,.inr ⟨j,rfl,HM.out,HF.out,HJ.out⟩,ae.out⟩
  .obtain rfl:j=n:=by omega
   go_wp2;go_ret;exact ⟨-1,rfl,.inl ⟨rfl,by rw [HL.out]; exact HJ.out⟩,HB.out⟩
theorem qZ:prog.underlying 28=some (.slice (prog.elem 28)):=by kernel_rfl
theorem Ab (w:World):(sizeOf (prog.elem 28)).run prog w = .ok 1 w:=by kernel_rfl
theorem Pm (w:World):(zeroValue (prog.elem 28)).run prog w = .ok (.string eB) w:=by kernel_rfl
theorem Ie (N:Nd) (a:aK) (n c:Nat) (hl:N.ks.length=16) (w:World):Calls prog 133 #[.agg (ndC N a n c)] w (CV w (bI N.ks)):=by
 obtain ⟨i0,hi,hz0,hz1,hz2⟩:=fP;have HI:Hid (_/\_/\_/\_):=hid ⟨hi,hz0,hz1,hz2⟩;have HO:Hid (dI (w.alloc (.cells (ndC N a n c) 69)) w.heap.size N a n c):=hid (Rg.Own.new _ _ _);have HL:=hid hl;clear hi hz0 hz1 hz2 hl;go_enter func133,ntmps133;go_wp2_with (refine aA (mg HO.out HL.out ⟨_,rfl,rfl⟩) ?_)
 go_loopw [3,8] (λv0 i wr=>∃ (j:Nat) (v:Value),v=v0/\j<=16/\i = .int .i64 j/\Hid (wr.ownsRow (w.heap.size+1) 9 1 v (bI (N.ks.take j)).length ((bI (N.ks.take j)).map Value.string))/\Below (w.heap.size+1) (w.alloc (.cells (ndC N a n c) 69)) wr) (λ_ i _=>16-(intOf i).toNat)
 case atStart=>exact ⟨0,_,rfl,Nat.zero_le _,rfl,hid (World.ownsRow_nil _ _ _ _),aH⟩
 case round =>
  obtain ⟨j,v,hv,hj,rfl,HR,hB⟩:=hrel;subst hv;have hsz:w.heap.size+1<=wr.heap.size:=by have:=hB.size; simp at this; omega
  by_cases hlt:j<16
  .have HS:=hid (qY N.ks j (by rw [HL.out]; exact hlt));have hkl:=xX N.ks j;obtain ⟨L,hL⟩:=ay (bI (N.ks.take j))
   rw [hL] at HS hkl HR;clear hL;by_cases hk:(N.ks.getD j eB).size=0
   .have cC:Hid (bI (N.ks.take (j+1))=L):=hid (by rw [HS.out,if_neg (by simpa using hk),List.append_nil]);have HE:Hid (N.ks.getD j eB=eB):=hid (dQ hk);clear hk;go_wp2_with (refine Rg.run rfl (.string (N.ks.getD j eB)) _ (eG HL.out hlt ⟨_,_,rfl,rfl,rfl⟩) ?_; rw [HE.out])
    go_roundw
    case rel=>exact ⟨j+1,_,rfl,by omega,by go_num,by rw [cC.out]; exact HR,hB⟩
    case measure=>simp [intOf]; omega
   .have cC:Hid (bI (N.ks.take (j+1))=L++[N.ks.getD j eB]):=hid (by rw [HS.out,if_pos hk]);have hne:=Ni.dJ (s:=N.ks.getD j eB) (by omega);obtain ⟨K,hK⟩:=ay (N.ks.getD j eB)
    have HK:=hid hK;rw [hK] at hne cC;clear hK hk HS;go_wp2_with (first
     | (refine Rg.run rfl (.string (N.ks.getD j eB)) _ (eG HL.out hlt ⟨_,_,rfl,rfl,rfl⟩) ?_; rw [HK.out])
     | (at_builtin; refine wpList_append_own _ rfl _ _ 28 rfl (w.heap.size+1) 9 i0 (.string ⟨#[]⟩) 1 16 underlying28 HI.out.1 HI.out.2.1 HI.out.2.2.1 HI.out.2.2.2 rfl (by decide) _ _ _ rfl (HR.out.alloc _) ⟨wr.heap.size,0,none⟩ 1 1 [.string K] rfl rfl ?d1 ?d2 ?d3 ?d4 ?d5 ?_))
    case d1=>exact Bu.cell_one_new' _ _ _ _
    case d2=>intro u hu; simp at hu; subst hu; rfl
    case d3=>unfold maxLen; omega
    case d4=>omega
    case d5=>simp; omega
    intro v' w2 hown2 hgrow _;have hlt':=HR.out.lt;go_wp2;go_roundw
    case rel=>exact ⟨j+1,_,rfl,by omega,by go_num,hid (by rw [cC.out,List.length_append,List.map_append]; exact hown2),(hB.alloc hsz _).grown hgrow (by simp; omega) (λg hg=>(hlt' g hg).1)⟩
    case measure=>simp [intOf]; omega
  .obtain rfl:j=16:=by omega
   have hO:=HR.out;rw [List.take_of_length_le (by rw [HL.out]; exact aG)] at hO;have Y8:Hid (CV w (bI N.ks) (.returned v) wr):=hid ⟨_,rfl,zL hO (Nat.le_succ _),oG hB⟩;clear hO;go_wp2;go_ret;exact Y8.out
theorem JE {M:Mp} {w:World} {b n:Nat} {f:Fs} {D:DataW Value} (hS:ShS M w b f n D) (c:Nat) (hc:w.cell? ⟨c,0,none⟩=some (.map (some b))) (s:aL) (hs:s.size<=1000000) :
  Calls prog 154 #[.string s,.pointer (some ⟨c,0,none⟩)] w λe w'=>e = .returned (.bool (gone f s))/\Below w.heap.size w w':=by
 have hs':s.size<=maxLen:=by unfold maxLen; omega
 have HB0:=hid (qB w w.heap.size rfl);have fW:=hid hS.own;cases hf:f s with
 | none =>
  have HH:=hid (hS.none_ s hs' hf);have HG:Hid (gone f s=true):=hid (by unfold gone; rw [hf]);rw [HG.out];clear hS hf HG;go_enter func154,ntmps154;go_wp2_with (first
   | (refine aA (Ar fW.out hs' HH.out ⟨_,_,rfl,rfl,rfl⟩) ?_)
   | (refine aA (bR _ _ _ w.heap.size rfl rfl) ?_)
   | (refine cB HB0.out rfl eB none 0 rfl _ _ rfl rfl rfl rfl ?_; intro w1 af hu1; have HB1:Hid (Below w.heap.size w w1):=hid (hu1.below (al1 _ _) aG); clear af hu1))
  go_ret;exact ⟨rfl,HB1.out⟩
 | some x =>
  obtain ⟨e,t,lv⟩:=x;obtain ⟨hh,p,_,hat⟩:=hS.some_ s e t lv hs' hf;have HH:=hid hh;have HA:=hid hat;have HG:Hid (gone f s=decide (0<lv)):=hid (by unfold gone; rw [hf]);rw [HG.out];obtain ⟨g,hg⟩:=ay (decide (0<lv))
  have hg2:decide ((0:Int)<(lv:Int))=g:=by rw [<-hg]; simp
  rw [hg];clear hS hf HG hh hat;go_enter func154,ntmps154;go_wp2_with (first
   | (refine aA (BU fW.out hs' HH.out HA.out ⟨_,_,rfl,rfl,rfl⟩) ?_)
   | (refine aA (bR _ _ _ w.heap.size rfl rfl) ?_)
   | (refine cB HB0.out rfl e p lv rfl _ _ rfl rfl rfl rfl ?_; intro w1 af hu1; have c2:w1.cell? ⟨w.heap.size,2,none⟩=some (.int .i64 lv):=aV (j:=2) af rfl; have HB1:Hid (Below w.heap.size w w1):=hid (hu1.below (al1 _ _) aG); clear af hu1))
  go_ret;exact ⟨rfl,HB1.out⟩
def rJ (w:World) (g cap:Nat) (xs:List aL):Prop :=
 ∃ cur,Rg.Own w g cur 9/\cur.size=cap/\xs.length<=cap/\cap<=maxLen/\∀ j,j<xs.length->cur[j]? = some (.string (xs.getD j eB))
theorem Xd {xs:List aL} (h:w.ownsRow B 9 1 (.slice (some ⟨g,0,none⟩) n cap) n (xs.map Value.string)):rJ w g cap xs/\B<=g/\xs.length=n:=by
 obtain ⟨h1,h2⟩:=h;have hl:xs.length=n:=by simpa using h1
 rcases h2 with ⟨h2,_⟩ | ⟨g',cap',cur,e,hg,hh,hnc,hcm,hsz,htk⟩
 .cases h2
 .injection e with e1 e2 e3;injection e1 with e1;injection e1 with e1;subst e1 e3;refine ⟨⟨cur,⟨(Array.getElem?_eq_some_iff.1 hh).1,hh⟩,by omega,by omega,hcm,λj hj=>?_⟩,hg,hl⟩;rw [<-Array.getElem?_toList];have h3:=congrArg (λl:List Value=>l[j]?) htk;simp only [List.getElem?_take_of_lt (show j<n*1 by omega)] at h3;rw [h3];simp [List.getD,hj]
theorem rJ.lt {xs:List aL} (h:rJ w g cap xs):g<w.heap.size:=by
 obtain ⟨cur,hO,_⟩:=h;exact hO.1
theorem rJ.below {w w':World} {g cap:Nat} {xs:List aL} (h:rJ w g cap xs) (hb:Below w.heap.size w w'):rJ w' g cap xs:=by
 obtain ⟨cur,hO,h1⟩:=h;exact ⟨cur,hO.below hb,h1⟩
theorem rJ.cell {qs:List aL} (h:rJ w g cap qs) (hj:j<qs.length):w.cell? ⟨g,j,none⟩=some (.string (qs.getD j eB)):=by
 obtain ⟨cur,hO,hs,hl,hm,hc⟩:=h;rw [cell_of_row w g _ _ _ _ hO.2];exact hc j hj
theorem rJ.own {qs:List aL} (h:rJ w g cap qs):∃ cur,Rg.Own w g cur 9/\cur.size=cap/\qs.length<=cap/\cap<=maxLen:=by
 obtain ⟨gh,am,hs0,hl,hm,hc⟩:=h;exact ⟨gh,am,hs0,hl,hm⟩
theorem rJ.row {xs:List aL} (h:rJ w g cap xs) (hB:B<=g):w.ownsRow B 9 1 (.slice (some ⟨g,0,none⟩) xs.length cap) xs.length (xs.map Value.string):=by
 obtain ⟨cur,hO,hs,hl,hm,hc⟩:=h;refine ⟨by simp,.inr ⟨g,cap,cur,rfl,hB,hO.2,hl,hm,by omega,?_⟩⟩;apply List.ext_getElem?;intro j;by_cases hj:j<xs.length
 .rw [List.getElem?_take_of_lt (by omega),Array.getElem?_toList,hc j hj];simp [List.getD,hj]
 .rw [List.getElem?_eq_none (by rw [List.length_take]; omega),List.getElem?_eq_none (by simp; omega)]
theorem rJ.cut {k:Nat} {qs:List aL} (h:rJ w g cap qs) (hO:Rg.Own w g cur 9) (hk:k<=qs.length) (nm:Rg.Own w' g cur' 9) (hs:cur'.size=cap) (he:∀ j,j<k->cur'[j]? = cur[j]?):rJ w' g cap (qs.take k):=by
 obtain ⟨gh,am,hs0,hl,hm,hc⟩:=h;have e:gh=cur:=by
  have:=am.2.symm.trans hO.2;injection this with this;injection this
 subst e;refine ⟨cur',nm,hs,by rw [List.length_take]; omega,hm,λj hj=>?_⟩;have hjk:j<k:=by rw [List.length_take] at hj; omega
 have hjq:j<qs.length:=by omega
 rw [he j hjk,hc j hjq];simp [List.getD,hjk]
theorem Ig {rest:List Oper} {act:Go.Act} {Q:Exit->Go.Act->World->Prop} {xs:List aL} (h:rJ w g cap xs) (hof:i<xs.length) (s:aL)
  (hgd:o.guard=none) (x y:Operand) (ho:o.op = .store 9 x y) (hx:act.eval x = .pointer (some ⟨g,i,none⟩)) (hy:act.eval y = .string s)
  (hQ:∀ w',rJ w' g cap (xs.set i s)->Rg.Upd w g w'->wpList prog ops Q rest (act.put o.dst undef) w'):wpList prog ops Q (o::rest) act w:=by
 obtain ⟨cur,hO,hs,hl,hm,hc⟩:=h;refine wpList_plain hgd λK hK=>?_;unfold Oper.wp execOp;simp only [ho,hx,hy,Sem.run_bind,Sem.run_pure,Result.andThen_ok,nS hO (o:=i) (by omega) s];refine hK _ _ (hQ _ ⟨_,dx hO _,by simp [hs],by simpa using hl,hm,λj hj=>?_⟩ (bO _ _ _ _));have hj':j<xs.length:=by simpa using hj
 by_cases e:j=i
 .subst e;rw [Array.getElem?_setIfInBounds_self_of_lt (by omega)];simp [List.getD,hj']
 .rw [Array.getElem?_setIfInBounds_ne (by omega),hc j hj'];simp [List.getD,List.getElem?_set_ne (Ne.symm e)]
theorem Ji {rest:List Oper} {a:Go.Act} {Q:Exit->Go.Act->World->Prop} (hgd:o.guard=none)
  (ho:∃ s,o.op = .call { callee:=.builtin .clear,args:=#[s],argTypes:=#[28] }/\a.eval s = .slice (dY (some ⟨g,0,none⟩) cap i) (n-i) (cap-i)) (hd:o.dst=none) (h0:i<n)
  (hO:Rg.Own w g cur 9) (hs:cur.size=cap) (hn:n<=cap) (H:∀ w' cur',Rg.Own w' g cur' 9->cur'.size=cap->(∀ j,j<i->cur'[j]? = cur[j]?)->Rg.Upd w g w'->wpList prog ops Q rest a w'):wpList prog ops Q (o::rest) a w:=by
 obtain ⟨s,ho,hx⟩:=ho;have hf:dY (some ⟨g,0,none⟩) cap i=some ⟨g,i,none⟩:=by
  unfold dY;rw [if_neg (by omega)];simp [Addr.add_mid]
 rw [hf] at hx;refine wpList_plain hgd λK hK=>?_;have hr:=Lib.run_clear_slice (P:=prog) w 28 (prog.elem 28) o.type (.string eB) qZ Pm rfl rfl g i (n-i) (cap-i) (by omega) (λj hj=>by
  rw [cell_of_row w g _ _ _ _ hO.2,Array.getElem?_eq_getElem (by omega)];rfl) (λj hj=>gV hO)
 obtain ⟨cs',h1,h2,h3⟩:=qH (List.replicate (n-i) (.string eB)) i w cur hO;unfold Oper.wp execOp;simp only [ho,resolve,invoke,builtin,Sem.run_bind,Sem.run_pure,Result.andThen_ok,List.map_toArray,List.map_cons,List.map_nil,hx,hr];refine hK _ _ ?_;rw [show a.put o.dst (.tuple #[])=a by rw [hd]; rfl];exact H _ cs' h1 (by rw [h2,hs]) h3 (qP g (List.replicate (n-i) (.string eB)) i w)
theorem Qz {qs ps:List aL} (h:qs.drop j=ps.drop j):qs.getD j eB=ps.getD j eB/\qs.drop (j+1)=ps.drop (j+1):=by
 constructor
 .have:=congrArg (λl=>l[0]?) h;simp only [List.getElem?_drop,Nat.add_zero] at this;rw [List.getD_eq_getElem?_getD,List.getD_eq_getElem?_getD,this]
 .have:=congrArg (λl=>l.drop 1) h;simpa [List.drop_drop] using this
theorem Qv {qs:List aL} {k:Nat} (hk:k<qs.length) (p:aL):(qs.set k p).take (k+1)=qs.take k++[p]:=by
 rw [List.take_succ_eq_append_getElem (by simpa using hk),List.getElem_set_self,List.take_set_of_le (Nat.le_refl k)]
theorem Es {ps:List aL} (h:j<ps.length):ps.take (j+1)=ps.take j++[ps.getD j eB]:=by
 have e:ps.getD j eB=ps[j]:=by simp [List.getD,h]
 rw [e,List.take_succ_eq_append_getElem h]
theorem filter_none {P:aL->Bool} {xs:List aL} (hi:i<=xs.length) (h:∀ j,j<i->P (xs.getD j eB)=false):(xs.take i).filter (λs=>!P s)=xs.take i:=List.filter_eq_self.2 λs hs=>by
 obtain ⟨j,hj,rfl⟩:=List.getElem_of_mem hs;have hj':j<i:=by rw [List.length_take] at hj; omega
 have:=h j hj';rw [show xs.getD j eB=(xs.take i)[j] by simp [List.getD,show j<xs.length by omega]] at this;rw [this]; rfl
theorem vN (P:aL->Bool) (c:Nat) (xs:List aL) (hxn:xs.length<=1000) (B:Nat) (v:Value) (w:World) (h:w.ownsRow B 9 1 v xs.length (xs.map Value.string)) (hB:B<=w.heap.size)
  (hel:∀ s∈xs,∀ wz,Below B w wz->w.heap.size<=wz.heap.size->(∀ k,k<w.heap.size->v.ownBlock≠some k->wz.heap[k]? = w.heap[k]?)->Calls prog 154 #[.string s,.pointer (some ⟨c,0,none⟩)] wz λe w'=>e = .returned (.bool (P s))/\Below wz.heap.size wz w') :
  Calls prog 153 #[v,.func (Fn.func 154) #[] #[.pointer (some ⟨c,0,none⟩)]] w λe w'=>∃ v',e = .returned v'/\w'.ownsRow B 9 1 v' (xs.filter λs=>!P s).length ((xs.filter λs=>!P s).map Value.string)/\Below B w w':=by
 obtain ⟨a,n,cap,rfl,hst⟩:∃ a n cap,v = .slice a n cap/\fH w a n cap xs:=by
  obtain ⟨a,c,e,hb⟩:=fH.mQ h;exact ⟨a,_,c,e,hb⟩
 have hl:=hst.len;rw [hl] at h hxn;have HX:=hid (FY P c xs a n cap w hst (λs hs wz hb=>hel s hs wz (hb.mono hB) hb.size λk hk _=>hb.block k hk));have H:=hid h;have HL:=hid hl;have Y9:=hid hel;have hnc:=hst.1;have hcm:=hst.2.1;unfold maxLen at hcm;clear h hl hst hel;go_enter func153,ntmps153;go_wp2_with fail
 refine HX.out.mono ?_;rintro e w1 ⟨r,rfl,hr,hb1⟩;have HB1:=hid hb1;clear HX hb1;rcases hr with ⟨rfl,hno⟩ | ⟨i,rfl,hi,hyes,hno⟩
 .have HE:Hid (∃ v',Ending.returned (.slice a n cap) = .returned v'/\w1.ownsRow B 9 1 v' (xs.filter λs=>!P s).length ((xs.filter λs=>!P s).map Value.string)/\Below B w w1):=hid (by
   have e1:(xs.filter λs=>!P s)=xs:=by
    have:=filter_none (P:=P) (xs:=xs) aG hno;rwa [List.take_length] at this
   rw [e1,HL.out];exact ⟨_,rfl,qA H.out HB1.out,HB1.out.mono hB⟩)
  clear hno;go_wp2;go_ret;exact HE.out
 .have hin:i<n:=by rw [<-HL.out]; exact hi
  obtain ⟨g,rfl⟩:∃ g,a=some ⟨g,0,none⟩:=by
   rcases H.out.2 with ⟨h1,h2⟩ | ⟨g,_,_,h1,_⟩
   .omega
   .injection h1 with h1;exact ⟨g,h1⟩
  obtain ⟨hX0,hBg,_⟩:=Xd H.out;have hgw:=hX0.lt;have HR1:=hid (hX0.below HB1.out);have yy:Hid (Bo g w w1):=hid (Bo.of HB1.out);have HK:Hid (xs.take i=(xs.take (i+1)).filter λs=>!P s):=hid (by
   rw [Es (by rw [HL.out]; exact hin),List.filter_append,filter_none (by omega) hno];simp only [List.filter_cons,hyes,Bool.not_true,Bool.false_eq_true,if_false,List.filter_nil,List.append_nil])
  have hne:decide ((i:Int) = -1)=false:=decide_eq_false (by omega);have hne2:((i:Int) == -1)=false:=by simp
  clear hno hyes hi hX0 H;go_wp2_with fail
  go_loopw [5,6] (λvi vj wr=>∃ (k j:Nat) (qs:List aL),vi = .int .i64 k/\vj = .int .i64 j/\k<j/\j<=n/\qs.length=n/\Hid (rJ wr g cap qs)/\Hid (qs.take k=(xs.take j).filter λs=>!P s)/\Hid (qs.drop j=xs.drop j)/\Hid (Bo g w wr)) (λ_ vj _=>n-(intOf vj).toNat)
  case atStart=>exact ⟨i,i+1,xs,rfl,by go_num,by omega,by omega,HL.out,HR1,HK,hid rfl,yy⟩
  case round =>
   obtain ⟨k,j,qs,rfl,rfl,hkj,hj,fN,fR,j2,xt,HB⟩:=hrel;clear HK HR1 HB1 yy;have hgr:g<wr.heap.size:=fR.out.lt;by_cases hlt:j<n
   .have hji:(j:Int)<n:=by omega
    have hki:(k:Int)<n:=by omega
    have hdd:=Qz xt.out;have hc':=fR.out.cell (j:=j) (by omega);rw [hdd.1] at hc';have s7:=hid hdd.2;have HS:=hid (Es (ps:=xs) (j:=j) (by rw [HL.out]; exact hlt));have hm:xs.getD j eB∈xs:=zD (by rw [HL.out]; exact hlt);have hbw:Below B w wr:=HB.out.below aH hB hBg;have H1:=hid (Y9.out (xs.getD j eB) hm wr hbw HB.out.size λq hq hne=>HB.out.block q hq λe=>hne (by rw [e]; rfl));obtain ⟨K,hK⟩:=ay (xs.getD j eB)
    rw [hK] at H1 hc' HS;obtain ⟨F,hF⟩:=ay (P K)
    rw [hF] at H1;have HF:=hid hF;clear hK hm hdd hbw hF;go_wp2_with fail
    refine H1.out.mono ?_;rintro e w5 ⟨rfl,hb5⟩;have ae:Hid (Bo g w w5):=hid (HB.out.then hb5);have dp:=hid (fR.out.below hb5);clear hb5 H1 HB hc' fR;cases F with
    | true =>
     have ol:Hid (qs.take k=(xs.take (j+1)).filter λs=>!P s):=hid (by
      rw [HS.out,List.filter_append,j2.out];simp only [List.filter_cons,HF.out,Bool.not_true,Bool.false_eq_true,if_false,List.filter_nil,List.append_nil])
     clear HF;go_wp2_with fail
     go_roundw
     case rel=>exact ⟨k,j+1,qs,rfl,by go_num,by omega,by omega,fN,dp,ol,s7,ae⟩
     case measure=>simp [intOf]; omega
    | false =>
     have ol:Hid ((qs.set k K).take (k+1)=(xs.take (j+1)).filter λs=>!P s):=hid (by
      rw [HS.out,List.filter_append,Qv (by omega),j2.out];simp only [List.filter_cons,HF.out,Bool.not_false,if_true,List.filter_nil])
     have HD2:Hid ((qs.set k K).drop (j+1)=xs.drop (j+1)):=hid (by rw [List.drop_set_of_lt (by omega)]; exact s7.out);clear HF;go_wp2_with (first
      | (refine Ig dp.out (i:=k) (by omega) K rfl _ _ rfl rfl rfl ?_; intro w7 fc dc; have cM:=hid fc; have sd:Hid (Bo g w w7):=hid (ae.out.upd dc); clear fc dc))
     go_roundw
     case rel=>exact ⟨k+1,j+1,qs.set k K,by go_num,by go_num,by omega,by omega,by simpa using fN,cM,ol,HD2,sd⟩
     case measure=>simp [intOf]; omega
   .obtain rfl:j=n:=by omega
    have hT:=j2.out;rw [List.take_of_length_le (l:=xs) (by rw [HL.out]; exact aG)] at hT;have hkl:(xs.filter λs=>!P s).length=k:=by rw [<-hT,List.length_take]; omega
    have HE:=hid hT;have cm:=hid hkl;obtain ⟨cur,hO,hs,_,_⟩:=fR.out.own;have HO:=hid hO;have Gk:=hid (λ(w':World) (cur':aN) (h1:Rg.Own w' g cur' 9) (h2:cur'.size=cap) (h3:∀ j,j<k->cur'[j]? = cur[j]?)=>fR.out.cut hO (by omega) h1 h2 h3);have hlc:j<=cap:=by omega
    clear hT hkl hO j2 xt fR;go_wp2_with (first
     | (refine aA (jL (a:=some ⟨g,0,none⟩) (n:=j) (c:=cap) (i:=k) qZ Ab (by omega) ⟨_,_,rfl,rfl,rfl⟩) ?_)
     | (refine aA (qR (a:=some ⟨g,0,none⟩) (n:=j) (c:=cap) (j:=k) qZ Ab (by omega) ⟨_,_,rfl,rfl,rfl⟩) ?_)
     | (refine Ji (i:=k) (n:=j) rfl ⟨_,rfl,rfl⟩ rfl hkj HO.out hs hlc ?_; intro w8 se eh qr xw gd; have np:=hid (Gk.out w8 se eh qr xw); have sf:Hid (Bo g w w8):=hid (HB.out.upd gd); clear eh qr xw gd))
    go_ret;have PF:=np.out;rw [HE.out] at PF;have hrow:=PF.row hBg;rw [cm.out] at hrow ⊢;exact ⟨_,rfl,hrow,sf.out.below aH hB hBg⟩
end Tm
end
end Go.Proofs.YtoipgepkhomfgaaGreatDoor
