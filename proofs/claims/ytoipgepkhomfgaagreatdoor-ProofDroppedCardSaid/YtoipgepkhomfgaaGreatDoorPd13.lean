/-
 The contracts of root.dropped, root.Whole, root.Of, root.Same.
-/
import Derived.Test.YtoipgepkhomfgaaGreatDoorPd12
open Go.Lib (hid)
open Go.Proofs.Tryz
set_option linter.unusedSimpArgs false
set_option linter.unusedVariables false
set_option maxHeartbeats 40000000
set_option maxRecDepth 100000
namespace Go.Proofs.YtoipgepkhomfgaaGreatDoor
variable {w w':World} {B L c cap g i j lv:Nat} {a p:aK} {ev:Operand->Value} {o:Oper} {e:aL} {V v:Value} {ops:Array Oper} {cur cur':aN}
section
open Go.RowKit
namespace Tm
open Tr Ni Pk Ky No Rf Rl
open Sm (Tab)
def Wj (M:Mp) (w:World) (v:Value) (e:Ending) (w':World):Prop:=e = .returned v/\Fr M M w w'/\Inv M w'/\Tab w'
theorem Tab.upd (h:Tab w) (hu:Rg.Upd w g w') (hg:0<g):Tab w':=λi hi=>by
 rw [World.cell?_of_block (hu.block 0 (by omega))];exact h i hi
theorem Wj.upd {M:Mp} {w w1 w':World} {g:Nat} (hi:Inv M w) (h0:0<w.heap.size) (f:Fr M M w w1) (i:Inv M w1) (t:Tab w1) (hu:Rg.Upd w1 g w') (hg:w.heap.size<=g):Fr M M w w'/\Inv M w'/\Tab w' :=
 ⟨f.upd hu hg,i.upd hu (hi.free hg),Tab.upd t hu (by omega)⟩
theorem Whl.size {t:T} (h:Whl t):(bE t).size<=900000:=by
 by_cases hn:t = .nil
 .subst hn; exact Nat.zero_le _
 .exact (h.enc hn).2
theorem WA (M:Mp) (p:aK) (t:T) (hx:Whl t) (w:World) (hi:Inv M w) (ht:IsT M p t) (hT:Tab w):Calls prog 18 #[tv p] w (Wj M w (.agg (Sm.kc (fI (bE t))))):=by
 obtain ⟨w1,hw1⟩:=au ((w.alloc (.cells #[.pointer p] 35)).alloc (.cells (Sm.kc Sm.zk) 48))
 have hb1:Below w.heap.size w w1:=by rw [hw1]; exact al2 _ _ _
 have ab:Rg.Own w1 w.heap.size #[.pointer p] 35:=by rw [hw1]; exact (Rg.Own.new _ _ _).below (al1 _ _)
 have hS1:Rg.Own w1 (w.heap.size+1) (Sm.kc Sm.zk) 48:=by
  have:=Rg.Own.new (w.alloc (.cells #[.pointer p] 35)) (Sm.kc Sm.zk) 48;rw [hw1];simpa using this
 obtain ⟨L,hL,hg⟩:=hx.good;have HE:=hid (Im M p t L hg hL hx.fine w1 (hi.below hb1) ht (hT.below hb1 hT.pos));have HR:Hid (∀ w2,Tab w2->Calls prog 34 #[.string (bE t)] w2 λe w'=>e = .returned (.agg (Sm.kc (fI (bE t))))/\Below w2.heap.size w2 w'):=hid (λw2 h=>BA (bE t) hx.size w2 h);have cl:=hid (iJ (bE t))
 have HF:Hid (∀ w2 w3,Fr M M w1 w2->Inv M w2->Tab w2->Below w2.heap.size w2 w3->Rg.Own w3 (w.heap.size+1) (Sm.kc Sm.zk) 48/\∀ w4,Rg.Upd w3 (w.heap.size+1) w4->Fr M M w w4/\Inv M w4/\Tab w4):=hid (λw2 w3 f i t hb=>by
  have f0:=(Fr.below M hb1).trans hi f;exact ⟨(jM hS1 f (hi.out (by omega))).below hb,λw4 hu=>Wj.upd hi hT.pos (f0.LQ f0.size hb) (i.below hb) (t.below hb t.pos) hu (by omega)⟩)
 have bd:=hid ab;have HW:Hid (_=_):=hid hw1;obtain ⟨E,hE⟩:=ay (bE t)
 rw [hE] at HE HR cl ⊢;obtain ⟨K,hK⟩:=ay (fI E)
 rw [hK] at HR cl ⊢;clear hx hi ht hT hb1 ab hS1 hw1 hL hg hE hK;go_enter func18,ntmps18;go_wp2_with (first
  | (refine aA (Sm.jA _ _ rfl _ (w.heap.size+1) (by simp)) ?_; rw [<-HW.out])
  | (refine aA (aU (aV (j:=0) bd.out rfl) ⟨_,rfl,rfl⟩) ?_))
 refine HE.out.mono ?_;rintro e w2 ⟨rfl,f2,i2,t2⟩;have HH:Hid (Fr M M w1 w2/\Inv M w2/\Tab w2):=hid ⟨f2,i2,t2⟩;clear f2 i2 t2 HE bd;go_wp2_with fail
 refine (HR.out w2 HH.out.2.2).mono ?_;rintro e w3 ⟨rfl,hb3⟩;obtain ⟨hO3,r4⟩:=HF.out w2 w3 HH.out.1 HH.out.2.1 HH.out.2.2 hb3;have ag:=hid hO3;have eL:=hid r4;clear hO3 r4 hb3 HF HH HR;go_wp2_with (refine wpList_store_rowTo rfl 48 _ _ rfl rfl _ (Sm.kc K) rfl rfl 48 (Sm.kc Sm.zk) ag.out.2 (Sm.jk K cl.out) (by rw [Sm.iq,Sm.iq,cl.out]; rfl) (Sm.xg _) ?_)
 exact bodyPost_ret (results_cell_row rfl _ _ (w.heap.size+1) 48 (Sm.kc K) (0,0) _ rfl (setRow_heap _ _ _ _ _ _ ag.out.2) underlying48 rfl (Sm.jk K cl.out)) rfl ⟨rfl,eL.out _ (Rg.Upd.set _ _ _)⟩
def Yt (M:Mp) (w:World) (s:aL) (e:Ending) (w':World):Prop:=∃ b,e = .returned (.func (Fn.func 46) #[] #[.pointer (some ⟨b,0,none⟩)])/\Rg.Own w' b #[.string s] 9/\M.at_ b=none/\¬ M.ft b/\Fr M M w w'/\Inv M w'/\Tab w'
theorem dX (M:Mp) (p:aK) (t:T) (L:Nat) (g:Tr.Good t L) (hL:L<=64) (f:Fine t) (w:World) (hi:Inv M w) (ht:IsT M p t) (hT:Tab w) :
  Calls prog 26 #[tv p] w (Yt M w (bE t)):=by
 have hA1:=al1 w (.cells #[.pointer p] 35);have h0:=fB w p;have HE:=hid (Im M p t L g hL f (w.alloc (.cells #[.pointer p] 35)) (hi.below hA1) ht (hT.below hA1 hT.pos));have HF:Hid (∀ w2 (E:aL),Fr M M (w.alloc (.cells #[.pointer p] 35)) w2->Inv M w2->Tab w2->M.at_ w2.heap.size=none/\¬ M.ft w2.heap.size/\Fr M M w (w2.alloc (.cells #[.string E] 9))/\Inv M (w2.alloc (.cells #[.string E] 9))/\Tab (w2.alloc (.cells #[.string E] 9))):=hid (λw2 E f i t=>by
  have f0:=(Fr.below M hA1).trans hi f;have hb:=al1 w2 (.cells #[.string E] 9);exact ⟨i.out aG,i.free aG,f0.LQ f0.size hb,i.below hb,t.below hb t.pos⟩)
 obtain ⟨E,hE⟩:=ay (bE t)
 rw [hE] at HE ⊢;clear hE g hL f hi ht hT hA1;go_enter func26,ntmps26;go_wp2_with (first
  | (refine aA (aU h0 ⟨_,rfl,rfl⟩) ?_))
 refine HE.out.mono ?_;rintro e w2 ⟨rfl,f2,i2,t2⟩;have fb:=hid (HF.out w2 E f2 i2 t2);clear HE HF h0 f2 i2 t2;go_wp2;go_ret;exact ⟨w2.heap.size,rfl,Rg.Own.new _ _ _,fb.out⟩
theorem jc (b:Nat) (r s:aL) (w:World) (hc:w.cell? ⟨b,0,none⟩=some (.string r)) :
  Calls prog 46 #[.string s,.pointer (some ⟨b,0,none⟩)] w λe w'=>e = .returned (.bool (decide (s=r\/32<=s.size)))/\Below w.heap.size w w':=by
 by_cases h:s=r
 .have HD:Hid (decide (s=r\/32<=s.size)=true):=hid (aJ (.inl h));subst h;rw [HD.out];clear HD;go_enter func46,ntmps46;go_wp2;go_ret;exact ⟨rfl,aH⟩
 .have hne:=FB h;by_cases h32:32<=s.size
  .have HD:Hid (decide (s=r\/32<=s.size)=true):=hid (aJ (.inr h32));have q1:decide ((32:Int)<=(s.size:Int))=true:=aJ (by omega);have P5:decide (32<=s.size)=true:=aJ h32;rw [HD.out];clear HD;go_enter func46,ntmps46;go_wp2;go_ret;exact ⟨rfl,aH⟩
  .have HD:Hid (decide (s=r\/32<=s.size)=false):=hid (decide_eq_false (λe=>e.elim h h32));have q1:decide ((32:Int)<=(s.size:Int))=false:=decide_eq_false (by omega);have P5:decide (32<=s.size)=false:=decide_eq_false h32;rw [HD.out];clear HD;go_enter func46,ntmps46;go_wp2;go_ret;exact ⟨rfl,aH⟩
end Tm
end
section
namespace Tr
open Rf Rl Ni No
end Tr
end
section
namespace Tr
open Rf Rl Ni No
def Xp (l:List aL):List aL:=l.filter λx=>decide (32<=x.size)
end Tr
end
section
namespace Tr
open Rf Rl Ni No
def fG:T->Nat
 | .nil=>0
 | .leaf _ _=>0
 | .ext _ t=>fG t
 | .br ks=>((List.finRange 16).map λi=>fG (ks i)).sum
 | .stub _=>1
def bG:T->Pa->List Nd
 | .nil,_=>[]
 | .leaf p v,_=>[bg (.leaf p v)]
 | .ext q t,w=>bg (.ext q t)::if q<+:w then bG t (w.drop q.length) else []
 | .br ks,[]=>[bg (.br ks)]
 | .br ks,c::w=>bg (.br ks)::bG (ks (nb c)) w
 | .stub _,_=>[]
theorem uJ:∀ t:T,Full t->fG t=0
 | .nil,_=>rfl
 | .leaf _ _,_=>rfl
 | .ext _ t,f=>uJ t f
 | .br ks,f=>by
  have e:((List.finRange 16).map λi=>fG (ks i))=(List.finRange 16).map λ_=>0:=List.map_congr_left λi _=>uJ (ks i) (f i);show ((List.finRange 16).map λi=>fG (ks i)).sum=0;rw [e];decide
 | .stub _,f=>f.elim
end Tr
end
section
open Go.RowKit
namespace Tm
open Tr Ni Pk Ky No
theorem Tn:(prog.info? 69).map (λi=>(i.size,i.bytes))=some (19,304):=by kernel_rfl
theorem FC:((prog.info? 69).bind (·.zero)).isSome=true:=by kernel_rfl
theorem BQ:((prog.info? 69).bind (·.zero)).map (·.cells.size)=some 19:=by kernel_rfl
theorem Ch:∃ i z,prog.info? 69=some i/\i.zero=some z/\i.size=19/\i.bytes=304/\z.cells.size=19:=by
 have h1:=Tn;have h2:=FC;have h3:=BQ;cases hi:prog.info? 69 with
 | none=>rw [hi] at h1; simp at h1
 | some i =>
  rw [hi] at h1 h2 h3;simp at h1 h2 h3;cases hz:i.zero with
  | none=>rw [hz] at h2; simp at h2
  | some z =>
   rw [hz] at h3;simp at h3;exact ⟨i,z,rfl,hz,h1.1,h1.2,h3⟩
def ndL (N:Nd) (h:Hdl):List Value:=.int .i64 N.kd :: .slice h.1 h.2.1 h.2.2 :: .string N.v::N.ks.map Value.string
theorem vo {N:Nd} {h:Hdl} (hl:N.ks.length=16):(ndL N h).length=19:=by simp [ndL,hl]
theorem Xx (N:Nd) (h:Hdl):∀ u∈ndL N h,u.oneCell'=true:=λu hu=>by
 unfold ndL at hu;simp only [List.mem_cons,List.mem_map] at hu;rcases hu with rfl | rfl | rfl | ⟨_,_,rfl⟩ <;> rfl
abbrev Nz:Type:=Nd × Hdl
def nz0:Nz:=(nd0,(none,0,0))
def LH (z:List Nz):List Value:=z.flatMap λp=>ndL p.1 p.2
theorem Od:∀ (z:List Nz),(∀ p∈z,p.1.ks.length=16)->∀ j i,j<z.length->i<19->(LH z)[j*19+i]? = (ndL (z.getD j nz0).1 (z.getD j nz0).2)[i]?
 | [],_,_,_,h,_=>absurd h (Nat.not_lt_zero _)
 | x::z,h,0,i,_,hi=>by
  show (ndL x.1 x.2++LH z)[0*19+i]? = _;rw [Nat.zero_mul,Nat.zero_add,List.getElem?_append_left (by rw [vo (h x List.mem_cons_self)]; exact hi)];rfl
 | x::z,h,j+1,i,hj,hi=>by
  show (ndL x.1 x.2++LH z)[(j+1)*19+i]? = _;have hx:=vo (h:=x.2) (h x List.mem_cons_self);rw [List.getElem?_append_right (by omega),hx,show (j+1)*19+i-19=j*19+i by omega,Od z (λy hy=>h y (List.mem_cons_of_mem _ hy)) j i (by simpa using hj) hi];rfl
def tH (w:World) (a:aK) (n c:Nat) (l:List Nd):Prop :=
 n<=c/\c<=maxLen/\(a=none->c=0)/\∃ z:List Nz,z.map Prod.fst=l/\z.length=n/\(∀ p∈z,p.1.ks.length=16/\bf w p.2.1 p.2.2.1 p.2.2.2 p.1.p)/\
  ∀ j,j<n->∃ b off,a=some ⟨b,off,none⟩/\b<w.heap.size/\w.rangeAt b (off+j*19) (ndL (z.getD j nz0).1 (z.getD j nz0).2)
theorem tH.len {n:Nat} {l:List Nd} (h:tH w a n c l):l.length=n:=by
 obtain ⟨_,_,_,z,rfl,hz,_⟩:=h;rw [List.length_map,hz]
theorem tH.nil (w:World):tH w none 0 0 []:=⟨aG,Nat.zero_le _,λ_=>rfl,[],rfl,rfl,λ_ h=>(by cases h),λ_ h=>absurd h (Nat.not_lt_zero _)⟩
theorem jU {α:Type} {l:List α} {d : α} (h:j<l.length):l.getD j d∈l:=by
 rw [List.getD_eq_getElem?_getD,List.getElem?_eq_getElem h];exact List.getElem_mem _
theorem tH.at' {n:Nat} {l:List Nd} (h:tH w a n c l) (j:Nat) (hj:j<n):∃ b off g,a=some ⟨b,off,none⟩/\b<w.heap.size/\w.rangeAt b (off+j*19) (ndL (l.getD j nd0) g)/\(l.getD j nd0).ks.length=16/\bf w g.1 g.2.1 g.2.2 (l.getD j nd0).p:=by
 obtain ⟨_,_,_,z,rfl,hz,hp,hr⟩:=h;obtain ⟨b,off,e,hlt,hc⟩:=hr j hj;have hg:(z.map Prod.fst).getD j nd0=(z.getD j nz0).1:=by
  have:j<z.length:=by omega
  simp [List.getD,this]
 obtain ⟨h1,h2⟩:=hp _ (jU (d:=nz0) (show j<z.length by omega));exact ⟨b,off,(z.getD j nz0).2,e,hlt,by rw [hg]; exact hc,by rw [hg]; exact h1,by rw [hg]; exact h2⟩
theorem Rn {N:Nd} {h:Hdl} (hl:N.ks.length=16) (b:Nat) (hb:b=w.heap.size) (ho:∃ y,o.op = .buildSlice 65 1 #[(0,y)]/\ev y = .agg (ndC N h.1 h.2.1 h.2.2)) :
  (execOp ev o).run prog w = .ok (.value (.slice (some ⟨b,0,none⟩) 1 1)) (w.alloc (.cells (ndC N h.1 h.2.1 h.2.2) 69)):=by
 obtain ⟨y,ho,hx⟩:=ho;obtain ⟨kd,p,v,ks⟩:=N;subst hb;obtain ⟨x0,x1,x2,x3,x4,x5,x6,x7,x8,x9,x10,P6,P7,P8,dt,P9,rfl⟩:=sixteen ks hl;unfold execOp;simp only [ho,List.map_toArray,List.map_cons,List.map_nil,hx];kernel_rfl
end Tm
end
section
namespace Tr
open Rf Rl Ni No
end Tr
end
section
open Go.RowKit
namespace Tr
open Rf Rl Ni No
theorem at_len:∀ (t:T) (L:Nat) (w:Pa),Good t L->(bG t w).length<=w.length+1
 | .nil,_,_,_=>Nat.zero_le _
 | .leaf _ _,_,_,_=>by
  show 1<=_;omega
 | .ext q t,L,w,g=>by
  have hq:0<q.length:=List.length_pos_iff.2 g.1;have ih:=at_len t _ (w.drop q.length) g.2.2.2.2;rw [List.length_drop] at ih;show (_::if _ then _ else _).length<=_;by_cases h:q<+:w
  .rw [if_pos h,List.length_cons];have:=h.length_le;omega
  .rw [if_neg h];simp
 | .br ks,L,[],_=>aG
 | .br ks,L,c::w,g=>by
  have ih:=at_len (ks (nb c)) _ w (g.2.2 _);show (bG (ks (nb c)) w).length+1<=(w.length+1)+1;omega
 | .stub _,_,_,_=>Nat.zero_le _
end Tr
namespace Tm
open Tr Ni Pk Ky No
end Tm
end
section
namespace Tr
open Rf Rl Ni No
def mG (l:List Nd):List aL:=(l.take 1).map fU++Xp ((l.drop 1).map fU)
theorem UO (l:List Nd) (h:j<l.length):mG (l.take (j+1))=mG (l.take j)++if j=0\/32<=(fU (l.getD j nd0)).size then [fU (l.getD j nd0)] else []:=by
 have e:l.take (j+1)=l.take j++[l.getD j nd0]:=by
  have e1:l.getD j nd0=l[j]:=by simp [List.getD,h]
  rw [e1,List.take_succ_eq_append_getElem h]
 rw [e];generalize l.getD j nd0=x;by_cases hj:j=0
 .subst hj;rw [if_pos (.inl rfl),List.take_zero];rfl
 .have hl:1<=(l.take j).length:=by rw [List.length_take]; omega
  unfold mG;rw [List.take_append_of_le_length hl,List.drop_append_of_le_length hl,List.map_append,List.append_assoc];congr 1;unfold Xp;rw [List.filter_append];congr 1;by_cases h32:32<=(fU x).size
  .rw [if_pos (.inr h32),List.map_cons,List.map_nil,List.filter_cons_of_pos (by simpa using h32)]; rfl
  .rw [if_neg (λh=>h.elim hj h32),List.map_cons,List.map_nil,List.filter_cons_of_neg (by simpa using h32)]; rfl
theorem ES (l:List Nd):(mG l).length<=l.length:=by
 unfold mG Xp;rw [List.length_append,List.length_map];have:=List.length_filter_le (λx:aL=>decide (32<=x.size)) ((l.drop 1).map fU);rw [List.length_map,List.length_drop] at this;rw [List.length_take];omega
theorem zX:∀ (t:T) (L:Nat) (w:Pa),Good t L->L<=64->Fine t->∀ N∈bG t w,∃ (s:T) (K:Nat),N=bg s/\bE s=fU N/\s ≠ .nil/\¬ dQ s/\K<=64/\Good s K/\Fine s
 | .nil,_,_,_,_,_,_,h=>by cases h
 | .leaf p v,L,w,g,hL,f,N,h=>by
  rw [List.mem_singleton.1 h];exact ⟨_,L,rfl,rfl,λe=>(by cases e),λh=>h,hL,g,f⟩
 | .ext q t,L,w,g,hL,f,N,h=>by
  rcases List.mem_cons.1 h with rfl | h
  .exact ⟨_,L,rfl,rfl,λe=>(by cases e),λh=>h,hL,g,f⟩
  .by_cases hq:q<+:w
   .rw [if_pos hq] at h;exact zX t (L-q.length) (w.drop q.length) g.2.2.2.2 (by omega) f N h
   .rw [if_neg hq] at h;cases h
 | .br ks,L,[],g,hL,f,N,h=>by
  rw [List.mem_singleton.1 h];exact ⟨_,L,rfl,rfl,λe=>(by cases e),λh=>h,hL,g,f⟩
 | .br ks,L,c::w,g,hL,f,N,h=>by
  rcases List.mem_cons.1 h with rfl | h
  .exact ⟨_,L,rfl,rfl,λe=>(by cases e),λh=>h,hL,g,f⟩
  .exact zX (ks (nb c)) (L-1) w (g.2.2 _) (by omega) (f _) N h
 | .stub _,_,_,_,_,_,_,h=>by cases h
end Tr
end
section
namespace Tr
open Rf Rl Ni No
theorem Gc {xs:List It} {n:Nd} (h:eu xs=some n):∀ k∈n.ks,k=eB\/∃ x∈xs,kU x=some k:=by
 unfold eu at h;by_cases h2:xs.length=2
 .rw [if_pos h2] at h;unfold iw at h;split at h
  .cases h
  .split at h
   .obtain rfl:=Option.some.inj h;exact λk hk=>.inl (List.eq_of_mem_replicate hk)
   .obtain ⟨k,hk,rfl⟩:=Option.map_eq_some_iff.1 h;intro j hj;rcases List.mem_cons.1 hj with rfl | hj
    .exact .inr ⟨_,No.jU (by omega),hk⟩
    .exact .inl (List.eq_of_mem_replicate hj)
 .rw [if_neg h2] at h;by_cases fN:xs.length=17
  .rw [if_pos fN] at h;unfold dG at h;split at h
   .cases h
   .rename_i ks hks;split at h
    .obtain rfl:=Option.some.inj h;intro k hk;obtain ⟨x,hx,e⟩:=(Ab hks).2 k hk;exact .inr ⟨x,List.mem_of_mem_take hx,e⟩
    .cases h
  .rw [if_neg fN] at h; cases h
theorem Qh {s:aM} (hs:s.length<=4294967296) {n:Nd} (h:sO s=some n):∀ k∈n.ks,k.size≠0->k.size<s.length:=by
 obtain ⟨x,h1,h2,_⟩:=wI hs h;obtain ⟨g1,g2,_⟩:=lM hs h1;intro k hk h0;rcases Gc h2 k hk with rfl | ⟨y,hy,e⟩
 .exact absurd rfl h0
 .have hlt:=vQ g2 (by rw [g1]; exact hs) hy;rw [g1] at hlt;have hi:=kT y;unfold kU at e;split at e
  .split at e
   .have e:=Option.some.inj e;rw [<-e,Rl.vJ];exact hlt
   .cases e
  .split at e
   .have e:=Option.some.inj e;cases y with
    | mk l s' xs =>
     rw [inner_mk,List.length_append,iX] at hi;rw [<-e];show s'.size<_;omega
   .cases e
theorem Vy {t:T} (hn:t ≠ .nil) (hs:¬ dQ t):bE t=fU (bg t):=by
 cases t with
 | nil=>exact absurd rfl hn
 | stub r=>exact absurd trivial hs
 | leaf p v=>rfl
 | ext q t=>rfl
 | br ks=>rfl
theorem Eu {t s:T} {K:Nat} (g:Good t L) (hL:L<=64) (f:Fine t) (hn:t ≠ .nil) (hs:¬ dQ t) (g':Good s K) (hK:K<=64) (f':Fine s) (hn':s ≠ .nil) (hs':¬ dQ s) (hk:ref s∈(bg t).ks) (h:(bE t).size<32):(bE s).size<(bE t).size:=by
 have hm:=(eT t L g hL f hn).1 hs;have hsz:(bE t).size=(jB (bg t)).length:=by rw [Vy hn hs,wZ]
 have hu:=Qh (by omega) (No.get_put (cK t) hm) (ref s) hk (eT s K g' hK f' hn').2.2;rw [<-hsz] at hu;have hr:=iV hs';by_cases h32:(bE s).size<32
 .rw [hr] at hu;unfold ofP at hu;rw [if_pos h32] at hu;exact hu
 .exfalso;rw [hr] at hu;unfold ofP at hu;rw [if_neg h32] at hu;have hz:(⟨(oh (bE s)).toArray⟩:aL).size=32:=by
   have:(⟨(oh (bE s)).toArray⟩:aL).size=(oh (bE s)).length:=by show (oh (bE s)).toArray.size=_; simp
   rw [this,jX]
  omega
theorem yY {s:T} {w:Pa} {N:Nd} (h:N∈bG s w):s ≠ .nil/\¬ dQ s:=by
 cases s with
 | nil=>cases h
 | stub r=>cases h
 | leaf p v=>exact ⟨λe=>(by cases e),λh=>h⟩
 | ext q t=>exact ⟨λe=>(by cases e),λh=>h⟩
 | br ks=>exact ⟨λe=>(by cases e),λh=>h⟩
theorem Sn (q:Pa) (t:T):ref t∈(bg (.ext q t)).ks:=List.mem_cons_self ..
theorem YB (ks:Fin 16->T) (i:Fin 16):ref (ks i)∈(bg (.br ks)).ks:=List.mem_map.2 ⟨i,List.mem_finRange i,rfl⟩
theorem Nr:∀ (t:T) (L:Nat) (w:Pa),Good t L->L<=64->Fine t->(bE t).size<32->∀ N∈bG t w,(fU N).size<=(bE t).size
 | .nil,_,_,_,_,_,_,_,h=>by cases h
 | .leaf p v,L,w,g,hL,f,_,N,h=>by rw [List.mem_singleton.1 h]; exact aG
 | .ext q t,L,w,g,hL,f,h32,N,h=>by
  rcases List.mem_cons.1 h with rfl | h
  .exact aG
  .by_cases hq:q<+:w
   .rw [if_pos hq] at h;obtain ⟨h1,h2⟩:=yY h;have:=Eu (t:=.ext q t) g hL f (λe=>(by cases e)) (λh=>h) g.2.2.2.2 (by omega) f h1 h2 (Sn q t) h32;have:=Nr t (L-q.length) (w.drop q.length) g.2.2.2.2 (by omega) f (by omega) N h;omega
   .rw [if_neg hq] at h;cases h
 | .br ks,L,[],g,hL,f,_,N,h=>by rw [List.mem_singleton.1 h]; exact aG
 | .br ks,L,c::w,g,hL,f,h32,N,h=>by
  rcases List.mem_cons.1 h with rfl | h
  .exact aG
  .obtain ⟨h1,h2⟩:=yY h;have:=Eu (t:=.br ks) g hL f (λe=>(by cases e)) (λh=>h) (g.2.2 _) (by omega) (f _) h1 h2 (YB ks (nb c)) h32;have:=Nr (ks (nb c)) (L-1) w (g.2.2 _) (by omega) (f _) (by omega) N h;omega
 | .stub _,_,_,_,_,_,_,_,h=>by cases h
theorem aae (t:T) (L:Nat) (w:Pa) (g:Good t L) (hL:L<=64) (f:Fine t) (h32:(bE t).size<32):∀ N∈(bG t w).drop 1,(fU N).size<(bE t).size:=by
 intro N h
 match t,w,g,f,h32,h with
 | .nil,_,_,_,_,h=>cases h
 | .leaf p v,_,_,_,_,h=>cases h
 | .ext q t,w,g,f,h32,h =>
  have h:N∈(if q<+:w then bG t (w.drop q.length) else []):=h;by_cases hq:q<+:w
  .rw [if_pos hq] at h;obtain ⟨h1,h2⟩:=yY h;have:=Eu (t:=.ext q t) g hL f (λe=>(by cases e)) (λh=>h) g.2.2.2.2 (by omega) f h1 h2 (Sn q t) h32;have:=Nr t (L-q.length) (w.drop q.length) g.2.2.2.2 (by omega) f (by omega) N h;omega
  .rw [if_neg hq] at h;cases h
 | .br ks,[],_,_,_,h=>cases h
 | .br ks,c::w,g,f,h32,h =>
  have h:N∈bG (ks (nb c)) w:=h;obtain ⟨h1,h2⟩:=yY h;have:=Eu (t:=.br ks) g hL f (λe=>(by cases e)) (λh=>h) (g.2.2 _) (by omega) (f _) h1 h2 (YB ks (nb c)) h32;have:=Nr (ks (nb c)) (L-1) w (g.2.2 _) (by omega) (f _) (by omega) N h;omega
 | .stub _,_,_,_,_,h=>cases h
theorem UM {t:T} {w:Pa} {N:Nd} (h:(bG t w).getD 0 nd0=N) (hl:0<(bG t w).length):fU N=bE t:=by
 cases t with
 | nil=>cases hl
 | stub r=>cases hl
 | leaf p v=>rw [<-h]; rfl
 | ext q t=>rw [<-h]; rfl
 | br ks=>cases w with
  | nil=>rw [<-h]; rfl
  | cons c w=>rw [<-h]; rfl
theorem Xr {t:T} {w:Pa} (g:Good t L) (hL:L<=64) (f:Fine t) (hj:j<(bG t w).length):(fU ((bG t w).getD j nd0)=bE t\/32<=(fU ((bG t w).getD j nd0)).size)↔(j=0\/32<=(fU ((bG t w).getD j nd0)).size):=by
 constructor
 .rintro (h | h)
  .by_cases h0:j=0
   .exact .inl h0
   .by_cases h32:(bE t).size<32
    .have hm:(bG t w).getD j nd0∈(bG t w).drop 1:=by
      have e:(bG t w).getD j nd0=((bG t w).drop 1)[j-1]'(by rw [List.length_drop]; omega):=by
       rw [List.getElem_drop];simp [List.getD,hj,show 1+(j-1)=j by omega]
      rw [e];exact List.getElem_mem _
     have:=aae t L w g hL f h32 _ hm;rw [h] at this;omega
    .rw [<-h] at h32;exact .inr (by omega)
  .exact .inr h
 .rintro (h | h)
  .subst h;exact .inl (UM rfl hj)
  .exact .inr h
end Tr
end
section
open Go.RowKit Go.Maps
namespace Rf
open Rl Ni No Sh Sm
end Rf
end
section
open Go.RowKit Go.Maps
namespace Tm
open Tr Ni Pk Ky No Rf Rl
open Sm (Tab)
abbrev Ent:=aL × T × Nat
abbrev Fs:=aL->Option Ent
def mg (f:Fs) (k:aL) (v:Ent):Fs:=λs=>if s=k then some v else f s
def gone (f:Fs) (s:aL):Bool:=match f s with
 | none=>true
 | some (_,_,lv)=>decide (0<lv)
def qC (v:Value):Option (DataW Value × List MemPlace):=some (.held v,[])
def kK (s:aL):Lit:=.string s.data.toList
def bO (e:aL) (p:aK) (lv:Nat):aN:=#[.string e,.pointer p,.int .i64 lv]
theorem zh {s k:aL} (h:kK s=kK k):s=k:=by
 unfold kK at h;injection h with h;apply ByteArray.ext;exact Array.ext' h
theorem kof {s:aL} (hs:s.size<=maxLen):keyOf prog 9 (.string s)=some (kK s):=Go.WideMaps.keyOf_string_mk underlying9 hs
theorem Nk {s:aL} (hs:s.size<=maxLen):WideAt.IsKeyLit (kK s):=(string_keyed underlying9).key (kof hs)
theorem CB (w:World):(zeroValue 110).run prog w = .ok (.agg (bO eB none 0)) w:=by kernel_rfl
abbrev Shf (w:World) (b n:Nat) (D:DataW Value):Prop:=w.ownsMap prog 9 qC b n D
structure ShS (M:Mp) (w:World) (b:Nat) (f:Fs) (n:Nat) (D:DataW Value):Prop where
 own:Shf w b n D
 none_:∀ s,s.size<=maxLen->f s=none->Maps.has D (kK s)=false
 some_:∀ s e t lv,s.size<=maxLen->f s=some (e,t,lv)->Maps.has D (kK s)=true/\∃ p,IsT M p t/\∀ z,D.atKey (kK s) z = .held (.agg (bO e p lv))
 nf:¬ M.ft b
theorem ShS.lt {M:Mp} {w:World} {b:Nat} {f:Fs} {n:Nat} {D:DataW Value} (h:ShS M w b f n D):b<w.heap.size:=h.own.lt
theorem ShS.same {M M':Mp} {b:Nat} {f:Fs} {n:Nat} {D:DataW Value} (h:ShS M w b f n D) (hb:w'.heap[b]? = w.heap[b]?) (hm:∀ k t,M.at_ k=some t->M'.at_ k=some t) (hf:¬ M'.ft b):ShS M' w' b f n D:=by
 refine ⟨?_,h.none_,λs e t lv hs he=>?_,hf⟩
 .obtain ⟨es,clock,h1,h2⟩:=h.own;exact ⟨es,clock,hb.trans h1,h2⟩
 .obtain ⟨h1,p,h2,h3⟩:=h.some_ s e t lv hs he;exact ⟨h1,p,h2.mono hm,h3⟩
theorem ShS.below {M:Mp} {b:Nat} {f:Fs} {n:Nat} {D:DataW Value} (h:ShS M w b f n D) (hb:Below B w w') (hB:b<B):ShS M w' b f n D:=h.same (hb.block b hB) (λ_ _ h=>h) h.nf
theorem ShS.at_ {M:Mp} {b:Nat} {f:Fs} {n:Nat} {D:DataW Value} (h:ShS M w b f n D) (hi:Inv M w):M.at_ b=none:=nR hi h.nf
theorem ShS.frm {M M':Mp} {b:Nat} {f:Fs} {n:Nat} {D:DataW Value} (h:ShS M w b f n D) (hi:Inv M w) (g:Fr M M' w w'):ShS M' w' b f n D:=by
 refine h.same (g.block b h.lt (h.at_ hi)) g.mono (g.box h.nf h.lt λ⟨j,x,hc⟩=>?_);obtain ⟨es,clock,h1,_⟩:=h.own;rw [World.cell?,h1] at hc;cases hc
theorem ShS.put {M:Mp} {b:Nat} {f:Fs} {n:Nat} {D:DataW Value} {k:aL} {t:T} (h:ShS M w b f n D) (hk:k.size<=maxLen) (hO:Shf w' b (n+1) (D.put (kK k) (.held (.agg (bO e p lv))))) (ht:IsT M p t):ShS M w' b (mg f k (e,t,lv)) (n+1) (D.put (kK k) (.held (.agg (bO e p lv)))):=by
 have hD:=h.own.isMap;refine ⟨hO,λs hs hn=>?_,λs e' t' Wl hs he=>?_,h.nf⟩
 .unfold mg at hn;by_cases hsk:s=k
  .rw [if_pos hsk] at hn; cases hn
  .rw [if_neg hsk] at hn;rw [Maps.has_put_other (λe=>hsk (zh e))];exact h.none_ s hs hn
 .unfold mg at he;by_cases hsk:s=k
  .subst hsk;rw [if_pos rfl] at he;injection he with he;injection he with he1 he2;injection he2 with he2 gS;subst he1 he2 gS;exact ⟨Maps.has_put_same hD (Nk hk) _,p,ht,λz=>Maps.atKey_put_same hD (Nk hk) _ z⟩
  .rw [if_neg hsk] at he;obtain ⟨h1,q,h2,h3⟩:=h.some_ s e' t' Wl hs he;have hne:kK s≠kK k:=λe=>hsk (zh e);exact ⟨by rw [Maps.has_put_other hne]; exact h1,q,h2,λz=>by rw [Maps.atKey_put_other hne]; exact h3 z⟩
theorem qU {b n:Nat} {D:DataW Value} {s:aL} (h:Shf w b n D) (hs:s.size<=maxLen):∃ v,(Instr.lookup 113 (.map (some b)) (.string s) true).run prog w = .ok (.tuple #[v,.bool (Maps.has D (kK s))]) w/\(Instr.lookup 113 (.map (some b)) (.string s) false).run prog w = .ok v w/\.held v=D.atKey (kK s) (.held (.agg (bO eB none 0))):=by
 obtain ⟨v,ps,h1,h2⟩:=h.look_ok (string_keyed underlying9) underlying113 (CB w) (zd:=.held (.agg (bO eB none 0))) (zp:=[]) rfl (kof hs);obtain ⟨v',ps',h3,h4⟩:=h.lookup (string_keyed underlying9) underlying113 (CB w) (zd:=.held (.agg (bO eB none 0))) (zp:=[]) rfl (kof hs);have e1:DataW.held v=D.atKey (kK s) (.held (.agg (bO eB none 0))):=by
  unfold qC at h2;injection h2 with h2;injection h2
 have e2:DataW.held v'=D.atKey (kK s) (.held (.agg (bO eB none 0))):=by
  unfold qC at h4;injection h4 with h4;injection h4
 have e3:v'=v:=by
  have:=e2.trans e1.symm;injection this
 exact ⟨v,h1,by rw [<-e3]; exact h3,e1⟩
theorem zo {b n:Nat} {D:DataW Value} {s:aL} (h:Shf w b n D) (hs:s.size<=maxLen) (hh:Maps.has D (kK s)=true) (hat:∀ z,D.atKey (kK s) z = .held V)
  (ho:∃ m x,o.op = .lookup 113 m x true/\ev m = .map (some b)/\ev x = .string s):(execOp ev o).run prog w = .ok (.value (.tuple #[V,.bool true])) w:=by
 obtain ⟨m,x,ho,hm,hx⟩:=ho;obtain ⟨v,h1,_,h3⟩:=qU h hs;rw [hat] at h3;injection h3 with h3;subst h3;rw [hh] at h1;unfold execOp;simp only [ho,hm,hx,Sem.run_bind,Sem.run_pure,Result.andThen_ok,h1]
theorem Aq {b n:Nat} {D:DataW Value} {s:aL} (h:Shf w b n D) (hs:s.size<=maxLen) (hh:Maps.has D (kK s)=false)
  (ho:∃ m x,o.op = .lookup 113 m x true/\ev m = .map (some b)/\ev x = .string s):(execOp ev o).run prog w = .ok (.value (.tuple #[.agg (bO eB none 0),.bool false])) w:=by
 obtain ⟨m,x,ho,hm,hx⟩:=ho;obtain ⟨v,h1,_,h3⟩:=qU h hs;rw [Maps.atKey_of_not_has hh] at h3;injection h3 with h3;subst h3;rw [hh] at h1;unfold execOp;simp only [ho,hm,hx,Sem.run_bind,Sem.run_pure,Result.andThen_ok,h1]
theorem vV {b n:Nat} {D:DataW Value} {s:aL} (h:Shf w b n D) (hs:s.size<=maxLen) (hat:∀ z,D.atKey (kK s) z = .held V)
  (ho:∃ m x,o.op = .lookup 113 m x false/\ev m = .map (some b)/\ev x = .string s):(execOp ev o).run prog w = .ok (.value V) w:=by
 obtain ⟨m,x,ho,hm,hx⟩:=ho;obtain ⟨v,_,h2,h3⟩:=qU h hs;rw [hat] at h3;injection h3 with h3;subst h3;unfold execOp;simp only [ho,hm,hx,Sem.run_bind,Sem.run_pure,Result.andThen_ok,h2]
theorem Ng {rest:List Oper} {a:Go.Act} {Q:Exit->Go.Act->World->Prop} {b n:Nat} {D:DataW Value} (hown:Shf w b n D) (hn:n<maxLen) {s:aL} (hs:s.size<=maxLen) (V:Value)
  (hg:o.guard=none) (m x v:Operand) (hop:o.op=Op.mapUpdate 113 m x v) (hm:a.eval m = .map (some b)) (hx:a.eval x = .string s) (hv:a.eval v=V)
  (hQ:∀ w',Shf w' b (n+1) (D.put (kK s) (.held V))->w.grownBy w' (some b)->wpList prog ops Q rest (a.put o.dst undef) w'):wpList prog ops Q (o::rest) a w :=
 wpList_mapUpdate_own w hg m x v 113 hop 9 110 (string_keyed underlying9) underlying113 qC b n D hm hown hn _ _ (kK s) hx hv (kof hs) _ [] rfl hQ
theorem ny:(prog.info? 110).map (·.size)=some 3:=by kernel_rfl
theorem pE (e:aL) (p:aK) (lv:Nat):(bO e p lv).all (·.oneCell')=true:=by simp [bO,Value.oneCell']
theorem bP (ev:Operand->Value) (o:Oper) (w:World) (b:Nat) (hb:b=w.heap.size) (ho:o.op = .alloc 110):(execOp ev o).run prog w = .ok (.value (.pointer (some ⟨b,0,none⟩))) (w.alloc (.cells (bO eB none 0) 110)):=by
 subst hb;unfold execOp;rw [ho];kernel_rfl
theorem cu {rest:List Oper} {act:Go.Act} {Q:Exit->Go.Act->World->Prop} {b:Nat} {cs:aN} (h:Rg.Own w b cs 110) (hs:cs.size=3) (e:aL) (p:aK) (lv:Nat)
  (hgd:o.guard=none) (x y:Operand) (ho:o.op = .store 110 x y) (hx:act.eval x = .pointer (some ⟨b,0,none⟩)) (hy:act.eval y = .agg (bO e p lv)) (hd:o.dst=none)
  (hQ:∀ w',Rg.Own w' b (bO e p lv) 110->Rg.Upd w b w'->wpList prog ops Q rest act w'):wpList prog ops Q (o::rest) act w :=
 wpList_store_rowTo hgd 110 x y ho hd b _ hx hy 110 _ h.2 ny hs (pE _ _ _) (hQ _ ⟨by simp; exact h.1,setRow_heap _ _ _ _ _ _ h.2⟩ (Rg.Upd.set _ _ _))
theorem DY {b:Nat} (h:Rg.Own w b (bO e p lv) 110):(loadVar 110 ⟨b,0,none⟩).run prog w = .ok (.agg (bO e p lv)) w :=
 run_loadVar_row (P:=prog) w b 110 110 (bO e p lv) (0,0) _ h.2 underlying110 rfl ny
theorem vv {b:Nat} (h:Rg.Own w b (bO e p lv) 110) (ho:∃ x,o.op = .load 110 x/\ev x = .pointer (some ⟨b,0,none⟩)):(execOp ev o).run prog w = .ok (.value (.agg (bO e p lv))) w:=by
 obtain ⟨x,ho,hx⟩:=ho;unfold execOp;simp only [ho,hx,Instr.loadAt,Instr.sureAddr,Sem.run_bind,Sem.run_pure,Result.andThen_ok,DY h]
theorem tF (ho:∃ x,o.op = .field 110 x 0/\ev x = .agg (bO e p lv)):(execOp ev o).run prog w = .ok (.value (.string e)) w:=by
 obtain ⟨x,ho,hx⟩:=ho;unfold execOp;simp only [ho,hx];kernel_rfl
theorem Kt (e:aL):prog.built 110 [(0,.string e)]=some (bO e none 0):=by kernel_rfl
theorem Io (e:aL) (p:aK) (k:Int):prog.built 110 [(0,.string e),(1,tv p),(2,.int .i64 k)]=some #[.string e,.pointer p,.int .i64 k]:=by kernel_rfl
theorem oQ (w:World) (b:Nat) (hb:b=w.heap.size):Rg.Own (w.alloc (.cells (bO eB none 0) 110)) b (bO eB none 0) 110:=by
 subst hb;exact Rg.Own.new _ _ _
theorem uZ {fn:Func} {q u:Tmp} (hf:fn.results = #[.cell q 110,.tmp u]) (tmps:aN) {b:Nat} (hp:tmps.getD q undef = .pointer (some ⟨b,0,none⟩)) (h:Rg.Own w b (bO e p lv) 110) :
  (results fn tmps).run prog w = .ok (.tuple #[.agg (bO e p lv),tmps.getD u undef]) w:=by
 have hp':tmps[q]?.getD undef = .pointer (some ⟨b,0,none⟩):=by simpa using hp
 simp [results,hf,hp',asAddr,DY h]
end Tm
end
section
open Go.RowKit
namespace Tm
open Tr Ni Pk Ky No Rf Rl
theorem EK {B' n sz:Nat} {e:TypeId} {xs:List Value} (h:w.ownsRow B e sz v n xs) (hb:B'<=B):w.ownsRow B' e sz v n xs:=by
 obtain ⟨h1,h2⟩:=h;exact ⟨h1,h2.imp id λ⟨g,cap,cur,e,hg,r⟩=>⟨g,cap,cur,e,Nat.le_trans hb hg,r⟩⟩
theorem wL {rest:List Oper} {a:Go.Act} {Q:Exit->Go.Act->World->Prop} {B2:Nat} {v2:Value} {xs ys:List aL} (hgd:o.guard=none) (s x:Operand) (ho:o.op = .call { callee:=.builtin .append,args:=#[s,x],argTypes:=#[28,28] })
  (hs:a.eval s=v) (hx:a.eval x=v2) (hR:w.ownsRow B 9 1 v xs.length (xs.map Value.string)) (hS:w.ownsRow B2 9 1 v2 ys.length (ys.map Value.string)) (hn:xs.length+ys.length<=1000000) (hB:B<=w.heap.size)
  (h:∀ v' w',w'.ownsRow B 9 1 v' (xs++ys).length ((xs++ys).map Value.string)->w.grownBy w' v.ownBlock->(v'.ownBlock=v.ownBlock\/v'.ownBlock=some w.heap.size)->wpList prog ops Q rest (a.put o.dst v') w'):wpList prog ops Q (o::rest) a w:=by
 obtain ⟨i0,hi,hz0,hz1,hz2⟩:=gQ;rcases hS.2 with ⟨rfl,h0⟩ | ⟨g,cap,cur,rfl,hg,hh,hnc,hcm,hsz,htk⟩
 .have hy:ys=[]:=List.length_eq_zero_iff.1 h0;subst hy;refine wpList_append_own_none hgd s x 28 ho B 9 i0 1 underlying28 hi v xs.length (xs.map Value.string) hs hR hx (h v w ?_ ⟨rfl,rfl,rfl,aG,λ_ _ _=>rfl⟩ (.inl rfl));rw [List.append_nil];exact hR
 .refine wpList_append_own_at w hgd s x 28 ho B 9 i0 (.string ⟨#[]⟩) 1 16 underlying28 hi hz0 hz1 hz2 rfl (by decide) v xs.length (xs.map Value.string) hs hR ⟨g,0,none⟩ ys.length cap (ys.map Value.string) hx (by simp) (λj u hu=>?_) (λu hu=>?_) (by unfold maxLen; omega) (by omega) hB (λv' w' h1 h2 _ h4=>h v' w' ?_ h2 h4)
  .rw [Addr.add_mid,Nat.zero_add,cell_of_row w g _ _ _ _ hh];have hj:j<ys.length:=by have:=(List.getElem?_eq_some_iff.1 hu).1; simpa using this
   rw [<-Array.getElem?_toList,<-hu,<-htk,List.getElem?_take_of_lt (by omega)]
  .obtain ⟨y,_,rfl⟩:=List.mem_map.1 hu;rfl
  .rw [List.length_append,List.map_append];exact h1
def Le (w:World) (xs:List aL) (e:Ending) (w':World):Prop:=∃ v,e = .returned v/\w'.ownsRow w.heap.size 9 1 v xs.length (xs.map Value.string)/\Below w.heap.size w w'
open Sm (Tab)
theorem yG {xs:List aL} (h:j<xs.length):xs.getD j eB∈xs:=by
 rw [List.getD_eq_getElem?_getD,List.getElem?_eq_getElem h];exact List.getElem_mem h
def Si (P:aL->Bool) (xs:List aL) (i:Int):Prop :=
 (i = -1/\∀ j,j<xs.length->P (xs.getD j eB)=false)\/∃ k:Nat,i=k/\k<xs.length/\P (xs.getD k eB)=true/\∀ j,j<k->P (xs.getD j eB)=false
theorem EL (P:aL->Bool) (c:Nat) (xs:List aL) (a:aK) (n cap:Nat) (w:World) (h:fO w a n cap xs)
  (hel:∀ s∈xs,∀ wz,Below w.heap.size w wz->Calls prog 154 #[.string s,.pointer (some ⟨c,0,none⟩)] wz λe w'=>e = .returned (.bool (P s))/\Below wz.heap.size wz w') :
  Calls prog 60 #[.slice a n cap,.func (Fn.func 154) #[] #[.pointer (some ⟨c,0,none⟩)]] w λe w'=>∃ i:Int,e = .returned (.int .i64 i)/\Si P xs i/\Below w.heap.size w w':=by
 have hm:=h.2.1;have hnc:=h.1;have hl:=h.len;unfold maxLen at hm;have H:=hid h;have HL:=hid hl;have HE:=hid hel;clear h hl hel;go_enter func60,ntmps60;go_wp2;go_loopw [8] (λi wr=>∃ j:Nat,j<=n/\i = .int .i64 j/\Hid (∀ q,q<j->P (xs.getD q eB)=false)/\Hid (Below w.heap.size w wr)) (λi _=>n-(intOf i).toNat)
 case atStart=>exact ⟨0,Nat.zero_le _,rfl,hid (λq hq=>absurd hq (Nat.not_lt_zero _)),hid aH⟩
 case round =>
  obtain ⟨j,hj,rfl,HJ,HB⟩:=hrel;by_cases hlt:j<n
  .obtain ⟨b,off,rfl,hblt,hcj⟩:=H.out.at' j hlt;have hc':=(Below.cell (p:=⟨b,off+j,none⟩) HB.out hblt).trans hcj;have HM:Hid (j<xs.length):=hid (by rw [HL.out]; exact hlt);have H1:=hid (HE.out (xs.getD j eB) (yG HM.out) wr HB.out);obtain ⟨F,hF⟩:=ay (P (xs.getD j eB))
   rw [hF] at H1;have HF:=hid hF;obtain ⟨K,hK⟩:=ay (xs.getD j eB)
   rw [hK] at H1 hc';clear hK hcj hF;go_wp2_with fail
   refine H1.out.mono ?_;rintro e w5 ⟨rfl,hb5⟩;have aa:=hid (bst HB.out hb5);clear hb5 H1 HB hc';cases F with
   | false =>
    have s9:Hid (∀ q,q<j+1->P (xs.getD q eB)=false):=hid (λq hq=>by
     by_cases e:q=j
     .rw [e]; exact HF.out
     .exact HJ.out q (by omega))
    clear HF;go_wp2;go_roundw
    case rel=>exact ⟨j+1,by omega,by go_num,s9,aa⟩
    case measure=>simp [intOf]; omega
   | true =>
    go_wp2;go_ret;exact ⟨(j:Int),rfl,.inr ⟨j,rfl,HM.out,HF.out,HJ.out⟩,aa.out⟩
  .obtain rfl:j=n:=by omega
   go_wp2;go_ret;exact ⟨-1,rfl,.inl ⟨rfl,by rw [HL.out]; exact HJ.out⟩,HB.out⟩
theorem LB (P:aL->Bool) (c:Nat) (xs:List aL) (a:aK) (n cap:Nat) (w:World) (h:fO w a n cap xs)
  (hel:∀ s∈xs,∀ wz,Below w.heap.size w wz->Calls prog 61 #[.string s,.pointer (some ⟨c,0,none⟩)] wz λe w'=>e = .returned (.bool (P s))/\Below wz.heap.size wz w') :
  Calls prog 60 #[.slice a n cap,.func (Fn.func 61) #[] #[.pointer (some ⟨c,0,none⟩)]] w λe w'=>∃ i:Int,e = .returned (.int .i64 i)/\Si P xs i/\Below w.heap.size w w':=by
 have hm:=h.2.1;have hnc:=h.1;have hl:=h.len;unfold maxLen at hm;have H:=hid h;have HL:=hid hl;have HE:=hid hel;clear h hl hel;go_enter func60,ntmps60;go_wp2;go_loopw [8] (λi wr=>∃ j:Nat,j<=n/\i = .int .i64 j/\Hid (∀ q,q<j->P (xs.getD q eB)=false)/\Hid (Below w.heap.size w wr)) (λi _=>n-(intOf i).toNat)
 case atStart=>exact ⟨0,Nat.zero_le _,rfl,hid (λq hq=>absurd hq (Nat.not_lt_zero _)),hid aH⟩
 case round =>
  obtain ⟨j,hj,rfl,HJ,HB⟩:=hrel;by_cases hlt:j<n
  .obtain ⟨b,off,rfl,hblt,hcj⟩:=H.out.at' j hlt;have hc':=(Below.cell (p:=⟨b,off+j,none⟩) HB.out hblt).trans hcj;have HM:Hid (j<xs.length):=hid (by rw [HL.out]; exact hlt);have H1:=hid (HE.out (xs.getD j eB) (yG HM.out) wr HB.out);obtain ⟨F,hF⟩:=ay (P (xs.getD j eB))
   rw [hF] at H1;have HF:=hid hF;obtain ⟨K,hK⟩:=ay (xs.getD j eB)
   rw [hK] at H1 hc';clear hK hcj hF;go_wp2_with fail
   refine H1.out.mono ?_;rintro e w5 ⟨rfl,hb5⟩;have aa:=hid (bst HB.out hb5);clear hb5 H1 HB hc';cases F with
   | false =>
    have s9:Hid (∀ q,q<j+1->P (xs.getD q eB)=false):=hid (λq hq=>by
     by_cases e:q=j
     .rw [e]; exact HF.out
     .exact HJ.out q (by omega))
    clear HF;go_wp2;go_roundw
    case rel=>exact ⟨j+1,by omega,by go_num,s9,aa⟩
    case measure=>simp [intOf]; omega
   | true =>
    go_wp2;go_ret;exact ⟨(j:Int),rfl,.inr ⟨j,rfl,HM.out,HF.out,HJ.out⟩,aa.out⟩
  .obtain rfl:j=n:=by omega
   go_wp2;go_ret;exact ⟨-1,rfl,.inl ⟨rfl,by rw [HL.out]; exact HJ.out⟩,HB.out⟩
theorem qy:prog.underlying 28=some (.slice (prog.elem 28)):=by kernel_rfl
theorem AP (w:World):(sizeOf (prog.elem 28)).run prog w = .ok 1 w:=by kernel_rfl
theorem RO (w:World):(zeroValue (prog.elem 28)).run prog w = .ok (.string eB) w:=by kernel_rfl
theorem Gr (N:Nd) (a:aK) (n c:Nat) (hl:N.ks.length=16) (w:World):Calls prog 133 #[.agg (ndC N a n c)] w (Le w (bF N.ks)):=by
 obtain ⟨i0,hi,hz0,hz1,hz2⟩:=gQ;have HI:Hid (_/\_/\_/\_):=hid ⟨hi,hz0,hz1,hz2⟩;have HO:Hid (dZ (w.alloc (.cells (ndC N a n c) 69)) w.heap.size N a n c):=hid (Rg.Own.new _ _ _);have HL:=hid hl;clear hi hz0 hz1 hz2 hl;go_enter func133,ntmps133;go_wp2_with (refine aA (jO HO.out HL.out ⟨_,rfl,rfl⟩) ?_)
 go_loopw [3,8] (λv0 i wr=>∃ (j:Nat) (v:Value),v=v0/\j<=16/\i = .int .i64 j/\Hid (wr.ownsRow (w.heap.size+1) 9 1 v (bF (N.ks.take j)).length ((bF (N.ks.take j)).map Value.string))/\Below (w.heap.size+1) (w.alloc (.cells (ndC N a n c) 69)) wr) (λ_ i _=>16-(intOf i).toNat)
 case atStart=>exact ⟨0,_,rfl,Nat.zero_le _,rfl,hid (World.ownsRow_nil _ _ _ _),aH⟩
 case round =>
  obtain ⟨j,v,hv,hj,rfl,HR,hB⟩:=hrel;subst hv;have hsz:w.heap.size+1<=wr.heap.size:=by have:=hB.size; simp at this; omega
  by_cases hlt:j<16
  .have HS:=hid (nO N.ks j (by rw [HL.out]; exact hlt));have hkl:=wK N.ks j;obtain ⟨L,hL⟩:=ay (bF (N.ks.take j))
   rw [hL] at HS hkl HR;clear hL;by_cases hk:(N.ks.getD j eB).size=0
   .have dr:Hid (bF (N.ks.take (j+1))=L):=hid (by rw [HS.out,if_neg (by simpa using hk),List.append_nil]);have HE:Hid (N.ks.getD j eB=eB):=hid (dP hk);clear hk;go_wp2_with (refine Rg.run rfl (.string (N.ks.getD j eB)) _ (dF HL.out hlt ⟨_,_,rfl,rfl,rfl⟩) ?_; rw [HE.out])
    go_roundw
    case rel=>exact ⟨j+1,_,rfl,by omega,by go_num,by rw [dr.out]; exact HR,hB⟩
    case measure=>simp [intOf]; omega
   .have dr:Hid (bF (N.ks.take (j+1))=L++[N.ks.getD j eB]):=hid (by rw [HS.out,if_pos hk]);have hne:=Ni.dJ (s:=N.ks.getD j eB) (by omega);obtain ⟨K,hK⟩:=ay (N.ks.getD j eB)
    have HK:=hid hK;rw [hK] at hne dr;clear hK hk HS;go_wp2_with (first
     | (refine Rg.run rfl (.string (N.ks.getD j eB)) _ (dF HL.out hlt ⟨_,_,rfl,rfl,rfl⟩) ?_; rw [HK.out])
     | (at_builtin; refine wpList_append_own _ rfl _ _ 28 rfl (w.heap.size+1) 9 i0 (.string ⟨#[]⟩) 1 16 underlying28 HI.out.1 HI.out.2.1 HI.out.2.2.1 HI.out.2.2.2 rfl (by decide) _ _ _ rfl (HR.out.alloc _) ⟨wr.heap.size,0,none⟩ 1 1 [.string K] rfl rfl ?d1 ?d2 ?d3 ?d4 ?d5 ?_))
    case d1=>exact Bu.cell_one_new' _ _ _ _
    case d2=>intro u hu; simp at hu; subst hu; rfl
    case d3=>unfold maxLen; omega
    case d4=>omega
    case d5=>simp; omega
    intro v' w2 hown2 hgrow _;have hlt':=HR.out.lt;go_wp2;go_roundw
    case rel=>exact ⟨j+1,_,rfl,by omega,by go_num,hid (by rw [dr.out,List.length_append,List.map_append]; exact hown2),(hB.alloc hsz _).grown hgrow (by simp; omega) (λg hg=>(hlt' g hg).1)⟩
    case measure=>simp [intOf]; omega
  .obtain rfl:j=16:=by omega
   have hO:=HR.out;rw [List.take_of_length_le (by rw [HL.out]; exact aG)] at hO;have Wr:Hid (Le w (bF N.ks) (.returned v) wr):=hid ⟨_,rfl,EK hO (Nat.le_succ _),oP hB⟩;clear hO;go_wp2;go_ret;exact Wr.out
theorem GX {M:Mp} {w:World} {b n:Nat} {f:Fs} {D:DataW Value} (hS:ShS M w b f n D) (c:Nat) (hc:w.cell? ⟨c,0,none⟩=some (.map (some b))) (s:aL) (hs:s.size<=1000000) :
  Calls prog 154 #[.string s,.pointer (some ⟨c,0,none⟩)] w λe w'=>e = .returned (.bool (gone f s))/\Below w.heap.size w w':=by
 have hs':s.size<=maxLen:=by unfold maxLen; omega
 have HB0:=hid (oQ w w.heap.size rfl);have g9:=hid hS.own;cases hf:f s with
 | none =>
  have HH:=hid (hS.none_ s hs' hf);have HG:Hid (gone f s=true):=hid (by unfold gone; rw [hf]);rw [HG.out];clear hS hf HG;go_enter func154,ntmps154;go_wp2_with (first
   | (refine aA (Aq g9.out hs' HH.out ⟨_,_,rfl,rfl,rfl⟩) ?_)
   | (refine aA (bP _ _ _ w.heap.size rfl rfl) ?_)
   | (refine cu HB0.out rfl eB none 0 rfl _ _ rfl rfl rfl rfl ?_; intro w1 ab hu1; have HB1:Hid (Below w.heap.size w w1):=hid (hu1.below (al1 _ _) aG); clear ab hu1))
  go_ret;exact ⟨rfl,HB1.out⟩
 | some x =>
  obtain ⟨e,t,lv⟩:=x;obtain ⟨hh,p,_,hat⟩:=hS.some_ s e t lv hs' hf;have HH:=hid hh;have HA:=hid hat;have HG:Hid (gone f s=decide (0<lv)):=hid (by unfold gone; rw [hf]);rw [HG.out];obtain ⟨g,hg⟩:=ay (decide (0<lv))
  have hg2:decide ((0:Int)<(lv:Int))=g:=by rw [<-hg]; simp
  rw [hg];clear hS hf HG hh hat;go_enter func154,ntmps154;go_wp2_with (first
   | (refine aA (zo g9.out hs' HH.out HA.out ⟨_,_,rfl,rfl,rfl⟩) ?_)
   | (refine aA (bP _ _ _ w.heap.size rfl rfl) ?_)
   | (refine cu HB0.out rfl e p lv rfl _ _ rfl rfl rfl rfl ?_; intro w1 ab hu1; have c2:w1.cell? ⟨w.heap.size,2,none⟩=some (.int .i64 lv):=aV (j:=2) ab rfl; have HB1:Hid (Below w.heap.size w w1):=hid (hu1.below (al1 _ _) aG); clear ab hu1))
  go_ret;exact ⟨rfl,HB1.out⟩
def qE (w:World) (g cap:Nat) (xs:List aL):Prop :=
 ∃ cur,Rg.Own w g cur 9/\cur.size=cap/\xs.length<=cap/\cap<=maxLen/\∀ j,j<xs.length->cur[j]? = some (.string (xs.getD j eB))
theorem WT {n:Nat} {xs:List aL} (h:w.ownsRow B 9 1 (.slice (some ⟨g,0,none⟩) n cap) n (xs.map Value.string)):qE w g cap xs/\B<=g/\xs.length=n:=by
 obtain ⟨h1,h2⟩:=h;have hl:xs.length=n:=by simpa using h1
 rcases h2 with ⟨h2,_⟩ | ⟨g',cap',cur,e,hg,hh,hnc,hcm,hsz,htk⟩
 .cases h2
 .injection e with e1 e2 e3;injection e1 with e1;injection e1 with e1;subst e1 e3;refine ⟨⟨cur,⟨(Array.getElem?_eq_some_iff.1 hh).1,hh⟩,by omega,by omega,hcm,λj hj=>?_⟩,hg,hl⟩;rw [<-Array.getElem?_toList];have h3:=congrArg (λl:List Value=>l[j]?) htk;simp only [List.getElem?_take_of_lt (show j<n*1 by omega)] at h3;rw [h3];simp [List.getD,hj]
theorem qE.lt {xs:List aL} (h:qE w g cap xs):g<w.heap.size:=by
 obtain ⟨cur,hO,_⟩:=h;exact hO.1
theorem qE.below {w w':World} {g cap:Nat} {xs:List aL} (h:qE w g cap xs) (hb:Below w.heap.size w w'):qE w' g cap xs:=by
 obtain ⟨cur,hO,h1⟩:=h;exact ⟨cur,hO.below hb,h1⟩
theorem qE.cell {qs:List aL} (h:qE w g cap qs) (hj:j<qs.length):w.cell? ⟨g,j,none⟩=some (.string (qs.getD j eB)):=by
 obtain ⟨cur,hO,hs,hl,hm,hc⟩:=h;rw [cell_of_row w g _ _ _ _ hO.2];exact hc j hj
theorem qE.own {qs:List aL} (h:qE w g cap qs):∃ cur,Rg.Own w g cur 9/\cur.size=cap/\qs.length<=cap/\cap<=maxLen:=by
 obtain ⟨gg,am,hs0,hl,hm,hc⟩:=h;exact ⟨gg,am,hs0,hl,hm⟩
theorem qE.row {xs:List aL} (h:qE w g cap xs) (hB:B<=g):w.ownsRow B 9 1 (.slice (some ⟨g,0,none⟩) xs.length cap) xs.length (xs.map Value.string):=by
 obtain ⟨cur,hO,hs,hl,hm,hc⟩:=h;refine ⟨by simp,.inr ⟨g,cap,cur,rfl,hB,hO.2,hl,hm,by omega,?_⟩⟩;apply List.ext_getElem?;intro j;by_cases hj:j<xs.length
 .rw [List.getElem?_take_of_lt (by omega),Array.getElem?_toList,hc j hj];simp [List.getD,hj]
 .rw [List.getElem?_eq_none (by rw [List.length_take]; omega),List.getElem?_eq_none (by simp; omega)]
theorem qE.cut {k:Nat} {qs:List aL} (h:qE w g cap qs) (hO:Rg.Own w g cur 9) (hk:k<=qs.length) (oa:Rg.Own w' g cur' 9) (hs:cur'.size=cap) (he:∀ j,j<k->cur'[j]? = cur[j]?):qE w' g cap (qs.take k):=by
 obtain ⟨gg,am,hs0,hl,hm,hc⟩:=h;have e:gg=cur:=by
  have:=am.2.symm.trans hO.2;injection this with this;injection this
 subst e;refine ⟨cur',oa,hs,by rw [List.length_take]; omega,hm,λj hj=>?_⟩;have hjk:j<k:=by rw [List.length_take] at hj; omega
 have hjq:j<qs.length:=by omega
 rw [he j hjk,hc j hjq];simp [List.getD,hjk]
theorem Gm {rest:List Oper} {act:Go.Act} {Q:Exit->Go.Act->World->Prop} {xs:List aL} (h:qE w g cap xs) (hof:i<xs.length) (s:aL)
  (hgd:o.guard=none) (x y:Operand) (ho:o.op = .store 9 x y) (hx:act.eval x = .pointer (some ⟨g,i,none⟩)) (hy:act.eval y = .string s)
  (hQ:∀ w',qE w' g cap (xs.set i s)->Rg.Upd w g w'->wpList prog ops Q rest (act.put o.dst undef) w'):wpList prog ops Q (o::rest) act w:=by
 obtain ⟨cur,hO,hs,hl,hm,hc⟩:=h;refine wpList_plain hgd λK hK=>?_;unfold Oper.wp execOp;simp only [ho,hx,hy,Sem.run_bind,Sem.run_pure,Result.andThen_ok,pU hO (o:=i) (by omega) s];refine hK _ _ (hQ _ ⟨_,dw hO _,by simp [hs],by simpa using hl,hm,λj hj=>?_⟩ (bN _ _ _ _));have hj':j<xs.length:=by simpa using hj
 by_cases e:j=i
 .subst e;rw [Array.getElem?_setIfInBounds_self_of_lt (by omega)];simp [List.getD,hj']
 .rw [Array.getElem?_setIfInBounds_ne (by omega),hc j hj'];simp [List.getD,List.getElem?_set_ne (Ne.symm e)]
theorem Gh {rest:List Oper} {a:Go.Act} {Q:Exit->Go.Act->World->Prop} {n:Nat} (hgd:o.guard=none)
  (ho:∃ s,o.op = .call { callee:=.builtin .clear,args:=#[s],argTypes:=#[28] }/\a.eval s = .slice (dL (some ⟨g,0,none⟩) cap i) (n-i) (cap-i)) (hd:o.dst=none) (h0:i<n)
  (hO:Rg.Own w g cur 9) (hs:cur.size=cap) (hn:n<=cap) (H:∀ w' cur',Rg.Own w' g cur' 9->cur'.size=cap->(∀ j,j<i->cur'[j]? = cur[j]?)->Rg.Upd w g w'->wpList prog ops Q rest a w'):wpList prog ops Q (o::rest) a w:=by
 obtain ⟨s,ho,hx⟩:=ho;have hf:dL (some ⟨g,0,none⟩) cap i=some ⟨g,i,none⟩:=by
  unfold dL;rw [if_neg (by omega)];simp [Addr.add_mid]
 rw [hf] at hx;refine wpList_plain hgd λK hK=>?_;have hr:=Lib.run_clear_slice (P:=prog) w 28 (prog.elem 28) o.type (.string eB) qy RO rfl rfl g i (n-i) (cap-i) (by omega) (λj hj=>by
  rw [cell_of_row w g _ _ _ _ hO.2,Array.getElem?_eq_getElem (by omega)];rfl) (λj hj=>gJ hO)
 obtain ⟨cs',h1,h2,h3⟩:=pR (List.replicate (n-i) (.string eB)) i w cur hO;unfold Oper.wp execOp;simp only [ho,resolve,invoke,builtin,Sem.run_bind,Sem.run_pure,Result.andThen_ok,List.map_toArray,List.map_cons,List.map_nil,hx,hr];refine hK _ _ ?_;rw [show a.put o.dst (.tuple #[])=a by rw [hd]; rfl];exact H _ cs' h1 (by rw [h2,hs]) h3 (ql g (List.replicate (n-i) (.string eB)) i w)
theorem Oq {qs ps:List aL} (h:qs.drop j=ps.drop j):qs.getD j eB=ps.getD j eB/\qs.drop (j+1)=ps.drop (j+1):=by
 constructor
 .have:=congrArg (λl=>l[0]?) h;simp only [List.getElem?_drop,Nat.add_zero] at this;rw [List.getD_eq_getElem?_getD,List.getD_eq_getElem?_getD,this]
 .have:=congrArg (λl=>l.drop 1) h;simpa [List.drop_drop] using this
theorem Rh {qs:List aL} {k:Nat} (hk:k<qs.length) (p:aL):(qs.set k p).take (k+1)=qs.take k++[p]:=by
 rw [List.take_succ_eq_append_getElem (by simpa using hk),List.getElem_set_self,List.take_set_of_le (Nat.le_refl k)]
theorem Cu {ps:List aL} (h:j<ps.length):ps.take (j+1)=ps.take j++[ps.getD j eB]:=by
 have e:ps.getD j eB=ps[j]:=by simp [List.getD,h]
 rw [e,List.take_succ_eq_append_getElem h]
theorem filter_none {P:aL->Bool} {xs:List aL} (hi:i<=xs.length) (h:∀ j,j<i->P (xs.getD j eB)=false):(xs.take i).filter (λs=>!P s)=xs.take i:=List.filter_eq_self.2 λs hs=>by
 obtain ⟨j,hj,rfl⟩:=List.getElem_of_mem hs;have hj':j<i:=by rw [List.length_take] at hj; omega
 have:=h j hj';rw [show xs.getD j eB=(xs.take i)[j] by simp [List.getD,show j<xs.length by omega]] at this;rw [this]; rfl
theorem uO (P:aL->Bool) (c:Nat) (xs:List aL) (hxn:xs.length<=1000) (B:Nat) (v:Value) (w:World) (h:w.ownsRow B 9 1 v xs.length (xs.map Value.string)) (hB:B<=w.heap.size)
  (hel:∀ s∈xs,∀ wz,Below B w wz->w.heap.size<=wz.heap.size->(∀ k,k<w.heap.size->v.ownBlock≠some k->wz.heap[k]? = w.heap[k]?)->Calls prog 154 #[.string s,.pointer (some ⟨c,0,none⟩)] wz λe w'=>e = .returned (.bool (P s))/\Below wz.heap.size wz w') :
  Calls prog 153 #[v,.func (Fn.func 154) #[] #[.pointer (some ⟨c,0,none⟩)]] w λe w'=>∃ v',e = .returned v'/\w'.ownsRow B 9 1 v' (xs.filter λs=>!P s).length ((xs.filter λs=>!P s).map Value.string)/\Below B w w':=by
 obtain ⟨a,n,cap,rfl,hst⟩:∃ a n cap,v = .slice a n cap/\fO w a n cap xs:=by
  obtain ⟨a,c,e,hb⟩:=fO.oF h;exact ⟨a,_,c,e,hb⟩
 have hl:=hst.len;rw [hl] at h hxn;have HX:=hid (EL P c xs a n cap w hst (λs hs wz hb=>hel s hs wz (hb.mono hB) hb.size λk hk _=>hb.block k hk));have H:=hid h;have HL:=hid hl;have WD:=hid hel;have hnc:=hst.1;have hcm:=hst.2.1;unfold maxLen at hcm;clear h hl hst hel;go_enter func153,ntmps153;go_wp2_with fail
 refine HX.out.mono ?_;rintro e w1 ⟨r,rfl,hr,hb1⟩;have HB1:=hid hb1;clear HX hb1;rcases hr with ⟨rfl,hno⟩ | ⟨i,rfl,hi,hyes,hno⟩
 .have HE:Hid (∃ v',Ending.returned (.slice a n cap) = .returned v'/\w1.ownsRow B 9 1 v' (xs.filter λs=>!P s).length ((xs.filter λs=>!P s).map Value.string)/\Below B w w1):=hid (by
   have e1:(xs.filter λs=>!P s)=xs:=by
    have:=filter_none (P:=P) (xs:=xs) aG hno;rwa [List.take_length] at this
   rw [e1,HL.out];exact ⟨_,rfl,qY H.out HB1.out,HB1.out.mono hB⟩)
  clear hno;go_wp2;go_ret;exact HE.out
 .have hin:i<n:=by rw [<-HL.out]; exact hi
  obtain ⟨g,rfl⟩:∃ g,a=some ⟨g,0,none⟩:=by
   rcases H.out.2 with ⟨h1,h2⟩ | ⟨g,_,_,h1,_⟩
   .omega
   .injection h1 with h1;exact ⟨g,h1⟩
  obtain ⟨hX0,hBg,_⟩:=WT H.out;have hgw:=hX0.lt;have HR1:=hid (hX0.below HB1.out);have y9:Hid (Bo g w w1):=hid (Bo.of HB1.out);have HK:Hid (xs.take i=(xs.take (i+1)).filter λs=>!P s):=hid (by
   rw [Cu (by rw [HL.out]; exact hin),List.filter_append,filter_none (by omega) hno];simp only [List.filter_cons,hyes,Bool.not_true,Bool.false_eq_true,if_false,List.filter_nil,List.append_nil])
  have hne:decide ((i:Int) = -1)=false:=decide_eq_false (by omega);have hne2:((i:Int) == -1)=false:=by simp
  clear hno hyes hi hX0 H;go_wp2_with fail
  go_loopw [5,6] (λvi vj wr=>∃ (k j:Nat) (qs:List aL),vi = .int .i64 k/\vj = .int .i64 j/\k<j/\j<=n/\qs.length=n/\Hid (qE wr g cap qs)/\Hid (qs.take k=(xs.take j).filter λs=>!P s)/\Hid (qs.drop j=xs.drop j)/\Hid (Bo g w wr)) (λ_ vj _=>n-(intOf vj).toNat)
  case atStart=>exact ⟨i,i+1,xs,rfl,by go_num,by omega,by omega,HL.out,HR1,HK,hid rfl,y9⟩
  case round =>
   obtain ⟨k,j,qs,rfl,rfl,hkj,hj,lR,fY,fw,jb,HB⟩:=hrel;clear HK HR1 HB1 y9;have hgr:g<wr.heap.size:=fY.out.lt;by_cases hlt:j<n
   .have hji:(j:Int)<n:=by omega
    have hki:(k:Int)<n:=by omega
    have hdd:=Oq jb.out;have hc':=fY.out.cell (j:=j) (by omega);rw [hdd.1] at hc';have rN:=hid hdd.2;have HS:=hid (Cu (ps:=xs) (j:=j) (by rw [HL.out]; exact hlt));have hm:xs.getD j eB∈xs:=yG (by rw [HL.out]; exact hlt);have hbw:Below B w wr:=HB.out.below aH hB hBg;have H1:=hid (WD.out (xs.getD j eB) hm wr hbw HB.out.size λq hq hne=>HB.out.block q hq λe=>hne (by rw [e]; rfl));obtain ⟨K,hK⟩:=ay (xs.getD j eB)
    rw [hK] at H1 hc' HS;obtain ⟨F,hF⟩:=ay (P K)
    rw [hF] at H1;have HF:=hid hF;clear hK hm hdd hbw hF;go_wp2_with fail
    refine H1.out.mono ?_;rintro e w5 ⟨rfl,hb5⟩;have aa:Hid (Bo g w w5):=hid (HB.out.then hb5);have dc:=hid (fY.out.below hb5);clear hb5 H1 HB hc' fY;cases F with
    | true =>
     have pd:Hid (qs.take k=(xs.take (j+1)).filter λs=>!P s):=hid (by
      rw [HS.out,List.filter_append,fw.out];simp only [List.filter_cons,HF.out,Bool.not_true,Bool.false_eq_true,if_false,List.filter_nil,List.append_nil])
     clear HF;go_wp2_with fail
     go_roundw
     case rel=>exact ⟨k,j+1,qs,rfl,by go_num,by omega,by omega,lR,dc,pd,rN,aa⟩
     case measure=>simp [intOf]; omega
    | false =>
     have pd:Hid ((qs.set k K).take (k+1)=(xs.take (j+1)).filter λs=>!P s):=hid (by
      rw [HS.out,List.filter_append,Rh (by omega),fw.out];simp only [List.filter_cons,HF.out,Bool.not_false,if_true,List.filter_nil])
     have HD2:Hid ((qs.set k K).drop (j+1)=xs.drop (j+1)):=hid (by rw [List.drop_set_of_lt (by omega)]; exact rN.out);clear HF;go_wp2_with (first
      | (refine Gm dc.out (i:=k) (by omega) K rfl _ _ rfl rfl rfl ?_; intro w7 m3 cQ; have ip:=hid m3; have sa:Hid (Bo g w w7):=hid (aa.out.upd cQ); clear m3 cQ))
     go_roundw
     case rel=>exact ⟨k+1,j+1,qs.set k K,by go_num,by go_num,by omega,by omega,by simpa using lR,ip,pd,HD2,sa⟩
     case measure=>simp [intOf]; omega
   .obtain rfl:j=n:=by omega
    have hT:=fw.out;rw [List.take_of_length_le (l:=xs) (by rw [HL.out]; exact aG)] at hT;have hkl:(xs.filter λs=>!P s).length=k:=by rw [<-hT,List.length_take]; omega
    have HE:=hid hT;have cl:=hid hkl;obtain ⟨cur,hO,hs,_,_⟩:=fY.out.own;have HO:=hid hO;have G8:=hid (λ(w':World) (cur':aN) (h1:Rg.Own w' g cur' 9) (h2:cur'.size=cap) (h3:∀ j,j<k->cur'[j]? = cur[j]?)=>fY.out.cut hO (by omega) h1 h2 h3);have hlc:j<=cap:=by omega
    clear hT hkl hO fw jb fY;go_wp2_with (first
     | (refine aA (kP (a:=some ⟨g,0,none⟩) (n:=j) (c:=cap) (i:=k) qy AP (by omega) ⟨_,_,rfl,rfl,rfl⟩) ?_)
     | (refine aA (pX (a:=some ⟨g,0,none⟩) (n:=j) (c:=cap) (j:=k) qy AP (by omega) ⟨_,_,rfl,rfl,rfl⟩) ?_)
     | (refine Gh (i:=k) (n:=j) rfl ⟨_,rfl,rfl⟩ rfl hkj HO.out hs hlc ?_; intro w8 sb ff m5 xh jj; have sc:=hid (G8.out w8 sb ff m5 xh); have sd:Hid (Bo g w w8):=hid (HB.out.upd jj); clear ff m5 xh jj))
    go_ret;have Pi:=sc.out;rw [HE.out] at Pi;have hrow:=Pi.row hBg;rw [cl.out] at hrow ⊢;exact ⟨_,rfl,hrow,sd.out.below aH hB hBg⟩
end Tm
end
end Go.Proofs.YtoipgepkhomfgaaGreatDoor
