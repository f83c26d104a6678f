/-
 The contract of Refs: the references of the parts that were dropped.
-/
import Derived.Test.YtlcplcgigjagpaaGreatDoorSg17
import Derived.Deep.CutBlock
open Go.Lib (hid)
open Go.Proofs.Tryz
set_option linter.unusedSimpArgs false
set_option linter.unusedVariables false
set_option maxHeartbeats 40000000
set_option maxRecDepth 100000
namespace Go.Proofs.YtlcplcgigjagpaaGreatDoor
variable {cs:aM} {ops:Array Oper} {o:Oper} {e ty:TypeId} {b2 c j:Nat} {a ad:aJ} {u:Value} {ev:Operand->Value}
section
open Go.RowKit
namespace Sx
open Tr Ni Pk Ky No Rf Rl Tm
open Sm (Tab)
theorem JH {t:T} (h:¬ dH t):((aZ t).map bN).flatten=bN t:=by
 cases t with
 | nil=>rfl
 | leaf p v=>rfl
 | stub r=>exact absurd trivial h
 | ext q s=>show (bN s::[]).flatten=bN s; simp
 | br ks =>
  show (((dU ks).map ks).map bN).flatten=((List.finRange 16).map λi=>bN (ks i)).flatten;rw [List.map_map];unfold dU;generalize List.finRange 16=l
  induction l with
  | nil=>rfl
  | cons i l ih =>
   cases hi:isNil (ks i) with
   | true=>rw [List.filter_cons_of_neg (by rw [hi]; decide),List.map_cons,List.flatten_cons,ih,cu.1 hi]; rfl
   | false=>rw [List.filter_cons_of_pos (by rw [hi]; rfl),List.map_cons,List.map_cons,List.flatten_cons,List.flatten_cons,ih]; rfl
def RU (M:Mp) (k v:Value):Prop:=∃ p x,k=tv p/\IsT M p x/\bN x=[]/\v = .agg #[]
structure LJ (M:Mp) (B0 gW gL gF bm:Nat) (l:List aK) (v:Value) (w:World):Prop where
 bw:Rg.Own w gW #[.map (some bm)] 67
 bl:Rg.Own w gL #[v] 34
 bf:Rg.Own w gF #[.func (.func 26) #[] #[.pointer (some ⟨gW,0,none⟩),.pointer (some ⟨gL,0,none⟩),.pointer (some ⟨gF,0,none⟩)]] 68
 r:w.ownsRow B0 9 1 v l.length (l.map Value.string)
 m:oJ w bm (RU M)
 nr:v.ownBlock≠some gW/\v.ownBlock≠some gL/\v.ownBlock≠some gF/\v.ownBlock≠some bm
 ne:gW≠gL/\gF≠gL
 b0:B0<=gW/\B0<=gL/\B0<=gF/\B0<=bm
 u:∀ k,B0<=k->M.at_ k=none/\¬ M.ft k
 z:0<B0
section
variable {M:Mp} {B0 gW gL gF bm:Nat} {l:List aK} {v v':Value} {w w5 w':World}
theorem LJ.bmL (h:LJ M B0 gW gL gF bm l v w):bm≠gL/\bm≠gW/\bm≠gF:=by
 obtain ⟨es,cl,h1,_⟩:=h.m;refine ⟨λe=>?_,λe=>?_,λe=>?_⟩
 .have:=h.bl.2; rw [<-e,h1] at this; cases this
 .have:=h.bw.2; rw [<-e,h1] at this; cases this
 .have:=h.bf.2; rw [<-e,h1] at this; cases this
theorem LJ.keep (h:LJ M B0 gW gL gF bm l v w) (hs:w.heap.size<=w'.heap.size) (hk:∀ k,B0<=k->k<w.heap.size->w'.heap[k]? = w.heap[k]?):LJ M B0 gW gL gF bm l v w' :=
 ⟨⟨aH h.bw.1 hs,(hk _ h.b0.1 h.bw.1).trans h.bw.2⟩,⟨aH h.bl.1 hs,(hk _ h.b0.2.1 h.bl.1).trans h.bl.2⟩,⟨aH h.bf.1 hs,(hk _ h.b0.2.2.1 h.bf.1).trans h.bf.2⟩,qA h.r λk e=>hk k (h.r.lt k e).1 (h.r.lt k e).2,h.m.same (hk _ h.b0.2.2.2 h.m.lt) λ_ _ h=>h,h.nr,h.ne,h.b0,h.u,h.z⟩
theorem LJ.fr (h:LJ M B0 gW gL gF bm l v w) (f:Fr M M w w'):LJ M B0 gW gL gF bm l v w':=h.keep f.size λk hk hl=>f.block k hl (h.u k hk).1
theorem LJ.push {s:aK} (h:LJ M B0 gW gL gF bm l v w) (hg:w.grownBy w5 v.ownBlock) (hrow:w5.ownsRow B0 9 1 v' (l.length+1) (l.map Value.string++[.string s])) (hl:v'.ownBlock=v.ownBlock\/v'.ownBlock=some w.heap.size) (hO:Rg.Own w' gL #[v'] 34) (hu:Rg.Upd w5 gL w'):LJ M B0 gW gL gF bm (l++[s]) v' w':=by
 have hs:w.heap.size<=w'.heap.size:=by rw [hu.size]; exact hg.size
 have hk:∀ k,k<w.heap.size->k≠gL->v.ownBlock≠some k->w'.heap[k]? = w.heap[k]? := λk hk h1 h2=>(hu.block k h1).trans (hg.block k hk λe=>h2 e.symm);have hn:∀ k,k<w.heap.size->v.ownBlock≠some k->v'.ownBlock≠some k:=λk hk h1 e=>by
  rcases hl with e2 | e2
  .exact h1 (by rw [<-e2]; exact e)
  .rw [e2] at e;have:=Option.some.inj e;omega
 have hb:=h.bmL;refine ⟨⟨aH h.bw.1 hs,(hk _ h.bw.1 h.ne.1 h.nr.1).trans h.bw.2⟩,hO,⟨aH h.bf.1 hs,(hk _ h.bf.1 h.ne.2 h.nr.2.2.1).trans h.bf.2⟩,?_,h.m.same (hk _ h.m.lt hb.1 h.nr.2.2.2) λ_ _ h=>h,⟨hn _ h.bw.1 h.nr.1,hn _ h.bl.1 h.nr.2.1,hn _ h.bf.1 h.nr.2.2.1,hn _ h.m.lt h.nr.2.2.2⟩,h.ne,h.b0,h.u,h.z⟩;rw [List.length_append,List.map_append];exact qA hrow λk e=>hu.block k λe2=>hn gL h.bl.1 h.nr.2.1 (by rw [e,e2])
theorem LJ.mark (h:LJ M B0 gW gL gF bm l v w) (hm:oJ w' bm (RU M)) (hu:Rg.Upd w bm w'):LJ M B0 gW gL gF bm l v w':=by
 have hb:=h.bmL;exact ⟨h.bw.upd hu (Ne.symm hb.2.1),h.bl.upd hu (Ne.symm hb.1),h.bf.upd hu (Ne.symm hb.2.2),qA h.r λk e=>hu.block k λe2=>h.nr.2.2.2 (by rw [e,e2]),hm,h.nr,h.ne,h.b0,h.u,h.z⟩
end
def LK (gL bm:Nat) (v:Value) (k:Nat):Prop:=k=gL\/k=bm\/v.ownBlock=some k
structure Ls (M:Mp) (B0 gW gL gF bm:Nat) (v0:Value) (w0:World) (l:List aK) (v:Value) (w:World):Prop where
 j:LJ M B0 gW gL gF bm l v w
 f:FrK M (LK gL bm v0) w0 w
 i:Inv M w
 t:Tab w
 o:v.ownBlock=v0.ownBlock\/∃ k,w0.heap.size<=k/\v.ownBlock=some k
section
variable {M:Mp} {B0 gW gL gF bm:Nat} {v0:Value} {w0:World} {l:List aK} {v v':Value} {w w5 w':World}
theorem Ls.start (h:LJ M B0 gW gL gF bm l v w) (hi:Inv M w) (hT:Tab w):Ls M B0 gW gL gF bm v w l v w:=⟨h,FrK.refl _ _ _,hi,hT,.inl rfl⟩
theorem Ls.fr (h:Ls M B0 gW gL gF bm v0 w0 l v w) (f:Fr M M w w') (i:Inv M w') (t:Tab w'):Ls M B0 gW gL gF bm v0 w0 l v w':=⟨h.j.fr f,h.f.trans (FrK.of (K:=λ_=>False) f) (λ_ h=>h.elim),i,t,h.o⟩
theorem Ls.below (h:Ls M B0 gW gL gF bm v0 w0 l v w) (hb:Below w.heap.size w w'):Ls M B0 gW gL gF bm v0 w0 l v w':=h.fr (Fr.below M hb) (h.i.below hb) (h.t.below hb h.t.pos)
theorem Ls.push {s:aK} (h:Ls M B0 gW gL gF bm v0 w0 l v w) (hg:w.grownBy w5 v.ownBlock) (hrow:w5.ownsRow B0 9 1 v' (l.length+1) (l.map Value.string++[.string s])) (hl:v'.ownBlock=v.ownBlock\/v'.ownBlock=some w.heap.size) (hO:Rg.Own w' gL #[v'] 34) (hu:Rg.Upd w5 gL w'):Ls M B0 gW gL gF bm v0 w0 (l++[s]) v' w':=by
 have hs:=h.f.size;have hrl:=h.j.r.lt;have hw:∀ k,M.ft k\/k=0->k<w.heap.size->w'.heap[k]? = w.heap[k]? := λk hk hl=>by
  have h1:k<B0:=by
   rcases hk with hk | rfl
   .exact Classical.byContradiction λe=>(h.j.u k (by omega)).2 hk
   .exact h.j.z
  have:=h.j.b0;exact (hu.block k (by omega)).trans (hg.block k hl λe=>by have:=(hrl k e.symm).1; omega)
 have hsz:w.heap.size<=w'.heap.size:=by rw [hu.size]; exact hg.size
 refine ⟨h.j.push hg hrow hl hO hu,⟨hu.os.trans (hg.os.trans h.f.os),hu.tape.trans (hg.tape.trans h.f.tape),hu.output.trans (hg.output.trans h.f.output),Nat.le_trans hs hsz,λk hk hm hn=>?_⟩,h.i.keep hsz λk hk=>hw k (.inl hk) (h.i.lt_ k hk),λi hi=>?_,?_⟩
 .refine ((hu.block k λe=>hn (.inl e)).trans (hg.block k (by omega) λe=>?_)).trans (h.f.block k hk hm hn);rcases h.o with e2 | ⟨k',hk',e2⟩
  .exact hn (.inr (.inr (by rw [<-e2]; exact e.symm)))
  .rw [e2] at e;have:=Option.some.inj e;omega
 .rw [World.cell?_of_block (hw _ (.inr rfl) h.t.pos)];exact h.t i hi
 .rcases hl with e2 | e2
  .rw [e2]; exact h.o
  .exact .inr ⟨_,hs,e2⟩
theorem Ls.mark (h:Ls M B0 gW gL gF bm v0 w0 l v w) (hm:oJ w' bm (RU M)) (hu:Rg.Upd w bm w'):Ls M B0 gW gL gF bm v0 w0 l v w':=by
 have hz:=h.j.z;have hb:=h.j.b0;exact ⟨h.j.mark hm hu,⟨hu.os.trans h.f.os,hu.tape.trans h.f.tape,hu.output.trans h.f.output,by rw [hu.size]; exact h.f.size,λk hk hm' hn=>(hu.block k λe=>hn (.inr (.inl e))).trans (h.f.block k hk hm' hn)⟩,h.i.upd hu (h.j.u bm hb.2.2.2).2,lC h.t hu (by omega),h.o⟩
theorem Ls.call {l':List aK} (h:Ls M B0 gW gL gF bm v0 w0 l v w) (g:Ls M B0 gW gL gF bm v w l' v' w'):Ls M B0 gW gL gF bm v0 w0 l' v' w':=by
 have hs:=h.f.size;refine ⟨g.j,h.f.trans g.f (λk hk=>?_),g.i,g.t,?_⟩
 .rcases hk with e | e | e
  .exact .inl (.inl e)
  .exact .inl (.inr (.inl e))
  .rcases h.o with e2 | ⟨k',hk',e2⟩
   .exact .inl (.inr (.inr (by rw [<-e2]; exact e)))
   .rw [e2] at e;have:=Option.some.inj e;exact .inr (by omega)
 .rcases g.o with e2 | ⟨k',hk',e2⟩
  .rw [e2]; exact h.o
  .exact .inr ⟨k',by omega,e2⟩
end
theorem Ww {M:Mp} {gL bm g:Nat} {v:Value} {w w':World} {t:TypeId} (h:Rg.Own w g cs t) (f:FrK M (LK gL bm v) w w') (hm:M.at_ g=none) (h1:g≠gL) (h2:g≠bm) (h3:v.ownBlock≠some g):Rg.Own w' g cs t :=
 ⟨aH h.1 f.size,(f.block g h.1 hm λe=>e.elim h1 λe=>e.elim h2 h3).trans h.2⟩
theorem MU (ev:Operand->Value) (o:Oper) (w:World) (b:Nat) (hb:b=w.heap.size) (ho:o.op = .alloc 69):(execOp ev o).run prog w = .ok (.value (.pointer (some ⟨b,0,none⟩))) (w.alloc (.cells #[] 69)):=by
 subst hb;unfold execOp;rw [ho];kernel_rfl
theorem rW {rest:List Oper} {act:Go.Act} {w:World} {Q:Exit->Go.Act->World->Prop} {b:Nat} (hgd:o.guard=none) (p q:Operand) (ho:o.op = .store 69 p q) (hx:act.eval p = .pointer (some ⟨b,0,none⟩)) (hy:act.eval q = .agg #[])
  (hQ:wpList prog ops Q rest (act.put o.dst undef) w):wpList prog ops Q (o::rest) act w :=
 wpList_plain hgd λK hK=>by
  have hst:(Instr.storeAt 69 (.pointer (some ⟨b,0,none⟩)) (.agg #[])).run prog w = .ok () w:=by kernel_rfl
  unfold Oper.wp execOp;simp only [ho,hx,hy,Sem.run_bind,Sem.run_pure,Result.andThen_ok,hst];exact hK _ _ hQ
theorem KQ:prog.built 69 []=some #[]:=by kernel_rfl
theorem IB:(prog.info? 9).map (λi=>(i.zero,i.size,i.bytes))=some (some (.string ⟨#[]⟩),1,16):=by kernel_rfl
theorem Ll {w:World} {B:Nat} {v:Value} {l:List aK} {s:aK} (hR:w.ownsRow B 9 1 v l.length (l.map Value.string)) (h2:Rg.Own w b2 #[.string s] 9) (hn:l.length<=1000000) (hB:B<=w.heap.size) :
  ∃ v' w',(Builtin.append_ #[34,34] ty #[v,.slice (some ⟨b2,0,none⟩) 1 1]).run prog w = .ok v' w'/\w'.ownsRow B 9 1 v' (l.length+1) (l.map Value.string++[.string s])/\w.grownBy w' v.ownBlock/\(v'.ownBlock=v.ownBlock\/v'.ownBlock=some w.heap.size):=by
 obtain ⟨i0,hi,hz,hsz,hby⟩:=info_parts IB;obtain ⟨v',w',hr,h3,h4,_,h5⟩:=run_append_own_at (P:=prog) w B 34 ty 9 i0 (.string ⟨#[]⟩) 1 16 underlying34 hi hz hsz hby rfl (by decide) v l.length _ hR ⟨b2,0,none⟩ 1 1 [.string s] rfl
  (λj u hu=>by
   have hj:j=0:=by
    have:=(List.getElem?_eq_some_iff.1 hu).1;simp at this;omega
   subst hj;have hu':Value.string s=u:=by simpa using hu
   rw [Addr.add_mid,<-hu'];exact Tm.aU h2 rfl)
  (λu hu=>by rw [List.mem_singleton.1 hu]; rfl) (by unfold maxLen; omega) (by omega) hB
 exact ⟨v',w',hr,h3,h4,h5⟩
theorem tF {a:Go.Act} {w:World} {K:Go.Act->World->Prop} {Q:Exit->Go.Act->World->Prop} {B:Nat} {v:Value} {l:List aK} {s:aK} (hw:Region.wanted o (yielded ops a.tmps)=true) (hR:w.ownsRow B 9 1 v l.length (l.map Value.string)) (h2:Rg.Own w b2 #[.string s] 9) (hn:l.length<=1000000) (hB:B<=w.heap.size)
  (ho:∃ x y,o.op = .call { callee:=.builtin .append,args:=#[x,y],argTypes:=#[34,34] }/\a.eval x=v/\a.eval y = .slice (some ⟨b2,0,none⟩) 1 1)
  (H:∀ v' w',w'.ownsRow B 9 1 v' (l.length+1) (l.map Value.string++[.string s])->w.grownBy w' v.ownBlock->(v'.ownBlock=v.ownBlock\/v'.ownBlock=some w.heap.size)->K (a.put o.dst v') w'):if Region.wanted o (yielded ops a.tmps)=true then Oper.wp prog o a w K Q else K (a.put o.dst undef) w:=by
 obtain ⟨x,y',ho,hs,hy⟩:=ho;obtain ⟨v',w',hr,h3,h4,h5⟩:=Ll (ty:=o.type) hR h2 hn hB;refine Rg.want hw ?_;unfold Oper.wp execOp;simp only [ho,resolve,invoke,builtin,Sem.run_bind,Sem.run_pure,Result.andThen_ok,List.map_toArray,List.map_cons,List.map_nil,hs,hy,hr];exact H v' w' h3 h4 h5
theorem vw {a:Go.Act} {w:World} {K:Go.Act->World->Prop} {Q:Exit->Go.Act->World->Prop} {s:aK} (hw:Region.wanted o (yielded ops a.tmps)=true)
  (ho:∃ y,o.op = .buildSlice 34 1 #[(0,y)]/\a.eval y = .string s)
  (H:∀ w' b,b=w.heap.size->Rg.Own w' b #[.string s] 9->Below w.heap.size w w'->K (a.put o.dst (.slice (some ⟨b,0,none⟩) 1 1)) w'):if Region.wanted o (yielded ops a.tmps)=true then Oper.wp prog o a w K Q else K (a.put o.dst undef) w:=by
 obtain ⟨y,ho,hy⟩:=ho;obtain ⟨i0,hi,hz,hs,hby⟩:=info_parts IB;refine Rg.want hw (wp_buildSlice 34 9 1 _ ho #[.string s] i0 _ underlying34 hi hz (by rw [hs]; decide) (by rw [hs]; decide) ?_ (H _ _ rfl (Rg.Own.new _ _ _) (al1 _ _)));simp only [List.map_toArray,List.map_cons,List.map_nil,hy,hs];kernel_rfl
theorem qH {a:Go.Act} {w:World} {K:Go.Act->World->Prop} {Q:Exit->Go.Act->World->Prop} (hw:Region.wanted o (yielded ops a.tmps)=true) {b n:Nat} (h:Rg.Own w b #[u] 34)
  (ho:∃ x y,o.op = .store 34 x y/\a.eval x = .pointer (some ⟨b,0,none⟩)/\a.eval y = .slice ad n c)
  (H:∀ w',Rg.Own w' b #[.slice ad n c] 34->Rg.Upd w b w'->K (a.put o.dst undef) w'):if Region.wanted o (yielded ops a.tmps)=true then Oper.wp prog o a w K Q else K (a.put o.dst undef) w:=by
 obtain ⟨x,y,ho,hx,hy⟩:=ho;have hc:w.cell? ⟨b,0,none⟩=some u:=Tm.aU (j:=0) h rfl;refine Rg.want hw ?_;unfold Oper.wp execOp;simp only [ho,hx,hy,Sem.run_bind,Sem.run_pure,Result.andThen_ok,YJ w hc (jk h)];exact H _ (dO h _) (bV _ _ _ _)
theorem Fx {α β:Type} (f : α->List β) (d : α) (l:List α) (j:Nat) (hj:j<l.length):(((l.take j).map f).flatten).length+(f (l.getD j d)).length<=((l.map f).flatten).length/\((l.take (j+1)).map f).flatten=((l.take j).map f).flatten++f (l.getD j d):=by
 have h:l=l.take j++l[j]::l.drop (j+1):=by rw [List.getElem_cons_drop,List.take_append_drop]
 have e:l.getD j d=l[j]:=by simp [List.getD,hj]
 refine ⟨?_,?_⟩
 .conv=>rhs; rw [h]
  rw [e,List.map_append,List.flatten_append,List.length_append,List.map_cons,List.flatten_cons,List.length_append];omega
 .rw [e,List.take_succ_eq_append_getElem hj,List.map_append,List.flatten_append];simp
theorem Wm {M:Mp} {B0 gW gL gF bm:Nat} (p:aJ) (x:T) (L:Nat) (g:Tr.Good x L) (hL:L<=64) (f:Fine x) (ht:IsT M p x)
  (fm:∀ s,s∈aZ x->∀ (p:aJ) (l:List aK) (v:Value) (w:World),IsT M p s->l.length+(bN s).length<=1000000->LJ M B0 gW gL gF bm l v w->Inv M w->Tab w->Calls prog 26 #[tv p,.pointer (some ⟨gW,0,none⟩),.pointer (some ⟨gL,0,none⟩),.pointer (some ⟨gF,0,none⟩)] w λe w'=>e = .returned (.tuple #[])/\∃ v',Ls M B0 gW gL gF bm v w (l++bN s) v' w')
  (l:List aK) (v:Value) (w:World) (hlen:l.length+(bN x).length<=1000000) (hj:LJ M B0 gW gL gF bm l v w) (hi:Inv M w) (hT:Tab w) :
  Calls prog 26 #[tv p,.pointer (some ⟨gW,0,none⟩),.pointer (some ⟨gL,0,none⟩),.pointer (some ⟨gF,0,none⟩)] w λe w'=>e = .returned (.tuple #[])/\∃ v',Ls M B0 gW gL gF bm v w (l++bN x) v' w':=by
 obtain ⟨w1,hw1⟩:=au (w.alloc (.cells #[.pointer p] 31))
 have hX1:Rg.Own w1 w.heap.size #[.pointer p] 31:=by rw [hw1]; exact Rg.Own.new _ _ _
 have hb1:Below w.heap.size w w1:=by rw [hw1]; exact al1 _ _
 have hS1:=(Ls.start hj hi hT).below hb1;obtain ⟨u,ok,hrun,htr,hfa⟩:=Aa (P:=prog) (key:=tv p) underlying67 underlying31 (λem=>ru em p w1) (OP w1) hS1.j.m (λk v hr=>by
  obtain ⟨p2,x2,rfl,hx2,_⟩:=hr;exact wR hS1.i ht hx2)
 have hu:u = .agg #[]:=by
  cases ok with
  | true =>
   obtain ⟨_,_,_,_,_,h⟩:=htr rfl;exact h
  | false=>exact hfa rfl
 subst hu;have hk:ok=true->bN x=[]:=λe=>by
  obtain ⟨p2,x2,hk2,hx2,h,_⟩:=htr e;injection hk2 with e2;have e1:p=p2:=by simpa using e2
  subst e1;rw [EY ht hx2];exact h
 have di:=hid hrun;have bj:=hid hS1;have bc:=hid hX1;have HW1:=hid hw1;have HLen:=hid hlen;have uu:=hid ht;have z3:=hid fm;have dg:=hid (λ(w2:World) (hi:Inv M w2) (hm:oJ w2 bm (RU M)) (hs:bN x=[])=>Eu (P:=prog) (key:=tv p) (val:=.agg #[]) underlying67 underlying31 (λem=>ru em p w2) (Ep p) hm (λk v hr=>by
  obtain ⟨p2,x2,rfl,hx2,_⟩:=hr;exact wR hi ht hx2) ⟨p,x,rfl,ht,hs,rfl⟩)
 have np:=hid (λwx (hi:Inv M wx) (hT:Tab wx)=>tC M p x L g hL f wx hi ht hT);have dc:=hid (λwx (hi:Inv M wx) (hT:Tab wx)=>sD M p x L g hL f wx hi ht hT);have gi:=hid (λwx (hi:Inv M wx) (hT:Tab wx)=>tu M p x L g hL f wx hi ht hT);obtain ⟨gT,ce⟩:=av w.heap.size
 have dy:Hid (w.heap.size=gT):=hid ce;have ot:Hid (M.at_ gT=none):=hid (by rw [<-ce]; exact hi.out aF);have CN:Hid (gT≠gL):=hid (by rw [<-ce]; have:=hj.bl.1; omega);have yh:Hid (gT≠bm/\gL<gT/\bm<gT):=hid (by rw [<-ce]; have:=hj.m.lt; have:=hj.bl.1; omega);have oy:Hid (v.ownBlock≠some gT):=hid (λe=>by have:=(hj.r.lt _ e).2; omega);rw [ce] at bc;have rg:Hid (l.length<=1000000):=hid (by omega);have cJ:Hid ((bH x).ks.length=16):=hid (dh x);obtain ⟨N,hN⟩:=av (bH x)
 have HN:=hid hN;rw [hN] at cJ;have hsl:∃ a n c,v = .slice a n c:=by
  obtain ⟨a,c,h⟩:=jY hj.r;exact ⟨a,_,c,h⟩
 obtain ⟨va,vc,hv⟩:∃ a c,v = .slice a l.length c:=jY hj.r;clear hX1 hb1 hS1 hrun htr hfa hi hT hj hw1 ce hlen fm g f hN ht hsl;cases ok with
 | true =>
  have hs:=hk rfl;have ae:Hid (∃ v',Ls M B0 gW gL gF bm v w (l++bN x) v' (w1.alloc (.cells #[] 69))):=hid ⟨v,by rw [hs,List.append_nil]; exact bj.out.below (al1 _ _)⟩;clear hk hs hv;go_enter func26,ntmps26;go_wp2_with (first
   | ((try rw [<-HW1.out,dy.out]); refine ay (SC (Tm.aU (j:=0) bj.out.j.bw rfl) ⟨_,rfl,rfl⟩) ?_)
   | (refine ay (aT (Tm.aU (j:=0) bc.out rfl) ⟨_,rfl,rfl⟩) ?_)
   | (refine ay (nN di.out ⟨_,_,rfl,rfl,rfl⟩) ?_)
   | (refine ay (MU _ _ _ w1.heap.size rfl rfl) ?_)
   | (refine rW rfl _ _ rfl rfl rfl ?_))
  exact bodyPost_ret (results_none rfl _ _ _) rfl ⟨rfl,ae.out⟩
 | false =>
  clear hk;obtain ⟨v0,hv0,hS0⟩:∃ v0,v0=v/\Ls M B0 gW gL gF bm v0 w l v w1:=⟨v,rfl,bj.out⟩
  rw [<-hv0];have ZM:=hid hv0;replace bj:=hid hS0;clear hv0 hS0;obtain ⟨b,hb⟩:=av (mD x)
  have ux:=hid hb;rw [hb] at np;obtain ⟨r,hr⟩:=av (ref x)
  have zd:=hid hr;rw [hr] at dc;obtain ⟨w2,hw2⟩:=au (w1.alloc (.cells #[] 69))
  have hb2:Below w1.heap.size w1 w2:=by rw [hw2]; exact al1 _ _
  have HS2:=hid (bj.out.below hb2);have cm:=hid (bc.out.below hb2);have HW2:=hid hw2;clear hb hr hb2 hw2;subst hv;go_enter func26,ntmps26;go_wp2_with (first
   | ((try rw [<-HW1.out,dy.out]); refine ay (SC (Tm.aU (j:=0) bj.out.j.bw rfl) ⟨_,rfl,rfl⟩) ?_)
   | (refine ay (aT (Tm.aU (j:=0) bc.out rfl) ⟨_,rfl,rfl⟩) ?_)
   | (refine ay (nN di.out ⟨_,_,rfl,rfl,rfl⟩) ?_)
   | (refine ay (MU _ _ _ w1.heap.size rfl rfl) ?_; rw [<-HW2.out])
   | (refine rW rfl _ _ rfl rfl rfl ?_)
   | (refine ay (Ab (Tm.aU (j:=0) HS2.out.j.bl rfl) ⟨_,rfl,rfl⟩) ?_)
   | (refine ay (aT (Tm.aU (j:=0) cm.out rfl) ⟨_,rfl,rfl⟩) ?_))
  refine (np.out w2 HS2.out.i HS2.out.t).mono ?_;rintro e w3 ⟨rfl,f3,i3,t3⟩;have cC:=hid (HS2.out.fr f3 i3 t3);have HX:=hid (rX cm.out f3 ot.out);clear f3 i3 t3 bj bc HS2 cm np di;go_upto_if 22 with fail
  go_cut [22] (λvb wx=>vb = .bool b/\∃ v',Hid (Ls M B0 gW gL gF bm v0 w (l++if b=true then [r] else []) v' wx)/\Hid (Rg.Own wx gT #[.pointer p] 31)/\Hid (v'.ownBlock≠some gT))
  case first =>
   cases b with
   | false =>
    go_wp2_with fail
    go_meet
    exact ⟨rfl,_,hid (by simpa using cC.out),HX,oy⟩
   | true =>
    have H:Hid (Ls M B0 gW gL gF bm v0 w l (.slice va l.length vc) w3.drew):=hid (cC.out.below (show Below w3.heap.size w3 w3.drew from below_drewN aG 1));obtain ⟨v,hv⟩:=av (Value.slice va l.length vc)
    rw [hv] at H oy;have ZN:=hid hv;clear hv;go_wp2_with fail
    refine aB (S:=λwz=>Rg.Own wz gT #[.pointer p] 31) (HX.out.drew) λhld=>?_;refine ah 1 ?_ (hy:=by intro wz hSw; (refine aT (Tm.aU (j:=0) hSw rfl) ?_; exact ⟨_,rfl,rfl⟩));try simp only [Act.put,ak]
    refine wpAnyH_ready (rs:=[0,2]) (by kernel_rfl) (by simp) ?_;refine Rg.readyC (i:=0) rfl (λK hK=>?_) (Rg.readyL (i:=2) rfl (λK hK=>?_))
    .refine Rg.meet (by rfl) _ _ (Ab (Tm.aU (j:=0) H.out.j.bl rfl) ?_) ?_
     .exact ⟨_,rfl,rfl⟩
     refine hK.out _ _ (hld) λhld=>?_;clear hK K;try simp only [Act.put,ak]
     refine aj 2 λK hK=>?_;go_simp;go_at_call 28
     (with_reducible refine (dc.out _ H.out.i H.out.t).mono ?_)
     rintro e du ⟨rfl,fx,ix,tx⟩;have hX2:=rX hld fx ot.out;replace H:=hid (H.out.fr fx ix tx);refine hK.out _ _ (hX2) λhld=>?_;clear hK K fx ix tx hX2;try simp only [Act.put,ak]
     refine aj 3 λK hK=>?_;refine vw (by rfl) ⟨_,rfl,rfl⟩ ?_;rintro wv1 b3 _ hO3 hbx;have am:=hid hO3;replace H:=hid (H.out.below hbx);have hX2:=hld.below hbx;refine hK.out _ _ (hX2) λhld=>?_;clear hK K hO3 hbx hX2;try simp only [Act.put,ak]
     refine aj 4 λK hK=>?_;refine tF (by rfl) H.out.j.r am.out rg.out (Nat.le_trans H.out.j.b0.2.1 (Nat.le_of_lt H.out.j.bl.1)) ⟨_,_,rfl,rfl,rfl⟩ ?_;rintro v4 wv2 hr4 hg4 hl4;have gA:(some gT:Option Nat)≠v.ownBlock:=λe=>oy.out e.symm;have hX2:Rg.Own wv2 gT #[.pointer p] 31:=⟨aH hld.1 hg4.size,(hg4.block gT hld.1 gA).trans hld.2⟩
     have gz:Hid (∀ u w5,Rg.Own w5 gL #[v4] 34->Rg.Upd wv2 gL w5->Ls M B0 gW gL gF bm v0 w u v4 w5\/u≠l++[r]):=hid (λu w5 hO hu=>by
      by_cases e:u=l++[r]
      .subst e;exact .inl (H.out.push hg4 hr4 hl4 hO hu)
      .exact .inr e)
     obtain ⟨a4,c4,hv4⟩:=jY hr4;have dl:Hid (Rg.Own wv2 gL #[v] 34):=hid ⟨aH H.out.j.bl.1 hg4.size,(hg4.block gL H.out.j.bl.1 λe=>H.out.j.nr.2.1 e.symm).trans H.out.j.bl.2⟩;have ja:Hid (v4.ownBlock≠some gT):=hid (λe=>by
      rcases hl4 with e2 | e2
      .exact oy.out (by rw [<-e2]; exact e)
      .rw [e2] at e;have:=Option.some.inj e;have:=hld.1;omega)
     subst hv4;refine hK.out _ _ (hX2) λhld=>?_;clear hK K hr4 hg4 hl4 gA hX2;try simp only [Act.put,ak]
     refine aj 5 λK hK=>?_;refine qH (by rfl) dl.out ⟨_,_,rfl,rfl,rfl⟩ ?_;rintro lg hn hu;have fc:=hid ((gz.out (l++[r]) lg hn hu).resolve_right λe=>e rfl);have hX2:=hld.upd hu CN.out;refine hK.out _ _ (hX2) λhld=>?_;clear hK K hn hu hX2;try simp only [Act.put,ak]
     refine aA ?_;go_wp2_with fail
     go_meet
     exact ⟨rfl,_,hid (by first | (rw [if_pos rfl]; exact fc.out) | (rw [if_pos trivial]; exact fc.out)),hid hld,ja⟩
    .go_simp;go_at_call 28
     (with_reducible refine (dc.out _ H.out.i H.out.t).mono ?_)
     rintro e du ⟨rfl,fx,ix,tx⟩;have hX2:=rX hld fx ot.out;replace H:=hid (H.out.fr fx ix tx);refine hK.out _ _ (hX2) λhld=>?_;clear hK K fx ix tx hX2;try simp only [Act.put,ak]
     refine wpAnyH_ready (rs:=[0,3]) (by kernel_rfl) (by simp) ?_;refine Rg.readyC (i:=0) rfl (λK hK=>?_) (Rg.readyL (i:=3) rfl (λK hK=>?_))
     .refine Rg.meet (by rfl) _ _ (Ab (Tm.aU (j:=0) H.out.j.bl rfl) ?_) ?_
      .exact ⟨_,rfl,rfl⟩
      refine hK.out _ _ (hld) λhld=>?_;clear hK K;try simp only [Act.put,ak]
      refine aj 3 λK hK=>?_;refine vw (by rfl) ⟨_,rfl,rfl⟩ ?_;rintro wv1 b3 _ hO3 hbx;have am:=hid hO3;replace H:=hid (H.out.below hbx);have hX2:=hld.below hbx;refine hK.out _ _ (hX2) λhld=>?_;clear hK K hO3 hbx hX2;try simp only [Act.put,ak]
      refine aj 4 λK hK=>?_;refine tF (by rfl) H.out.j.r am.out rg.out (Nat.le_trans H.out.j.b0.2.1 (Nat.le_of_lt H.out.j.bl.1)) ⟨_,_,rfl,rfl,rfl⟩ ?_;rintro v4 wv2 hr4 hg4 hl4;have gA:(some gT:Option Nat)≠v.ownBlock:=λe=>oy.out e.symm;have hX2:Rg.Own wv2 gT #[.pointer p] 31:=⟨aH hld.1 hg4.size,(hg4.block gT hld.1 gA).trans hld.2⟩
      have gz:Hid (∀ u w5,Rg.Own w5 gL #[v4] 34->Rg.Upd wv2 gL w5->Ls M B0 gW gL gF bm v0 w u v4 w5\/u≠l++[r]):=hid (λu w5 hO hu=>by
       by_cases e:u=l++[r]
       .subst e;exact .inl (H.out.push hg4 hr4 hl4 hO hu)
       .exact .inr e)
      obtain ⟨a4,c4,hv4⟩:=jY hr4;have dl:Hid (Rg.Own wv2 gL #[v] 34):=hid ⟨aH H.out.j.bl.1 hg4.size,(hg4.block gL H.out.j.bl.1 λe=>H.out.j.nr.2.1 e.symm).trans H.out.j.bl.2⟩;have ja:Hid (v4.ownBlock≠some gT):=hid (λe=>by
       rcases hl4 with e2 | e2
       .exact oy.out (by rw [<-e2]; exact e)
       .rw [e2] at e;have:=Option.some.inj e;have:=hld.1;omega)
      subst hv4;refine hK.out _ _ (hX2) λhld=>?_;clear hK K hr4 hg4 hl4 gA hX2;try simp only [Act.put,ak]
      refine aj 5 λK hK=>?_;refine qH (by rfl) dl.out ⟨_,_,rfl,rfl,rfl⟩ ?_;rintro lg hn hu;have fc:=hid ((gz.out (l++[r]) lg hn hu).resolve_right λe=>e rfl);have hX2:=hld.upd hu CN.out;refine hK.out _ _ (hX2) λhld=>?_;clear hK K hn hu hX2;try simp only [Act.put,ak]
      refine aA ?_;go_wp2_with fail
      go_meet
      exact ⟨rfl,_,hid (by first | (rw [if_pos rfl]; exact fc.out) | (rw [if_pos trivial]; exact fc.out)),hid hld,ja⟩
     .refine vw (by rfl) ⟨_,rfl,rfl⟩ ?_;rintro wv1 b3 _ hO3 hbx;have am:=hid hO3;replace H:=hid (H.out.below hbx);have hX2:=hld.below hbx;refine hK.out _ _ (hX2) λhld=>?_;clear hK K hO3 hbx hX2;try simp only [Act.put,ak]
      refine aj 0 λK hK=>?_;refine Rg.meet (by rfl) _ _ (Ab (Tm.aU (j:=0) H.out.j.bl rfl) ?_) ?_
      .exact ⟨_,rfl,rfl⟩
      refine hK.out _ _ (hld) λhld=>?_;clear hK K;try simp only [Act.put,ak]
      refine aj 4 λK hK=>?_;refine tF (by rfl) H.out.j.r am.out rg.out (Nat.le_trans H.out.j.b0.2.1 (Nat.le_of_lt H.out.j.bl.1)) ⟨_,_,rfl,rfl,rfl⟩ ?_;rintro v4 wv2 hr4 hg4 hl4;have gA:(some gT:Option Nat)≠v.ownBlock:=λe=>oy.out e.symm;have hX2:Rg.Own wv2 gT #[.pointer p] 31:=⟨aH hld.1 hg4.size,(hg4.block gT hld.1 gA).trans hld.2⟩
      have gz:Hid (∀ u w5,Rg.Own w5 gL #[v4] 34->Rg.Upd wv2 gL w5->Ls M B0 gW gL gF bm v0 w u v4 w5\/u≠l++[r]):=hid (λu w5 hO hu=>by
       by_cases e:u=l++[r]
       .subst e;exact .inl (H.out.push hg4 hr4 hl4 hO hu)
       .exact .inr e)
      obtain ⟨a4,c4,hv4⟩:=jY hr4;have dl:Hid (Rg.Own wv2 gL #[v] 34):=hid ⟨aH H.out.j.bl.1 hg4.size,(hg4.block gL H.out.j.bl.1 λe=>H.out.j.nr.2.1 e.symm).trans H.out.j.bl.2⟩;have ja:Hid (v4.ownBlock≠some gT):=hid (λe=>by
       rcases hl4 with e2 | e2
       .exact oy.out (by rw [<-e2]; exact e)
       .rw [e2] at e;have:=Option.some.inj e;have:=hld.1;omega)
      subst hv4;refine hK.out _ _ (hX2) λhld=>?_;clear hK K hr4 hg4 hl4 gA hX2;try simp only [Act.put,ak]
      refine aj 5 λK hK=>?_;refine qH (by rfl) dl.out ⟨_,_,rfl,rfl,rfl⟩ ?_;rintro lg hn hu;have fc:=hid ((gz.out (l++[r]) lg hn hu).resolve_right λe=>e rfl);have hX2:=hld.upd hu CN.out;refine hK.out _ _ (hX2) λhld=>?_;clear hK K hn hu hX2;try simp only [Act.put,ak]
      refine aA ?_;go_wp2_with fail
      go_meet
      exact ⟨rfl,_,hid (by first | (rw [if_pos rfl]; exact fc.out) | (rw [if_pos trivial]; exact fc.out)),hid hld,ja⟩
  case rest =>
   obtain ⟨rfl,v1,cV,cP,ja⟩:=hcut;obtain ⟨wa,iz⟩:=au wc
   subst iz;have hkd:(l++if b=true then [r] else [])++((aZ x).map bN).flatten=l++bN x:=by
    have h1:=ux.out;have h2:=zd.out;cases b with
    | true =>
     rw [if_pos rfl];cases x with
     | stub r' =>
      have e:r'=r:=h2;subst e;simp [aZ,bN]
     | _=>cases h1
    | false =>
     rw [if_neg (by decide),List.append_nil,JH];intro hs;cases x with
     | stub r'=>cases h1
     | _=>exact hs
   obtain ⟨l1,hl1⟩:=av (l++if b=true then [r] else [])
   rw [hl1] at cV hkd;have eE:=hid hkd;have Hn:Hid (∀ k,v1.ownBlock=some k->k<wa.heap.size):=hid (λk e=>(cV.out.j.r.lt k e).2);have V1:Hid (gL<wa.heap.size/\bm<wa.heap.size):=hid ⟨cV.out.j.bl.1,cV.out.j.m.lt⟩;clear hkd hl1 cC HX dc;go_wp2_with (first
    | (refine ay (aT (Tm.aU (j:=0) cP.out rfl) ⟨_,rfl,rfl⟩) ?_))
   refine (gi.out wa cV.out.i cV.out.t).mono ?_;rintro e w5 ⟨na,nn,nc,ka,kc,ps,rfl,_,_,gj,cR,hka,f5,i5,t5⟩;rw [HN.out];have lP:=hid (cV.out.fr f5 i5 t5);have cT:=hid (rX cP.out f5 ot.out);have fl:=hid cR;have CR:=hid hka;have lL:dJ (w5.alloc (.cells (ndC nd0 none 0 0) 56)) w5.heap.size nd0 none 0 0:=Rg.Own.new _ _ _;have gm:=hid lL;obtain ⟨w6,eQ⟩:=au ((w5.alloc (.cells (ndC nd0 none 0 0) 56)).setRow w5.heap.size (ndC N na nn nc))
   have hb6:Below w5.heap.size w5 w6:=by rw [eQ]; exact bS (al1 _ _) aF _
   have sC:=hid eQ;have fX:=hid (lP.out.below hb6);have lO:=hid (cT.out.below hb6);have Hp:=hid (gj.below hb6);have cW:Hid (wa.heap.size<=w6.heap.size):=hid (Nat.le_trans f5.size hb6.size);have qT:=hid fX.out.i;have yb:ps.length<=16:=by rw [cR.1]; exact wP x
   clear gj cR hka f5 i5 t5 lL eQ hb6 cV cP lP cT gi;go_wp2_with (first
    | (refine ay (aY _ _ _ w5.heap.size rfl rfl) ?_)
    | (refine bD gm.out rfl N na nn nc cJ.out rfl _ _ rfl rfl rfl rfl ?_; rw [<-sC.out]))
   obtain ⟨n,hn⟩:=av ps.length
   have ue:=hid hn;rw [hn] at yb ⊢;clear hn;go_loopw [35] (λi wr=>∃ (j:Nat) (v':Value),j<=n/\i = .int .i64 j/\Hid (Ls M B0 gW gL gF bm v1 w6 (l1++(((aZ x).take j).map bN).flatten) v' wr)) (λi _=>16-(intOf i).toNat)
   case atStart=>exact ⟨0,v1,Nat.zero_le _,rfl,hid (by
    have:=Ls.start fX.out.j fX.out.i fX.out.t;simpa using this)⟩
   case round =>
    obtain ⟨j,v2,hj,rfl,HG⟩:=hrel;by_cases hlt:j<n
    .have i1:(j:Int)<(n:Int):=by omega
     obtain ⟨kb,ko,rfl,cA,hkc⟩:=Hp.out.2.2.2.2 j (by rw [ue.out]; exact hlt);have hjk:j<(aZ x).length:=by rw [<-fl.out.1,ue.out]; exact hlt
     have xo:=CR.out _ rfl;have hnk:¬ LK gL bm v1 kb:=λe=>by
      have h1:=V1.out;have h2:wa.heap.size<=kb:=xo;rcases e with e | e | e
      .omega
      .omega
      .have:=Hn.out _ e;omega
     have zg:wr.cell? ⟨kb,ko+j,none⟩=some (.pointer (ps.getD j none)):=by
      rw [World.cell?_of_block (w:=w6) (HG.out.f.block kb cA (qT.out.lT hkc) hnk)];exact hkc
     have HC:=hid zg;have htk:=fl.out.2 j (by rw [ue.out]; exact hlt);obtain ⟨hfl,hft⟩:=Fx bN .nil (aZ x) j hjk;have hcall:∀ w7,Ls M B0 gW gL gF bm v1 w6 (l1++(((aZ x).take j).map bN).flatten) v2 w7->Calls prog 26 #[tv (ps.getD j none),.pointer (some ⟨gW,0,none⟩),.pointer (some ⟨gL,0,none⟩),.pointer (some ⟨gF,0,none⟩)] w7 λe w'=>e = .returned (.tuple #[])/\∃ v',Ls M B0 gW gL gF bm v2 w7 ((l1++(((aZ x).take j).map bN).flatten)++bN ((aZ x).getD j .nil)) v' w':=λw7 h7 =>
      z3.out _ (oO hjk) _ _ v2 w7 htk (by
       have h1:=congrArg List.length eE.out;have h2:=HLen.out;simp only [List.length_append] at h1 ⊢;omega) h7.j h7.i h7.t
     have cH:=hid hcall;have zj:=hid hft;obtain ⟨q,hq⟩:=av (ps.getD j none)
     rw [hq] at HC cH;have z7:=Rg.Own.new wr #[.pointer none] 31;have mS:=hid z7;clear cA hkc hjk xo hnk zg htk hfl hft hcall hq z7;go_wp2_with (first
      | (refine ay (aT HC.out ⟨_,rfl,rfl⟩) ?_)
      | (refine ay (aW _ _ _ wr.heap.size rfl rfl) ?_)
      | (refine aX mS.out (by decide) q rfl _ _ rfl rfl rfl ?_; intro w7 eL df; have kv:Hid (Rg.Own w7 wr.heap.size #[.pointer q] 31):=hid eL; have cq:Hid (Below wr.heap.size wr w7):=hid (df.below (al1 _ _) aF); clear eL df; have pC:=hid (HG.out.below cq.out))
      | (refine ay (XK (Tm.aU (j:=0) pC.out.j.bf rfl) ⟨_,rfl,rfl⟩) ?_)
      | (refine ay (aT (Tm.aU (j:=0) kv.out rfl) ⟨_,rfl,rfl⟩) ?_))
     refine (cH.out w7 pC.out).mono ?_;rintro e w8 ⟨rfl,v3,h8⟩;have CM:=hid (pC.out.call h8);clear h8 pC kv cq HC mS;go_wp2;go_roundw
     case rel=>exact ⟨j+1,v3,by omega,by go_num,by rw [zj.out,<-List.append_assoc]; exact CM⟩
     case measure=>simp [intOf]; omega
    .obtain rfl:j=n:=by omega
     have hG:=fX.out.call (by
      have h1:=HG.out;rw [<-ue.out,fl.out.1,List.take_length,eE.out] at h1;exact h1)
     have hX:=Ww lO.out HG.out.f ot.out CN.out yh.out.1 ja.out;have k9:=hid hG;have EQ:=hid hX;obtain ⟨a2,c2,rfl⟩:=jY hG.j.r;by_cases hs:bN x=[]
     .have hE:l++bN x=l:=by rw [hs,List.append_nil]
      have zp:=hid (dg.out wr hG.i hG.j.m hs);have HEq:=hid hE;rw [hE] at k9;clear hG hX hs hE HG;go_wp2_with (first
       | (refine ay (Ab (Tm.aU (j:=0) k9.out.j.bl rfl) ⟨_,rfl,rfl⟩) ?_)
       | (refine ay (SC (Tm.aU (j:=0) k9.out.j.bw rfl) ⟨_,rfl,rfl⟩) ?_)
       | (refine ay (aT (Tm.aU (j:=0) EQ.out rfl) ⟨_,rfl,rfl⟩) ?_)
       | (refine ay (bK KQ ⟨_,rfl,rfl⟩) ?_)
       | (refine yD zp.out rfl _ _ _ rfl rfl rfl rfl ?_; intro w9 zr al; have V2:=hid zr; have s0:=hid al; clear zr al))
      exact bodyPost_end (results_none rfl _ _ _) rfl ⟨rfl,_,by rw [HEq.out]; exact k9.out.mark V2.out s0.out⟩
     .have hne:(l++bN x).length≠l.length:=by
       rw [List.length_append];have:(bN x).length≠0:=λe=>hs (List.length_eq_zero_iff.1 e);omega
      obtain ⟨m,hm⟩:=av ((l++bN x).length)
      rw [hm] at hne k9;have b0:((m:Int)==(l.length:Int))=false:=by rw [beq_eq_false_iff_ne]; omega
      have b1:decide ((m:Int)=(l.length:Int))=false:=decide_eq_false (by omega);have b2:(m==l.length)=false:=by rw [beq_eq_false_iff_ne]; exact hne
      have b3:decide (m=l.length)=false:=decide_eq_false hne;clear hG hX hs hne hm HG;go_wp2_with (first
       | (refine ay (Ab (Tm.aU (j:=0) k9.out.j.bl rfl) ⟨_,rfl,rfl⟩) ?_))
      exact bodyPost_end (results_none rfl _ _ _) rfl ⟨rfl,_,k9.out⟩
theorem Ob {M:Mp} {B0 gW gL gF bm:Nat} (L:Nat):L<=64->∀ (x:T),Tr.Good x L->Fine x->∀ (p:aJ) (l:List aK) (v:Value) (w:World),IsT M p x->l.length+(bN x).length<=1000000->LJ M B0 gW gL gF bm l v w->Inv M w->Tab w->
  Calls prog 26 #[tv p,.pointer (some ⟨gW,0,none⟩),.pointer (some ⟨gL,0,none⟩),.pointer (some ⟨gF,0,none⟩)] w λe w'=>e = .returned (.tuple #[])/\∃ v',Ls M B0 gW gL gF bm v w (l++bN x) v' w':=by
 induction L using Nat.strongRecOn with
 | ind L ih =>
  intro hL x g f p l v w ht hlen hj hi hT;exact Wm p x L g hL f ht (λs hs p l v w ht hlen hj hi hT=>by
   obtain ⟨_,f',_,L',hl,g'⟩:=iE g f s hs;exact ih L' hl (by omega) s g' f' p l v w ht hlen hj hi hT) l v w hlen hj hi hT
def uS (M:Mp) (w:World) (l:List aK) (e:Ending) (w':World):Prop:=∃ a n c,e = .returned (.slice a n c)/\lW w' a n c l/\(∀ ad,a=some ad->w.heap.size<=ad.block)/\Fr M M w w'/\Inv M w'/\Tab w'
theorem Pe {B:Nat} {w:World} {n:Nat} {l:List aK} (h:w.ownsRow B 9 1 (.slice a n c) l.length (l.map Value.string)):n=l.length/\lW w a n c l/\∀ ad,a=some ad->B<=ad.block:=by
 have hlt:=h.lt;rcases h.2 with ⟨e,hz⟩ | ⟨g,cap,cur,e,hbg,hg,hnc,hcm,hcs,htake⟩
 .injection e with e1 e2 e3;subst e1 e2 e3;have:l=[]:=List.eq_nil_of_length_eq_zero hz;subst this;exact ⟨rfl,⟨aF,Nat.zero_le _,rfl,λj hj=>absurd hj (Nat.not_lt_zero _)⟩,λ_ e=>by cases e⟩
 .injection e with e1 e2 e3;subst e1 e2 e3;refine ⟨rfl,⟨hnc,hcm,rfl,λj hj=>?_⟩,λad e=>by cases e; exact hbg⟩;refine ⟨g,0,rfl,(Array.getElem?_eq_some_iff.1 hg).1,?_⟩;have:=h.cells (g:=g) rfl j (.string (l.getD j eB)) (by rw [List.getElem?_map,List.getElem?_eq_getElem hj]; simp [List.getD,hj]);rw [Addr.add_mid] at this;exact this
theorem xg (M:Mp) (p:aJ) (t:T) (L:Nat) (g:Tr.Good t L) (hL:L<=64) (f:Fine t) (hlen:(bN t).length<=1000000) (w:World) (hi:Inv M w) (ht:IsT M p t) (hT:Tab w) :
  Calls prog 8 #[tv p] w (uS M w (bN t)):=by
 obtain ⟨w1,hw1⟩:=au ((w.alloc (.cells #[.pointer p] 31)).alloc (.cells #[.slice none 0 0] 34))
 obtain ⟨w2,hw2⟩:=au ((w1.alloc (.map #[] 0)).alloc (.cells #[.map none] 67))
 have hb1:Below w.heap.size w w1:=by rw [hw1]; exact al2 _ _ _
 have hs1:w1.heap.size=w.heap.size+2:=by rw [hw1]; simp
 have d9:Below w1.heap.size w1 w2:=by rw [hw2]; exact al2 _ _ _
 have hs2:w2.heap.size=w.heap.size+4:=by rw [hw2]; simp [hs1]
 have hb2:=bst hb1 d9;have hO:Rg.Own w2 w.heap.size #[.pointer p] 31:=by
  refine Rg.Own.below ?_ d9;rw [hw1];exact (Rg.Own.new _ _ _).below (al1 _ _)
 have dm:Rg.Own w2 (w.heap.size+1) #[.slice none 0 0] 34:=by
  refine Rg.Own.below ?_ d9;have:=Rg.Own.new (w.alloc (.cells #[.pointer p] 31)) #[.slice none 0 0] 34;rw [hw1];simpa using this
 have hM:w2.heap[w.heap.size+2]? = some (.map #[] 0):=by
  rw [hw2,(al1 (w1.alloc (.map #[] 0)) (.cells #[.map none] 67)).block _ (by simp [hs1])];have h:∀ v:World,(v.alloc (.map #[] 0)).heap[v.heap.size]? = some (.map #[] 0):=λv=>by show (v.heap.push _)[v.heap.size]? = _; simp
  have h2:=h w1;rwa [hs1] at h2
 have hW:Rg.Own w2 (w.heap.size+3) #[.map none] 67:=by
  have:=Rg.Own.new (w1.alloc (.map #[] 0)) #[.map none] 67;have e:(w1.alloc (.map #[] 0)).heap.size=w.heap.size+3:=by simp [hs1]
  rw [e] at this;rw [hw2];exact this
 obtain ⟨gT,ce⟩:=av w.heap.size
 obtain ⟨gL,Hs⟩:=av (w.heap.size+1)
 obtain ⟨bm,dj⟩:=av (w.heap.size+2)
 obtain ⟨gW,hgW⟩:=av (w.heap.size+3)
 obtain ⟨gF,OK⟩:=av w2.heap.size
 have lR:Hid (∀ w3 w4 w5,Rg.Own w3 gW #[.map (some bm)] 67->Rg.Upd w2 gW w3->w4=w3.alloc (.cells #[.nilFunc] 68)->Rg.Own w5 gF #[.func (.func 26) #[] #[.pointer (some ⟨gW,0,none⟩),.pointer (some ⟨gL,0,none⟩),.pointer (some ⟨gF,0,none⟩)]] 68->Rg.Upd w4 gF w5->
   w5.cell? ⟨gT,0,none⟩=some (.pointer p)/\Calls prog 26 #[tv p,.pointer (some ⟨gW,0,none⟩),.pointer (some ⟨gL,0,none⟩),.pointer (some ⟨gF,0,none⟩)] w5 λe w'=>e = .returned (.tuple #[])/\∃ a n c,w'.cell? ⟨gL,0,none⟩=some (.slice a n c)/\lW w' a n c (bN t)/\(∀ ad,a=some ad->w.heap.size<=ad.block)/\Fr M M w w'/\Inv M w'/\Tab w'):=hid (λw3 w4 w5 hW3 hu3 hw4 GS ax=>by
  have hs3:=hu3.size;have zs:Below w3.heap.size w3 w4:=by rw [hw4]; exact al1 _ _
  have hs4:w4.heap.size=w.heap.size+5:=by rw [hw4]; simp [hs3,hs2]
  have hs5:=ax.size;have hb5:Below w.heap.size w w5:=ax.below ((hu3.below hb2 (by omega)).trans (zs.mono (by omega))) (by omega);have hi5:=hi.below hb5;have hZ:=hT.below hb5 hT.pos;have aE:Rg.Own w5 gT #[.pointer p] 31:=by rw [<-ce]; exact ((hO.upd hu3 (by omega)).below zs).upd ax (by omega)
  have hj:LJ M w.heap.size gW gL gF bm [] (.slice none 0 0) w5:=by
   refine ⟨(hW3.below zs).upd ax (by omega),?_,GS,World.ownsRow_nil _ _ _ _,BL ?_ _,⟨λe=>(by cases e),λe=>(by cases e),λe=>(by cases e),λe=>(by cases e)⟩,⟨by omega,by omega⟩,⟨by omega,by omega,by omega,by omega⟩,λk hk=>⟨hi.out hk,hi.free hk⟩,hT.pos⟩
   .rw [<-Hs];exact ((dm.upd hu3 (by omega)).below zs).upd ax (by omega)
   .rw [ax.block bm (by omega),zs.block bm (by omega),hu3.block bm (by omega),<-dj];exact hM
  refine ⟨Tm.aU (j:=0) aE rfl,(Ob L hL t g f p [] (.slice none 0 0) w5 ht (by simpa using hlen) hj hi5 hZ).mono ?_⟩;rintro e w' ⟨he,v',h⟩;rw [List.nil_append] at h;obtain ⟨a,c,rfl⟩:=jY h.j.r;obtain ⟨_,hst,hlo⟩:=Pe h.j.r;refine ⟨he,a,_,c,Tm.aU (j:=0) h.j.bl rfl,hst,hlo,⟨h.f.os.trans hb5.os,h.f.tape.trans hb5.tape,h.f.output.trans hb5.output,Nat.le_trans hb5.size h.f.size,λk hk hm=>(h.f.block k (aH hk hb5.size) hm λe=>?_).trans (hb5.block k hk),λ_ _ h=>h,λ_ _ h=>h,λ_ h=>h,λ_ h=>.inl h⟩,h.i,h.t⟩;rcases e with e | e | e
  .omega
  .omega
  .cases e)
 have HW1:=hid hw1;have HW2:=hid hw2;have V3:Hid (Rg.Own w2 gW #[.map none] 67):=hid (by rw [<-hgW]; exact hW);have cW:Hid (w.heap.size=gT/\gL=w.heap.size+1/\bm=w.heap.size+2/\gW=w.heap.size+3/\w2.heap.size=gF/\w1.heap.size=bm):=hid ⟨ce,Hs.symm,dj.symm,hgW.symm,OK,by rw [hs1]; exact dj⟩;obtain ⟨xs,hxs⟩:=av (bN t)
 rw [hxs] at lR ⊢;clear hb1 hs1 d9 hs2 hb2 hO dm hM hW ce Hs dj hgW OK hi ht hT hw1 hw2 hxs g f hlen;have eR:∀ (fn:Fn) (first cap:aM) (w:World),(Instr.makeFunc fn first cap).run prog w = .ok (.func fn first cap) w:=λ_ _ _ _=>rfl;have hmm:∀ w:World,(Instr.makeMap 67 none).run prog w = .ok (.map (some w.heap.size)) (w.alloc (.map #[] 0)):=@run_makeMap prog _;have hgo:Calls prog 8 #[.agg #[.pointer p]] w (uS M w xs):=by
  go_enter func8,ntmps8;go_wp2_with (first
   | (refine ay (Zp _ _ _ gL (by rw [cW.out.2.1]; simp) rfl) ?_; rw [<-HW1.out,cW.out.1])
   | (refine ay (YD _ _ _ gW (by rw [cW.out.2.2.2.1]; simp [cW.out.2.2.2.2.2,cW.out.2.2.1]) rfl) ?_; rw [<-HW2.out])
   | (refine jA V3.out Ze rfl _ _ rfl rfl (by first | rfl | (rw [<-cW.out.2.2.2.2.2]; rfl)) ?_; intro w3 hO3 hu3; have am:=hid hO3; have ld:=hid hu3; clear hO3 hu3)
   | (refine ay (YL _ _ _ gF (by rw [ld.out.size]; exact cW.out.2.2.2.2.1.symm) rfl) ?_; obtain ⟨w4,hw4⟩:=au (w3.alloc (.cells #[.nilFunc] 68)); have qS:Hid (Rg.Own w4 gF #[.nilFunc] 68):=hid (by
     have:=Rg.Own.new w3 #[.nilFunc] 68;rw [ld.out.size,cW.out.2.2.2.2.1] at this;rw [hw4];exact this); have gr:=hid (λw5=>lR.out w3 w4 w5 (by rw [<-cW.out.2.2.2.2.2]; exact am.out) ld.out hw4); rw [<-hw4]; clear hw4)
   | (refine jA qS.out Zf rfl _ _ rfl rfl rfl ?_; intro w5 aE ax; have ON:=hid aE; obtain ⟨OR,hl5⟩:=gr.out w5 aE ax; have sr:=hid OR; have fc:=hid hl5; clear aE ax OR hl5)
   | (refine ay (XK (Tm.aU (j:=0) ON.out rfl) ⟨_,rfl,rfl⟩) ?_)
   | (refine ay (aT sr.out ⟨_,rfl,rfl⟩) ?_))
  refine fc.out.mono ?_;rintro e w6 ⟨rfl,a,n,c,hc6,OS⟩;have V4:=hid hc6;have fW:=hid OS;clear hc6 OS fc sr ON;go_wp2_with (first
   | (refine ay (Ab V4.out ⟨_,rfl,rfl⟩) ?_))
  go_ret;exact ⟨a,n,c,rfl,fW.out⟩
 exact hgo
theorem LG {w:World} {k:aL} (hk:k.length=32) (b:Nat) (hb:b=w.heap.size) (ho:∃ p,o.op = .buildSlice 23 1 #[(0,p)]/\ev p = .agg (kc k)) :
  (execOp ev o).run prog w = .ok (.value (.slice (some ⟨b,0,none⟩) 1 1)) (w.alloc (.cells (kc k) 25)):=by
 obtain ⟨p,ho,hx⟩:=ho;subst hb;unfold execOp;simp only [ho,List.map_toArray,List.map_cons,List.map_nil,hx];obtain ⟨a0,a1,a2,a3,a4,a5,a6,a7,b0,b1,b2,b3,b4,b5,b6,b7,c0,c1,c2,c3,c4,c5,c6,c7,d0,d1,d2,d3,d4,d5,d6,d7,rfl⟩:=qp k hk;kernel_rfl
theorem UL {w:World} {b:Nat} {k:aL} {t:TypeId} (h:Rg.Own w b (kc k) t) (hk:k.length=32):Ew.GQ w (some ⟨b,0,none⟩) 1 1 [k] :=
 ⟨aF,by unfold maxLen; omega,rfl,λe=>(by cases e),λx hx=>by rw [List.mem_singleton.1 hx]; exact hk,λj hj=>by
  obtain rfl:j=0:=by omega
  refine ⟨b,0,rfl,h.1,λi v hv=>aU h ?_⟩;unfold kc;simpa [Ew.XV] using hv⟩
theorem wZ {M M':Mp} {w w':World} {b off:Nat} {p:aJ} (hi:Inv M w) (f:Fr M M' w w') (h:w.cell? ⟨b,off,none⟩=some (.pointer p)):w'.cell? ⟨b,off,none⟩=some (.pointer p):=by
 rw [f.cell (World.block_lt_of_cell? w _ h) (hi.lT h)];exact h
structure Ak (w0:World) (M:Mp) (w:World) (ga gb:Nat) (A B:aL) (L:List (Nat × aJ × T)):Prop where
 l:Lw w0 M w
 ka:Rg.Own w ga (kc A) 25
 kb:Rg.Own w gb (kc B) 25
 kla:A.length=32
 klb:B.length=32
 bs:∀ x∈L,Bx M w x.1 #[.pointer x.2.1] 31/\IsT M x.2.1 x.2.2
namespace Ak
variable {w0:World} {M M':Mp} {w w':World} {ga gb g:Nat} {A B:aL} {L:List (Nat × aJ × T)} {p p':aJ} {t t':T}
theorem below (h:Ak w0 M w ga gb A B L) (hb:Below w.heap.size w w'):Ak w0 M w' ga gb A B L:=⟨h.l.below hb,h.ka.below hb,h.kb.below hb,h.kla,h.klb,λx hx=>⟨(h.bs x hx).1.below hb,(h.bs x hx).2⟩⟩
theorem frm (h:Ak w0 M w ga gb A B L) (f:Fr M M' w w') (i:Inv M' w') (tt:Tab w'):Ak w0 M' w' ga gb A B L:=⟨h.l.fr f i tt,rZ h.ka (Ev h.kla) h.l.i f,rZ h.kb (Ev h.klb) h.l.i f,h.kla,h.klb,λx hx=>⟨(h.bs x hx).1.frm h.l.i f,(h.bs x hx).2.mono f.mono⟩⟩
theorem add (h:Ak w0 M w ga gb A B L) (hx:Bx M w g #[.pointer p] 31) (ht:IsT M p t):Ak w0 M w ga gb A B ((g,p,t)::L):=⟨h.l,h.ka,h.kb,h.kla,h.klb,λx hm=>by
 rcases List.mem_cons.1 hm with rfl | hm
 .exact ⟨hx,ht⟩
 .exact h.bs x hm⟩
theorem box (h:Ak w0 M w ga gb A B L) (ht:IsT M p t) (hO:Rg.Own w' w.heap.size #[.pointer p] 31) (hu:Rg.Upd (w.alloc (.cells #[.pointer none] 31)) w.heap.size w'):Ak w0 M w' ga gb A B ((w.heap.size,p,t)::L):=by
 have hb:Below w.heap.size w w':=hu.below (al1 _ _) aF;exact (h.below hb).add ⟨hO,h.l.i.free aF,cZ _⟩ ht
theorem own (h:Ak w0 M w ga gb A B L) (hm:(g,p,t)∈L):Rg.Own w g #[.pointer p] 31:=(h.bs _ hm).1.o
theorem cell (h:Ak w0 M w ga gb A B L) (hm:(g,p,t)∈L):w.cell? ⟨g,0,none⟩=some (.pointer p):=aU (j:=0) (h.own hm) rfl
theorem tr (h:Ak w0 M w ga gb A B L) (hm:(g,p,t)∈L):IsT M p t:=(h.bs _ hm).2
theorem lt (h:Ak w0 M w ga gb A B L) (hm:(g,p,t)∈L):g<w.heap.size:=(h.own hm).1
theorem Rm {t1 t2 t3:T} {p1 p2 p3:aJ} {g1 g2 g3:Nat} (h:Ak w0 M w ga gb A B [(g1,p1,t1),(g2,p2,t2),(g3,p3,t3)]) (hg:g=w.heap.size):w0.heap.size<=g/\g≠ga/\g≠gb/\g≠g3/\g≠g2/\g≠g1:=by
 have h0:=h.l.b.size;have h1:=h.ka.1;have h2:=h.kb.1;have h3:=h.lt (g:=g1) (p:=p1) (t:=t1) (by simp);have h4:=h.lt (g:=g2) (p:=p2) (t:=t2) (by simp);have h5:=h.lt (g:=g3) (p:=p3) (t:=t3) (by simp);omega
theorem set (h:Ak w0 M w ga gb A B ((g,p,t)::L)) (hu:Rg.Upd w g w') (hO:Rg.Own w' g #[.pointer p'] 31) (ht:IsT M p' t') (h0:w0.heap.size<=g) (h1:ga≠g) (h2:gb≠g) (h3:∀ x∈L,x.1≠g):Ak w0 M w' ga gb A B ((g,p',t')::L):=by
 have hf:=(h.bs _ List.mem_cons_self).1.n;refine ⟨h.l.upd hu h0 hf,h.ka.upd hu h1,h.kb.upd hu h2,h.kla,h.klb,λx hm=>?_⟩;rcases List.mem_cons.1 hm with rfl | hm
 .exact ⟨⟨hO,hf,cZ _⟩,ht⟩
 .have:=h.bs x (List.mem_cons_of_mem _ hm);exact ⟨this.1.upd hu (h3 x hm),this.2⟩
theorem got {e:Ending} (h:Ak w0 M w ga gb A B L) (gt:wY M w t e w'):∃ p M',e = .returned (tv p)/\IsT M' p t/\Ak w0 M' w' ga gb A B L:=by
 obtain ⟨q,M',he,ht,f,i,tt⟩:=gt;exact ⟨q,M',he,ht,h.frm (f.fr λ_ h=>h.elim) i tt⟩
theorem BK {n:Nat} {e:Ending} (h:Ak w0 M w ga gb A B L) (gt:pW M w t n e w'):∃ p M',e = .returned (.tuple #[tv p,.int .i64 (fJ n)])/\IsT M' p t/\Ak w0 M' w' ga gb A B L/\Fr M M' w w':=by
 obtain ⟨q,M',he,ht,f,i,tt⟩:=gt;exact ⟨q,M',he,ht,h.frm (f.fr λ_ h=>h.elim) i tt,f.fr λ_ h=>h.elim⟩
theorem tell {s:aK} {e:Ending} (h:Ak w0 M w ga gb A B L) (gt:rH M w s e w'):e = .returned (.string s)/\Ak w0 M w' ga gb A B L/\Fr M M w w':=by
 obtain ⟨he,hl,f⟩:=h.l.tell gt;exact ⟨he,h.frm f hl.i hl.t,f⟩
theorem refs {l:List aK} {n:Nat} {e:Ending} (h:Ak w0 M w ga gb A B L) (hn:l.length=n) (gt:uS M w l e w'):∃ a c,e = .returned (.slice a n c)/\Ak w0 M w' ga gb A B L/\Fr M M w w':=by
 obtain ⟨a,m,c,he,hs,_,f,i,tt⟩:=gt;have:m=n:=by rw [<-hn]; exact hs.len.symm
 subst this;exact ⟨a,c,he,h.frm f i tt,f⟩
end Ak
structure Az (w0:World) (M:Mp) (w:World) (ga gb:Nat) (A B:aL) (L:List (Nat × aJ × T)) (gn:Nat) (C:aM):Prop where
 a:Ak w0 M w ga gb A B L
 n:Bx M w gn C 56
namespace Az
variable {w0:World} {M:Mp} {w:World} {ga gb gn n:Nat} {A B:aL} {L:List (Nat × aJ × T)} {C:aM} {f:FuncId} {args:aM} {s:aK} {v:Value} {l:List aK}
theorem below {w':World} (h:Az w0 M w ga gb A B L gn C) (hb:Below w.heap.size w w'):Az w0 M w' ga gb A B L gn C:=⟨h.a.below hb,h.n.below hb⟩
theorem tells (h:Az w0 M w ga gb A B L gn C) (c:Calls prog f args w (rH M w s)):Calls prog f args w λe w'=>e = .returned (.string s)/\Hid (Az w0 M w' ga gb A B L gn C):=c.mono λe w' g=>by
 obtain ⟨he,ha,hf⟩:=h.a.tell g;exact ⟨he,hid ⟨ha,h.n.frm h.a.l.i hf⟩⟩
theorem says (h:Az w0 M w ga gb A B L gn C) (c:Calls prog f args w λe w'=>e = .returned v/\Below w.heap.size w w'):Calls prog f args w λe w'=>e = .returned v/\Hid (Az w0 M w' ga gb A B L gn C):=c.mono λe w' g=>⟨g.1,hid (h.below g.2)⟩
theorem refs (h:Az w0 M w ga gb A B L gn C) (hn:l.length=n) (c:Calls prog f args w (uS M w l)):Calls prog f args w λe w'=>∃ a c,e = .returned (.slice a n c)/\Hid (Az w0 M w' ga gb A B L gn C):=c.mono λe w' g=>by
 obtain ⟨a,c,he,ha,hf⟩:=h.a.refs hn g;exact ⟨a,c,he,hid ⟨ha,h.n.frm h.a.l.i hf⟩⟩
end Az
theorem uz (w:World) (hT:Tab w):Calls prog 21 #[] w λe w'=>e = .returned (.bool true)/\Below w.heap.size w w':=by
 obtain ⟨w1,hw1⟩:=au ((w.alloc (.cells (kc zk) 25)).alloc (.cells (kc zk) 25))
 have hb1:Below w.heap.size w w1:=by rw [hw1]; exact al2 _ _ _
 have hA:Rg.Own w1 w.heap.size (kc ka) 25:=by rw [hw1]; exact (Rg.Own.new _ _ _).below (al1 _ _)
 have hB:Rg.Own w1 (w.heap.size+1) (kc zk) 25:=by
  have:=Rg.Own.new (w.alloc (.cells (kc zk) 25)) (kc zk) 25;rw [hw1];simpa using this
 have jx:=hid ((Lw.start hT).below hb1);have HA1:=hid hA;have HB1:=hid hB;have hne1:w.heap.size≠w.heap.size+1:=by omega
 have fg:=hid sI;have zt:Hid ((kc zk).setIfInBounds 0 (.int .u8 16)=kc kb):=hid (XY zk 0 16);have P0:=hid (oz ka sx Ai);have ux:=hid (oz kb sy xC);have uA:Hid (ka.length=32):=hid Ai;have zv:Hid (kb.length=32):=hid xC;have P1:Hid ((kc zk).size=32):=hid Wd;have tf:Hid (∀ (b:Nat) w3,Rg.Own w3 b (rowP lAB).toArray 66->Lw w M0 w3->Calls prog 9 #[.slice (some ⟨b,0,none⟩) 2 2] w3 (dA M0 w3 (bA .nil lAB))):=hid (λb w3 h hl=>EJ M0 _ 2 2 lAB XP w3 hl.i (Vk (l:=lAB) h XP.1 (by decide)) (by decide))
 have hgW:Tr.Good tW 64:=YV.good jS.good;have Hv:Fine tW:=YV.fine jS.good aF jS.fine;have I0:=Yi.good jS.good;have I1:=Yi.fine jS.good aF jS.fine;have jz:Hid (∀ M p wz,Inv M wz->IsT M p (bA .nil lAB)->Tab wz->Calls prog 6 #[tv p] wz (wY M wz (bY 1 (bA .nil lAB)))):=hid (λM p wz hi ht hT=>Hq M p _ 64 jS.good aF jS.fine jS.full wz hi ht hT)
 have zz:Hid (∀ M p wz b,Inv M wz->IsT M p (bA .nil lAB)->Tab wz->Rg.Own wz b (kc ka) 25->Calls prog 12 #[tv p,.slice (some ⟨b,0,none⟩) 1 1] wz (wY M wz tW)):=hid (λM p wz b hi ht hT hO=>UR M p _ jS.good jS.fine jS.full _ 1 1 [ka] (by omega) wz (UL hO Ai) hi ht hT);have gi:Hid (∀ M p wz,Inv M wz->IsT M p (bA .nil lAB)->Tab wz->Calls prog 22 #[tv p] wz (MX M wz (bA .nil lAB))):=hid (λM p wz hi ht hT=>Jh M p _ 64 jS.good aF jS.fine (eD jS.full) wz hi ht hT)
 have eE:Hid ((bH (bA .nil lAB)).kd=3/\(bH (bA .nil lAB)).ks.length=16/\aZ (bA .nil lAB)=[sA,sB]):=hid ⟨TI,dh _,Wn⟩;have pD:Hid (∀ M wz p q,Inv M wz->IsT M p tW->IsT M q sB->Tab wz->Calls prog 23 #[tv p,tv q] wz (pW M wz (bA .nil lAB) 1)):=hid (λM wz p q hi ht hq hT=>by
  have:=Et M p q tW sB 64 63 hgW aF Hv XL (by omega) Zi (λe=>(by cases e)) (λh=>h) YO wz hi ht hq hT;rw [Yx,Xi] at this;exact this)
 have CT:Hid (∀ M p wz,Inv M wz->IsT M p (bY 1 (bA .nil lAB))->Tab wz->Calls prog 8 #[tv p] wz (uS M wz (bN (bY 1 (bA .nil lAB))))):=hid (λM p wz hi ht hT=>xg M p _ 64 I0 aF I1 (by rw [Vp]; omega) wz hi ht hT);have lx:Hid (∀ M p wz,Inv M wz->IsT M p tW->Tab wz->Calls prog 8 #[tv p] wz (uS M wz (bN tW))):=hid (λM p wz hi ht hT=>xg M p _ 64 hgW aF Hv (by rw [Tv]; omega) wz hi ht hT)
 have ie:Hid (∀ M p wz,Inv M wz->IsT M p (bY 1 (bA .nil lAB))->Tab wz->Calls prog 19 #[tv p] wz (rH M wz (eU (bA .nil lAB)))):=hid (λM p wz hi ht hT=>by
  have:=wB M p _ 64 I0 aF I1 wz hi ht hT;rw [Yi.enc] at this;exact this)
 have rh:Hid (∀ M p wz,Inv M wz->IsT M p (bA .nil lAB)->Tab wz->Calls prog 19 #[tv p] wz (rH M wz (eU (bA .nil lAB)))):=hid (λM p wz hi ht hT=>wB M p _ 64 jS.good aF jS.fine wz hi ht hT);have V5:Hid (∀ M p wz,Inv M wz->IsT M p tW->Calls prog 14 #[tv p,.agg (kc ka)] wz λe w'=>e = .returned (.bool true)/\Below wz.heap.size wz w'):=hid (λM p wz hi ht=>by
  have:=AA M p tW ka Ai wz hi ht hgW;rw [show (Tr.get tW (path ka)).isSome=true from Zb] at this;exact this)
 have V6:Hid (∀ M p wz,Inv M wz->IsT M p tW->Calls prog 14 #[tv p,.agg (kc kb)] wz λe w'=>e = .returned (.bool false)/\Below wz.heap.size wz w'):=hid (λM p wz hi ht=>by
  have:=AA M p tW kb xC wz hi ht hgW;rw [show (Tr.get tW (path kb)).isSome=false from YM] at this;exact this)
 have oy:Hid (∀ M p wz,Inv M wz->IsT M p (bA .nil lAB)->Calls prog 14 #[tv p,.agg (kc kb)] wz λe w'=>e = .returned (.bool true)/\Below wz.heap.size wz w'):=hid (λM p wz hi ht=>by
  have:=AA M p _ kb xC wz hi ht jS.good;rw [Vy] at this;exact this)
 have V7:Hid ((bN (bY 1 (bA .nil lAB))).length=2):=hid Vp;have mS:Hid ((bN tW).length=1):=hid Tv;clear hgW Hv I0 I1;generalize bY 1 (bA .nil lAB)=U at *
 generalize tW=W at *
 generalize bA .nil lAB=TT at *
 obtain ⟨E,hE⟩:=av (eU TT)
 rw [hE] at ie rh;clear hE;generalize sA=SA at *
 generalize sB=SB at *
 clear hA hB hb1 hT;have HW:Hid (_=_):=hid hw1;clear hw1;have tg:Hid (rowP [(ka,sx),(kb,sy)]=rowP lAB):=hid rfl;obtain ⟨ROW,hROW⟩:=av (rowP lAB)
 rw [hROW] at tf tg;generalize ka=A at *
 generalize kb=B at *
 generalize zk=Z at *
 go_enter func21,ntmps21;go_wp2_with (first
  | (refine ay (fg.out _ _ _ w.heap.size rfl rfl) ?_)
  | (refine ay (fg.out _ _ _ (w.heap.size+1) (by simp) rfl) ?_)
  | (rw [<-HW.out]; refine Fj HB1.out (by rw [P1.out]; decide) 16 rfl _ _ rfl rfl rfl ?_; intro w2 hO2 hu2; have HB2:Hid (Rg.Own w2 (w.heap.size+1) (kc B) 25):=hid (by rw [<-zt.out]; exact hO2); have HA2:=hid (HA1.out.upd hu2 hne1); have HL2:=hid (jx.out.upd hu2 (by omega) (λh=>h)); clear hO2 hu2)
  | (refine ay (dL uA.out HA2.out.2 ⟨_,rfl,rfl⟩) ?_)
  | (refine ay (dL zv.out HB2.out.2 ⟨_,rfl,rfl⟩) ?_)
  | (refine ay (bK P0.out ⟨_,rfl,rfl⟩) ?_)
  | (refine ay (bK ux.out ⟨_,rfl,rfl⟩) ?_)
  | (refine ay (FC (x:=(A,sx)) (z:=(B,sy)) uA.out zv.out w2.heap.size rfl ⟨_,_,rfl,rfl,rfl⟩) ?_))
 rw [tg.out];have hL3:=HL2.out.below (al1 w2 (.cells ROW.toArray 66));refine (tf.out w2.heap.size _ (Rg.Own.new _ _ _) hL3).mono ?_;intro e w4 hG;obtain ⟨pt,M4,rfl,Cf,hL4,rL,hb4⟩:=hL3.got hG;have pN:Hid (Ak w M4 w4 w.heap.size (w.heap.size+1) A B []):=hid ⟨hL4,(HA2.out.below (al1 _ _)).below hb4,(HB2.out.below (al1 _ _)).below hb4,uA.out,zv.out,λx hx=>(by cases hx)⟩;have gr:=hid Cf;have HN:=hid (Rg.Own.new w4 #[.pointer none] 31);clear hG Cf hL4 rL hb4 hL3 HA1 HB1 jx HA2 HB2 HL2 HW fg zt P0 ux tf tg P1;go_wp2_with (first
  | (refine ay (aW _ _ _ w4.heap.size rfl rfl) ?_)
  | (refine aX HN.out (by decide) pt rfl _ _ rfl rfl rfl ?_; intro w5 aE ax; have lj:=hid (pN.out.box gr.out aE ax); clear aE ax)
  | (refine ay (aT (lj.out.cell (g:=w4.heap.size) (p:=pt) (t:=TT) (by simp)) ⟨_,rfl,rfl⟩) ?_))
 obtain ⟨gt,hgt⟩:=av w4.heap.size
 rw [hgt] at lj;rw [hgt];clear HN pN gr hgt;refine (jz.out M4 pt w5 lj.out.l.i (lj.out.tr (g:=gt) (by simp)) lj.out.l.t).mono ?_;intro e w6 hG;obtain ⟨pu,M6,rfl,ky,pp⟩:=lj.out.got hG;have mN:=hid pp;have sl:=hid ky;have HN:=hid (Rg.Own.new w6 #[.pointer none] 31);clear hG pp ky lj jz;obtain ⟨gu,hgu⟩:=av w6.heap.size
 go_wp2_with (first
  | (refine ay (aW _ _ _ w6.heap.size rfl rfl) ?_)
  | (refine aX HN.out (by decide) pu rfl _ _ rfl rfl rfl ?_; intro w7 eL df; have m3:Hid (Ak w M6 w7 w.heap.size (w.heap.size+1) A B [(gu,pu,U),(gt,pt,TT)]):=hid (by have:=mN.out.box sl.out eL df; rw [hgu] at this; exact this); clear eL df; rw [hgu])
  | (refine ay (aT (m3.out.cell (g:=gt) (p:=pt) (t:=TT) (by simp)) ⟨_,rfl,rfl⟩) ?_)
  | (refine ay (dL uA.out m3.out.ka.2 ⟨_,rfl,rfl⟩) ?_)
  | (refine ay (LG uA.out w7.heap.size rfl ⟨_,rfl,rfl⟩) ?_))
 have th:=m3.out.below (al1 w7 (.cells (kc A) 25));refine (zz.out M6 pt _ w7.heap.size th.l.i (th.tr (g:=gt) (by simp)) th.l.t (Rg.Own.new _ _ _)).mono ?_;intro e w8 hG;obtain ⟨pw,M8,rfl,ua,th⟩:=th.got hG;have zE:=hid th;have P2:=hid ua;have HN:=hid (Rg.Own.new w8 #[.pointer none] 31);clear hG th ua m3 sl mN zz hgu;obtain ⟨gw,hgw⟩:=av w8.heap.size
 go_wp2_with (first
  | (refine ay (aW _ _ _ w8.heap.size rfl rfl) ?_)
  | (refine aX HN.out (by decide) pw rfl _ _ rfl rfl rfl ?_; intro w9 ai al; have nv:Hid (Ak w M8 w9 w.heap.size (w.heap.size+1) A B [(gw,pw,W),(gu,pu,U),(gt,pt,TT)]):=hid (by have:=zE.out.box P2.out ai al; rw [hgw] at this; exact this); clear ai al; rw [hgw])
  | (refine ay (aT (nv.out.cell (g:=gt) (p:=pt) (t:=TT) (by simp)) ⟨_,rfl,rfl⟩) ?_))
 refine (gi.out M8 pt w9 nv.out.l.i (nv.out.tr (g:=gt) (by simp)) nv.out.l.t).mono ?_;rintro e wa ⟨aa,na,ca,kk,ZO,ps,rfl,hpa,hPa,oA,hka,hfa,hia,oS⟩;have hps:ps.length=2:=by rw [oA.1,eE.out.2.2]; rfl
 have A0:=hid (nv.out.frm hfa hia oS);obtain ⟨kb,ko,hkk,hkl,hkc⟩:=hPa.2.2.2.2 1 (by omega);have hT1:=oA.2 1 (by omega);rw [eE.out.2.2] at hT1;obtain ⟨p1,hp1⟩:=av (ps.getD 1 none)
 rw [hp1] at hkc hT1;have cf:Hid (wa.cell? ⟨kb,ko+1,none⟩=some (.pointer p1)/\IsT M8 p1 SB):=hid ⟨hkc,hT1⟩;subst hkk;have cJ:=hid eE.out.2.1;have Cs:=hid eE.out.1;have pP:=hid (Rg.Own.new wa (ndC nd0 none 0 0) 56);have hfr:=hia.free (Nat.le_refl wa.heap.size);rw [hps];generalize bH TT=N at *
 clear hpa hPa oA hka hfa hia oS hps hkl hkc hT1 hp1 nv P2 zE gi eE HN hgw;go_wp2_with (first
  | (refine ay (aY _ _ _ wa.heap.size rfl rfl) ?_)
  | (refine dZ pP.out rfl N aa na ca cJ.out rfl _ _ rfl rfl rfl rfl ?_; intro wb hOb hub; have I2:Hid (Below wa.heap.size wa wb):=hid (hub.below (al1 _ _) aF); have ti:Hid (Bx M8 wb wa.heap.size (ndC N aa na ca) 56):=hid ⟨hOb,hfr,FV _ _ _ _⟩; clear hOb hub))
 have yd:Hid ((ndC N aa na ca)[0]? = some (.int .i64 3)):=hid (by show some (Value.int .i64 N.kd)=_; rw [Cs.out]);obtain ⟨gn,hgn⟩:=av wa.heap.size
 rw [hgn] at ti;rw [hgn];have HA:=hid (A0.out.below I2.out);replace cf:Hid (wb.cell? ⟨kb,ko+1,none⟩=some (.pointer p1)/\IsT M8 p1 SB):=hid ⟨aV I2.out cf.out.1,cf.out.2⟩;have HN:=ti;clear hgn I2 A0 pP cJ Cs hfr ti;generalize ndC N aa na ca=C at *
 try simp only [Act.put,ak]
 go_cut [8,9] (λv8 v9 wx=>∃ (gx:Nat) (px:aJ) (Mx:Mp),v8 = .pointer (some ⟨gx,0,none⟩)/\v9 = .int .i64 1/\Hid (Az w Mx wx w.heap.size (w.heap.size+1) A B [(gx,px,TT),(gw,pw,W),(gu,pu,U),(gt,pt,TT)] gn C))
 case first =>
  replace HA:=hid (HA.out.below (show Below wb.heap.size wb wb.drew from below_drewN aG 1));replace HN:=hid (HN.out.below (show Below wb.heap.size wb wb.drew from below_drewN aG 1));replace cf:Hid (wb.drew.cell? ⟨kb,ko+1,none⟩=some (.pointer p1)/\IsT M8 p1 SB):=hid ⟨aV (show Below wb.heap.size wb wb.drew from below_drewN aG 1) cf.out.1,cf.out.2⟩;refine wp_region_noPanic ?_
  refine wp_region_held_drew (S:=λw'=>w'.cell? ⟨gw,0,none⟩=some (.pointer pw)/\w'.cell? ⟨kb,ko+1,none⟩=some (.pointer p1)) (by kernel_rfl) (⟨HA.out.cell (g:=gw) (p:=pw) (t:=W) (by simp),cf.out.1⟩) (λhld=>?_);refine ah 0 ?_ (hy:=by intro wz hSw; (refine aT hSw.1 ?_; exact ⟨_,rfl,rfl⟩));try simp only [Act.put,ak]
  refine ah 1 ?_;try simp only [Act.put,ak]
  refine ah 2 ?_;try simp only [Act.put,ak]
  refine ah 3 ?_ (hy:=by intro wz hSw; (refine aT hSw.2 ?_; exact ⟨_,rfl,rfl⟩));try simp only [Act.put,ak]
  refine wpAnyH_ready (rs:=[4,8]) (by kernel_rfl) (by simp) ?_;refine Rg.readyC (i:=4) rfl (λK hK=>?_) (Rg.readyL (i:=8) rfl (λK hK=>?_))
  .go_simp;go_at_call 23
   (with_reducible refine (pD.out _ _ pw p1 HA.out.l.i (HA.out.tr (g:=gw) (p:=pw) (t:=W) (by simp)) cf.out.2 HA.out.l.t).mono ?_)
   intro e V8 hG;obtain ⟨px,Mx,rfl,hTx,hAx,hfx⟩:=HA.out.BK hG;rw [show fJ 1=(1:Int) by decide];replace HN:=hid (HN.out.frm HA.out.l.i hfx);replace cf:=hid (And.intro (wZ HA.out.l.i hfx cf.out.1) (cf.out.2.mono hfx.mono));replace HA:=hid hAx;have nz:=hid hTx;clear hG hAx hTx hfx;refine hK.out _ _ (⟨HA.out.cell (g:=gw) (p:=pw) (t:=W) (by simp),cf.out.1⟩) (λhld=>?_);clear hK K;try simp only [Act.put,ak]
   refine ah 5 ?_;try simp only [Act.put,ak]
   refine ah 6 ?_;try simp only [Act.put,ak]
   refine ah 7 ?_;try simp only [Act.put,ak]
   refine aj 8 λK hK=>?_;refine Rg.meetAlloc (by rfl) (aW _ _ _ _ rfl rfl) ?_;rintro V9 gx eW h8 hbx;have dt:Hid ((w.heap.size<=gx/\gx≠w.heap.size/\gx≠w.heap.size+1/\gx≠gt/\gx≠gu/\gx≠gw)/\gn<gx/\kb<gx):=hid ⟨HA.out.Rm eW,by rw [eW]; exact HN.out.o.1,by rw [eW]; exact World.block_lt_of_cell? _ _ cf.out.1⟩;replace HA:=hid ((HA.out.below hbx).add (g:=gx) (p:=none) (t:=.nil) ⟨h8,HA.out.l.i.free (Nat.le_of_eq eW.symm),cZ _⟩ rfl);replace HN:=hid (HN.out.below hbx);replace cf:=hid (And.intro (aV hbx cf.out.1) cf.out.2);clear eW h8 hbx
   refine hK.out _ _ (⟨HA.out.cell (g:=gw) (p:=pw) (t:=W) (by simp),cf.out.1⟩) (λhld=>?_);clear hK K;try simp only [Act.put,ak]
   refine aj 9 λK hK=>?_;refine cK (by rfl) (HA.out.own (g:=gx) (p:=none) (t:=.nil) (by simp)) (off:=0) (by simp) px ⟨_,_,rfl,rfl,rfl⟩ ?_;rintro lk hn hu;have HR:Hid (Ak w Mx lk w.heap.size (w.heap.size+1) A B [(gx,px,TT),(gw,pw,W),(gu,pu,U),(gt,pt,TT)]):=hid (HA.out.set hu hn nz.out (by have:=dt.out; omega) (by have:=dt.out; omega) (by have:=dt.out; omega) (λx hx=>by have:=dt.out; simp at hx; rcases hx with rfl | rfl | rfl <;> (dsimp only; omega)))
   have pP:Hid (Bx Mx lk gn C 56):=hid (HN.out.upd hu (by have:=dt.out; omega));have kB:lk.cell? ⟨kb,ko+1,none⟩=some (.pointer p1):=by rw [World.cell?_of_block (hu.block kb (by have:=dt.out; omega))]; exact cf.out.1
   refine hK.out _ _ (⟨HR.out.cell (g:=gw) (p:=pw) (t:=W) (by simp),kB⟩) λhld=>?_;clear hK K hn hu HA HN kB;try simp only [Act.put,ak]
   refine ah 10 ?_;try simp only [Act.put,ak]
   refine aA ?_;go_wp2_with fail
   go_meet
   exact ⟨gx,px,Mx,rfl,rfl,hid ⟨HR.out,pP.out⟩⟩
  .refine Rg.meetAlloc (by rfl) (aW _ _ _ _ rfl rfl) ?_;rintro Vc gx eW h8 hbx;have dt:Hid ((w.heap.size<=gx/\gx≠w.heap.size/\gx≠w.heap.size+1/\gx≠gt/\gx≠gu/\gx≠gw)/\gn<gx/\kb<gx):=hid ⟨HA.out.Rm eW,by rw [eW]; exact HN.out.o.1,by rw [eW]; exact World.block_lt_of_cell? _ _ cf.out.1⟩;replace HA:=hid ((HA.out.below hbx).add (g:=gx) (p:=none) (t:=.nil) ⟨h8,HA.out.l.i.free (Nat.le_of_eq eW.symm),cZ _⟩ rfl);replace HN:=hid (HN.out.below hbx);replace cf:=hid (And.intro (aV hbx cf.out.1) cf.out.2);clear eW h8 hbx
   refine hK.out _ _ (⟨HA.out.cell (g:=gw) (p:=pw) (t:=W) (by simp),cf.out.1⟩) (λhld=>?_);clear hK K;try simp only [Act.put,ak]
   refine aj 4 λK hK=>?_;go_simp;go_at_call 23
   (with_reducible refine (pD.out _ _ pw p1 HA.out.l.i (HA.out.tr (g:=gw) (p:=pw) (t:=W) (by simp)) cf.out.2 HA.out.l.t).mono ?_)
   intro e VC hG;obtain ⟨px,Mx,rfl,hTx,hAx,hfx⟩:=HA.out.BK hG;rw [show fJ 1=(1:Int) by decide];replace HN:=hid (HN.out.frm HA.out.l.i hfx);replace cf:=hid (And.intro (wZ HA.out.l.i hfx cf.out.1) (cf.out.2.mono hfx.mono));replace HA:=hid hAx;have nz:=hid hTx;clear hG hAx hTx hfx;refine hK.out _ _ (⟨HA.out.cell (g:=gw) (p:=pw) (t:=W) (by simp),cf.out.1⟩) (λhld=>?_);clear hK K;try simp only [Act.put,ak]
   refine ah 5 ?_;try simp only [Act.put,ak]
   refine ah 6 ?_;try simp only [Act.put,ak]
   refine ah 7 ?_;try simp only [Act.put,ak]
   refine aj 9 λK hK=>?_;refine cK (by rfl) (HA.out.own (g:=gx) (p:=none) (t:=.nil) (by simp)) (off:=0) (by simp) px ⟨_,_,rfl,rfl,rfl⟩ ?_;rintro lk hn hu;have HR:Hid (Ak w Mx lk w.heap.size (w.heap.size+1) A B [(gx,px,TT),(gw,pw,W),(gu,pu,U),(gt,pt,TT)]):=hid (HA.out.set hu hn nz.out (by have:=dt.out; omega) (by have:=dt.out; omega) (by have:=dt.out; omega) (λx hx=>by have:=dt.out; simp at hx; rcases hx with rfl | rfl | rfl <;> (dsimp only; omega)))
   have pP:Hid (Bx Mx lk gn C 56):=hid (HN.out.upd hu (by have:=dt.out; omega));have kB:lk.cell? ⟨kb,ko+1,none⟩=some (.pointer p1):=by rw [World.cell?_of_block (hu.block kb (by have:=dt.out; omega))]; exact cf.out.1
   refine hK.out _ _ (⟨HR.out.cell (g:=gw) (p:=pw) (t:=W) (by simp),kB⟩) λhld=>?_;clear hK K hn hu HA HN kB;try simp only [Act.put,ak]
   refine ah 10 ?_;try simp only [Act.put,ak]
   refine aA ?_;go_wp2_with fail
   go_meet
   exact ⟨gx,px,Mx,rfl,rfl,hid ⟨HR.out,pP.out⟩⟩
 case rest =>
  obtain ⟨gx,px,Mx,rfl,rfl,HZ⟩:=hcut;obtain ⟨ws,hws⟩:=au wc
  subst hws;clear HA HN cf pD;go_wp2_with fail
  have HS:Hid (∀ M wz,Az w M wz w.heap.size (w.heap.size+1) A B [(gx,px,TT),(gw,pw,W),(gu,pu,U),(gt,pt,TT)] gn C->wz.cell? ⟨gx,0,none⟩=some (.pointer px)/\wz.cell? ⟨gw,0,none⟩=some (.pointer pw)/\wz.cell? ⟨gu,0,none⟩=some (.pointer pu)/\wz.cell? ⟨gt,0,none⟩=some (.pointer pt)/\wz.heap[w.heap.size]? = some (.cells (kc A) 25 (0,0))/\wz.heap[w.heap.size+1]? = some (.cells (kc B) 25 (0,0))/\wz.cell? ⟨gn,0,none⟩=some (.int .i64 3)):=hid (λM wz h=>⟨h.a.cell (g:=gx) (p:=px) (t:=TT) (by simp),h.a.cell (g:=gw) (p:=pw) (t:=W) (by simp),h.a.cell (g:=gu) (p:=pu) (t:=U) (by simp),h.a.cell (g:=gt) (p:=pt) (t:=TT) (by simp),h.a.ka.2,h.a.kb.2,aU h.n.o yd.out⟩)
  have HA:=hid (HZ.out.below (show Below ws.heap.size ws ws.drew from below_drewN aG 1));clear HZ;refine wp_region_noPanic ?_
  refine wp_region_held_drew (S:=λw'=>w'.cell? ⟨gx,0,none⟩=some (.pointer px)/\w'.cell? ⟨gw,0,none⟩=some (.pointer pw)/\w'.cell? ⟨gu,0,none⟩=some (.pointer pu)/\w'.cell? ⟨gt,0,none⟩=some (.pointer pt)/\w'.heap[w.heap.size]? = some (.cells (kc A) 25 (0,0))/\w'.heap[w.heap.size+1]? = some (.cells (kc B) 25 (0,0))/\w'.cell? ⟨gn,0,none⟩=some (.int .i64 3)) (by kernel_rfl) (HS.out _ _ HA.out) (λhld=>?_);refine ah 0 ?_;try simp only [Act.put,ak]
  refine ah 1 ?_ (hy:=by intro wz hSw; (obtain ⟨s1,s2,s3,s4,s5,s6,s7⟩:=hSw; go_simp <;> with_reducible rfl));try simp only [Act.put,ak]
  refine ah 2 ?_;try simp only [Act.put,ak]
  refine ah 3 ?_;try simp only [Act.put,ak]
  refine ah 4 ?_ (hy:=by intro wz hSw; (refine aT hSw.2.2.1 ?_; exact ⟨_,rfl,rfl⟩));try simp only [Act.put,ak]
  refine aj 5 λK hK=>?_;go_simp;go_at_call 8
  (with_reducible refine (HA.out.refs V7.out (CT.out _ _ _ HA.out.a.l.i (HA.out.a.tr (g:=gu) (p:=pu) (t:=U) (by simp)) HA.out.a.l.t)).mono ?_)
  rintro e wf0 ⟨a0,c0,rfl,HA⟩;refine hK.out _ _ (HS.out _ _ HA.out) (λhld=>?_);clear hK K;try simp only [Act.put,ak]
  refine ah 6 ?_;try simp only [Act.put,ak]
  refine ah 7 ?_;try simp only [Act.put,ak]
  refine ah 8 ?_;try simp only [Act.put,ak]
  refine ah 9 ?_;try simp only [Act.put,ak]
  refine ah 10 ?_ (hy:=by intro wz hSw; (refine aT hSw.2.2.1 ?_; exact ⟨_,rfl,rfl⟩));try simp only [Act.put,ak]
  refine ah 12 ?_ (hy:=by intro wz hSw; (refine aT hSw.2.2.2.1 ?_; exact ⟨_,rfl,rfl⟩));try simp only [Act.put,ak]
  refine aj 11 λK hK=>?_;go_simp;go_at_call 19
  (with_reducible refine (HA.out.tells (ie.out _ _ _ HA.out.a.l.i (HA.out.a.tr (g:=gu) (p:=pu) (t:=U) (by simp)) HA.out.a.l.t)).mono ?_)
  rintro e wf1 ⟨rfl,HA⟩;refine hK.out _ _ (HS.out _ _ HA.out) (λhld=>?_);clear hK K;try simp only [Act.put,ak]
  refine aj 13 λK hK=>?_;go_simp;go_at_call 19
  (with_reducible refine (HA.out.tells (rh.out _ _ _ HA.out.a.l.i (HA.out.a.tr (g:=gt) (p:=pt) (t:=TT) (by simp)) HA.out.a.l.t)).mono ?_)
  rintro e wf2 ⟨rfl,HA⟩;refine hK.out _ _ (HS.out _ _ HA.out) (λhld=>?_);clear hK K;try simp only [Act.put,ak]
  refine ah 14 ?_;try simp only [Act.put,ak]
  refine ah 15 ?_;try simp only [Act.put,ak]
  refine ah 16 ?_;try simp only [Act.put,ak]
  refine ah 17 ?_ (hy:=by intro wz hSw; (refine aT hSw.2.1 ?_; exact ⟨_,rfl,rfl⟩));try simp only [Act.put,ak]
  refine aj 18 λK hK=>?_;go_simp;go_at_call 8
  (with_reducible refine (HA.out.refs mS.out (lx.out _ _ _ HA.out.a.l.i (HA.out.a.tr (g:=gw) (p:=pw) (t:=W) (by simp)) HA.out.a.l.t)).mono ?_)
  rintro e D0 ⟨a3,c3,rfl,HA⟩;refine hK.out _ _ (HS.out _ _ HA.out) (λhld=>?_);clear hK K;try simp only [Act.put,ak]
  refine ah 19 ?_;try simp only [Act.put,ak]
  refine ah 20 ?_;try simp only [Act.put,ak]
  refine ah 21 ?_;try simp only [Act.put,ak]
  refine ah 22 ?_;try simp only [Act.put,ak]
  refine ah 23 ?_ (hy:=by intro wz hSw; (refine aT hSw.2.1 ?_; exact ⟨_,rfl,rfl⟩));try simp only [Act.put,ak]
  refine ah 24 ?_ (hy:=by intro wz hSw; (refine dL uA.out hSw.2.2.2.2.1 ?_; exact ⟨_,rfl,rfl⟩));try simp only [Act.put,ak]
  refine aj 25 λK hK=>?_;go_simp;go_at_call 14
  (with_reducible refine (HA.out.says (V5.out _ _ _ HA.out.a.l.i (HA.out.a.tr (g:=gw) (p:=pw) (t:=W) (by simp)))).mono ?_)
  rintro e ZP ⟨rfl,HA⟩;refine hK.out _ _ (HS.out _ _ HA.out) (λhld=>?_);clear hK K;try simp only [Act.put,ak]
  refine ah 26 ?_;try simp only [Act.put,ak]
  refine ah 27 ?_;try simp only [Act.put,ak]
  refine ah 28 ?_ (hy:=by intro wz hSw; (refine aT hSw.2.1 ?_; exact ⟨_,rfl,rfl⟩));try simp only [Act.put,ak]
  refine ah 29 ?_ (hy:=by intro wz hSw; (refine dL zv.out hSw.2.2.2.2.2.1 ?_; exact ⟨_,rfl,rfl⟩));try simp only [Act.put,ak]
  refine aj 30 λK hK=>?_;go_simp;go_at_call 14
  (with_reducible refine (HA.out.says (V6.out _ _ _ HA.out.a.l.i (HA.out.a.tr (g:=gw) (p:=pw) (t:=W) (by simp)))).mono ?_)
  rintro e ZQ ⟨rfl,HA⟩;refine hK.out _ _ (HS.out _ _ HA.out) (λhld=>?_);clear hK K;try simp only [Act.put,ak]
  refine ah 31 ?_;try simp only [Act.put,ak]
  refine ah 32 ?_;try simp only [Act.put,ak]
  refine ah 33 ?_;try simp only [Act.put,ak]
  refine ah 34 ?_;try simp only [Act.put,ak]
  refine ah 35 ?_;try simp only [Act.put,ak]
  refine ah 36 ?_;try simp only [Act.put,ak]
  refine ah 37 ?_;try simp only [Act.put,ak]
  refine ah 38 ?_ (hy:=by intro wz hSw; (refine aT hSw.1 ?_; exact ⟨_,rfl,rfl⟩));try simp only [Act.put,ak]
  refine ah 39 ?_ (hy:=by intro wz hSw; (refine dL zv.out hSw.2.2.2.2.2.1 ?_; exact ⟨_,rfl,rfl⟩));try simp only [Act.put,ak]
  refine aj 40 λK hK=>?_;go_simp;go_at_call 14
  (with_reducible refine (HA.out.says (oy.out _ _ _ HA.out.a.l.i (HA.out.a.tr (g:=gx) (p:=px) (t:=TT) (by simp)))).mono ?_)
  rintro e ZR ⟨rfl,HA⟩;refine hK.out _ _ (HS.out _ _ HA.out) (λhld=>?_);clear hK K;try simp only [Act.put,ak]
  refine ah 41 ?_;try simp only [Act.put,ak]
  refine ah 42 ?_;try simp only [Act.put,ak]
  refine aA ?_;go_wp2;go_ret;exact ⟨rfl,HA.out.a.l.b⟩
end Sx
end
section
open Go.RowKit
namespace Ew
open Tr Ni Pk Ky No Rf Rl Tm
end Ew
end
section
open Go.RowKit
namespace Sx
open Tr Ni Pk Ky No Rf Rl Tm
open Sm (Tab)
theorem Un (l:List Tr.Pair) (a:aJ) (n c:Nat) (w:World) (h:jM w a n c l) (hn:n<=1000000) :
  Calls prog 10 #[.slice a n c] w λe w'=>∃ a n c,e = .returned (.slice a n c)/\Tm.dY w' a n c (ni l)/\(∀ ad,a=some ad->w.heap.size<=ad.block)/\Below w.heap.size w w':=by
 refine (Xw l a n c w h hn).mono ?_;rintro e w' ⟨v,rfl,hr,hb⟩;have hlt:=hr.lt;obtain ⟨a',n',c',rfl,hd⟩:=hr.done;exact ⟨a',n',c',rfl,hd,λad e=>(hlt ad.block (by rw [e]; rfl)).1,hb⟩
namespace Sd
variable {w0:World} {M M':Mp} {w w':World} {gk g:Nat} {K:aL} {ka:aJ} {kn GE:Nat} {ks:List (aL)} {ia:aJ} {ic:Nat} {I:List Tr.In} {L L':List (Nat × aJ × T)} {p p':aJ} {t t':T}
end Sd
namespace Q6
variable {w0:World} {M:Mp} {w:World} {gk:Nat} {K:aL} {ka:aJ} {kn GE:Nat} {ks:List (aL)} {ia:aJ} {ic:Nat} {I:List Tr.In} {gt g gd gw:Nat} {pt pd pw:aJ} {t s dT wT:T} {od ow:Option Nat} {w':World} {f:FuncId} {args:aM}
end Q6
namespace Zd
variable {w0:World} {M:Mp} {w:World} {gk:Nat} {K:aL} {ka:aJ} {kn GE:Nat} {ks:List (aL)} {ia:aJ} {ic:Nat} {I:List Tr.In} {L:List (Nat × aJ × T)} {ya:aJ} {yn yc:Nat} {ws:List Pa} {S:List (aJ × Nat × Nat × List aK)} {w':World} {f:FuncId} {args:aM} {l:List aK} {s:aK} {v:Value}
end Zd
section
variable {P:List Tr.Pair} (ok:EF P) (hlen:P.length<=24)
include ok
theorem IG:bA .nil P=build 64 (ni P):=ok.has.built ok.1 ok.2
include hlen
theorem BM:(bM (bA .nil P)).length<=2000:=by
 rw [IG ok];have h1:=Ea 64 (ni P) (AX ok.1);have h2:(64+1)*(ni P).length<=65*24:=Nat.mul_le_mul aF (Nat.le_trans (EN _) hlen);omega
theorem La (d:Nat):(bN (bY d (bA .nil P))).length<=2000:=by
 rw [sW _ _ ok.has.full];exact Nat.le_trans (Bf _ d ok.has.full) (BM ok hlen)
end
end Sx
end
section
open Go.RowKit
namespace Tm
open Tr Ni Pk Ky No Rf Rl
theorem EA {B B' n sz:Nat} {w:World} {v:Value} {xs:List Value} (h:w.ownsRow B e sz v n xs) (hb:B'<=B):w.ownsRow B' e sz v n xs:=by
 obtain ⟨h1,h2⟩:=h;exact ⟨h1,h2.imp id λ⟨g,cap,cur,e,hg,r⟩=>⟨g,cap,cur,e,Nat.le_trans hb hg,r⟩⟩
theorem pY {rest:List Oper} {a:Go.Act} {w:World} {Q:Exit->Go.Act->World->Prop} {B B2:Nat} {v v2:Value} {xs ys:List aK} (hgd:o.guard=none) (s x:Operand) (ho:o.op = .call { callee:=.builtin .append,args:=#[s,x],argTypes:=#[34,34] })
  (hs:a.eval s=v) (hx:a.eval x=v2) (hR:w.ownsRow B 9 1 v xs.length (xs.map Value.string)) (hS:w.ownsRow B2 9 1 v2 ys.length (ys.map Value.string)) (hn:xs.length+ys.length<=1000000) (hB:B<=w.heap.size)
  (h:∀ v' w',w'.ownsRow B 9 1 v' (xs++ys).length ((xs++ys).map Value.string)->w.grownBy w' v.ownBlock->(v'.ownBlock=v.ownBlock\/v'.ownBlock=some w.heap.size)->wpList prog ops Q rest (a.put o.dst v') w'):wpList prog ops Q (o::rest) a w:=by
 obtain ⟨i0,hi,hz0,hz1,hz2⟩:=jQ;rcases hS.2 with ⟨rfl,h0⟩ | ⟨g,cap,cur,rfl,hg,hh,hnc,hcm,hsz,htk⟩
 .have hy:ys=[]:=List.length_eq_zero_iff.1 h0;subst hy;refine wpList_append_own_none hgd s x 34 ho B 9 i0 1 underlying34 hi v xs.length (xs.map Value.string) hs hR hx (h v w ?_ ⟨rfl,rfl,rfl,aF,λ_ _ _=>rfl⟩ (.inl rfl));rw [List.append_nil];exact hR
 .refine wpList_append_own_at w hgd s x 34 ho B 9 i0 (.string ⟨#[]⟩) 1 16 underlying34 hi hz0 hz1 hz2 rfl (by decide) v xs.length (xs.map Value.string) hs hR ⟨g,0,none⟩ ys.length cap (ys.map Value.string) hx (by simp) (λj u hu=>?_) (λu hu=>?_) (by unfold maxLen; omega) (by omega) hB (λv' w' h1 h2 _ h4=>h v' w' ?_ h2 h4)
  .rw [Addr.add_mid,Nat.zero_add,cell_of_row w g _ _ _ _ hh];have hj:j<ys.length:=by have:=(List.getElem?_eq_some_iff.1 hu).1; simpa using this
   rw [<-Array.getElem?_toList,<-hu,<-htk,List.getElem?_take_of_lt (by omega)]
  .obtain ⟨y,_,rfl⟩:=List.mem_map.1 hu;rfl
  .rw [List.length_append,List.map_append];exact h1
def oM (f:Fin 16->List aK) (j:Nat):List aK:=(((List.finRange 16).take j).map f).flatten
theorem Af (f:Fin 16->List aK) (hj:j<16):oM f (j+1)=oM f j++f ⟨j,hj⟩:=by
 unfold oM;rw [List.take_add_one,List.getElem?_eq_getElem (by simpa using hj),List.map_append,List.flatten_append];simp
theorem OJ (f:Fin 16->List aK):oM f 16=((List.finRange 16).map f).flatten:=by
 unfold oM;rw [List.take_of_length_le (by simp)]
theorem GL (f:Fin 16->List aK):∀ (k j:Nat),j+k=16->(oM f j).length<=(oM f 16).length
 | 0,j,h=>by
  obtain rfl:j=16:=by omega
  exact aF
 | k+1,j,h=>by
  have:=GL f k (j+1) (by omega);rw [Af f (show j<16 by omega),List.length_append] at this;omega
def OI (w:World) (xs:List aK) (e:Ending) (w':World):Prop:=∃ v,e = .returned v/\w'.ownsRow w.heap.size 9 1 v xs.length (xs.map Value.string)/\Below w.heap.size w w'
def JO (L:Nat):Prop:=∀ (l:List Tr.In),Ok L l->rG l->∀ (a:aJ) (n c:Nat) (w:World),dY w a n c l->n<=1000->
 Calls prog 25 #[.slice a n c] w (OI w (bM (build L l)))
theorem Ir {L:Nat} {l:List Tr.In} (ok:Ok L l) (hne:l≠[]) :
  ((bH (build L l)).kd=1/\bM (build L l)=[eU (build L l)])\/
  ((bH (build L l)).kd=2/\∃ K,0<K/\K<=L/\(bH (build L l)).p.length=K/\bM (build L l)=eU (build L l)::bM (build (L-K) (bR l K))/\Ok (L-K) (bR l K))\/
  ((bH (build L l)).kd=3/\0<L/\bM (build L l)=eU (build L l)::oM (λd=>bM (build (L-1) (bR (bI l d) 1))) 16):=by
 match l,hne with
 | [x],_ =>
  rw [build];exact .inl ⟨rfl,rfl⟩
 | x::y::r,_ =>
  have hcl:=kH ok;have hxl:=(ok.1 x List.mem_cons_self).1;rw [build];by_cases h:0<bF (x::y::r)/\0<L
  .rw [dif_pos h];refine .inr (.inl ⟨rfl,bF (x::y::r),h.1,by omega,?_,rfl,tJ ok (by omega) (λz hz z' hz'=>by rw [iF hz,iF hz'])⟩);show (x.1.take _).length=_;rw [List.length_take];omega
  .rw [dif_neg h,dif_pos (by omega)];exact .inr (.inr ⟨rfl,by omega,by rw [OJ]; rfl⟩)
theorem PD {L:Nat} (hL:L<=64) (ih:∀ m,m<L->JO m):JO L:=λl ok f a n c w h hn=>by
 by_cases hne:l=[]
 .subst hne;obtain rfl:n=0:=h.len.symm;rw [build];have HC:=hid (DJ a c w);clear h;go_enter func25,ntmps25;go_wp2_with fail
  refine HC.out.mono ?_;rintro e w1 ⟨rfl,hb1⟩;have HB1:=hid hb1;have hNew:=Rg.Own.new w1 (ndC nd0 none 0 0) 56;have HN:=hid hNew;clear hb1 hNew;go_wp2_with (first
   | (refine ay (aY _ _ _ w1.heap.size rfl rfl) ?_)
   | (refine dZ HN.out rfl nd0 none 0 0 rfl rfl _ _ rfl rfl rfl rfl ?_; intro w4 hO4 cX; have cz:Hid (Below w1.heap.size w1 w4):=hid (cX.below (al1 _ _) aF); clear hO4 cX))
  go_ret;exact ⟨_,rfl,World.ownsRow_nil _ _ _ _,bst HB1.out cz.out⟩
 .have hb:=Bv ok hne;have hs:=eD (nZ L l);have hm:=(eZ _ L (qF L l ok) hL (rz L l f) hb).1 hs;have e:eU (build L l)=iR (bH (build L l)):=by
   cases hb':build L l with
   | nil=>exact absurd hb' hb
   | stub r=>rw [hb'] at hs; exact absurd trivial hs
   | leaf p v=>rfl
   | ext q t=>rfl
   | br ks=>rfl
  have hnl:=h.len;have eK:=Ea L l ok;have hf2:(L+1)*l.length<=65*1000:=Nat.mul_le_mul (by omega) (by omega);have HC:=hid (Jz hL (λm hm=>Uw m (by omega)) ok f hne a n c w h (by omega));have hl:=dh (build L l);have hall:∀ z∈l,z.1.length=L:=λz hz=>(ok.1 z hz).1;have hD:=Ir ok hne;have hRs:∀ (m:Nat) wz,m<=L->Below w.heap.size w wz->Calls prog 37 #[.slice a n c,.int .i64 m] wz (AY wz (bR l m)):=λm wz hm' hb=>xu l a n c m (λz hz=>by rw [hall z hz]; exact hm') wz (h.below hb) (by omega)
  have A9:∀ (K:Nat),0<K->K<=L->Ok (L-K) (bR l K)->∀ a' n' c' wz,dY wz a' n' c' (bR l K)->Calls prog 25 #[.slice a' n' c'] wz (OI wz (bM (build (L-K) (bR l K)))):=λK h0 hK hok a' n' c' wz hI=>ih (L-K) (by omega) _ hok (f.rest K) a' n' c' wz hI (by rw [<-hI.len]; unfold bR; rw [List.length_map]; omega)
  have hBg:0<L->∀ (d:Fin 16) wz,Below w.heap.size w wz->Calls prog 38 #[.slice a n c,.int .i64 d.val] wz (AY wz (bI l d)):=λhL0 d wz hb=>Ei l a n c d (λz hz=>by rw [hall z hz]; exact hL0) wz (h.below hb) (by omega)
  have As:0<L->∀ (d:Fin 16) a' n' c' wz,dY wz a' n' c' (bI l d)->Calls prog 37 #[.slice a' n' c',.int .i64 1] wz (AY wz (bR (bI l d) 1)):=λhL0 d a' n' c' wz hi=>xu (bI l d) a' n' c' 1 (λz hz=>by rw [hall z (lY.1 hz).1]; omega) wz hi (by rw [<-hi.len]; exact Nat.le_trans (List.length_filter_le _ _) (by omega))
  have At:0<L->∀ (d:Fin 16) a' n' c' wz,dY wz a' n' c' (bR (bI l d) 1)->Calls prog 25 #[.slice a' n' c'] wz (OI wz (bM (build (L-1) (bR (bI l d) 1)))):=λhL0 d a' n' c' wz hI=>ih (L-1) (by omega) _ (og ok hL0 d) ((f.begin d).rest 1) a' n' c' wz hI (by
   rw [<-hI.len];unfold bR;rw [List.length_map];exact Nat.le_trans (List.length_filter_le _ _) (by omega))
  have jb:=hid hRs;have pS:=hid A9;have u6:=hid hBg;have pT:=hid As;have pZ:=hid At;obtain ⟨xs,hxs⟩:=av (bM (build L l))
  rw [hxs] at hD eK ⊢;rw [e] at hD;generalize bH (build L l)=N at *
  have HM:=hid hm;have HL:=hid hl;have HD:=hid hD;have hxl:xs.length<=65000:=by omega
  clear h hm hl e hs hb hD hRs A9 hBg As At hxs eK hf2 hall ok f hnl ih hne;go_enter func25,ntmps25;go_wp2_with fail
  refine HC.out.mono ?_;rintro e w1 ⟨a1,n1,c1,rfl,hp1,hb1⟩;have HB1:=hid hb1;have hNew:=Rg.Own.new w1 (ndC nd0 none 0 0) 56;have HN:=hid hNew;have HP:=hid hp1;clear hb1 hNew hp1 HC;go_wp2_with (first
   | (refine ay (aY _ _ _ w1.heap.size rfl rfl) ?_)
   | (refine dZ HN.out rfl N a1 n1 c1 HL.out rfl _ _ rfl rfl rfl rfl ?_; intro w4 hO4 cX; have ch:=hid hO4; have cz:Hid (Below w1.heap.size w1 w4):=hid (cX.below (al1 _ _) aF); clear hO4 cX)
   | (refine ay (dn ch.out HL.out ⟨_,rfl,rfl⟩) ?_))
  refine (NG N a1 n1 c1 HL.out w4 (HP.out.below cz.out) HM.out).mono ?_;rintro e w5 ⟨rfl,hb5⟩;have ag:=hid (bst (bst HB1.out cz.out) hb5);have aE:=ch.out.below hb5;have hg5:w1.heap.size<w5.heap.size:=aE.1;have hs5:=ag.out.size;have k0:w5.cell? ⟨w1.heap.size,0,none⟩=some (.int .i64 N.kd):=aU (j:=0) aE rfl;have k1:w5.cell? ⟨w1.heap.size,1,none⟩=some (.slice a1 n1 c1):=aU (j:=1) aE rfl;have hpn:N.p.length=n1:=HP.out.len;have hpc:=HP.out.1;have hpm:=HP.out.2.1;unfold maxLen at hpm;obtain ⟨E,hE⟩:=av (iR N)
  rw [show (⟨(jP N).toArray⟩:aK)=iR N from rfl];rw [hE] at HD ⊢;obtain ⟨g,hg⟩:=av w1.heap.size
  rw [hg] at hg5 k0 k1;obtain ⟨w6,eQ⟩:=au (w5.alloc (.cells #[.string E] 9))
  have hb6:Below w5.heap.size w5 w6:=by rw [eQ]; exact al1 _ _
  have hs6:w5.heap.size<w6.heap.size:=by rw [eQ]; simp
  have xr:w6.ownsRow w5.heap.size 9 1 (.slice (some ⟨w5.heap.size,0,none⟩) 1 1) [E].length ([E].map Value.string):=by
   rw [eQ];exact World.ownsRow_lit (e:=9) (size:=1) (base:=w5.heap.size) w5 #[.string E] 1 aF (by unfold maxLen; decide) rfl
  have Ax:=aV hb6 k0;have k16:=aV hb6 k1;have sC:Hid (_=_):=hid eQ;have cg:=hid (bst ag.out hb6);have q8:=hid hb6;have fW:=hid xr;clear hb5 aE ch cz HN HB1 hE eQ hb6 xr k0 k1 HP hs6;rcases HD.out with ⟨hk,hx⟩ | ⟨hk,K,Lt,AC,VM,hx,hok⟩ | ⟨hk,hL0,hx⟩
  .rw [hk] at Ax;have HX:=hid hx;clear hx hk HD jb pS u6 pT pZ;go_wp2_with (first
    | (rw [<-sC.out]))
   go_loopw [5,6] (λv i wr=>v = .slice (some ⟨w5.heap.size,0,none⟩) 1 1/\i = .int .i64 0/\wr=w6) (λ_ _ _=>0)
   case atStart=>exact ⟨rfl,rfl,rfl⟩
   case round =>
    obtain ⟨rfl,rfl,rfl⟩:=hrel;go_wp2;go_ret;refine ⟨_,rfl,?_,cg.out⟩;rw [HX.out];exact EA fW.out hs5
  .rw [hk] at Ax;obtain rfl:n1=K:=by omega
   have HX:=hid hx;have HI:=hid (λa' n' c' wz hI=>pS.out n1 Lt AC hok a' n' c' wz hI);have zd:=hid (λwz hb=>jb.out n1 wz AC hb);obtain ⟨ys,hys⟩:=av (bM (build (L-n1) (bR l n1)))
   rw [hys] at HX HI;clear hx hk HD jb pS u6 pT pZ hok hys VM;go_wp2_with (first
    | (rw [<-sC.out]))
   refine (zd.out w6 cg.out).mono ?_;rintro e w7 ⟨a7,n7,c7,rfl,AD,cE⟩;have AE:=hid AD;have cq:=hid cE;clear AD cE;go_wp2_with fail
   refine (HI.out a7 n7 c7 w7 AE.out).mono ?_;rintro e w8 ⟨v8,rfl,P3,ex⟩;have h68:=bst cq.out ex;have F6:=hid P3;have VS:=hid (Ht fW.out h68);have hyl:[E].length+ys.length<=1000000:=by
    have:=congrArg List.length HX.out;simp only [List.length_cons] at this;simp only [List.length_cons,List.length_nil];omega
   have kq:=hid (bst q8.out h68);have aw:=hid (bst cg.out h68);have hsz:=kq.out.size;clear P3 ex h68 AE cq fW;go_wp2_with (first
    | (at_builtin; refine pY rfl _ _ rfl rfl rfl VS.out F6.out hyl hsz ?_))
   intro v' w9 h9 tj _;have AF:=hid h9;have fR:Hid (Below w.heap.size w w9):=hid (aw.out.grown tj aw.out.size (λk hk=>by cases hk; exact hs5));clear h9 tj;go_wp2;go_ret;refine ⟨_,rfl,?_,fR.out⟩;rw [HX.out];exact EA AF.out hs5
  .rw [hk] at Ax;obtain ⟨ff,I3⟩:∃ ff:Fin 16->List aK,(λd=>bM (build (L-1) (bR (bI l d) 1)))=ff:=⟨_,rfl⟩
   have VV:Hid (∀ d,bM (build (L-1) (bR (bI l d) 1))=ff d):=hid (λd=>congrFun I3 d);rw [I3] at hx;have HX:=hid hx;have ux:=hid (λd wz hb=>u6.out hL0 d wz hb);have zd:=hid (λd a' n' c' wz hI=>pT.out hL0 d a' n' c' wz hI);have HI:=hid (λd a' n' c' wz hI=>pZ.out hL0 d a' n' c' wz hI);clear hx hk HD jb pS u6 pT pZ I3;have uB:Hid (∀ j,j<=16->(E::oM ff j).length<=65000):=hid (λj hj=>by
    have h1:=GL ff (16-j) j (by omega);have h2:=congrArg List.length HX.out;simp only [List.length_cons] at h2 ⊢;omega)
   go_wp2_with (first
    | (rw [<-sC.out]))
   go_loopw [5,6] (λv i wr=>∃ j:Nat,j<=16/\i = .int .i64 j/\Hid (wr.ownsRow w5.heap.size 9 1 v (E::oM ff j).length ((E::oM ff j).map Value.string))/\Hid (Below w5.heap.size w5 wr)) (λ_ i _=>16-(intOf i).toNat)
   case atStart=>exact ⟨0,Nat.zero_le _,rfl,fW,q8⟩
   case round =>
    obtain ⟨j,hj,rfl,HR,HB⟩:=hrel;clear fW;have kr:wr.cell? ⟨g,0,none⟩=some (.int .i64 3):=by
     rw [HB.out.cell (p:=⟨g,0,none⟩) hg5,<-q8.out.cell (p:=⟨g,0,none⟩) hg5];exact Ax
    clear Ax k16 q8;have hsr:=HB.out.size;by_cases hlt:j<16
    .have HS:=hid (Af ff hlt);have hl1:=uB.out (j+1) (by omega);have aw:Hid (Below w.heap.size w wr):=hid (bst ag.out HB.out);have hji:(j:Int)<16:=by omega
     rw [HS.out] at hl1;go_wp2_with fail
     refine (ux.out ⟨j,hlt⟩ wr aw.out).mono ?_;rintro e w7 ⟨a7,n7,c7,rfl,AD,cE⟩;have AE:=hid AD;have cq:=hid cE;clear AD cE;go_wp2_with fail
     refine (zd.out ⟨j,hlt⟩ a7 n7 c7 w7 AE.out).mono ?_;rintro e w8 ⟨a8,n8,c8,rfl,C9,ex⟩;have P4:=hid C9;have kq:=hid (bst cq.out ex);clear C9 ex AE cq;go_wp2_with fail
     refine (HI.out ⟨j,hlt⟩ a8 n8 c8 w8 P4.out).mono ?_;rintro e w9 ⟨v9,rfl,I4,ed⟩;rw [VV.out] at I4;have I5:=bst kq.out ed;have AF:=hid I4;have P5:=hid (Ht HR.out I5);have fR:=hid (bst HB.out I5);have hsz:=fR.out.size;have hyl:(E::oM ff j).length+(ff ⟨j,hlt⟩).length<=1000000:=by
      simp only [List.length_cons,List.length_append] at hl1 ⊢;omega
     clear I4 ed I5 P4 kq;go_wp2_with (first
      | (at_builtin; refine pY rfl _ _ rfl rfl rfl P5.out AF.out hyl hsz ?_))
     intro v' ap h10 AG _;have hlk:=P5.out.lt;have my:Hid (Below w5.heap.size w5 ap):=hid (fR.out.grown AG hsz (λk hk=>(hlk k hk).1));have I6:Hid (ap.ownsRow w5.heap.size 9 1 v' (E::oM ff (j+1)).length ((E::oM ff (j+1)).map Value.string)):=hid (by rw [HS.out,List.length_cons,List.length_append,List.map_cons,List.map_append]; exact h10);clear h10 AG;go_wp2;go_roundw
     case rel=>exact ⟨j+1,by omega,by go_num,I6,my⟩
     case measure=>simp [intOf]; omega
    .obtain rfl:j=16:=by omega
     have HE:Hid (OI w xs (.returned _) wr):=hid ⟨_,rfl,by rw [HX.out]; exact EA HR.out hs5,bst ag.out HB.out⟩;go_wp2;go_ret;exact HE.out
theorem Lf (L:Nat):L<=64->JO L:=by
 induction L using Nat.strongRecOn with
 | ind L ih=>exact λhL=>PD hL λm hm=>ih m hm (by omega)
end Tm
end
end Go.Proofs.YtlcplcgigjagpaaGreatDoor
