/-
 The contract of Refs: the references of the parts that were dropped.
-/
import Derived.Test.YtlcplcgigjagpaaGreatDoorSd17
import Derived.Deep.CutBlock
open Go.Lib (hid)
open Go.Proofs.Tryz
set_option linter.unusedSimpArgs false
set_option linter.unusedVariables false
set_option maxHeartbeats 40000000
set_option maxRecDepth 100000
namespace Go.Proofs.YtlcplcgigjagpaaGreatDoor
variable {cs:aM} {ops:Array Oper} {o:Oper} {ty:TypeId} {b2 c d:Nat} {a ad q:aJ} {u:Value} {ev:Operand->Value} {w2:World}
section
open Go.RowKit
namespace Sx
open Tr Ni Pk Ky No Rf Rl Tm
open Sm (Tab)
theorem KG {t:T} (h:¬ eX t):((bC t).map bQ).flatten=bQ t:=by
 cases t with
 | nil=>rfl
 | leaf p v=>rfl
 | stub r=>exact absurd trivial h
 | ext q s=>show (bQ s::[]).flatten=bQ s; simp
 | br ks =>
  show (((eH ks).map ks).map bQ).flatten=((List.finRange 16).map λi=>bQ (ks i)).flatten;rw [List.map_map];unfold eH;generalize List.finRange 16=l
  induction l with
  | nil=>rfl
  | cons i l ih =>
   cases hi:isNil (ks i) with
   | true=>rw [List.filter_cons_of_neg (by rw [hi]; decide),List.map_cons,List.flatten_cons,ih,cO.1 hi]; rfl
   | false=>rw [List.filter_cons_of_pos (by rw [hi]; rfl),List.map_cons,List.map_cons,List.flatten_cons,List.flatten_cons,ih]; rfl
def RU (M:Mp) (k v:Value):Prop:=∃ p x,k=tv p/\IsT M p x/\bQ x=[]/\v = .agg #[]
structure LJ (M:Mp) (B0 gW gL gF bm:Nat) (l:List aK) (v:Value) (w:World):Prop where
 bw:Rg.Own w gW #[.map (some bm)] 67
 bl:Rg.Own w gL #[v] 34
 bf:Rg.Own w gF #[.func (.func 26) #[] #[.pointer (some ⟨gW,0,none⟩),.pointer (some ⟨gL,0,none⟩),.pointer (some ⟨gF,0,none⟩)]] 68
 r:w.ownsRow B0 9 1 v l.length (l.map Value.string)
 m:oW w bm (RU M)
 nr:v.ownBlock≠some gW/\v.ownBlock≠some gL/\v.ownBlock≠some gF/\v.ownBlock≠some bm
 ne:gW≠gL/\gF≠gL
 b0:B0<=gW/\B0<=gL/\B0<=gF/\B0<=bm
 u:∀ k,B0<=k->M.at_ k=none/\¬ M.ft k
 z:0<B0
section
variable {M:Mp} {B0 gW gL gF bm:Nat} {l:List aK} {v v':Value} {w w5 w':World}
theorem LJ.bmL (h:LJ M B0 gW gL gF bm l v w):bm≠gL/\bm≠gW/\bm≠gF:=by
 obtain ⟨es,cl,h1,_⟩:=h.m;refine ⟨λe=>?_,λe=>?_,λe=>?_⟩
 .have:=h.bl.2; rw [<-e,h1] at this; cases this
 .have:=h.bw.2; rw [<-e,h1] at this; cases this
 .have:=h.bf.2; rw [<-e,h1] at this; cases this
theorem LJ.keep (h:LJ M B0 gW gL gF bm l v w) (hs:w.heap.size<=w'.heap.size) (hk:∀ k,B0<=k->k<w.heap.size->w'.heap[k]? = w.heap[k]?):LJ M B0 gW gL gF bm l v w' :=
 ⟨⟨aH h.bw.1 hs,(hk _ h.b0.1 h.bw.1).trans h.bw.2⟩,⟨aH h.bl.1 hs,(hk _ h.b0.2.1 h.bl.1).trans h.bl.2⟩,⟨aH h.bf.1 hs,(hk _ h.b0.2.2.1 h.bf.1).trans h.bf.2⟩,qA h.r λk e=>hk k (h.r.lt k e).1 (h.r.lt k e).2,h.m.same (hk _ h.b0.2.2.2 h.m.lt) λ_ _ h=>h,h.nr,h.ne,h.b0,h.u,h.z⟩
theorem LJ.fr (h:LJ M B0 gW gL gF bm l v w) (f:Fr M M w w'):LJ M B0 gW gL gF bm l v w':=h.keep f.size λk hk hl=>f.block k hl (h.u k hk).1
theorem LJ.push {s:aK} (h:LJ M B0 gW gL gF bm l v w) (hg:w.grownBy w5 v.ownBlock) (hrow:w5.ownsRow B0 9 1 v' (l.length+1) (l.map Value.string++[.string s])) (hl:v'.ownBlock=v.ownBlock\/v'.ownBlock=some w.heap.size) (hO:Rg.Own w' gL #[v'] 34) (hu:Rg.Upd w5 gL w'):LJ M B0 gW gL gF bm (l++[s]) v' w':=by
 have hs:w.heap.size<=w'.heap.size:=by rw [hu.size]; exact hg.size
 have hk:∀ k,k<w.heap.size->k≠gL->v.ownBlock≠some k->w'.heap[k]? = w.heap[k]? := λk hk h1 h2=>(hu.block k h1).trans (hg.block k hk λe=>h2 e.symm);have hn:∀ k,k<w.heap.size->v.ownBlock≠some k->v'.ownBlock≠some k:=λk hk h1 e=>by
  rcases hl with e2 | e2
  .exact h1 (by rw [<-e2]; exact e)
  .rw [e2] at e;have:=Option.some.inj e;omega
 have hb:=h.bmL;refine ⟨⟨aH h.bw.1 hs,(hk _ h.bw.1 h.ne.1 h.nr.1).trans h.bw.2⟩,hO,⟨aH h.bf.1 hs,(hk _ h.bf.1 h.ne.2 h.nr.2.2.1).trans h.bf.2⟩,?_,h.m.same (hk _ h.m.lt hb.1 h.nr.2.2.2) λ_ _ h=>h,⟨hn _ h.bw.1 h.nr.1,hn _ h.bl.1 h.nr.2.1,hn _ h.bf.1 h.nr.2.2.1,hn _ h.m.lt h.nr.2.2.2⟩,h.ne,h.b0,h.u,h.z⟩;rw [List.length_append,List.map_append];exact qA hrow λk e=>hu.block k λe2=>hn gL h.bl.1 h.nr.2.1 (by rw [e,e2])
theorem LJ.mark (h:LJ M B0 gW gL gF bm l v w) (hm:oW w' bm (RU M)) (hu:Rg.Upd w bm w'):LJ M B0 gW gL gF bm l v w':=by
 have hb:=h.bmL;exact ⟨h.bw.upd hu (Ne.symm hb.2.1),h.bl.upd hu (Ne.symm hb.1),h.bf.upd hu (Ne.symm hb.2.2),qA h.r λk e=>hu.block k λe2=>h.nr.2.2.2 (by rw [e,e2]),hm,h.nr,h.ne,h.b0,h.u,h.z⟩
end
def LK (gL bm:Nat) (v:Value) (k:Nat):Prop:=k=gL\/k=bm\/v.ownBlock=some k
structure Ls (M:Mp) (B0 gW gL gF bm:Nat) (v0:Value) (w0:World) (l:List aK) (v:Value) (w:World):Prop where
 j:LJ M B0 gW gL gF bm l v w
 f:FrK M (LK gL bm v0) w0 w
 i:Inv M w
 t:Tab w
 o:v.ownBlock=v0.ownBlock\/∃ k,w0.heap.size<=k/\v.ownBlock=some k
section
variable {M:Mp} {B0 gW gL gF bm:Nat} {v0:Value} {w0:World} {l:List aK} {v v':Value} {w w5 w':World}
theorem Ls.start (h:LJ M B0 gW gL gF bm l v w) (hi:Inv M w) (hT:Tab w):Ls M B0 gW gL gF bm v w l v w:=⟨h,FrK.refl _ _ _,hi,hT,.inl rfl⟩
theorem Ls.fr (h:Ls M B0 gW gL gF bm v0 w0 l v w) (f:Fr M M w w') (i:Inv M w') (t:Tab w'):Ls M B0 gW gL gF bm v0 w0 l v w':=⟨h.j.fr f,h.f.trans (FrK.of (K:=λ_=>False) f) (λ_ h=>h.elim),i,t,h.o⟩
theorem Ls.below (h:Ls M B0 gW gL gF bm v0 w0 l v w) (hb:Below w.heap.size w w'):Ls M B0 gW gL gF bm v0 w0 l v w':=h.fr (Fr.below M hb) (h.i.below hb) (h.t.below hb h.t.pos)
theorem Ls.push {s:aK} (h:Ls M B0 gW gL gF bm v0 w0 l v w) (hg:w.grownBy w5 v.ownBlock) (hrow:w5.ownsRow B0 9 1 v' (l.length+1) (l.map Value.string++[.string s])) (hl:v'.ownBlock=v.ownBlock\/v'.ownBlock=some w.heap.size) (hO:Rg.Own w' gL #[v'] 34) (hu:Rg.Upd w5 gL w'):Ls M B0 gW gL gF bm v0 w0 (l++[s]) v' w':=by
 have hs:=h.f.size;have hrl:=h.j.r.lt;have hw:∀ k,M.ft k\/k=0->k<w.heap.size->w'.heap[k]? = w.heap[k]? := λk hk hl=>by
  have h1:k<B0:=by
   rcases hk with hk | rfl
   .exact Classical.byContradiction λe=>(h.j.u k (by omega)).2 hk
   .exact h.j.z
  have:=h.j.b0;exact (hu.block k (by omega)).trans (hg.block k hl λe=>by have:=(hrl k e.symm).1; omega)
 have hsz:w.heap.size<=w'.heap.size:=by rw [hu.size]; exact hg.size
 refine ⟨h.j.push hg hrow hl hO hu,⟨hu.os.trans (hg.os.trans h.f.os),hu.tape.trans (hg.tape.trans h.f.tape),hu.output.trans (hg.output.trans h.f.output),Nat.le_trans hs hsz,λk hk hm hn=>?_⟩,h.i.keep hsz λk hk=>hw k (.inl hk) (h.i.lt_ k hk),λi hi=>?_,?_⟩
 .refine ((hu.block k λe=>hn (.inl e)).trans (hg.block k (by omega) λe=>?_)).trans (h.f.block k hk hm hn);rcases h.o with e2 | ⟨k',hk',e2⟩
  .exact hn (.inr (.inr (by rw [<-e2]; exact e.symm)))
  .rw [e2] at e;have:=Option.some.inj e;omega
 .rw [World.cell?_of_block (hw _ (.inr rfl) h.t.pos)];exact h.t i hi
 .rcases hl with e2 | e2
  .rw [e2]; exact h.o
  .exact .inr ⟨_,hs,e2⟩
theorem Ls.mark (h:Ls M B0 gW gL gF bm v0 w0 l v w) (hm:oW w' bm (RU M)) (hu:Rg.Upd w bm w'):Ls M B0 gW gL gF bm v0 w0 l v w':=by
 have hz:=h.j.z;have hb:=h.j.b0;exact ⟨h.j.mark hm hu,⟨hu.os.trans h.f.os,hu.tape.trans h.f.tape,hu.output.trans h.f.output,by rw [hu.size]; exact h.f.size,λk hk hm' hn=>(hu.block k λe=>hn (.inr (.inl e))).trans (h.f.block k hk hm' hn)⟩,h.i.upd hu (h.j.u bm hb.2.2.2).2,mM h.t hu (by omega),h.o⟩
theorem Ls.call {l':List aK} (h:Ls M B0 gW gL gF bm v0 w0 l v w) (g:Ls M B0 gW gL gF bm v w l' v' w'):Ls M B0 gW gL gF bm v0 w0 l' v' w':=by
 have hs:=h.f.size;refine ⟨g.j,h.f.trans g.f (λk hk=>?_),g.i,g.t,?_⟩
 .rcases hk with e | e | e
  .exact .inl (.inl e)
  .exact .inl (.inr (.inl e))
  .rcases h.o with e2 | ⟨k',hk',e2⟩
   .exact .inl (.inr (.inr (by rw [<-e2]; exact e)))
   .rw [e2] at e;have:=Option.some.inj e;exact .inr (by omega)
 .rcases g.o with e2 | ⟨k',hk',e2⟩
  .rw [e2]; exact h.o
  .exact .inr ⟨k',by omega,e2⟩
end
theorem Xk {M:Mp} {gL bm g:Nat} {v:Value} {w w':World} {t:TypeId} (h:Rg.Own w g cs t) (f:FrK M (LK gL bm v) w w') (hm:M.at_ g=none) (h1:g≠gL) (h2:g≠bm) (h3:v.ownBlock≠some g):Rg.Own w' g cs t :=
 ⟨aH h.1 f.size,(f.block g h.1 hm λe=>e.elim h1 λe=>e.elim h2 h3).trans h.2⟩
theorem Nr (ev:Operand->Value) (o:Oper) (w:World) (b:Nat) (hb:b=w.heap.size) (ho:o.op = .alloc 69):(execOp ev o).run prog w = .ok (.value (.pointer (some ⟨b,0,none⟩))) (w.alloc (.cells #[] 69)):=by
 subst hb;unfold execOp;rw [ho];kernel_rfl
theorem uf {rest:List Oper} {act:Go.Act} {w:World} {Q:Exit->Go.Act->World->Prop} {b:Nat} (hgd:o.guard=none) (p q:Operand) (ho:o.op = .store 69 p q) (hx:act.eval p = .pointer (some ⟨b,0,none⟩)) (hy:act.eval q = .agg #[])
  (hQ:wpList prog ops Q rest (act.put o.dst undef) w):wpList prog ops Q (o::rest) act w :=
 wpList_plain hgd λK hK=>by
  have hst:(Instr.storeAt 69 (.pointer (some ⟨b,0,none⟩)) (.agg #[])).run prog w = .ok () w:=by kernel_rfl
  unfold Oper.wp execOp;simp only [ho,hx,hy,Sem.run_bind,Sem.run_pure,Result.andThen_ok,hst];exact hK _ _ hQ
theorem KP:prog.built 69 []=some #[]:=by kernel_rfl
theorem Iu:(prog.info? 9).map (λi=>(i.zero,i.size,i.bytes))=some (some (.string ⟨#[]⟩),1,16):=by kernel_rfl
theorem KV {w:World} {B:Nat} {v:Value} {l:List aK} {s:aK} (hR:w.ownsRow B 9 1 v l.length (l.map Value.string)) (h2:Rg.Own w b2 #[.string s] 9) (hn:l.length<=1000000) (hB:B<=w.heap.size) :
  ∃ v' w',(Builtin.append_ #[34,34] ty #[v,.slice (some ⟨b2,0,none⟩) 1 1]).run prog w = .ok v' w'/\w'.ownsRow B 9 1 v' (l.length+1) (l.map Value.string++[.string s])/\w.grownBy w' v.ownBlock/\(v'.ownBlock=v.ownBlock\/v'.ownBlock=some w.heap.size):=by
 obtain ⟨i0,hi,hz,hsz,hby⟩:=info_parts Iu;obtain ⟨v',w',hr,h3,h4,_,h5⟩:=run_append_own_at (P:=prog) w B 34 ty 9 i0 (.string ⟨#[]⟩) 1 16 underlying34 hi hz hsz hby rfl (by decide) v l.length _ hR ⟨b2,0,none⟩ 1 1 [.string s] rfl
  (λj u hu=>by
   have hj:j=0:=by
    have:=(List.getElem?_eq_some_iff.1 hu).1;simp at this;omega
   subst hj;have hu':Value.string s=u:=by simpa using hu
   rw [Addr.add_mid,<-hu'];exact Tm.aU h2 rfl)
  (λu hu=>by rw [List.mem_singleton.1 hu]; rfl) (by unfold maxLen; omega) (by omega) hB
 exact ⟨v',w',hr,h3,h4,h5⟩
theorem sZ {a:Go.Act} {w:World} {K:Go.Act->World->Prop} {Q:Exit->Go.Act->World->Prop} {B:Nat} {v:Value} {l:List aK} {s:aK} (hw:Region.wanted o (yielded ops a.tmps)=true) (hR:w.ownsRow B 9 1 v l.length (l.map Value.string)) (h2:Rg.Own w b2 #[.string s] 9) (hn:l.length<=1000000) (hB:B<=w.heap.size)
  (ho:∃ x y,o.op = .call { callee:=.builtin .append,args:=#[x,y],argTypes:=#[34,34] }/\a.eval x=v/\a.eval y = .slice (some ⟨b2,0,none⟩) 1 1)
  (H:∀ v' w',w'.ownsRow B 9 1 v' (l.length+1) (l.map Value.string++[.string s])->w.grownBy w' v.ownBlock->(v'.ownBlock=v.ownBlock\/v'.ownBlock=some w.heap.size)->K (a.put o.dst v') w'):if Region.wanted o (yielded ops a.tmps)=true then Oper.wp prog o a w K Q else K (a.put o.dst undef) w:=by
 obtain ⟨x,y',ho,hs,hy⟩:=ho;obtain ⟨v',w',hr,h3,h4,h5⟩:=KV (ty:=o.type) hR h2 hn hB;refine Rg.want hw ?_;unfold Oper.wp execOp;simp only [ho,resolve,invoke,builtin,Sem.run_bind,Sem.run_pure,Result.andThen_ok,List.map_toArray,List.map_cons,List.map_nil,hs,hy,hr];exact H v' w' h3 h4 h5
theorem wD {a:Go.Act} {w:World} {K:Go.Act->World->Prop} {Q:Exit->Go.Act->World->Prop} {s:aK} (hw:Region.wanted o (yielded ops a.tmps)=true)
  (ho:∃ y,o.op = .buildSlice 34 1 #[(0,y)]/\a.eval y = .string s)
  (H:∀ w' b,b=w.heap.size->Rg.Own w' b #[.string s] 9->Below w.heap.size w w'->K (a.put o.dst (.slice (some ⟨b,0,none⟩) 1 1)) w'):if Region.wanted o (yielded ops a.tmps)=true then Oper.wp prog o a w K Q else K (a.put o.dst undef) w:=by
 obtain ⟨y,ho,hy⟩:=ho;obtain ⟨i0,hi,hz,hs,hby⟩:=info_parts Iu;refine Rg.want hw (wp_buildSlice 34 9 1 _ ho #[.string s] i0 _ underlying34 hi hz (by rw [hs]; decide) (by rw [hs]; decide) ?_ (H _ _ rfl (Rg.Own.new _ _ _) (al1 _ _)));simp only [List.map_toArray,List.map_cons,List.map_nil,hy,hs];kernel_rfl
theorem rD {a:Go.Act} {w:World} {K:Go.Act->World->Prop} {Q:Exit->Go.Act->World->Prop} (hw:Region.wanted o (yielded ops a.tmps)=true) {b n:Nat} (h:Rg.Own w b #[u] 34)
  (ho:∃ x y,o.op = .store 34 x y/\a.eval x = .pointer (some ⟨b,0,none⟩)/\a.eval y = .slice ad n c)
  (H:∀ w',Rg.Own w' b #[.slice ad n c] 34->Rg.Upd w b w'->K (a.put o.dst undef) w'):if Region.wanted o (yielded ops a.tmps)=true then Oper.wp prog o a w K Q else K (a.put o.dst undef) w:=by
 obtain ⟨x,y,ho,hx,hy⟩:=ho;have hc:w.cell? ⟨b,0,none⟩=some u:=Tm.aU (j:=0) h rfl;refine Rg.want hw ?_;unfold Oper.wp execOp;simp only [ho,hx,hy,Sem.run_bind,Sem.run_pure,Result.andThen_ok,Zr w hc (jm h)];exact H _ (dS h _) (bW _ _ _ _)
theorem FX {α β:Type} (f : α->List β) (d : α) (l:List α) (j:Nat) (hj:j<l.length):(((l.take j).map f).flatten).length+(f (l.getD j d)).length<=((l.map f).flatten).length/\((l.take (j+1)).map f).flatten=((l.take j).map f).flatten++f (l.getD j d):=by
 have h:l=l.take j++l[j]::l.drop (j+1):=by rw [List.getElem_cons_drop,List.take_append_drop]
 have e:l.getD j d=l[j]:=by simp [List.getD,hj]
 refine ⟨?_,?_⟩
 .conv=>rhs; rw [h]
  rw [e,List.map_append,List.flatten_append,List.length_append,List.map_cons,List.flatten_cons,List.length_append];omega
 .rw [e,List.take_succ_eq_append_getElem hj,List.map_append,List.flatten_append];simp
theorem VL {M:Mp} {B0 gW gL gF bm:Nat} (p:aJ) (x:T) (L:Nat) (g:Tr.Good x L) (hL:L<=64) (f:Fine x) (ht:IsT M p x)
  (gr:∀ s,s∈bC x->∀ (p:aJ) (l:List aK) (v:Value) (w:World),IsT M p s->l.length+(bQ s).length<=1000000->LJ M B0 gW gL gF bm l v w->Inv M w->Tab w->Calls prog 26 #[tv p,.pointer (some ⟨gW,0,none⟩),.pointer (some ⟨gL,0,none⟩),.pointer (some ⟨gF,0,none⟩)] w λe w'=>e = .returned (.tuple #[])/\∃ v',Ls M B0 gW gL gF bm v w (l++bQ s) v' w')
  (l:List aK) (v:Value) (w:World) (hlen:l.length+(bQ x).length<=1000000) (hj:LJ M B0 gW gL gF bm l v w) (hi:Inv M w) (hT:Tab w) :
  Calls prog 26 #[tv p,.pointer (some ⟨gW,0,none⟩),.pointer (some ⟨gL,0,none⟩),.pointer (some ⟨gF,0,none⟩)] w λe w'=>e = .returned (.tuple #[])/\∃ v',Ls M B0 gW gL gF bm v w (l++bQ x) v' w':=by
 obtain ⟨w1,hw1⟩:=au (w.alloc (.cells #[.pointer p] 31))
 have hX1:Rg.Own w1 w.heap.size #[.pointer p] 31:=by rw [hw1]; exact Rg.Own.new _ _ _
 have hb1:Below w.heap.size w w1:=by rw [hw1]; exact al1 _ _
 have hS1:=(Ls.start hj hi hT).below hb1;obtain ⟨u,ok,hrun,htr,hfa⟩:=AP (P:=prog) (key:=tv p) underlying67 underlying31 (λem=>rM em p w1) (Qs w1) hS1.j.m (λk v hr=>by
  obtain ⟨p2,x2,rfl,hx2,_⟩:=hr;exact xg hS1.i ht hx2)
 have hu:u = .agg #[]:=by
  cases ok with
  | true =>
   obtain ⟨_,_,_,_,_,h⟩:=htr rfl;exact h
  | false=>exact hfa rfl
 subst hu;have hk:ok=true->bQ x=[]:=λe=>by
  obtain ⟨p2,x2,hk2,hx2,h,_⟩:=htr e;injection hk2 with e2;have e1:p=p2:=by simpa using e2
  subst e1;rw [FZ ht hx2];exact h
 have eg:=hid hrun;have cd:=hid hS1;have bd:=hid hX1;have HW1:=hid hw1;have HLen:=hid hlen;have Dd:=hid ht;have Ax:=hid gr;have ef:=hid (λ(w2:World) (hi:Inv M w2) (hm:oW w2 bm (RU M)) (hs:bQ x=[])=>FK (P:=prog) (key:=tv p) (val:=.agg #[]) underlying67 underlying31 (λem=>rM em p w2) (DT p) hm (λk v hr=>by
  obtain ⟨p2,x2,rfl,hx2,_⟩:=hr;exact xg hi ht hx2) ⟨p,x,rfl,ht,hs,rfl⟩)
 have pg:=hid (λwx (hi:Inv M wx) (hT:Tab wx)=>sM M p x L g hL f wx hi ht hT);have eQ:=hid (λwx (hi:Inv M wx) (hT:Tab wx)=>tZ M p x L g hL f wx hi ht hT);have lA:=hid (λwx (hi:Inv M wx) (hT:Tab wx)=>sw M p x L g hL f wx hi ht hT);obtain ⟨gT,ct⟩:=av w.heap.size
 have eE:Hid (w.heap.size=gT):=hid ct;have pN:Hid (M.at_ gT=none):=hid (by rw [<-ct]; exact hi.out aF);have DA:Hid (gT≠gL):=hid (by rw [<-ct]; have:=hj.bl.1; omega);have zg:Hid (gT≠bm/\gL<gT/\bm<gT):=hid (by rw [<-ct]; have:=hj.m.lt; have:=hj.bl.1; omega);have pS:Hid (v.ownBlock≠some gT):=hid (λe=>by have:=(hj.r.lt _ e).2; omega);rw [ct] at bd;have s9:Hid (l.length<=1000000):=hid (by omega);have de:Hid ((bM x).ks.length=16):=hid (dP x);obtain ⟨N,hN⟩:=av (bM x)
 have HN:=hid hN;rw [hN] at de;have hsl:∃ a n c,v = .slice a n c:=by
  obtain ⟨a,c,h⟩:=ku hj.r;exact ⟨a,_,c,h⟩
 obtain ⟨va,vc,hv⟩:∃ a c,v = .slice a l.length c:=ku hj.r;clear hX1 hb1 hS1 hrun htr hfa hi hT hj hw1 ct hlen gr g f hN ht hsl;cases ok with
 | true =>
  have hs:=hk rfl;have af:Hid (∃ v',Ls M B0 gW gL gF bm v w (l++bQ x) v' (w1.alloc (.cells #[] 69))):=hid ⟨v,by rw [hs,List.append_nil]; exact cd.out.below (al1 _ _)⟩;clear hk hs hv;go_enter func26,ntmps26;go_wp2_with (first
   | ((try rw [<-HW1.out,eE.out]); refine ay (SH (Tm.aU (j:=0) cd.out.j.bw rfl) ⟨_,rfl,rfl⟩) ?_)
   | (refine ay (aT (Tm.aU (j:=0) bd.out rfl) ⟨_,rfl,rfl⟩) ?_)
   | (refine ay (nW eg.out ⟨_,_,rfl,rfl,rfl⟩) ?_)
   | (refine ay (Nr _ _ _ w1.heap.size rfl rfl) ?_)
   | (refine uf rfl _ _ rfl rfl rfl ?_))
  exact bodyPost_ret (results_none rfl _ _ _) rfl ⟨rfl,af.out⟩
 | false =>
  clear hk;obtain ⟨v0,hv0,hS0⟩:∃ v0,v0=v/\Ls M B0 gW gL gF bm v0 w l v w1:=⟨v,rfl,cd.out⟩
  rw [<-hv0];have HV0:=hid hv0;replace cd:=hid hS0;clear hv0 hS0;obtain ⟨b,hb⟩:=av (mJ x)
  have lh:=hid hb;rw [hb] at pg;obtain ⟨r,hr⟩:=av (ref x)
  have oY:=hid hr;rw [hr] at eQ;obtain ⟨w2,hw2⟩:=au (w1.alloc (.cells #[] 69))
  have hb2:Below w1.heap.size w1 w2:=by rw [hw2]; exact al1 _ _
  have HS2:=hid (cd.out.below hb2);have cv:=hid (bd.out.below hb2);have HW2:=hid hw2;clear hb hr hb2 hw2;subst hv;go_enter func26,ntmps26;go_wp2_with (first
   | ((try rw [<-HW1.out,eE.out]); refine ay (SH (Tm.aU (j:=0) cd.out.j.bw rfl) ⟨_,rfl,rfl⟩) ?_)
   | (refine ay (aT (Tm.aU (j:=0) bd.out rfl) ⟨_,rfl,rfl⟩) ?_)
   | (refine ay (nW eg.out ⟨_,_,rfl,rfl,rfl⟩) ?_)
   | (refine ay (Nr _ _ _ w1.heap.size rfl rfl) ?_; rw [<-HW2.out])
   | (refine uf rfl _ _ rfl rfl rfl ?_)
   | (refine ay (BO (Tm.aU (j:=0) HS2.out.j.bl rfl) ⟨_,rfl,rfl⟩) ?_)
   | (refine ay (aT (Tm.aU (j:=0) cv.out rfl) ⟨_,rfl,rfl⟩) ?_))
  refine (pg.out w2 HS2.out.i HS2.out.t).mono ?_;rintro e w3 ⟨rfl,f3,i3,t3⟩;have cL:=hid (HS2.out.fr f3 i3 t3);have HX:=hid (tK cv.out f3 pN.out);clear f3 i3 t3 cd bd HS2 cv pg eg;go_upto_if 22 with fail
  go_cut [22] (λvb wx=>vb = .bool b/\∃ v',Hid (Ls M B0 gW gL gF bm v0 w (l++if b=true then [r] else []) v' wx)/\Hid (Rg.Own wx gT #[.pointer p] 31)/\Hid (v'.ownBlock≠some gT))
  case first =>
   cases b with
   | false =>
    go_wp2_with fail
    go_meet
    exact ⟨rfl,_,hid (by simpa using cL.out),HX,pS⟩
   | true =>
    have H:Hid (Ls M B0 gW gL gF bm v0 w l (.slice va l.length vc) w3.drew):=hid (cL.out.below (show Below w3.heap.size w3 w3.drew from below_drewN aG 1));obtain ⟨v,hv⟩:=av (Value.slice va l.length vc)
    rw [hv] at H pS;have HVv:=hid hv;clear hv;go_wp2_with fail
    refine aB (S:=λwz=>Rg.Own wz gT #[.pointer p] 31) (HX.out.drew) λhld=>?_;refine ah 1 ?_ (hy:=by intro wz hSw; (refine aT (Tm.aU (j:=0) hSw rfl) ?_; exact ⟨_,rfl,rfl⟩));try simp only [Act.put,ak]
    refine wpAnyH_ready (rs:=[0,2]) (by kernel_rfl) (by simp) ?_;refine Rg.readyC (i:=0) rfl (λK hK=>?_) (Rg.readyL (i:=2) rfl (λK hK=>?_))
    .refine Rg.meet (by rfl) _ _ (BO (Tm.aU (j:=0) H.out.j.bl rfl) ?_) ?_
     .exact ⟨_,rfl,rfl⟩
     refine hK.out _ _ (hld) λhld=>?_;clear hK K;try simp only [Act.put,ak]
     refine aj 2 λK hK=>?_;go_simp;go_at_call 28
     (with_reducible refine (eQ.out _ H.out.i H.out.t).mono ?_)
     rintro e eq ⟨rfl,fx,ix,tx⟩;have hX2:=tK hld fx pN.out;replace H:=hid (H.out.fr fx ix tx);refine hK.out _ _ (hX2) λhld=>?_;clear hK K fx ix tx hX2;try simp only [Act.put,ak]
     refine aj 3 λK hK=>?_;refine wD (by rfl) ⟨_,rfl,rfl⟩ ?_;rintro wv1 b3 _ hO3 hbx;have am:=hid hO3;replace H:=hid (H.out.below hbx);have hX2:=hld.below hbx;refine hK.out _ _ (hX2) λhld=>?_;clear hK K hO3 hbx hX2;try simp only [Act.put,ak]
     refine aj 4 λK hK=>?_;refine sZ (by rfl) H.out.j.r am.out s9.out (Nat.le_trans H.out.j.b0.2.1 (Nat.le_of_lt H.out.j.bl.1)) ⟨_,_,rfl,rfl,rfl⟩ ?_;rintro v4 wv2 hr4 hg4 hl4;have jb:(some gT:Option Nat)≠v.ownBlock:=λe=>pS.out e.symm;have hX2:Rg.Own wv2 gT #[.pointer p] 31:=⟨aH hld.1 hg4.size,(hg4.block gT hld.1 jb).trans hld.2⟩
     have ja:Hid (∀ u w5,Rg.Own w5 gL #[v4] 34->Rg.Upd wv2 gL w5->Ls M B0 gW gL gF bm v0 w u v4 w5\/u≠l++[r]):=hid (λu w5 hO hu=>by
      by_cases e:u=l++[r]
      .subst e;exact .inl (H.out.push hg4 hr4 hl4 hO hu)
      .exact .inr e)
     obtain ⟨a4,c4,hv4⟩:=ku hr4;have dl:Hid (Rg.Own wv2 gL #[v] 34):=hid ⟨aH H.out.j.bl.1 hg4.size,(hg4.block gL H.out.j.bl.1 λe=>H.out.j.nr.2.1 e.symm).trans H.out.j.bl.2⟩;have lp:Hid (v4.ownBlock≠some gT):=hid (λe=>by
      rcases hl4 with e2 | e2
      .exact pS.out (by rw [<-e2]; exact e)
      .rw [e2] at e;have:=Option.some.inj e;have:=hld.1;omega)
     subst hv4;refine hK.out _ _ (hX2) λhld=>?_;clear hK K hr4 hg4 hl4 jb hX2;try simp only [Act.put,ak]
     refine aj 5 λK hK=>?_;refine rD (by rfl) dl.out ⟨_,_,rfl,rfl,rfl⟩ ?_;rintro mu hn hu;have fw:=hid ((ja.out (l++[r]) mu hn hu).resolve_right λe=>e rfl);have hX2:=hld.upd hu DA.out;refine hK.out _ _ (hX2) λhld=>?_;clear hK K hn hu hX2;try simp only [Act.put,ak]
     refine aA ?_;go_wp2_with fail
     go_meet
     exact ⟨rfl,_,hid (by first | (rw [if_pos rfl]; exact fw.out) | (rw [if_pos trivial]; exact fw.out)),hid hld,lp⟩
    .go_simp;go_at_call 28
     (with_reducible refine (eQ.out _ H.out.i H.out.t).mono ?_)
     rintro e eq ⟨rfl,fx,ix,tx⟩;have hX2:=tK hld fx pN.out;replace H:=hid (H.out.fr fx ix tx);refine hK.out _ _ (hX2) λhld=>?_;clear hK K fx ix tx hX2;try simp only [Act.put,ak]
     refine wpAnyH_ready (rs:=[0,3]) (by kernel_rfl) (by simp) ?_;refine Rg.readyC (i:=0) rfl (λK hK=>?_) (Rg.readyL (i:=3) rfl (λK hK=>?_))
     .refine Rg.meet (by rfl) _ _ (BO (Tm.aU (j:=0) H.out.j.bl rfl) ?_) ?_
      .exact ⟨_,rfl,rfl⟩
      refine hK.out _ _ (hld) λhld=>?_;clear hK K;try simp only [Act.put,ak]
      refine aj 3 λK hK=>?_;refine wD (by rfl) ⟨_,rfl,rfl⟩ ?_;rintro wv1 b3 _ hO3 hbx;have am:=hid hO3;replace H:=hid (H.out.below hbx);have hX2:=hld.below hbx;refine hK.out _ _ (hX2) λhld=>?_;clear hK K hO3 hbx hX2;try simp only [Act.put,ak]
      refine aj 4 λK hK=>?_;refine sZ (by rfl) H.out.j.r am.out s9.out (Nat.le_trans H.out.j.b0.2.1 (Nat.le_of_lt H.out.j.bl.1)) ⟨_,_,rfl,rfl,rfl⟩ ?_;rintro v4 wv2 hr4 hg4 hl4;have jb:(some gT:Option Nat)≠v.ownBlock:=λe=>pS.out e.symm;have hX2:Rg.Own wv2 gT #[.pointer p] 31:=⟨aH hld.1 hg4.size,(hg4.block gT hld.1 jb).trans hld.2⟩
      have ja:Hid (∀ u w5,Rg.Own w5 gL #[v4] 34->Rg.Upd wv2 gL w5->Ls M B0 gW gL gF bm v0 w u v4 w5\/u≠l++[r]):=hid (λu w5 hO hu=>by
       by_cases e:u=l++[r]
       .subst e;exact .inl (H.out.push hg4 hr4 hl4 hO hu)
       .exact .inr e)
      obtain ⟨a4,c4,hv4⟩:=ku hr4;have dl:Hid (Rg.Own wv2 gL #[v] 34):=hid ⟨aH H.out.j.bl.1 hg4.size,(hg4.block gL H.out.j.bl.1 λe=>H.out.j.nr.2.1 e.symm).trans H.out.j.bl.2⟩;have lp:Hid (v4.ownBlock≠some gT):=hid (λe=>by
       rcases hl4 with e2 | e2
       .exact pS.out (by rw [<-e2]; exact e)
       .rw [e2] at e;have:=Option.some.inj e;have:=hld.1;omega)
      subst hv4;refine hK.out _ _ (hX2) λhld=>?_;clear hK K hr4 hg4 hl4 jb hX2;try simp only [Act.put,ak]
      refine aj 5 λK hK=>?_;refine rD (by rfl) dl.out ⟨_,_,rfl,rfl,rfl⟩ ?_;rintro mu hn hu;have fw:=hid ((ja.out (l++[r]) mu hn hu).resolve_right λe=>e rfl);have hX2:=hld.upd hu DA.out;refine hK.out _ _ (hX2) λhld=>?_;clear hK K hn hu hX2;try simp only [Act.put,ak]
      refine aA ?_;go_wp2_with fail
      go_meet
      exact ⟨rfl,_,hid (by first | (rw [if_pos rfl]; exact fw.out) | (rw [if_pos trivial]; exact fw.out)),hid hld,lp⟩
     .refine wD (by rfl) ⟨_,rfl,rfl⟩ ?_;rintro wv1 b3 _ hO3 hbx;have am:=hid hO3;replace H:=hid (H.out.below hbx);have hX2:=hld.below hbx;refine hK.out _ _ (hX2) λhld=>?_;clear hK K hO3 hbx hX2;try simp only [Act.put,ak]
      refine aj 0 λK hK=>?_;refine Rg.meet (by rfl) _ _ (BO (Tm.aU (j:=0) H.out.j.bl rfl) ?_) ?_
      .exact ⟨_,rfl,rfl⟩
      refine hK.out _ _ (hld) λhld=>?_;clear hK K;try simp only [Act.put,ak]
      refine aj 4 λK hK=>?_;refine sZ (by rfl) H.out.j.r am.out s9.out (Nat.le_trans H.out.j.b0.2.1 (Nat.le_of_lt H.out.j.bl.1)) ⟨_,_,rfl,rfl,rfl⟩ ?_;rintro v4 wv2 hr4 hg4 hl4;have jb:(some gT:Option Nat)≠v.ownBlock:=λe=>pS.out e.symm;have hX2:Rg.Own wv2 gT #[.pointer p] 31:=⟨aH hld.1 hg4.size,(hg4.block gT hld.1 jb).trans hld.2⟩
      have ja:Hid (∀ u w5,Rg.Own w5 gL #[v4] 34->Rg.Upd wv2 gL w5->Ls M B0 gW gL gF bm v0 w u v4 w5\/u≠l++[r]):=hid (λu w5 hO hu=>by
       by_cases e:u=l++[r]
       .subst e;exact .inl (H.out.push hg4 hr4 hl4 hO hu)
       .exact .inr e)
      obtain ⟨a4,c4,hv4⟩:=ku hr4;have dl:Hid (Rg.Own wv2 gL #[v] 34):=hid ⟨aH H.out.j.bl.1 hg4.size,(hg4.block gL H.out.j.bl.1 λe=>H.out.j.nr.2.1 e.symm).trans H.out.j.bl.2⟩;have lp:Hid (v4.ownBlock≠some gT):=hid (λe=>by
       rcases hl4 with e2 | e2
       .exact pS.out (by rw [<-e2]; exact e)
       .rw [e2] at e;have:=Option.some.inj e;have:=hld.1;omega)
      subst hv4;refine hK.out _ _ (hX2) λhld=>?_;clear hK K hr4 hg4 hl4 jb hX2;try simp only [Act.put,ak]
      refine aj 5 λK hK=>?_;refine rD (by rfl) dl.out ⟨_,_,rfl,rfl,rfl⟩ ?_;rintro mu hn hu;have fw:=hid ((ja.out (l++[r]) mu hn hu).resolve_right λe=>e rfl);have hX2:=hld.upd hu DA.out;refine hK.out _ _ (hX2) λhld=>?_;clear hK K hn hu hX2;try simp only [Act.put,ak]
      refine aA ?_;go_wp2_with fail
      go_meet
      exact ⟨rfl,_,hid (by first | (rw [if_pos rfl]; exact fw.out) | (rw [if_pos trivial]; exact fw.out)),hid hld,lp⟩
  case rest =>
   obtain ⟨rfl,v1,dv,df,lp⟩:=hcut;obtain ⟨wa,kO⟩:=au wc
   subst kO;have hkd:(l++if b=true then [r] else [])++((bC x).map bQ).flatten=l++bQ x:=by
    have h1:=lh.out;have h2:=oY.out;cases b with
    | true =>
     rw [if_pos rfl];cases x with
     | stub r' =>
      have e:r'=r:=h2;subst e;simp [bC,bQ]
     | _=>cases h1
    | false =>
     rw [if_neg (by decide),List.append_nil,KG];intro hs;cases x with
     | stub r'=>cases h1
     | _=>exact hs
   obtain ⟨l1,hl1⟩:=av (l++if b=true then [r] else [])
   rw [hl1] at dv hkd;have cY:=hid hkd;have ID:Hid (∀ k,v1.ownBlock=some k->k<wa.heap.size):=hid (λk e=>(dv.out.j.r.lt k e).2);have V9:Hid (gL<wa.heap.size/\bm<wa.heap.size):=hid ⟨dv.out.j.bl.1,dv.out.j.m.lt⟩;clear hkd hl1 cL HX eQ;go_wp2_with (first
    | (refine ay (aT (Tm.aU (j:=0) df.out rfl) ⟨_,rfl,rfl⟩) ?_))
   refine (lA.out wa dv.out.i dv.out.t).mono ?_;rintro e w5 ⟨na,nn,nc,ka,kc,ps,rfl,_,_,j5,dp,hka,f5,i5,t5⟩;rw [HN.out];have ju:=hid (dv.out.fr f5 i5 t5);have dq:=hid (tK df.out f5 pN.out);have gp:=hid dp;have DB:=hid hka;have nh:dQ (w5.alloc (.cells (ndC nd0 none 0 0) 56)) w5.heap.size nd0 none 0 0:=Rg.Own.new _ _ _;have eC:=hid nh;obtain ⟨w6,lb⟩:=au ((w5.alloc (.cells (ndC nd0 none 0 0) 56)).setRow w5.heap.size (ndC N na nn nc))
   have hb6:Below w5.heap.size w5 w6:=by rw [lb]; exact bU (al1 _ _) aF _
   have Hi:=hid lb;have io:=hid (ju.out.below hb6);have nj:=hid (dq.out.below hb6);have IF:=hid (j5.below hb6);have dd:Hid (wa.heap.size<=w6.heap.size):=hid (Nat.le_trans f5.size hb6.size);have rq:=hid io.out.i;have z9:ps.length<=16:=by rw [dp.1]; exact Cj x
   clear j5 dp hka f5 i5 t5 nh lb hb6 dv df ju dq lA;go_wp2_with (first
    | (refine ay (aX _ _ _ w5.heap.size rfl rfl) ?_)
    | (refine bG eC.out rfl N na nn nc de.out rfl _ _ rfl rfl rfl rfl ?_; rw [<-Hi.out]))
   obtain ⟨n,hn⟩:=av ps.length
   have qu:=hid hn;rw [hn] at z9 ⊢;clear hn;go_loopw [35] (λi wr=>∃ (j:Nat) (v':Value),j<=n/\i = .int .i64 j/\Hid (Ls M B0 gW gL gF bm v1 w6 (l1++(((bC x).take j).map bQ).flatten) v' wr)) (λi _=>16-(intOf i).toNat)
   case atStart=>exact ⟨0,v1,Nat.zero_le _,rfl,hid (by
    have:=Ls.start io.out.j io.out.i io.out.t;simpa using this)⟩
   case round =>
    obtain ⟨j,v2,hj,rfl,HG⟩:=hrel;by_cases hlt:j<n
    .have i1:(j:Int)<(n:Int):=by omega
     obtain ⟨kb,ko,rfl,cI,hkc⟩:=IF.out.2.2.2.2 j (by rw [qu.out]; exact hlt);have hjk:j<(bC x).length:=by rw [<-gp.out.1,qu.out]; exact hlt
     have ym:=DB.out _ rfl;have hnk:¬ LK gL bm v1 kb:=λe=>by
      have h1:=V9.out;have h2:wa.heap.size<=kb:=ym;rcases e with e | e | e
      .omega
      .omega
      .have:=ID.out _ e;omega
     have B3:wr.cell? ⟨kb,ko+j,none⟩=some (.pointer (ps.getD j none)):=by
      rw [World.cell?_of_block (w:=w6) (HG.out.f.block kb cI (rq.out.lZ hkc) hnk)];exact hkc
     have HC:=hid B3;have htk:=gp.out.2 j (by rw [qu.out]; exact hlt);obtain ⟨hfl,hft⟩:=FX bQ .nil (bC x) j hjk;have hcall:∀ w7,Ls M B0 gW gL gF bm v1 w6 (l1++(((bC x).take j).map bQ).flatten) v2 w7->Calls prog 26 #[tv (ps.getD j none),.pointer (some ⟨gW,0,none⟩),.pointer (some ⟨gL,0,none⟩),.pointer (some ⟨gF,0,none⟩)] w7 λe w'=>e = .returned (.tuple #[])/\∃ v',Ls M B0 gW gL gF bm v2 w7 ((l1++(((bC x).take j).map bQ).flatten)++bQ ((bC x).getD j .nil)) v' w':=λw7 h7 =>
      Ax.out _ (qd hjk) _ _ v2 w7 htk (by
       have h1:=congrArg List.length cY.out;have h2:=HLen.out;simp only [List.length_append] at h1 ⊢;omega) h7.j h7.i h7.t
     have cW:=hid hcall;have B4:=hid hft;obtain ⟨q,hq⟩:=av (ps.getD j none)
     rw [hq] at HC cW;have AN:=Rg.Own.new wr #[.pointer none] 31;have ov:=hid AN;clear cI hkc hjk ym hnk B3 htk hfl hft hcall hq AN;go_wp2_with (first
      | (refine ay (aT HC.out ⟨_,rfl,rfl⟩) ?_)
      | (refine ay (aW _ _ _ wr.heap.size rfl rfl) ?_)
      | (refine aZ ov.out (by decide) q rfl _ _ rfl rfl rfl ?_; intro w7 fN ed; have m7:Hid (Rg.Own w7 wr.heap.size #[.pointer q] 31):=hid fN; have cC:Hid (Below wr.heap.size wr w7):=hid (ed.below (al1 _ _) aF); clear fN ed; have r1:=hid (HG.out.below cC.out))
      | (refine ay (XL (Tm.aU (j:=0) r1.out.j.bf rfl) ⟨_,rfl,rfl⟩) ?_)
      | (refine ay (aT (Tm.aU (j:=0) m7.out rfl) ⟨_,rfl,rfl⟩) ?_))
     refine (cW.out w7 r1.out).mono ?_;rintro e w8 ⟨rfl,v3,h8⟩;have Ds:=hid (r1.out.call h8);clear h8 r1 m7 cC HC ov;go_wp2;go_roundw
     case rel=>exact ⟨j+1,v3,by omega,by go_num,by rw [B4.out,<-List.append_assoc]; exact Ds⟩
     case measure=>simp [intOf]; omega
    .obtain rfl:j=n:=by omega
     have hG:=io.out.call (by
      have h1:=HG.out;rw [<-qu.out,gp.out.1,List.take_length,cY.out] at h1;exact h1)
     have hX:=Xk nj.out HG.out.f pN.out DA.out zg.out.1 lp.out;have nm:=hid hG;have Fo:=hid hX;obtain ⟨a2,c2,rfl⟩:=ku hG.j.r;by_cases hs:bQ x=[]
     .have hE:l++bQ x=l:=by rw [hs,List.append_nil]
      have B5:=hid (ef.out wr hG.i hG.j.m hs);have HEq:=hid hE;rw [hE] at nm;clear hG hX hs hE HG;go_wp2_with (first
       | (refine ay (BO (Tm.aU (j:=0) nm.out.j.bl rfl) ⟨_,rfl,rfl⟩) ?_)
       | (refine ay (SH (Tm.aU (j:=0) nm.out.j.bw rfl) ⟨_,rfl,rfl⟩) ?_)
       | (refine ay (aT (Tm.aU (j:=0) Fo.out rfl) ⟨_,rfl,rfl⟩) ?_)
       | (refine ay (bK KP ⟨_,rfl,rfl⟩) ?_)
       | (refine yX B5.out rfl _ _ _ rfl rfl rfl rfl ?_; intro w9 B6 aq; have Vc:=hid B6; have sC:=hid aq; clear B6 aq))
      exact bodyPost_end (results_none rfl _ _ _) rfl ⟨rfl,_,by rw [HEq.out]; exact nm.out.mark Vc.out sC.out⟩
     .have hne:(l++bQ x).length≠l.length:=by
       rw [List.length_append];have:(bQ x).length≠0:=λe=>hs (List.length_eq_zero_iff.1 e);omega
      obtain ⟨m,hm⟩:=av ((l++bQ x).length)
      rw [hm] at hne nm;have b0:((m:Int)==(l.length:Int))=false:=by rw [beq_eq_false_iff_ne]; omega
      have b1:decide ((m:Int)=(l.length:Int))=false:=decide_eq_false (by omega);have b2:(m==l.length)=false:=by rw [beq_eq_false_iff_ne]; exact hne
      have b3:decide (m=l.length)=false:=decide_eq_false hne;clear hG hX hs hne hm HG;go_wp2_with (first
       | (refine ay (BO (Tm.aU (j:=0) nm.out.j.bl rfl) ⟨_,rfl,rfl⟩) ?_))
      exact bodyPost_end (results_none rfl _ _ _) rfl ⟨rfl,_,nm.out⟩
theorem QV {M:Mp} {B0 gW gL gF bm:Nat} (L:Nat):L<=64->∀ (x:T),Tr.Good x L->Fine x->∀ (p:aJ) (l:List aK) (v:Value) (w:World),IsT M p x->l.length+(bQ x).length<=1000000->LJ M B0 gW gL gF bm l v w->Inv M w->Tab w->
  Calls prog 26 #[tv p,.pointer (some ⟨gW,0,none⟩),.pointer (some ⟨gL,0,none⟩),.pointer (some ⟨gF,0,none⟩)] w λe w'=>e = .returned (.tuple #[])/\∃ v',Ls M B0 gW gL gF bm v w (l++bQ x) v' w':=by
 induction L using Nat.strongRecOn with
 | ind L ih =>
  intro hL x g f p l v w ht hlen hj hi hT;exact VL p x L g hL f ht (λs hs p l v w ht hlen hj hi hT=>by
   obtain ⟨_,f',_,L',hl,g'⟩:=kL g f s hs;exact ih L' hl (by omega) s g' f' p l v w ht hlen hj hi hT) l v w hlen hj hi hT
def vv (M:Mp) (w:World) (l:List aK) (e:Ending) (w':World):Prop:=∃ a n c,e = .returned (.slice a n c)/\jV w' a n c l/\(∀ ad,a=some ad->w.heap.size<=ad.block)/\Fr M M w w'/\Inv M w'/\Tab w'
theorem OG {B:Nat} {w:World} {n:Nat} {l:List aK} (h:w.ownsRow B 9 1 (.slice a n c) l.length (l.map Value.string)):n=l.length/\jV w a n c l/\∀ ad,a=some ad->B<=ad.block:=by
 have hlt:=h.lt;rcases h.2 with ⟨e,hz⟩ | ⟨g,cap,cur,e,hbg,hg,hnc,hcm,hcs,htake⟩
 .injection e with e1 e2 e3;subst e1 e2 e3;have:l=[]:=List.eq_nil_of_length_eq_zero hz;subst this;exact ⟨rfl,⟨aF,Nat.zero_le _,rfl,λj hj=>absurd hj (Nat.not_lt_zero _)⟩,λ_ e=>by cases e⟩
 .injection e with e1 e2 e3;subst e1 e2 e3;refine ⟨rfl,⟨hnc,hcm,rfl,λj hj=>?_⟩,λad e=>by cases e; exact hbg⟩;refine ⟨g,0,rfl,(Array.getElem?_eq_some_iff.1 hg).1,?_⟩;have:=h.cells (g:=g) rfl j (.string (l.getD j eB)) (by rw [List.getElem?_map,List.getElem?_eq_getElem hj]; simp [List.getD,hj]);rw [Addr.add_mid] at this;exact this
theorem tV (M:Mp) (p:aJ) (t:T) (L:Nat) (g:Tr.Good t L) (hL:L<=64) (f:Fine t) (hlen:(bQ t).length<=1000000) (w:World) (hi:Inv M w) (ht:IsT M p t) (hT:Tab w) :
  Calls prog 8 #[tv p] w (vv M w (bQ t)):=by
 obtain ⟨w1,hw1⟩:=au ((w.alloc (.cells #[.pointer p] 31)).alloc (.cells #[.slice none 0 0] 34))
 obtain ⟨w2,hw2⟩:=au ((w1.alloc (.map #[] 0)).alloc (.cells #[.map none] 67))
 have hb1:Below w.heap.size w w1:=by rw [hw1]; exact al2 _ _ _
 have hs1:w1.heap.size=w.heap.size+2:=by rw [hw1]; simp
 have dy:Below w1.heap.size w1 w2:=by rw [hw2]; exact al2 _ _ _
 have hs2:w2.heap.size=w.heap.size+4:=by rw [hw2]; simp [hs1]
 have hb2:=bst hb1 dy;have hO:Rg.Own w2 w.heap.size #[.pointer p] 31:=by
  refine Rg.Own.below ?_ dy;rw [hw1];exact (Rg.Own.new _ _ _).below (al1 _ _)
 have ei:Rg.Own w2 (w.heap.size+1) #[.slice none 0 0] 34:=by
  refine Rg.Own.below ?_ dy;have:=Rg.Own.new (w.alloc (.cells #[.pointer p] 31)) #[.slice none 0 0] 34;rw [hw1];simpa using this
 have hM:w2.heap[w.heap.size+2]? = some (.map #[] 0):=by
  rw [hw2,(al1 (w1.alloc (.map #[] 0)) (.cells #[.map none] 67)).block _ (by simp [hs1])];have h:∀ v:World,(v.alloc (.map #[] 0)).heap[v.heap.size]? = some (.map #[] 0):=λv=>by show (v.heap.push _)[v.heap.size]? = _; simp
  have h2:=h w1;rwa [hs1] at h2
 have hW:Rg.Own w2 (w.heap.size+3) #[.map none] 67:=by
  have:=Rg.Own.new (w1.alloc (.map #[] 0)) #[.map none] 67;have e:(w1.alloc (.map #[] 0)).heap.size=w.heap.size+3:=by simp [hs1]
  rw [e] at this;rw [hw2];exact this
 obtain ⟨gT,ct⟩:=av w.heap.size
 obtain ⟨gL,IH⟩:=av (w.heap.size+1)
 obtain ⟨bm,eh⟩:=av (w.heap.size+2)
 obtain ⟨gW,hgW⟩:=av (w.heap.size+3)
 obtain ⟨gF,P6⟩:=av w2.heap.size
 have nl:Hid (∀ w3 w4 w5,Rg.Own w3 gW #[.map (some bm)] 67->Rg.Upd w2 gW w3->w4=w3.alloc (.cells #[.nilFunc] 68)->Rg.Own w5 gF #[.func (.func 26) #[] #[.pointer (some ⟨gW,0,none⟩),.pointer (some ⟨gL,0,none⟩),.pointer (some ⟨gF,0,none⟩)]] 68->Rg.Upd w4 gF w5->
   w5.cell? ⟨gT,0,none⟩=some (.pointer p)/\Calls prog 26 #[tv p,.pointer (some ⟨gW,0,none⟩),.pointer (some ⟨gL,0,none⟩),.pointer (some ⟨gF,0,none⟩)] w5 λe w'=>e = .returned (.tuple #[])/\∃ a n c,w'.cell? ⟨gL,0,none⟩=some (.slice a n c)/\jV w' a n c (bQ t)/\(∀ ad,a=some ad->w.heap.size<=ad.block)/\Fr M M w w'/\Inv M w'/\Tab w'):=hid (λw3 w4 w5 hW3 hu3 hw4 Hj ax=>by
  have hs3:=hu3.size;have B7:Below w3.heap.size w3 w4:=by rw [hw4]; exact al1 _ _
  have hs4:w4.heap.size=w.heap.size+5:=by rw [hw4]; simp [hs3,hs2]
  have hs5:=ax.size;have hb5:Below w.heap.size w w5:=ax.below ((hu3.below hb2 (by omega)).trans (B7.mono (by omega))) (by omega);have hi5:=hi.below hb5;have m5:=hT.below hb5 hT.pos;have b8:Rg.Own w5 gT #[.pointer p] 31:=by rw [<-ct]; exact ((hO.upd hu3 (by omega)).below B7).upd ax (by omega)
  have hj:LJ M w.heap.size gW gL gF bm [] (.slice none 0 0) w5:=by
   refine ⟨(hW3.below B7).upd ax (by omega),?_,Hj,World.ownsRow_nil _ _ _ _,Br ?_ _,⟨λe=>(by cases e),λe=>(by cases e),λe=>(by cases e),λe=>(by cases e)⟩,⟨by omega,by omega⟩,⟨by omega,by omega,by omega,by omega⟩,λk hk=>⟨hi.out hk,hi.free hk⟩,hT.pos⟩
   .rw [<-IH];exact ((ei.upd hu3 (by omega)).below B7).upd ax (by omega)
   .rw [ax.block bm (by omega),B7.block bm (by omega),hu3.block bm (by omega),<-eh];exact hM
  refine ⟨Tm.aU (j:=0) b8 rfl,(QV L hL t g f p [] (.slice none 0 0) w5 ht (by simpa using hlen) hj hi5 m5).mono ?_⟩;rintro e w' ⟨he,v',h⟩;rw [List.nil_append] at h;obtain ⟨a,c,rfl⟩:=ku h.j.r;obtain ⟨_,hst,hlo⟩:=OG h.j.r;refine ⟨he,a,_,c,Tm.aU (j:=0) h.j.bl rfl,hst,hlo,⟨h.f.os.trans hb5.os,h.f.tape.trans hb5.tape,h.f.output.trans hb5.output,Nat.le_trans hb5.size h.f.size,λk hk hm=>(h.f.block k (aH hk hb5.size) hm λe=>?_).trans (hb5.block k hk),λ_ _ h=>h,λ_ _ h=>h,λ_ h=>h,λ_ h=>.inl h⟩,h.i,h.t⟩;rcases e with e | e | e
  .omega
  .omega
  .cases e)
 have HW1:=hid hw1;have HW2:=hid hw2;have I6:Hid (Rg.Own w2 gW #[.map none] 67):=hid (by rw [<-hgW]; exact hW);have dd:Hid (w.heap.size=gT/\gL=w.heap.size+1/\bm=w.heap.size+2/\gW=w.heap.size+3/\w2.heap.size=gF/\w1.heap.size=bm):=hid ⟨ct,IH.symm,eh.symm,hgW.symm,P6,by rw [hs1]; exact eh⟩;obtain ⟨xs,hxs⟩:=av (bQ t)
 rw [hxs] at nl ⊢;clear hb1 hs1 dy hs2 hb2 hO ei hM hW ct IH eh hgW P6 hi ht hT hw1 hw2 hxs g f hlen;have fY:∀ (fn:Fn) (first cap:aM) (w:World),(Instr.makeFunc fn first cap).run prog w = .ok (.func fn first cap) w:=λ_ _ _ _=>rfl;have hmm:∀ w:World,(Instr.makeMap 67 none).run prog w = .ok (.map (some w.heap.size)) (w.alloc (.map #[] 0)):=@run_makeMap prog _;have hgo:Calls prog 8 #[.agg #[.pointer p]] w (vv M w xs):=by
  go_enter func8,ntmps8;go_wp2_with (first
   | (refine ay (Zy _ _ _ gL (by rw [dd.out.2.1]; simp) rfl) ?_; rw [<-HW1.out,dd.out.1])
   | (refine ay (Za _ _ _ gW (by rw [dd.out.2.2.2.1]; simp [dd.out.2.2.2.2.2,dd.out.2.2.1]) rfl) ?_; rw [<-HW2.out])
   | (refine jB I6.out YK rfl _ _ rfl rfl (by first | rfl | (rw [<-dd.out.2.2.2.2.2]; rfl)) ?_; intro w3 hO3 hu3; have am:=hid hO3; have mm:=hid hu3; clear hO3 hu3)
   | (refine ay (YI _ _ _ gF (by rw [mm.out.size]; exact dd.out.2.2.2.2.1.symm) rfl) ?_; obtain ⟨w4,hw4⟩:=au (w3.alloc (.cells #[.nilFunc] 68)); have rp:Hid (Rg.Own w4 gF #[.nilFunc] 68):=hid (by
     have:=Rg.Own.new w3 #[.nilFunc] 68;rw [mm.out.size,dd.out.2.2.2.2.1] at this;rw [hw4];exact this); have j7:=hid (λw5=>nl.out w3 w4 w5 (by rw [<-dd.out.2.2.2.2.2]; exact am.out) mm.out hw4); rw [<-hw4]; clear hw4)
   | (refine jB rp.out Zt rfl _ _ rfl rfl rfl ?_; intro w5 b8 ax; have P7:=hid b8; obtain ⟨P8,hl5⟩:=j7.out w5 b8 ax; have tp:=hid P8; have fw:=hid hl5; clear b8 ax P8 hl5)
   | (refine ay (XL (Tm.aU (j:=0) P7.out rfl) ⟨_,rfl,rfl⟩) ?_)
   | (refine ay (aT tp.out ⟨_,rfl,rfl⟩) ?_))
  refine fw.out.mono ?_;rintro e w6 ⟨rfl,a,n,c,hc6,P9⟩;have IM:=hid hc6;have lw:=hid P9;clear hc6 P9 fw tp P7;go_wp2_with (first
   | (refine ay (BO IM.out ⟨_,rfl,rfl⟩) ?_))
  go_ret;exact ⟨a,n,c,rfl,lw.out⟩
 exact hgo
theorem LQ {w:World} {k:aL} (hk:k.length=32) (b:Nat) (hb:b=w.heap.size) (ho:∃ p,o.op = .buildSlice 23 1 #[(0,p)]/\ev p = .agg (kc k)) :
  (execOp ev o).run prog w = .ok (.value (.slice (some ⟨b,0,none⟩) 1 1)) (w.alloc (.cells (kc k) 25)):=by
 obtain ⟨p,ho,hx⟩:=ho;subst hb;unfold execOp;simp only [ho,List.map_toArray,List.map_cons,List.map_nil,hx];obtain ⟨a0,a1,a2,a3,a4,a5,a6,a7,b0,b1,b2,b3,b4,b5,b6,b7,c0,c1,c2,c3,c4,c5,c6,c7,d0,d1,d2,d3,d4,d5,d6,d7,rfl⟩:=qm k hk;kernel_rfl
theorem Rw {w:World} {b:Nat} {k:aL} {t:TypeId} (h:Rg.Own w b (kc k) t) (hk:k.length=32):Ew.qy w (some ⟨b,0,none⟩) 1 1 [k] :=
 ⟨aF,by unfold maxLen; omega,rfl,λe=>(by cases e),λx hx=>by rw [List.mem_singleton.1 hx]; exact hk,λj hj=>by
  obtain rfl:j=0:=by omega
  refine ⟨b,0,rfl,h.1,λi v hv=>aU h ?_⟩;unfold kc;simpa [Ew.wC] using hv⟩
theorem Jf {M M':Mp} {w w':World} {b off:Nat} {p:aJ} (hi:Inv M w) (f:Fr M M' w w') (h:w.cell? ⟨b,off,none⟩=some (.pointer p)):w'.cell? ⟨b,off,none⟩=some (.pointer p):=by
 rw [f.cell (World.block_lt_of_cell? w _ h) (hi.lZ h)];exact h
structure Ak (w0:World) (M:Mp) (w:World) (ga gb:Nat) (A B:aL) (L:List (Nat × aJ × T)):Prop where
 l:Lw w0 M w
 ka:Rg.Own w ga (kc A) 25
 kb:Rg.Own w gb (kc B) 25
 kla:A.length=32
 klb:B.length=32
 bs:∀ x∈L,Bx M w x.1 #[.pointer x.2.1] 31/\IsT M x.2.1 x.2.2
namespace Ak
variable {w0:World} {M M':Mp} {w w':World} {ga gb g:Nat} {A B:aL} {L:List (Nat × aJ × T)} {p p':aJ} {t t':T}
theorem below (h:Ak w0 M w ga gb A B L) (hb:Below w.heap.size w w'):Ak w0 M w' ga gb A B L:=⟨h.l.below hb,h.ka.below hb,h.kb.below hb,h.kla,h.klb,λx hx=>⟨(h.bs x hx).1.below hb,(h.bs x hx).2⟩⟩
theorem frm (h:Ak w0 M w ga gb A B L) (f:Fr M M' w w') (i:Inv M' w') (tt:Tab w'):Ak w0 M' w' ga gb A B L:=⟨h.l.fr f i tt,pX h.ka (Ap h.kla) h.l.i f,pX h.kb (Ap h.klb) h.l.i f,h.kla,h.klb,λx hx=>⟨(h.bs x hx).1.frm h.l.i f,(h.bs x hx).2.mono f.mono⟩⟩
theorem add (h:Ak w0 M w ga gb A B L) (hx:Bx M w g #[.pointer p] 31) (ht:IsT M p t):Ak w0 M w ga gb A B ((g,p,t)::L):=⟨h.l,h.ka,h.kb,h.kla,h.klb,λx hm=>by
 rcases List.mem_cons.1 hm with rfl | hm
 .exact ⟨hx,ht⟩
 .exact h.bs x hm⟩
theorem box (h:Ak w0 M w ga gb A B L) (ht:IsT M p t) (hO:Rg.Own w' w.heap.size #[.pointer p] 31) (hu:Rg.Upd (w.alloc (.cells #[.pointer none] 31)) w.heap.size w'):Ak w0 M w' ga gb A B ((w.heap.size,p,t)::L):=by
 have hb:Below w.heap.size w w':=hu.below (al1 _ _) aF;exact (h.below hb).add ⟨hO,h.l.i.free aF,bX _⟩ ht
theorem own (h:Ak w0 M w ga gb A B L) (hm:(g,p,t)∈L):Rg.Own w g #[.pointer p] 31:=(h.bs _ hm).1.o
theorem cell (h:Ak w0 M w ga gb A B L) (hm:(g,p,t)∈L):w.cell? ⟨g,0,none⟩=some (.pointer p):=aU (j:=0) (h.own hm) rfl
theorem tr (h:Ak w0 M w ga gb A B L) (hm:(g,p,t)∈L):IsT M p t:=(h.bs _ hm).2
theorem lt (h:Ak w0 M w ga gb A B L) (hm:(g,p,t)∈L):g<w.heap.size:=(h.own hm).1
theorem Uq {t1 t2 t3:T} {p1 p2 p3:aJ} {g1 g2 g3:Nat} (h:Ak w0 M w ga gb A B [(g1,p1,t1),(g2,p2,t2),(g3,p3,t3)]) (hg:g=w.heap.size):w0.heap.size<=g/\g≠ga/\g≠gb/\g≠g3/\g≠g2/\g≠g1:=by
 have h0:=h.l.b.size;have h1:=h.ka.1;have h2:=h.kb.1;have h3:=h.lt (g:=g1) (p:=p1) (t:=t1) (by simp);have h4:=h.lt (g:=g2) (p:=p2) (t:=t2) (by simp);have h5:=h.lt (g:=g3) (p:=p3) (t:=t3) (by simp);omega
theorem set (h:Ak w0 M w ga gb A B ((g,p,t)::L)) (hu:Rg.Upd w g w') (hO:Rg.Own w' g #[.pointer p'] 31) (ht:IsT M p' t') (h0:w0.heap.size<=g) (h1:ga≠g) (h2:gb≠g) (h3:∀ x∈L,x.1≠g):Ak w0 M w' ga gb A B ((g,p',t')::L):=by
 have hf:=(h.bs _ List.mem_cons_self).1.n;refine ⟨h.l.upd hu h0 hf,h.ka.upd hu h1,h.kb.upd hu h2,h.kla,h.klb,λx hm=>?_⟩;rcases List.mem_cons.1 hm with rfl | hm
 .exact ⟨⟨hO,hf,bX _⟩,ht⟩
 .have:=h.bs x (List.mem_cons_of_mem _ hm);exact ⟨this.1.upd hu (h3 x hm),this.2⟩
theorem got {e:Ending} (h:Ak w0 M w ga gb A B L) (gt:wH M w t e w'):∃ p M',e = .returned (tv p)/\IsT M' p t/\Ak w0 M' w' ga gb A B L:=by
 obtain ⟨q,M',he,ht,f,i,tt⟩:=gt;exact ⟨q,M',he,ht,h.frm (f.fr λ_ h=>h.elim) i tt⟩
theorem Sr {n:Nat} {e:Ending} (h:Ak w0 M w ga gb A B L) (gt:AQ M w t n e w'):∃ p M',e = .returned (.tuple #[tv p,.int .i64 (gH n)])/\IsT M' p t/\Ak w0 M' w' ga gb A B L/\Fr M M' w w':=by
 obtain ⟨q,M',he,ht,f,i,tt⟩:=gt;exact ⟨q,M',he,ht,h.frm (f.fr λ_ h=>h.elim) i tt,f.fr λ_ h=>h.elim⟩
theorem tell {s:aK} {e:Ending} (h:Ak w0 M w ga gb A B L) (gt:rR M w s e w'):e = .returned (.string s)/\Ak w0 M w' ga gb A B L/\Fr M M w w':=by
 obtain ⟨he,hl,f⟩:=h.l.tell gt;exact ⟨he,h.frm f hl.i hl.t,f⟩
theorem refs {l:List aK} {n:Nat} {e:Ending} (h:Ak w0 M w ga gb A B L) (hn:l.length=n) (gt:vv M w l e w'):∃ a c,e = .returned (.slice a n c)/\Ak w0 M w' ga gb A B L/\Fr M M w w':=by
 obtain ⟨a,m,c,he,hs,_,f,i,tt⟩:=gt;have:m=n:=by rw [<-hn]; exact hs.len.symm
 subst this;exact ⟨a,c,he,h.frm f i tt,f⟩
end Ak
structure Az (w0:World) (M:Mp) (w:World) (ga gb:Nat) (A B:aL) (L:List (Nat × aJ × T)) (gn:Nat) (C:aM):Prop where
 a:Ak w0 M w ga gb A B L
 n:Bx M w gn C 56
namespace Az
variable {w0:World} {M:Mp} {w:World} {ga gb gn n:Nat} {A B:aL} {L:List (Nat × aJ × T)} {C:aM} {f:FuncId} {args:aM} {s:aK} {v:Value} {l:List aK}
theorem below {w':World} (h:Az w0 M w ga gb A B L gn C) (hb:Below w.heap.size w w'):Az w0 M w' ga gb A B L gn C:=⟨h.a.below hb,h.n.below hb⟩
theorem tells (h:Az w0 M w ga gb A B L gn C) (c:Calls prog f args w (rR M w s)):Calls prog f args w λe w'=>e = .returned (.string s)/\Hid (Az w0 M w' ga gb A B L gn C):=c.mono λe w' g=>by
 obtain ⟨he,ha,hf⟩:=h.a.tell g;exact ⟨he,hid ⟨ha,h.n.frm h.a.l.i hf⟩⟩
theorem says (h:Az w0 M w ga gb A B L gn C) (c:Calls prog f args w λe w'=>e = .returned v/\Below w.heap.size w w'):Calls prog f args w λe w'=>e = .returned v/\Hid (Az w0 M w' ga gb A B L gn C):=c.mono λe w' g=>⟨g.1,hid (h.below g.2)⟩
theorem refs (h:Az w0 M w ga gb A B L gn C) (hn:l.length=n) (c:Calls prog f args w (vv M w l)):Calls prog f args w λe w'=>∃ a c,e = .returned (.slice a n c)/\Hid (Az w0 M w' ga gb A B L gn C):=c.mono λe w' g=>by
 obtain ⟨a,c,he,ha,hf⟩:=h.a.refs hn g;exact ⟨a,c,he,hid ⟨ha,h.n.frm h.a.l.i hf⟩⟩
end Az
theorem uw (w:World) (hT:Tab w):Calls prog 21 #[] w λe w'=>e = .returned (.bool true)/\Below w.heap.size w w':=by
 obtain ⟨w1,hw1⟩:=au ((w.alloc (.cells (kc zk) 25)).alloc (.cells (kc zk) 25))
 have hb1:Below w.heap.size w w1:=by rw [hw1]; exact al2 _ _ _
 have hA:Rg.Own w1 w.heap.size (kc ka) 25:=by rw [hw1]; exact (Rg.Own.new _ _ _).below (al1 _ _)
 have hB:Rg.Own w1 (w.heap.size+1) (kc zk) 25:=by
  have:=Rg.Own.new (w.alloc (.cells (kc zk) 25)) (kc zk) 25;rw [hw1];simpa using this
 have lE:=hid ((Lw.start hT).below hb1);have HA1:=hid hA;have HB1:=hid hB;have hne1:w.heap.size≠w.heap.size+1:=by omega
 have gj:=hid oI;have B8:Hid ((kc zk).setIfInBounds 0 (.int .u8 16)=kc kb):=hid (Yo zk 0 16);have mz:=hid (oD ka sx Ba);have lh:=hid (oD kb sy yx);have xb:Hid (ka.length=32):=hid Ba;have B9:Hid (kb.length=32):=hid yx;have Pc:Hid ((kc zk).size=32):=hid Xe;have u5:Hid (∀ (b:Nat) w3,Rg.Own w3 b (rowP lAB).toArray 66->Lw w M0 w3->Calls prog 9 #[.slice (some ⟨b,0,none⟩) 2 2] w3 (dB M0 w3 (bq .nil lAB))):=hid (λb w3 h hl=>Fu M0 _ 2 2 lAB YG w3 hl.i (TM (l:=lAB) h YG.1 (by decide)) (by decide))
 have hgW:Tr.Good tW 64:=Zk.good jW.good;have IN:Fine tW:=Zk.fine jW.good aF jW.fine;have IO:=XZ.good jW.good;have IP:=XZ.fine jW.good aF jW.fine;have oX:Hid (∀ M p wz,Inv M wz->IsT M p (bq .nil lAB)->Tab wz->Calls prog 6 #[tv p] wz (wH M wz (cB 1 (bq .nil lAB)))):=hid (λM p wz hi ht hT=>Il M p _ 64 jW.good aF jW.fine jW.full wz hi ht hT)
 have sa:Hid (∀ M p wz b,Inv M wz->IsT M p (bq .nil lAB)->Tab wz->Rg.Own wz b (kc ka) 25->Calls prog 12 #[tv p,.slice (some ⟨b,0,none⟩) 1 1] wz (wH M wz tW)):=hid (λM p wz b hi ht hT hO=>Jg M p _ jW.good jW.fine jW.full _ 1 1 [ka] (by omega) wz (Rw hO Ba) hi ht hT);have lA:Hid (∀ M p wz,Inv M wz->IsT M p (bq .nil lAB)->Tab wz->Calls prog 22 #[tv p] wz (TP M wz (bq .nil lAB))):=hid (λM p wz hi ht hT=>Tt M p _ 64 jW.good aF jW.fine (nY jW.full) wz hi ht hT)
 have cY:Hid ((bM (bq .nil lAB)).kd=3/\(bM (bq .nil lAB)).ks.length=16/\bC (bq .nil lAB)=[sA,sB]):=hid ⟨Ri,dP _,WI⟩;have wj:Hid (∀ M wz p q,Inv M wz->IsT M p tW->IsT M q sB->Tab wz->Calls prog 23 #[tv p,tv q] wz (AQ M wz (bq .nil lAB) 1)):=hid (λM wz p q hi ht hq hT=>by
  have:=Pe M p q tW sB 64 63 hgW aF IN XJ (by omega) Ze (λe=>(by cases e)) (λh=>h) YT wz hi ht hq hT;rw [Yu,Vy] at this;exact this)
 have VC:Hid (∀ M p wz,Inv M wz->IsT M p (cB 1 (bq .nil lAB))->Tab wz->Calls prog 8 #[tv p] wz (vv M wz (bQ (cB 1 (bq .nil lAB))))):=hid (λM p wz hi ht hT=>tV M p _ 64 IO aF IP (by rw [Vh]; omega) wz hi ht hT);have kx:Hid (∀ M p wz,Inv M wz->IsT M p tW->Tab wz->Calls prog 8 #[tv p] wz (vv M wz (bQ tW))):=hid (λM p wz hi ht hT=>tV M p _ 64 hgW aF IN (by rw [Ti]; omega) wz hi ht hT)
 have Pi:Hid (∀ M p wz,Inv M wz->IsT M p (cB 1 (bq .nil lAB))->Tab wz->Calls prog 19 #[tv p] wz (rR M wz (jS (bq .nil lAB)))):=hid (λM p wz hi ht hT=>by
  have:=sI M p _ 64 IO aF IP wz hi ht hT;rw [XZ.enc] at this;exact this)
 have xd:Hid (∀ M p wz,Inv M wz->IsT M p (bq .nil lAB)->Tab wz->Calls prog 19 #[tv p] wz (rR M wz (jS (bq .nil lAB)))):=hid (λM p wz hi ht hT=>sI M p _ 64 jW.good aF jW.fine wz hi ht hT);have VM:Hid (∀ M p wz,Inv M wz->IsT M p tW->Calls prog 14 #[tv p,.agg (kc ka)] wz λe w'=>e = .returned (.bool true)/\Below wz.heap.size wz w'):=hid (λM p wz hi ht=>by
  have:=ug M p tW ka Ba wz hi ht hgW;rw [show (Tr.get tW (path ka)).isSome=true from YP] at this;exact this)
 have VS:Hid (∀ M p wz,Inv M wz->IsT M p tW->Calls prog 14 #[tv p,.agg (kc kb)] wz λe w'=>e = .returned (.bool false)/\Below wz.heap.size wz w'):=hid (λM p wz hi ht=>by
  have:=ug M p tW kb yx wz hi ht hgW;rw [show (Tr.get tW (path kb)).isSome=false from YZ] at this;exact this)
 have pS:Hid (∀ M p wz,Inv M wz->IsT M p (bq .nil lAB)->Calls prog 14 #[tv p,.agg (kc kb)] wz λe w'=>e = .returned (.bool true)/\Below wz.heap.size wz w'):=hid (λM p wz hi ht=>by
  have:=ug M p _ kb yx wz hi ht jW.good;rw [Xd] at this;exact this)
 have VV:Hid ((bQ (cB 1 (bq .nil lAB))).length=2):=hid Vh;have ov:Hid ((bQ tW).length=1):=hid Ti;clear hgW IN IO IP;generalize cB 1 (bq .nil lAB)=U at *
 generalize tW=W at *
 generalize bq .nil lAB=TT at *
 obtain ⟨E,hE⟩:=av (jS TT)
 rw [hE] at Pi xd;clear hE;generalize sA=SA at *
 generalize sB=SB at *
 clear hA hB hb1 hT;have HW:Hid (_=_):=hid hw1;clear hw1;have u6:Hid (rowP [(ka,sx),(kb,sy)]=rowP lAB):=hid rfl;obtain ⟨ROW,hROW⟩:=av (rowP lAB)
 rw [hROW] at u5 u6;generalize ka=A at *
 generalize kb=B at *
 generalize zk=Z at *
 go_enter func21,ntmps21;go_wp2_with (first
  | (refine ay (gj.out _ _ _ w.heap.size rfl rfl) ?_)
  | (refine ay (gj.out _ _ _ (w.heap.size+1) (by simp) rfl) ?_)
  | (rw [<-HW.out]; refine FU HB1.out (by rw [Pc.out]; decide) 16 rfl _ _ rfl rfl rfl ?_; intro w2 hO2 hu2; have HB2:Hid (Rg.Own w2 (w.heap.size+1) (kc B) 25):=hid (by rw [<-B8.out]; exact hO2); have HA2:=hid (HA1.out.upd hu2 hne1); have HL2:=hid (lE.out.upd hu2 (by omega) (λh=>h)); clear hO2 hu2)
  | (refine ay (bO xb.out HA2.out.2 ⟨_,rfl,rfl⟩) ?_)
  | (refine ay (bO B9.out HB2.out.2 ⟨_,rfl,rfl⟩) ?_)
  | (refine ay (bK mz.out ⟨_,rfl,rfl⟩) ?_)
  | (refine ay (bK lh.out ⟨_,rfl,rfl⟩) ?_)
  | (refine ay (FY (x:=(A,sx)) (z:=(B,sy)) xb.out B9.out w2.heap.size rfl ⟨_,_,rfl,rfl,rfl⟩) ?_))
 rw [u6.out];have hL3:=HL2.out.below (al1 w2 (.cells ROW.toArray 66));refine (u5.out w2.heap.size _ (Rg.Own.new _ _ _) hL3).mono ?_;intro e w4 hG;obtain ⟨pt,M4,rfl,D0,hL4,sq,hb4⟩:=hL3.got hG;have Be:Hid (Ak w M4 w4 w.heap.size (w.heap.size+1) A B []):=hid ⟨hL4,(HA2.out.below (al1 _ _)).below hb4,(HB2.out.below (al1 _ _)).below hb4,xb.out,B9.out,λx hx=>(by cases hx)⟩;have j7:=hid D0;have HN:=hid (Rg.Own.new w4 #[.pointer none] 31);clear hG D0 hL4 sq hb4 hL3 HA1 HB1 lE HA2 HB2 HL2 HW gj B8 mz lh u5 u6 Pc;go_wp2_with (first
  | (refine ay (aW _ _ _ w4.heap.size rfl rfl) ?_)
  | (refine aZ HN.out (by decide) pt rfl _ _ rfl rfl rfl ?_; intro w5 b8 ax; have pi:=hid (Be.out.box j7.out b8 ax); clear b8 ax)
  | (refine ay (aT (pi.out.cell (g:=w4.heap.size) (p:=pt) (t:=TT) (by simp)) ⟨_,rfl,rfl⟩) ?_))
 obtain ⟨gt,hgt⟩:=av w4.heap.size
 rw [hgt] at pi;rw [hgt];clear HN Be j7 hgt;refine (oX.out M4 pt w5 pi.out.l.i (pi.out.tr (g:=gt) (by simp)) pi.out.l.t).mono ?_;intro e w6 hG;obtain ⟨pu,M6,rfl,mc,qt⟩:=pi.out.got hG;have g9:=hid qt;have tf:=hid mc;have HN:=hid (Rg.Own.new w6 #[.pointer none] 31);clear hG qt mc pi oX;obtain ⟨gu,hgu⟩:=av w6.heap.size
 go_wp2_with (first
  | (refine ay (aW _ _ _ w6.heap.size rfl rfl) ?_)
  | (refine aZ HN.out (by decide) pu rfl _ _ rfl rfl rfl ?_; intro w7 fN ed; have fX:Hid (Ak w M6 w7 w.heap.size (w.heap.size+1) A B [(gu,pu,U),(gt,pt,TT)]):=hid (by have:=g9.out.box tf.out fN ed; rw [hgu] at this; exact this); clear fN ed; rw [hgu])
  | (refine ay (aT (fX.out.cell (g:=gt) (p:=pt) (t:=TT) (by simp)) ⟨_,rfl,rfl⟩) ?_)
  | (refine ay (bO xb.out fX.out.ka.2 ⟨_,rfl,rfl⟩) ?_)
  | (refine ay (LQ xb.out w7.heap.size rfl ⟨_,rfl,rfl⟩) ?_))
 have u9:=fX.out.below (al1 w7 (.cells (kc A) 25));refine (sa.out M6 pt _ w7.heap.size u9.l.i (u9.tr (g:=gt) (by simp)) u9.l.t (Rg.Own.new _ _ _)).mono ?_;intro e w8 hG;obtain ⟨pw,M8,rfl,vu,u9⟩:=u9.got hG;have Pp:=hid u9;have Pr:=hid vu;have HN:=hid (Rg.Own.new w8 #[.pointer none] 31);clear hG u9 vu fX tf g9 sa hgu;obtain ⟨gw,hgw⟩:=av w8.heap.size
 go_wp2_with (first
  | (refine ay (aW _ _ _ w8.heap.size rfl rfl) ?_)
  | (refine aZ HN.out (by decide) pw rfl _ _ rfl rfl rfl ?_; intro w9 al aq; have cQ:Hid (Ak w M8 w9 w.heap.size (w.heap.size+1) A B [(gw,pw,W),(gu,pu,U),(gt,pt,TT)]):=hid (by have:=Pp.out.box Pr.out al aq; rw [hgw] at this; exact this); clear al aq; rw [hgw])
  | (refine ay (aT (cQ.out.cell (g:=gt) (p:=pt) (t:=TT) (by simp)) ⟨_,rfl,rfl⟩) ?_))
 refine (lA.out M8 pt w9 cQ.out.l.i (cQ.out.tr (g:=gt) (by simp)) cQ.out.l.t).mono ?_;rintro e wa ⟨aa,na,ca,kk,kkc,ps,rfl,hpa,hPa,IR,hka,hfa,hia,ve⟩;have hps:ps.length=2:=by rw [IR.1,cY.out.2.2]; rfl
 have Ps:=hid (cQ.out.frm hfa hia ve);obtain ⟨kb,ko,hkk,hkl,hkc⟩:=hPa.2.2.2.2 1 (by omega);have hT1:=IR.2 1 (by omega);rw [cY.out.2.2] at hT1;obtain ⟨p1,hp1⟩:=av (ps.getD 1 none)
 rw [hp1] at hkc hT1;have dr:Hid (wa.cell? ⟨kb,ko+1,none⟩=some (.pointer p1)/\IsT M8 p1 SB):=hid ⟨hkc,hT1⟩;subst hkk;have de:=hid cY.out.2.1;have tn:=hid cY.out.1;have xe:=hid (Rg.Own.new wa (ndC nd0 none 0 0) 56);have hfr:=hia.free (Nat.le_refl wa.heap.size);rw [hps];generalize bM TT=N at *
 clear hpa hPa IR hka hfa hia ve hps hkl hkc hT1 hp1 cQ Pr Pp lA cY HN hgw;go_wp2_with (first
  | (refine ay (aX _ _ _ wa.heap.size rfl rfl) ?_)
  | (refine bY xe.out rfl N aa na ca de.out rfl _ _ rfl rfl rfl rfl ?_; intro wb hOb hub; have IS:Hid (Below wa.heap.size wa wb):=hid (hub.below (al1 _ _) aF); have ua:Hid (Bx M8 wb wa.heap.size (ndC N aa na ca) 56):=hid ⟨hOb,hfr,Jv _ _ _ _⟩; clear hOb hub))
 have zb:Hid ((ndC N aa na ca)[0]? = some (.int .i64 3)):=hid (by show some (Value.int .i64 N.kd)=_; rw [tn.out]);obtain ⟨gn,hgn⟩:=av wa.heap.size
 rw [hgn] at ua;rw [hgn];have HA:=hid (Ps.out.below IS.out);replace dr:Hid (wb.cell? ⟨kb,ko+1,none⟩=some (.pointer p1)/\IsT M8 p1 SB):=hid ⟨aV IS.out dr.out.1,dr.out.2⟩;have HN:=ua;clear hgn IS Ps xe de tn hfr ua;generalize ndC N aa na ca=C at *
 try simp only [Act.put,ak]
 go_cut [8,9] (λv8 v9 wx=>∃ (gx:Nat) (px:aJ) (Mx:Mp),v8 = .pointer (some ⟨gx,0,none⟩)/\v9 = .int .i64 1/\Hid (Az w Mx wx w.heap.size (w.heap.size+1) A B [(gx,px,TT),(gw,pw,W),(gu,pu,U),(gt,pt,TT)] gn C))
 case first =>
  replace HA:=hid (HA.out.below (show Below wb.heap.size wb wb.drew from below_drewN aG 1));replace HN:=hid (HN.out.below (show Below wb.heap.size wb wb.drew from below_drewN aG 1));replace dr:Hid (wb.drew.cell? ⟨kb,ko+1,none⟩=some (.pointer p1)/\IsT M8 p1 SB):=hid ⟨aV (show Below wb.heap.size wb wb.drew from below_drewN aG 1) dr.out.1,dr.out.2⟩;refine wp_region_noPanic ?_
  refine wp_region_held_drew (S:=λw'=>w'.cell? ⟨gw,0,none⟩=some (.pointer pw)/\w'.cell? ⟨kb,ko+1,none⟩=some (.pointer p1)) (by kernel_rfl) (⟨HA.out.cell (g:=gw) (p:=pw) (t:=W) (by simp),dr.out.1⟩) (λhld=>?_);refine ah 0 ?_ (hy:=by intro wz hSw; (refine aT hSw.1 ?_; exact ⟨_,rfl,rfl⟩));try simp only [Act.put,ak]
  refine ah 1 ?_;try simp only [Act.put,ak]
  refine ah 2 ?_;try simp only [Act.put,ak]
  refine ah 3 ?_ (hy:=by intro wz hSw; (refine aT hSw.2 ?_; exact ⟨_,rfl,rfl⟩));try simp only [Act.put,ak]
  refine wpAnyH_ready (rs:=[4,8]) (by kernel_rfl) (by simp) ?_;refine Rg.readyC (i:=4) rfl (λK hK=>?_) (Rg.readyL (i:=8) rfl (λK hK=>?_))
  .go_simp;go_at_call 23
   (with_reducible refine (wj.out _ _ pw p1 HA.out.l.i (HA.out.tr (g:=gw) (p:=pw) (t:=W) (by simp)) dr.out.2 HA.out.l.t).mono ?_)
   intro e wg0 hG;obtain ⟨px,Mx,rfl,hTx,hAx,hfx⟩:=HA.out.Sr hG;rw [show gH 1=(1:Int) by decide];replace HN:=hid (HN.out.frm HA.out.l.i hfx);replace dr:=hid (And.intro (Jf HA.out.l.i hfx dr.out.1) (dr.out.2.mono hfx.mono));replace HA:=hid hAx;have ub:=hid hTx;clear hG hAx hTx hfx;refine hK.out _ _ (⟨HA.out.cell (g:=gw) (p:=pw) (t:=W) (by simp),dr.out.1⟩) (λhld=>?_);clear hK K;try simp only [Act.put,ak]
   refine ah 5 ?_;try simp only [Act.put,ak]
   refine ah 6 ?_;try simp only [Act.put,ak]
   refine ah 7 ?_;try simp only [Act.put,ak]
   refine aj 8 λK hK=>?_;refine Rg.meetAlloc (by rfl) (aW _ _ _ _ rfl rfl) ?_;rintro wa1 gx bo h8 hbx;have mA:Hid ((w.heap.size<=gx/\gx≠w.heap.size/\gx≠w.heap.size+1/\gx≠gt/\gx≠gu/\gx≠gw)/\gn<gx/\kb<gx):=hid ⟨HA.out.Uq bo,by rw [bo]; exact HN.out.o.1,by rw [bo]; exact World.block_lt_of_cell? _ _ dr.out.1⟩;replace HA:=hid ((HA.out.below hbx).add (g:=gx) (p:=none) (t:=.nil) ⟨h8,HA.out.l.i.free (Nat.le_of_eq bo.symm),bX _⟩ rfl);replace HN:=hid (HN.out.below hbx);replace dr:=hid (And.intro (aV hbx dr.out.1) dr.out.2);clear bo h8 hbx
   refine hK.out _ _ (⟨HA.out.cell (g:=gw) (p:=pw) (t:=W) (by simp),dr.out.1⟩) (λhld=>?_);clear hK K;try simp only [Act.put,ak]
   refine aj 9 λK hK=>?_;refine aY (by rfl) (HA.out.own (g:=gx) (p:=none) (t:=.nil) (by simp)) (off:=0) (by simp) px ⟨_,_,rfl,rfl,rfl⟩ ?_;rintro pT hn hu;have HR:Hid (Ak w Mx pT w.heap.size (w.heap.size+1) A B [(gx,px,TT),(gw,pw,W),(gu,pu,U),(gt,pt,TT)]):=hid (HA.out.set hu hn ub.out (by have:=mA.out; omega) (by have:=mA.out; omega) (by have:=mA.out; omega) (λx hx=>by have:=mA.out; simp at hx; rcases hx with rfl | rfl | rfl <;> (dsimp only; omega)))
   have xe:Hid (Bx Mx pT gn C 56):=hid (HN.out.upd hu (by have:=mA.out; omega));have sT:pT.cell? ⟨kb,ko+1,none⟩=some (.pointer p1):=by rw [World.cell?_of_block (hu.block kb (by have:=mA.out; omega))]; exact dr.out.1
   refine hK.out _ _ (⟨HR.out.cell (g:=gw) (p:=pw) (t:=W) (by simp),sT⟩) λhld=>?_;clear hK K hn hu HA HN sT;try simp only [Act.put,ak]
   refine ah 10 ?_;try simp only [Act.put,ak]
   refine aA ?_;go_wp2_with fail
   go_meet
   exact ⟨gx,px,Mx,rfl,rfl,hid ⟨HR.out,xe.out⟩⟩
  .refine Rg.meetAlloc (by rfl) (aW _ _ _ _ rfl rfl) ?_;rintro wa0 gx bo h8 hbx;have mA:Hid ((w.heap.size<=gx/\gx≠w.heap.size/\gx≠w.heap.size+1/\gx≠gt/\gx≠gu/\gx≠gw)/\gn<gx/\kb<gx):=hid ⟨HA.out.Uq bo,by rw [bo]; exact HN.out.o.1,by rw [bo]; exact World.block_lt_of_cell? _ _ dr.out.1⟩;replace HA:=hid ((HA.out.below hbx).add (g:=gx) (p:=none) (t:=.nil) ⟨h8,HA.out.l.i.free (Nat.le_of_eq bo.symm),bX _⟩ rfl);replace HN:=hid (HN.out.below hbx);replace dr:=hid (And.intro (aV hbx dr.out.1) dr.out.2);clear bo h8 hbx
   refine hK.out _ _ (⟨HA.out.cell (g:=gw) (p:=pw) (t:=W) (by simp),dr.out.1⟩) (λhld=>?_);clear hK K;try simp only [Act.put,ak]
   refine aj 4 λK hK=>?_;go_simp;go_at_call 23
   (with_reducible refine (wj.out _ _ pw p1 HA.out.l.i (HA.out.tr (g:=gw) (p:=pw) (t:=W) (by simp)) dr.out.2 HA.out.l.t).mono ?_)
   intro e wg1 hG;obtain ⟨px,Mx,rfl,hTx,hAx,hfx⟩:=HA.out.Sr hG;rw [show gH 1=(1:Int) by decide];replace HN:=hid (HN.out.frm HA.out.l.i hfx);replace dr:=hid (And.intro (Jf HA.out.l.i hfx dr.out.1) (dr.out.2.mono hfx.mono));replace HA:=hid hAx;have ub:=hid hTx;clear hG hAx hTx hfx;refine hK.out _ _ (⟨HA.out.cell (g:=gw) (p:=pw) (t:=W) (by simp),dr.out.1⟩) (λhld=>?_);clear hK K;try simp only [Act.put,ak]
   refine ah 5 ?_;try simp only [Act.put,ak]
   refine ah 6 ?_;try simp only [Act.put,ak]
   refine ah 7 ?_;try simp only [Act.put,ak]
   refine aj 9 λK hK=>?_;refine aY (by rfl) (HA.out.own (g:=gx) (p:=none) (t:=.nil) (by simp)) (off:=0) (by simp) px ⟨_,_,rfl,rfl,rfl⟩ ?_;rintro pT hn hu;have HR:Hid (Ak w Mx pT w.heap.size (w.heap.size+1) A B [(gx,px,TT),(gw,pw,W),(gu,pu,U),(gt,pt,TT)]):=hid (HA.out.set hu hn ub.out (by have:=mA.out; omega) (by have:=mA.out; omega) (by have:=mA.out; omega) (λx hx=>by have:=mA.out; simp at hx; rcases hx with rfl | rfl | rfl <;> (dsimp only; omega)))
   have xe:Hid (Bx Mx pT gn C 56):=hid (HN.out.upd hu (by have:=mA.out; omega));have sT:pT.cell? ⟨kb,ko+1,none⟩=some (.pointer p1):=by rw [World.cell?_of_block (hu.block kb (by have:=mA.out; omega))]; exact dr.out.1
   refine hK.out _ _ (⟨HR.out.cell (g:=gw) (p:=pw) (t:=W) (by simp),sT⟩) λhld=>?_;clear hK K hn hu HA HN sT;try simp only [Act.put,ak]
   refine ah 10 ?_;try simp only [Act.put,ak]
   refine aA ?_;go_wp2_with fail
   go_meet
   exact ⟨gx,px,Mx,rfl,rfl,hid ⟨HR.out,xe.out⟩⟩
 case rest =>
  obtain ⟨gx,px,Mx,rfl,rfl,HZ⟩:=hcut;obtain ⟨ws,hws⟩:=au wc
  subst hws;clear HA HN dr wj;go_wp2_with fail
  have HS:Hid (∀ M wz,Az w M wz w.heap.size (w.heap.size+1) A B [(gx,px,TT),(gw,pw,W),(gu,pu,U),(gt,pt,TT)] gn C->wz.cell? ⟨gx,0,none⟩=some (.pointer px)/\wz.cell? ⟨gw,0,none⟩=some (.pointer pw)/\wz.cell? ⟨gu,0,none⟩=some (.pointer pu)/\wz.cell? ⟨gt,0,none⟩=some (.pointer pt)/\wz.heap[w.heap.size]? = some (.cells (kc A) 25 (0,0))/\wz.heap[w.heap.size+1]? = some (.cells (kc B) 25 (0,0))/\wz.cell? ⟨gn,0,none⟩=some (.int .i64 3)):=hid (λM wz h=>⟨h.a.cell (g:=gx) (p:=px) (t:=TT) (by simp),h.a.cell (g:=gw) (p:=pw) (t:=W) (by simp),h.a.cell (g:=gu) (p:=pu) (t:=U) (by simp),h.a.cell (g:=gt) (p:=pt) (t:=TT) (by simp),h.a.ka.2,h.a.kb.2,aU h.n.o zb.out⟩)
  have HA:=hid (HZ.out.below (show Below ws.heap.size ws ws.drew from below_drewN aG 1));clear HZ;refine wp_region_noPanic ?_
  refine wp_region_held_drew (S:=λw'=>w'.cell? ⟨gx,0,none⟩=some (.pointer px)/\w'.cell? ⟨gw,0,none⟩=some (.pointer pw)/\w'.cell? ⟨gu,0,none⟩=some (.pointer pu)/\w'.cell? ⟨gt,0,none⟩=some (.pointer pt)/\w'.heap[w.heap.size]? = some (.cells (kc A) 25 (0,0))/\w'.heap[w.heap.size+1]? = some (.cells (kc B) 25 (0,0))/\w'.cell? ⟨gn,0,none⟩=some (.int .i64 3)) (by kernel_rfl) (HS.out _ _ HA.out) (λhld=>?_);refine ah 0 ?_;try simp only [Act.put,ak]
  refine ah 1 ?_ (hy:=by intro wz hSw; (obtain ⟨s1,s2,s3,s4,s5,s6,s7⟩:=hSw; go_simp <;> with_reducible rfl));try simp only [Act.put,ak]
  refine ah 2 ?_;try simp only [Act.put,ak]
  refine ah 3 ?_;try simp only [Act.put,ak]
  refine ah 4 ?_ (hy:=by intro wz hSw; (refine aT hSw.2.2.1 ?_; exact ⟨_,rfl,rfl⟩));try simp only [Act.put,ak]
  refine aj 5 λK hK=>?_;go_simp;go_at_call 8
  (with_reducible refine (HA.out.refs VV.out (VC.out _ _ _ HA.out.a.l.i (HA.out.a.tr (g:=gu) (p:=pu) (t:=U) (by simp)) HA.out.a.l.t)).mono ?_)
  rintro e wf0 ⟨a0,c0,rfl,HA⟩;refine hK.out _ _ (HS.out _ _ HA.out) (λhld=>?_);clear hK K;try simp only [Act.put,ak]
  refine ah 6 ?_;try simp only [Act.put,ak]
  refine ah 7 ?_;try simp only [Act.put,ak]
  refine ah 8 ?_;try simp only [Act.put,ak]
  refine ah 9 ?_;try simp only [Act.put,ak]
  refine ah 10 ?_ (hy:=by intro wz hSw; (refine aT hSw.2.2.1 ?_; exact ⟨_,rfl,rfl⟩));try simp only [Act.put,ak]
  refine ah 12 ?_ (hy:=by intro wz hSw; (refine aT hSw.2.2.2.1 ?_; exact ⟨_,rfl,rfl⟩));try simp only [Act.put,ak]
  refine aj 11 λK hK=>?_;go_simp;go_at_call 19
  (with_reducible refine (HA.out.tells (Pi.out _ _ _ HA.out.a.l.i (HA.out.a.tr (g:=gu) (p:=pu) (t:=U) (by simp)) HA.out.a.l.t)).mono ?_)
  rintro e wf1 ⟨rfl,HA⟩;refine hK.out _ _ (HS.out _ _ HA.out) (λhld=>?_);clear hK K;try simp only [Act.put,ak]
  refine aj 13 λK hK=>?_;go_simp;go_at_call 19
  (with_reducible refine (HA.out.tells (xd.out _ _ _ HA.out.a.l.i (HA.out.a.tr (g:=gt) (p:=pt) (t:=TT) (by simp)) HA.out.a.l.t)).mono ?_)
  rintro e wf2 ⟨rfl,HA⟩;refine hK.out _ _ (HS.out _ _ HA.out) (λhld=>?_);clear hK K;try simp only [Act.put,ak]
  refine ah 14 ?_;try simp only [Act.put,ak]
  refine ah 15 ?_;try simp only [Act.put,ak]
  refine ah 16 ?_;try simp only [Act.put,ak]
  refine ah 17 ?_ (hy:=by intro wz hSw; (refine aT hSw.2.1 ?_; exact ⟨_,rfl,rfl⟩));try simp only [Act.put,ak]
  refine aj 18 λK hK=>?_;go_simp;go_at_call 8
  (with_reducible refine (HA.out.refs ov.out (kx.out _ _ _ HA.out.a.l.i (HA.out.a.tr (g:=gw) (p:=pw) (t:=W) (by simp)) HA.out.a.l.t)).mono ?_)
  rintro e W1 ⟨a3,c3,rfl,HA⟩;refine hK.out _ _ (HS.out _ _ HA.out) (λhld=>?_);clear hK K;try simp only [Act.put,ak]
  refine ah 19 ?_;try simp only [Act.put,ak]
  refine ah 20 ?_;try simp only [Act.put,ak]
  refine ah 21 ?_;try simp only [Act.put,ak]
  refine ah 22 ?_;try simp only [Act.put,ak]
  refine ah 23 ?_ (hy:=by intro wz hSw; (refine aT hSw.2.1 ?_; exact ⟨_,rfl,rfl⟩));try simp only [Act.put,ak]
  refine ah 24 ?_ (hy:=by intro wz hSw; (refine bO xb.out hSw.2.2.2.2.1 ?_; exact ⟨_,rfl,rfl⟩));try simp only [Act.put,ak]
  refine aj 25 λK hK=>?_;go_simp;go_at_call 14
  (with_reducible refine (HA.out.says (VM.out _ _ _ HA.out.a.l.i (HA.out.a.tr (g:=gw) (p:=pw) (t:=W) (by simp)))).mono ?_)
  rintro e W2 ⟨rfl,HA⟩;refine hK.out _ _ (HS.out _ _ HA.out) (λhld=>?_);clear hK K;try simp only [Act.put,ak]
  refine ah 26 ?_;try simp only [Act.put,ak]
  refine ah 27 ?_;try simp only [Act.put,ak]
  refine ah 28 ?_ (hy:=by intro wz hSw; (refine aT hSw.2.1 ?_; exact ⟨_,rfl,rfl⟩));try simp only [Act.put,ak]
  refine ah 29 ?_ (hy:=by intro wz hSw; (refine bO B9.out hSw.2.2.2.2.2.1 ?_; exact ⟨_,rfl,rfl⟩));try simp only [Act.put,ak]
  refine aj 30 λK hK=>?_;go_simp;go_at_call 14
  (with_reducible refine (HA.out.says (VS.out _ _ _ HA.out.a.l.i (HA.out.a.tr (g:=gw) (p:=pw) (t:=W) (by simp)))).mono ?_)
  rintro e W3 ⟨rfl,HA⟩;refine hK.out _ _ (HS.out _ _ HA.out) (λhld=>?_);clear hK K;try simp only [Act.put,ak]
  refine ah 31 ?_;try simp only [Act.put,ak]
  refine ah 32 ?_;try simp only [Act.put,ak]
  refine ah 33 ?_;try simp only [Act.put,ak]
  refine ah 34 ?_;try simp only [Act.put,ak]
  refine ah 35 ?_;try simp only [Act.put,ak]
  refine ah 36 ?_;try simp only [Act.put,ak]
  refine ah 37 ?_;try simp only [Act.put,ak]
  refine ah 38 ?_ (hy:=by intro wz hSw; (refine aT hSw.1 ?_; exact ⟨_,rfl,rfl⟩));try simp only [Act.put,ak]
  refine ah 39 ?_ (hy:=by intro wz hSw; (refine bO B9.out hSw.2.2.2.2.2.1 ?_; exact ⟨_,rfl,rfl⟩));try simp only [Act.put,ak]
  refine aj 40 λK hK=>?_;go_simp;go_at_call 14
  (with_reducible refine (HA.out.says (pS.out _ _ _ HA.out.a.l.i (HA.out.a.tr (g:=gx) (p:=px) (t:=TT) (by simp)))).mono ?_)
  rintro e W4 ⟨rfl,HA⟩;refine hK.out _ _ (HS.out _ _ HA.out) (λhld=>?_);clear hK K;try simp only [Act.put,ak]
  refine ah 41 ?_;try simp only [Act.put,ak]
  refine ah 42 ?_;try simp only [Act.put,ak]
  refine aA ?_;go_wp2;go_ret;exact ⟨rfl,HA.out.a.l.b⟩
end Sx
end
section
open Go.RowKit
namespace Ew
open Tr Ni Pk Ky No Rf Rl Tm
def Ut (L:Nat):Prop:=∀ (l:List Tr.In),Ok L l->qp l->∀ (a:aJ) (n c:Nat) (w:World),cK w a n c l->n<=1000->∀ D:Int,(L:Int)<=D+4611686018427387904->D<=9223372036854775807->
 Calls prog 16 #[.slice a n c,.int .i64 D] w (rX w (jN D.toNat (build L l)))
def Od (d:Nat) (s:T):List aK:=if d<=1/\(ref s).size=32 then [ref s] else jN (d-1) s
theorem QC {s:T} {K:Nat} (g:Tr.Good s K) (hK:K<=64) (f:Fine s) (h:(ref s).size=0):Od d s=[]:=by
 obtain rfl:s = .nil:=Classical.byContradiction λe=>(mX g hK f).2 e h;unfold Od;rw [if_neg (λe=>by omega)];rfl
theorem VT {L:Nat} (hL:L<=64) (ih:∀ m,m<L->Ut m):Ut L:=λl ok f a n c w h hn D hD1 hD2=>by
 by_cases hne:l=[]
 .subst hne;obtain rfl:n=0:=h.len.symm;rw [Tr.mh];have HC:=hid (yw a c w);clear h;go_enter func16,ntmps16;go_wp2_with fail
  refine HC.out.mono ?_;rintro e w1 ⟨rfl,hb1⟩;have HB1:=hid hb1;have hNew:=Rg.Own.new w1 (ndC nd0 none 0 0) 56;have HN:=hid hNew;clear hb1 hNew;go_wp2_with (first
   | (refine ay (aX _ _ _ w1.heap.size rfl rfl) ?_)
   | (refine bY HN.out rfl nd0 none 0 0 rfl rfl _ _ rfl rfl rfl rfl ?_; intro w4 hO4 cN; have cg:Hid (Below w1.heap.size w1 w4):=hid (cN.below (al1 _ _) aF); clear hO4 cN))
  go_ret;exact ⟨_,rfl,World.ownsRow_nil _ _ _ _,bst HB1.out cg.out⟩
 .have hnl:=h.len;have hfu:=mH L l;have hgd:=oQ L l ok;have hfi:=om L l f;have d9:=Nat.le_trans (wX (build L l) D.toNat hfu) (xW L l ok);have hf2:(L+1)*l.length<=65*1000:=Nat.mul_le_mul (by omega) (by omega);have HC:=hid (Bc hL (λm hm=>Ho m (by omega)) ok f hne a n c w h (by omega));have hl:=dP (build L l);have hall:∀ z∈l,z.1.length=L:=λz hz=>(ok.1 z hz).1
  have hRs:∀ (m:Nat) wz,m<=L->Below w.heap.size w wz->Calls prog 37 #[.slice a n c,.int .i64 m] wz (sH wz (bD l m)):=λm wz hm' hb=>qz l a n c m (λz hz=>by rw [hall z hz]; exact hm') wz (h.below hb) (by omega);have hBg:0<L->∀ (d:Fin 16) wz,Below w.heap.size w wz->Calls prog 38 #[.slice a n c,.int .i64 d.val] wz (sH wz (bB l d)):=λhL0 d wz hb=>yM l a n c d (λz hz=>by rw [hall z hz]; exact hL0) wz (h.below hb) (by omega)
  have fW:0<L->∀ (d:Fin 16) a' n' c' wz,cK wz a' n' c' (bB l d)->Calls prog 37 #[.slice a' n' c',.int .i64 1] wz (sH wz (bD (bB l d) 1)):=λhL0 d a' n' c' wz hi=>qz (bB l d) a' n' c' 1 (λz hz=>by rw [hall z (kQ.1 hz).1]; omega) wz hi (by rw [<-hi.len]; exact Nat.le_trans (List.length_filter_le _ _) (by omega))
  have gv:∀ (K:Nat),0<K->K<=L->Ok (L-K) (bD l K)->∀ a' n' c' wz,cK wz a' n' c' (bD l K)->Calls prog 16 #[.slice a' n' c',.int .i64 (D-1)] wz (rX wz (jN (D.toNat-1) (build (L-K) (bD l K)))):=λK h0 hK hok a' n' c' wz hI=>by
   have:=ih (L-K) (by omega) _ hok (f.rest K) a' n' c' wz hI (by rw [<-hI.len]; unfold bD; rw [List.length_map]; omega) (D-1) (by omega) (by omega);rwa [show (D-1).toNat=D.toNat-1 by omega] at this
  have gz:0<L->∀ (e:Fin 16) a' n' c' wz,cK wz a' n' c' (bD (bB l e) 1)->Calls prog 16 #[.slice a' n' c',.int .i64 (D-1)] wz (rX wz (jN (D.toNat-1) (build (L-1) (bD (bB l e) 1)))):=λhL0 e a' n' c' wz hI=>by
   have:=ih (L-1) (by omega) _ (nC ok hL0 e) ((f.begin e).rest 1) a' n' c' wz hI (by
    rw [<-hI.len];unfold bD;rw [List.length_map];exact Nat.le_trans (List.length_filter_le _ _) (by omega)) (D-1) (by omega) (by omega)
   rwa [show (D-1).toNat=D.toNat-1 by omega] at this
  have hsh:=zm ok hne;obtain ⟨t,ht⟩:=av (build L l)
  rw [ht] at d9 hl hsh hgd hfi ⊢;rw [ht] at HC;have hxl:(jN D.toNat t).length<=65000:=by omega
  rcases hsh with ⟨p,v,rfl⟩ | ⟨K,q,vr,rS,hq,rfl,hok⟩ | ⟨hL0,rfl⟩
  .obtain ⟨N,hN⟩:=av (bM (.leaf p v))
   have cY:Hid (N.kd=1):=hid (by rw [<-hN]; rfl);have HX:Hid (jN D.toNat (.leaf p v)=[]):=hid rfl;rw [hN] at hl HC;have HL:=hid hl;clear h hl hRs hBg fW gv gz hall ok f hnl ih hne ht hN d9 hf2 hgd hfi hfu;go_enter func16,ntmps16;go_wp2_with fail
   refine HC.out.mono ?_;rintro e w1 ⟨a1,n1,c1,rfl,hp1,hb1⟩;have HB1:=hid hb1;have hNew:=Rg.Own.new w1 (ndC nd0 none 0 0) 56;have HN:=hid hNew;have HP:=hid hp1;clear hb1 hNew hp1 HC;obtain ⟨g,hg⟩:=av w1.heap.size
   have HG:=hid hg;rw [hg] at HN;clear hg;go_wp2_with (first
    | (refine ay (aX _ _ _ g HG.out.symm rfl) ?_)
    | (refine bY HN.out rfl N a1 n1 c1 HL.out rfl _ _ rfl rfl rfl rfl ?_; intro w4 hO4 cN; have cn:=hid hO4; have cg:Hid (Below w1.heap.size w1 w4):=hid (cN.below (al1 _ _) (Nat.le_of_eq HG.out)); have k0:w4.cell? ⟨g,0,none⟩=some (.int .i64 1):=cY.out ▸ aU (j:=0) hO4 rfl; clear hO4 cN))
   go_ret;rw [HX.out];exact ⟨_,rfl,World.ownsRow_nil _ _ _ _,bst HB1.out cg.out⟩
  .obtain ⟨N,hN⟩:=av (bM (.ext q (build (L-K) (bD l K))))
   have cY:Hid (N.kd=2):=hid (by rw [<-hN]; rfl);have hpK:N.p.length=K:=by rw [<-hN]; exact hq
   have hR0:N.ks.getD 0 eB=ref (build (L-K) (bD l K)):=by rw [<-hN]; rfl
   have hX:jN D.toNat (.ext q (build (L-K) (bD l K)))=Od D.toNat (build (L-K) (bD l K)):=rfl;have W5:(ref (build (L-K) (bD l K))).size≠0:=(mX hgd.2.2.2.2 (by omega) hfi).2 (pQ hgd.2.2.2.1);rw [hN] at hl HC;have HL:=hid hl;have HI:=hid (λa' n' c' wz hI=>gv K vr rS hok a' n' c' wz hI);have oY:=hid (λwz hb=>hRs K wz rS hb);have hL0:0<L:=by omega
   have lh:=hid (hBg hL0 ⟨0,by decide⟩);have tz:=hid (fW hL0 ⟨0,by decide⟩);rw [hX] at hxl ⊢;have hone:∀ (d:Nat) (s:T),Od d s=if d<=1/\(ref s).size=32 then [ref s] else jN (d-1) s:=λ_ _=>rfl
   have hX2:=hone D.toNat (build (L-K) (bD l K));obtain ⟨R,hR⟩:=av (ref (build (L-K) (bD l K)))
   obtain ⟨ys,hys⟩:=av (jN (D.toNat-1) (build (L-K) (bD l K)))
   rw [hR] at hR0 W5 hX2;rw [hys] at HI hX2;generalize Od D.toNat (build (L-K) (bD l K))=xs at *
   have HX:=hid hX2;have gh:=hid hR0;have W6:IntKind.i64.wrap (D-1)=D-1:=IntWalk.i64_in _ (by omega);clear h hl hRs hBg fW gv gz hall ok f hnl ih hne ht hN d9 hf2 hgd hfi hfu hR hys hX2 hR0 hok hX hone;go_enter func16,ntmps16;go_wp2_with fail
   refine HC.out.mono ?_;rintro e w1 ⟨a1,n1,c1,rfl,hp1,hb1⟩;have HB1:=hid hb1;have hNew:=Rg.Own.new w1 (ndC nd0 none 0 0) 56;have HN:=hid hNew;have HP:=hid hp1;clear hb1 hNew hp1 HC;obtain ⟨g,hg⟩:=av w1.heap.size
   have HG:=hid hg;rw [hg] at HN;clear hg;go_wp2_with (first
    | (refine ay (aX _ _ _ g HG.out.symm rfl) ?_)
    | (refine bY HN.out rfl N a1 n1 c1 HL.out rfl _ _ rfl rfl rfl rfl ?_; intro w4 hO4 cN; have cn:=hid hO4; have cg:Hid (Below w1.heap.size w1 w4):=hid (cN.below (al1 _ _) (Nat.le_of_eq HG.out)); have k0:w4.cell? ⟨g,0,none⟩=some (.int .i64 2):=cY.out ▸ aU (j:=0) hO4 rfl; clear hO4 cN))
   have ap:=hid (bst HB1.out cg.out);have hsw:=ap.out.size;have hpn:N.p.length=n1:=HP.out.len;clear HB1 cg HN HP HG k0;obtain rfl:n1=K:=by omega
   go_loopw [7,8,9,10] (λv i _ _ wr=>v = .slice none 0 0/\i = .int .i64 0/\wr=w4) (λ_ _ _ _ _=>0)
   case atStart=>exact ⟨rfl,rfl,rfl⟩
   case round =>
    obtain ⟨rfl,rfl,rfl⟩:=hrel;go_wp2_with fail
    refine (lh.out wr ap.out).mono ?_;rintro e w5 ⟨a5,n5,c5,rfl,lr,hb5⟩;have kq:=hid lr;have ae:=hid hb5;clear lr hb5;go_wp2_with fail
    refine (tz.out a5 n5 c5 w5 kq.out).mono ?_;rintro e w6 ⟨a6,n6,c6,rfl,pM,hb6⟩;have cq:=hid (bst ae.out hb6);have cS:=hid (cn.out.below cq.out);have uc:=hid (bst ap.out cq.out);have k6:w6.cell? ⟨g,0,none⟩=some (.int .i64 2):=cY.out ▸ aU (j:=0) cS.out rfl;have Pu:=(bP cS.out).2.1;have PA:w6.cell? ⟨g,3+0,none⟩=some (.string R):=gh.out ▸ nJ cS.out HL.out 0 (by decide);clear pM hb6 kq ae cq cn ap hsw;go_wp2_with fail
    refine (oY.out w6 uc.out).mono ?_;rintro e w8 ⟨a8,n8,c8,rfl,gi,cJ⟩;have du:=hid (bst uc.out cJ);have gO:=hid gi;have k8:=aV cJ k6;have IT:=aV cJ Pu;have xf:=aV cJ PA;have hRe:=Ni.dz (s:=R) (by omega);have hRl:(R.toList==[])=false:=by
     rw [ByteArray.toList_eq] at hRe ⊢;cases hd:R.data.toList with
     | nil=>rw [hd] at hRe; cases hRe
     | cons _ _=>rfl
    clear gi cJ k6 Pu PA cS uc;by_cases hd:D<=1
    .have hd1:decide (D<=1)=true:=aI hd;by_cases h32:R.size=32
     .have s1:((R.size:Int)==32)=true:=by rw [h32]; rfl
      have s2:decide ((R.size:Int)=32)=true:=aI (by omega);have s3:(R.size==32)=true:=by rw [h32]; rfl
      have s4:decide (R.size=32)=true:=aI h32;have cG:=HX.out;rw [if_pos ⟨by omega,h32⟩] at cG;have dg:=hid cG;clear cG;obtain ⟨w9,r8⟩:=au (w8.alloc (.cells #[.string R] 9))
      have dC:w9.ownsRow w8.heap.size 9 1 (.slice (some ⟨w8.heap.size,0,none⟩) 1 1) [R].length ([R].map Value.string):=by rw [r8]; exact row_one w8 R
      have bj:Below w8.heap.size w8 w9:=by rw [r8]; exact al1 _ _
      have cT:=hid (bst du.out bj);have gS:=hid dC;have J1:Hid (_=_):=hid r8;have hsz:=cT.out.size;have hyl:([]:List aK).length+[R].length<=1000000:=by simp
      have k9:=aV bj k8;clear dC r8 bj IT;go_wp2_with (first
       | (rw [<-J1.out]; at_builtin; refine dO rfl _ _ rfl rfl rfl (World.ownsRow_nil _ w.heap.size _ _) gS.out hyl hsz ?_))
      intro v' ai h10 cr _;have db:=hid h10;have cD:Hid (Below w.heap.size w ai):=hid (cT.out.grown cr hsz (λk hk=>by cases hk));have k10:ai.cell? ⟨g,0,none⟩=some (.int .i64 2):=by
       rw [World.cell?_of_block (cr.block g (World.block_lt_of_cell? _ _ k9) (λe=>by cases e))];exact k9
      clear h10 cr k9;go_wp2;go_ret;rw [dg.out];exact ⟨_,rfl,by simpa using db.out,cD.out⟩
     .have s1:((R.size:Int)==32)=false:=by rw [beq_eq_false_iff_ne]; omega
      have s2:decide ((R.size:Int)=32)=false:=decide_eq_false (by omega);have s3:(R.size==32)=false:=by rw [beq_eq_false_iff_ne]; exact h32
      have s4:decide (R.size=32)=false:=decide_eq_false h32;have cG:=HX.out;rw [if_neg (λe=>h32 e.2)] at cG;have dg:=hid cG;clear cG;go_wp2_with fail
      refine (HI.out a8 n8 c8 w8 gO.out).mono ?_;rintro e w9 ⟨v9,rfl,dC,bj⟩;have cT:=hid (bst du.out bj);have gS:=hid dC;have hsz:=cT.out.size;have hyl:([]:List aK).length+ys.length<=1000000:=by
       rw [dg.out] at hxl;simp only [List.length_nil];omega
      have k9:=aV bj k8;clear dC bj k8 IT xf gO;go_wp2_with (first
       | (at_builtin; refine dO rfl _ _ rfl rfl rfl (World.ownsRow_nil _ w.heap.size _ _) gS.out hyl hsz ?_))
      intro v' ai h10 cr _;have db:=hid h10;have cD:Hid (Below w.heap.size w ai):=hid (cT.out.grown cr hsz (λk hk=>by cases hk));have k10:ai.cell? ⟨g,0,none⟩=some (.int .i64 2):=by
       rw [World.cell?_of_block (cr.block g (World.block_lt_of_cell? _ _ k9) (λe=>by cases e))];exact k9
      clear h10 cr k9;go_wp2;go_ret;rw [dg.out];exact ⟨_,rfl,by simpa using db.out,cD.out⟩
    .have hd1:decide (D<=1)=false:=decide_eq_false hd;have cG:=HX.out;rw [if_neg (λe=>hd (by omega))] at cG;have dg:=hid cG;clear cG;go_wp2_with fail
     refine (HI.out a8 n8 c8 w8 gO.out).mono ?_;rintro e w9 ⟨v9,rfl,dC,bj⟩;have cT:=hid (bst du.out bj);have gS:=hid dC;have hsz:=cT.out.size;have hyl:([]:List aK).length+ys.length<=1000000:=by
      rw [dg.out] at hxl;simp only [List.length_nil];omega
     have k9:=aV bj k8;clear dC bj k8 IT xf gO;go_wp2_with (first
      | (at_builtin; refine dO rfl _ _ rfl rfl rfl (World.ownsRow_nil _ w.heap.size _ _) gS.out hyl hsz ?_))
     intro v' ai h10 cr _;have db:=hid h10;have cD:Hid (Below w.heap.size w ai):=hid (cT.out.grown cr hsz (λk hk=>by cases hk));have k10:ai.cell? ⟨g,0,none⟩=some (.int .i64 2):=by
      rw [World.cell?_of_block (cr.block g (World.block_lt_of_cell? _ _ k9) (λe=>by cases e))];exact k9
     clear h10 cr k9;go_wp2;go_ret;rw [dg.out];exact ⟨_,rfl,by simpa using db.out,cD.out⟩
  .obtain ⟨N,hN⟩:∃ N,bM (.br λd=>build (L-1) (bD (bB l d) 1))=N:=⟨_,rfl⟩
   have cY:Hid (N.kd=3):=hid (by rw [<-hN]; rfl);obtain ⟨rr,hrr⟩:∃ rr:Fin 16->aK,(λd=>ref (build (L-1) (bD (bB l d) 1)))=rr:=⟨_,rfl⟩
   obtain ⟨ll,hll⟩:∃ ll:Fin 16->List aK,(λd=>jN (D.toNat-1) (build (L-1) (bD (bB l d) 1)))=ll:=⟨_,rfl⟩
   obtain ⟨ff,r5⟩:∃ ff:Fin 16->List aK,(λd=>Od D.toNat (build (L-1) (bD (bB l d) 1)))=ff:=⟨_,rfl⟩
   have I2:Hid (∀ d:Fin 16,N.ks.getD d.val eB=rr d):=hid (λd=>by rw [<-hN,<-congrFun hrr d]; exact kJ (λi=>ref (build (L-1) (bD (bB l i) 1))) d);have I3:Hid (∀ d,(rr d).size=0->ff d=[]):=hid (λd hz=>by
    rw [<-congrFun r5 d];rw [<-congrFun hrr d] at hz;exact QC (hgd.2.2 d) (by omega) (hfi d) hz)
   have u0:Hid (∀ d,ff d=if D.toNat<=1/\(rr d).size=32 then [rr d] else ll d):=hid (λd=>by
    rw [<-congrFun r5 d,<-congrFun hrr d,<-congrFun hll d];rfl)
   have hX:jN D.toNat (.br λd=>build (L-1) (bD (bB l d) 1))=dW ff 16:=by
    rw [En,<-r5];rfl
   rw [hN] at hl HC;have HL:=hid hl;have lh:=hid (λd wz hb=>hBg hL0 d wz hb);have oY:=hid (λd a' n' c' wz hI=>fW hL0 d a' n' c' wz hI);have HI:Hid (∀ (e:Fin 16) a' n' c' wz,cK wz a' n' c' (bD (bB l e) 1)->Calls prog 16 #[.slice a' n' c',.int .i64 (D-1)] wz (rX wz (ll e))):=hid (λe a' n' c' wz hI=>by
    have:=gz hL0 e a' n' c' wz hI;have e2:=congrFun hll e;try dsimp only at e2
    rw [e2] at this;exact this)
   rw [hX] at hxl ⊢;have W6:IntKind.i64.wrap (D-1)=D-1:=IntWalk.i64_in _ (by omega);clear h hl hRs hBg fW gv gz hall ok f hnl ih hne ht hN d9 hf2 hgd hfi hfu hX hrr hll r5;go_enter func16,ntmps16;go_wp2_with fail
   refine HC.out.mono ?_;rintro e w1 ⟨a1,n1,c1,rfl,hp1,hb1⟩;have HB1:=hid hb1;have hNew:=Rg.Own.new w1 (ndC nd0 none 0 0) 56;have HN:=hid hNew;have HP:=hid hp1;clear hb1 hNew hp1 HC;obtain ⟨g,hg⟩:=av w1.heap.size
   have HG:=hid hg;rw [hg] at HN;clear hg;go_wp2_with (first
    | (refine ay (aX _ _ _ g HG.out.symm rfl) ?_)
    | (refine bY HN.out rfl N a1 n1 c1 HL.out rfl _ _ rfl rfl rfl rfl ?_; intro w4 hO4 cN; have cn:=hid hO4; have cg:Hid (Below w1.heap.size w1 w4):=hid (cN.below (al1 _ _) (Nat.le_of_eq HG.out)); have k0:w4.cell? ⟨g,0,none⟩=some (.int .i64 3):=cY.out ▸ aU (j:=0) hO4 rfl; clear hO4 cN))
   have ap:=hid (bst HB1.out cg.out);have hsw:=ap.out.size;have hpn:N.p.length=n1:=HP.out.len;clear HB1 cg HN HP HG;have I4:Hid (∀ j,j<=16->(dW ff j).length<=65000):=hid (λj hj=>Nat.le_trans (BI ff (16-j) j (by omega)) hxl);have wt:=k0;have hg4:g<w4.heap.size:=cn.out.1;clear k0;go_loopw [7,8,9,10] (λv i _ _ wr=>∃ j:Nat,j<=16/\i = .int .i64 j/\Hid (wr.ownsRow w4.heap.size 9 1 v (dW ff j).length ((dW ff j).map Value.string))/\Hid (Below w4.heap.size w4 wr)) (λ_ i _ _ _=>16-(intOf i).toNat)
   case atStart=>exact ⟨0,Nat.zero_le _,rfl,hid (World.ownsRow_nil _ _ _ _),hid aG⟩
   case round =>
    obtain ⟨j,hj,rfl,HR,HB⟩:=hrel;by_cases hlt:j<16
    .have ey:=hid (bst ap.out HB.out);have hji:(j:Int)<16:=by omega
     have HS:=hid (vI ff hlt);have hl1:=I4.out (j+1) (by omega);go_wp2_with fail
     refine (lh.out ⟨j,hlt⟩ wr ey.out).mono ?_;rintro e w5 ⟨a5,n5,c5,rfl,lr,hb5⟩;have kq:=hid lr;have ae:=hid hb5;clear lr hb5;go_wp2_with fail
     refine (oY.out ⟨j,hlt⟩ a5 n5 c5 w5 kq.out).mono ?_;rintro e w8 ⟨a8,n8,c8,rfl,gi,cJ⟩;have gO:=hid gi;have du:=hid (bst ae.out cJ);have lv:=hid (cn.out.below (bst HB.out du.out));have k8:w8.cell? ⟨g,0,none⟩=some (.int .i64 3):=cY.out ▸ aU (j:=0) lv.out rfl;have xf:w8.cell? ⟨g,3+j,none⟩=some (.string (rr ⟨j,hlt⟩)):=I2.out ⟨j,hlt⟩ ▸ nJ lv.out HL.out j hlt;have r6:=hid (u0.out ⟨j,hlt⟩);have r7:=hid (I3.out ⟨j,hlt⟩);obtain ⟨RJ,AH⟩:=av (rr ⟨j,hlt⟩)
     rw [AH] at xf r6 r7;clear gi cJ kq ae lv AH;by_cases hz:RJ.size=0
     .have hE:=No.dU hz;have hf0:=r7.out hz;have yd:Hid (w8.ownsRow w4.heap.size 9 1 u7 (dW ff (j+1)).length ((dW ff (j+1)).map Value.string)):=hid (by
       rw [HS.out,hf0,List.append_nil];exact ng HR.out du.out)
      have cT:=hid (bst HB.out du.out);subst hE;clear hf0 r6 r7;go_wp2;go_roundw
      case rel=>exact ⟨j+1,by omega,by go_num,yd,cT⟩
      case measure=>simp [intOf]; omega
     .have hRe:=Ni.dz (s:=RJ) (by omega);have hRl:(RJ.toList==[])=false:=by
       rw [ByteArray.toList_eq] at hRe ⊢;cases hd:RJ.data.toList with
       | nil=>rw [hd] at hRe; cases hRe
       | cons _ _=>rfl
      have u1:Hid (dW ff (j+1)=dW ff j++if D.toNat<=1/\RJ.size=32 then [RJ] else ll ⟨j,hlt⟩):=hid (by rw [HS.out,r6.out]);clear r6 r7 hz HS;by_cases hd:D<=1
      .have hd1:decide (D<=1)=true:=aI hd;by_cases h32:RJ.size=32
       .have s1:((RJ.size:Int)==32)=true:=by rw [h32]; rfl
        have s2:decide ((RJ.size:Int)=32)=true:=aI (by omega);have s3:(RJ.size==32)=true:=by rw [h32]; rfl
        have s4:decide (RJ.size=32)=true:=aI h32;have cG:=u1.out;rw [if_pos ⟨by omega,h32⟩] at cG;have dg:=hid cG;clear cG;obtain ⟨w9,r8⟩:=au (w8.alloc (.cells #[.string RJ] 9))
        have dC:w9.ownsRow w8.heap.size 9 1 (.slice (some ⟨w8.heap.size,0,none⟩) 1 1) [RJ].length ([RJ].map Value.string):=by rw [r8]; exact row_one w8 RJ
        have bj:Below w8.heap.size w8 w9:=by rw [r8]; exact al1 _ _
        have hZ:=bst du.out bj;have j9:=hid (ng HR.out hZ);have cT:=hid (bst HB.out hZ);have gS:=hid dC;have J1:Hid (_=_):=hid r8;have hsz:=cT.out.size;have hyl:(dW ff j).length+[RJ].length<=1000000:=by
         rw [dg.out,List.length_append] at hl1;omega
        have k9:=aV bj k8;clear dC r8 bj hZ;go_wp2_with (first
         | (rw [<-J1.out]; at_builtin; refine dO rfl _ _ rfl rfl rfl j9.out gS.out hyl hsz ?_))
        intro v' ai h10 cr _;have hlk:=j9.out.lt;have cD:Hid (Below w4.heap.size w4 ai):=hid (cT.out.grown cr hsz (λk hk=>(hlk k hk).1));have db:Hid (ai.ownsRow w4.heap.size 9 1 v' (dW ff (j+1)).length ((dW ff (j+1)).map Value.string)):=hid (by rw [dg.out,List.length_append,List.map_append]; exact h10);have k10:ai.cell? ⟨g,0,none⟩=some (.int .i64 3):=aV cD.out wt;clear h10 cr k9;go_wp2;go_roundw
        case rel=>exact ⟨j+1,by omega,by go_num,db,cD⟩
        case measure=>simp [intOf]; omega
       .have s1:((RJ.size:Int)==32)=false:=by rw [beq_eq_false_iff_ne]; omega
        have s2:decide ((RJ.size:Int)=32)=false:=decide_eq_false (by omega);have s3:(RJ.size==32)=false:=by rw [beq_eq_false_iff_ne]; exact h32
        have s4:decide (RJ.size=32)=false:=decide_eq_false h32;have cG:=u1.out;rw [if_neg (λe=>h32 e.2)] at cG;have dg:=hid cG;clear cG;go_wp2_with fail
        refine (HI.out ⟨j,hlt⟩ a8 n8 c8 w8 gO.out).mono ?_;rintro e w9 ⟨v9,rfl,dC,bj⟩;have hZ:=bst du.out bj;have j9:=hid (ng HR.out hZ);have cT:=hid (bst HB.out hZ);have gS:=hid dC;have hsz:=cT.out.size;have hyl:(dW ff j).length+(ll ⟨j,hlt⟩).length<=1000000:=by
         rw [dg.out,List.length_append] at hl1;omega
        have k9:=aV bj k8;clear dC bj hZ k8 xf gO;go_wp2_with (first
         | (at_builtin; refine dO rfl _ _ rfl rfl rfl j9.out gS.out hyl hsz ?_))
        intro v' ai h10 cr _;have hlk:=j9.out.lt;have cD:Hid (Below w4.heap.size w4 ai):=hid (cT.out.grown cr hsz (λk hk=>(hlk k hk).1));have db:Hid (ai.ownsRow w4.heap.size 9 1 v' (dW ff (j+1)).length ((dW ff (j+1)).map Value.string)):=hid (by rw [dg.out,List.length_append,List.map_append]; exact h10);have k10:ai.cell? ⟨g,0,none⟩=some (.int .i64 3):=aV cD.out wt;clear h10 cr k9;go_wp2;go_roundw
        case rel=>exact ⟨j+1,by omega,by go_num,db,cD⟩
        case measure=>simp [intOf]; omega
      .have hd1:decide (D<=1)=false:=decide_eq_false hd;have cG:=u1.out;rw [if_neg (λe=>hd (by omega))] at cG;have dg:=hid cG;clear cG;go_wp2_with fail
       refine (HI.out ⟨j,hlt⟩ a8 n8 c8 w8 gO.out).mono ?_;rintro e w9 ⟨v9,rfl,dC,bj⟩;have hZ:=bst du.out bj;have j9:=hid (ng HR.out hZ);have cT:=hid (bst HB.out hZ);have gS:=hid dC;have hsz:=cT.out.size;have hyl:(dW ff j).length+(ll ⟨j,hlt⟩).length<=1000000:=by
        rw [dg.out,List.length_append] at hl1;omega
       have k9:=aV bj k8;clear dC bj hZ k8 xf gO;go_wp2_with (first
        | (at_builtin; refine dO rfl _ _ rfl rfl rfl j9.out gS.out hyl hsz ?_))
       intro v' ai h10 cr _;have hlk:=j9.out.lt;have cD:Hid (Below w4.heap.size w4 ai):=hid (cT.out.grown cr hsz (λk hk=>(hlk k hk).1));have db:Hid (ai.ownsRow w4.heap.size 9 1 v' (dW ff (j+1)).length ((dW ff (j+1)).map Value.string)):=hid (by rw [dg.out,List.length_append,List.map_append]; exact h10);have k10:ai.cell? ⟨g,0,none⟩=some (.int .i64 3):=aV cD.out wt;clear h10 cr k9;go_wp2;go_roundw
       case rel=>exact ⟨j+1,by omega,by go_num,db,cD⟩
       case measure=>simp [intOf]; omega
    .obtain rfl:j=16:=by omega
     have HE:Hid (rX w (dW ff 16) (.returned _) wr):=hid ⟨_,rfl,wW HR.out hsw,bst ap.out HB.out⟩;go_wp2;go_ret;exact HE.out
theorem UG (L:Nat):L<=64->Ut L:=by
 induction L using Nat.strongRecOn with
 | ind L ih=>exact λhL=>VT hL λm hm=>ih m hm (by omega)
end Ew
end
section
open Go.RowKit
namespace Sx
open Tr Ni Pk Ky No Rf Rl Tm
open Sm (Tab)
theorem DR {k:aL} (hk:k.length=32):(Ew.wC k)[0]? = some (.int .u8 (k.getD 0 0).toNat):=by
 simp [Ew.wC,List.getD,hk]
theorem JN {M M':Mp} {w w':World} {n:Nat} {l:List (aL)} (h:Ew.qy w a n c l) (hi:Inv M w) (f:Fr M M' w w'):Ew.qy w' a n c l :=
 ⟨h.1,h.2.1,h.2.2.1,h.2.2.2.1,h.2.2.2.2.1,λj hj=>by
  obtain ⟨b,off,e,hlt,hp,hk⟩:=h.at' j hj;have h0:=hp 0 _ (DR hk);have hm:=hi.eG h0;exact ⟨b,off,e,aH hlt f.size,λi v hv=>by rw [f.cell hlt hm]; exact hp i v hv⟩⟩
theorem Vo {w w':World} {g:Nat} {t:TypeId} {n:Nat} {l:List (aL)} (h:Ew.qy w a n c l) (hu:Rg.Upd w g w') (ho:Rg.Own w g #[.pointer q] t):Ew.qy w' a n c l :=
 ⟨h.1,h.2.1,h.2.2.1,h.2.2.2.1,h.2.2.2.2.1,λj hj=>by
  obtain ⟨b,off,e,hlt,hp,hk⟩:=h.at' j hj;have h0:=hp 0 _ (DR hk);have hne:b≠g:=by
   rintro rfl;exact bX q _ _ (mG ho.2 h0)
  exact ⟨b,off,e,by rw [hu.size]; exact hlt,λi v hv=>by rw [World.cell?_of_block (hu.block b hne)]; exact hp i v hv⟩⟩
theorem Sj {M M':Mp} {w w':World} {n:Nat} {l:List Pa} (hi:Inv M w) (h:Ew.iM w a n c l) (hr:∀ ad,a=some ad->M.at_ ad.block=none) (f:Fr M M' w w'):Ew.iM w' a n c l :=
 ⟨h.1,h.2.1,h.2.2.1,h.2.2.2.1,λj hj=>by
  obtain ⟨b,off,hd,e,hlt,hc,hb⟩:=h.at' j hj;exact ⟨b,off,hd,e,aH hlt f.size,by rw [f.cell hlt (hr _ e)]; exact hc,mI hi hb f⟩⟩
theorem Eu {M M':Mp} {w w':World} {n:Nat} {l:List Tr.In} (hi:Inv M w) (h:Tm.cK w a n c l) (hr:∀ ad,a=some ad->M.at_ ad.block=none) (f:Fr M M' w w'):Tm.cK w' a n c l :=
 ⟨h.1,h.2.1,h.2.2.1,h.2.2.2.1,λj hj=>by
  obtain ⟨b,off,hd,e,hlt,hin,hbs⟩:=h.at' j hj;have hm:=hr _ e;exact ⟨b,off,hd,e,aH hlt f.size,⟨by rw [f.cell hlt hm]; exact hin.1,by rw [f.cell hlt hm]; exact hin.2⟩,mI hi hbs f⟩⟩
theorem Rb (l:List Tr.Pair) (a:aJ) (n c:Nat) (w:World) (h:mq w a n c l) (hn:n<=1000000) :
  Calls prog 10 #[.slice a n c] w λe w'=>∃ a n c,e = .returned (.slice a n c)/\Tm.cK w' a n c (iV l)/\(∀ ad,a=some ad->w.heap.size<=ad.block)/\Below w.heap.size w w':=by
 refine (Xm l a n c w h hn).mono ?_;rintro e w' ⟨v,rfl,hr,hb⟩;have hlt:=hr.lt;obtain ⟨a',n',c',rfl,hd⟩:=hr.done;exact ⟨a',n',c',rfl,hd,λad e=>(hlt ad.block (by rw [e]; rfl)).1,hb⟩
structure Sd (w0:World) (M:Mp) (w:World) (gk:Nat) (K:aL) (ka:aJ) (kn kc2:Nat) (ks:List (aL)) (ia:aJ) (ic:Nat) (I:List Tr.In) (L:List (Nat × aJ × T)):Prop where
 l:Lw w0 M w
 k:Rg.Own w gk (kc K) 25
 kl:K.length=32
 kk:Ew.qy w ka kn kc2 ks
 i:Tm.cK w ia I.length ic I
 ir:∀ ad,ia=some ad->¬ M.ft ad.block
 bs:∀ x∈L,Bx M w x.1 #[.pointer x.2.1] 31/\IsT M x.2.1 x.2.2
namespace Sd
variable {w0:World} {M M':Mp} {w w':World} {gk g:Nat} {K:aL} {ka:aJ} {kn kc2:Nat} {ks:List (aL)} {ia:aJ} {ic:Nat} {I:List Tr.In} {L L':List (Nat × aJ × T)} {p p':aJ} {t t':T}
theorem below (h:Sd w0 M w gk K ka kn kc2 ks ia ic I L) (hb:Below w.heap.size w w'):Sd w0 M w' gk K ka kn kc2 ks ia ic I L:=⟨h.l.below hb,h.k.below hb,h.kl,h.kk.below hb,h.i.below hb,h.ir,λx hx=>⟨(h.bs x hx).1.below hb,(h.bs x hx).2⟩⟩
theorem irA (h:Sd w0 M w gk K ka kn kc2 ks ia ic I L):∀ ad,ia=some ad->M.at_ ad.block=none:=λad e=>lM h.l.i (h.ir ad e)
theorem fr (h:Sd w0 M w gk K ka kn kc2 ks ia ic I L) (f:Fr M M w w') (i:Inv M w') (tt:Tab w'):Sd w0 M w' gk K ka kn kc2 ks ia ic I L:=⟨h.l.fr f i tt,pX h.k (Ap h.kl) h.l.i f,h.kl,JN h.kk h.l.i f,Eu h.l.i h.i h.irA f,h.ir,λx hx=>⟨(h.bs x hx).1.frm h.l.i f,(h.bs x hx).2⟩⟩
theorem ilt (h:Sd w0 M w gk K ka kn kc2 ks ia ic I L) (hn:0<I.length):∀ ad,ia=some ad->ad.block<w.heap.size:=λad e=>by
 obtain ⟨b,off,hd,e',hlt,_⟩:=h.i.at' 0 hn;rw [e] at e';cases e';exact hlt
theorem fn (h:Sd w0 M w gk K ka kn kc2 ks ia ic I L) (hn:0<I.length) (f:Fnw M M' w w') (i:Inv M' w') (tt:Tab w'):Sd w0 M' w' gk K ka kn kc2 ks ia ic I L:=by
 have f':Fr M M' w w':=f.fr λ_ h=>h.elim;exact ⟨h.l.fr f' i tt,pX h.k (Ap h.kl) h.l.i f',h.kl,JN h.kk h.l.i f',Eu h.l.i h.i h.irA f',λad e=>f.box (h.ir ad e) (h.ilt hn ad e),λx hx=>⟨(h.bs x hx).1.frm h.l.i f',(h.bs x hx).2.mono f'.mono⟩⟩
theorem add (h:Sd w0 M w gk K ka kn kc2 ks ia ic I L) (hx:Bx M w g #[.pointer p] 31) (ht:IsT M p t):Sd w0 M w gk K ka kn kc2 ks ia ic I ((g,p,t)::L):=⟨h.l,h.k,h.kl,h.kk,h.i,h.ir,λx hm=>by
 rcases List.mem_cons.1 hm with rfl | hm
 .exact ⟨hx,ht⟩
 .exact h.bs x hm⟩
theorem box (h:Sd w0 M w gk K ka kn kc2 ks ia ic I L) (ht:IsT M p t) (hO:Rg.Own w' w.heap.size #[.pointer p] 31) (hu:Rg.Upd (w.alloc (.cells #[.pointer none] 31)) w.heap.size w'):Sd w0 M w' gk K ka kn kc2 ks ia ic I ((w.heap.size,p,t)::L):=by
 have hb:Below w.heap.size w w':=hu.below (al1 _ _) aF;exact (h.below hb).add ⟨hO,h.l.i.free aF,bX _⟩ ht
theorem sub (h:Sd w0 M w gk K ka kn kc2 ks ia ic I L) (hL:∀ x∈L',x∈L):Sd w0 M w gk K ka kn kc2 ks ia ic I L':=⟨h.l,h.k,h.kl,h.kk,h.i,h.ir,λx hx=>h.bs x (hL x hx)⟩
theorem own (h:Sd w0 M w gk K ka kn kc2 ks ia ic I L) (hm:(g,p,t)∈L):Rg.Own w g #[.pointer p] 31:=(h.bs _ hm).1.o
theorem cell (h:Sd w0 M w gk K ka kn kc2 ks ia ic I L) (hm:(g,p,t)∈L):w.cell? ⟨g,0,none⟩=some (.pointer p):=aU (j:=0) (h.own hm) rfl
theorem tr (h:Sd w0 M w gk K ka kn kc2 ks ia ic I L) (hm:(g,p,t)∈L):IsT M p t:=(h.bs _ hm).2
theorem lt (h:Sd w0 M w gk K ka kn kc2 ks ia ic I L) (hm:(g,p,t)∈L):g<w.heap.size:=(h.own hm).1
theorem klt (h:Sd w0 M w gk K ka kn kc2 ks ia ic I L):gk<w.heap.size/\w0.heap.size<=w.heap.size:=⟨h.k.1,h.l.b.size⟩
theorem set (h:Sd w0 M w gk K ka kn kc2 ks ia ic I ((g,p,t)::L)) (hu:Rg.Upd w g w') (hO:Rg.Own w' g #[.pointer p'] 31) (ht:IsT M p' t') (h0:w0.heap.size<=g) (h1:gk≠g) (h3:∀ x∈L,x.1≠g):Sd w0 M w' gk K ka kn kc2 ks ia ic I ((g,p',t')::L):=by
 have hf:=(h.bs _ List.mem_cons_self).1.n;have ho:=(h.bs _ List.mem_cons_self).1.o;refine ⟨h.l.upd hu h0 hf,h.k.upd hu h1,h.kl,Vo h.kk hu ho,h.i.upd hu ho,h.ir,λx hm=>?_⟩;rcases List.mem_cons.1 hm with rfl | hm
 .exact ⟨⟨hO,hf,bX _⟩,ht⟩
 .have:=h.bs x (List.mem_cons_of_mem _ hm);exact ⟨this.1.upd hu (h3 x hm),this.2⟩
theorem tell {s:aK} {e:Ending} (h:Sd w0 M w gk K ka kn kc2 ks ia ic I L) (gt:rR M w s e w'):e = .returned (.string s)/\Sd w0 M w' gk K ka kn kc2 ks ia ic I L/\Fr M M w w':=by
 obtain ⟨he,hl,f⟩:=h.l.tell gt;exact ⟨he,h.fr f hl.i hl.t,f⟩
theorem refs {l:List aK} {e:Ending} (h:Sd w0 M w gk K ka kn kc2 ks ia ic I L) (gt:vv M w l e w'):∃ a n c,e = .returned (.slice a n c)/\jV w' a n c l/\Sd w0 M w' gk K ka kn kc2 ks ia ic I L/\Fr M M w w':=by
 obtain ⟨a,n,c,he,hs,_,f,i,tt⟩:=gt;exact ⟨a,n,c,he,hs,h.fr f i tt,f⟩
end Sd
structure Q6 (w0:World) (M:Mp) (w:World) (gk:Nat) (K:aL) (ka:aJ) (kn kc2:Nat) (ks:List (aL)) (ia:aJ) (ic:Nat) (I:List Tr.In) (gt:Nat) (pt:aJ) (t:T) (od ow:Option Nat):Prop where
 a:Sd w0 M w gk K ka kn kc2 ks ia ic I [(gt,pt,t)]
 d:∀ g,od=some g->Bx M w g #[.pointer none] 31/\w0.heap.size<=g/\gk≠g/\gt≠g
 v:∀ g,ow=some g->Bx M w g #[.pointer none] 31/\w0.heap.size<=g/\gk≠g/\gt≠g
 ne:∀ g g',od=some g->ow=some g'->g≠g'
namespace Q6
variable {w0:World} {M:Mp} {w:World} {gk:Nat} {K:aL} {ka:aJ} {kn kc2:Nat} {ks:List (aL)} {ia:aJ} {ic:Nat} {I:List Tr.In} {gt g gd gw:Nat} {pt pd pw:aJ} {t s dT wT:T} {od ow:Option Nat} {w':World} {f:FuncId} {args:aM}
theorem cl (h:Q6 w0 M w gk K ka kn kc2 ks ia ic I gt pt t od ow):w.cell? ⟨gt,0,none⟩=some (.pointer pt):=h.a.cell (t:=t) (by simp)
theorem tr (h:Q6 w0 M w gk K ka kn kc2 ks ia ic I gt pt t od ow):IsT M pt t:=h.a.tr (g:=gt) (by simp)
theorem fresh (h:Q6 w0 M w gk K ka kn kc2 ks ia ic I gt pt t od ow) (hg:g=w.heap.size):w0.heap.size<=g/\gk≠g/\gt≠g:=by
 have h1:=h.a.klt;have h2:=h.a.lt (g:=gt) (p:=pt) (t:=t) (by simp);omega
theorem qY (h:Q6 w0 M w gk K ka kn kc2 ks ia ic I gt pt t none ow) (hO:Rg.Own w' g #[.pointer none] 31) (hg:g=w.heap.size) (hb:Below w.heap.size w w'):Q6 w0 M w' gk K ka kn kc2 ks ia ic I gt pt t (some g) ow :=
 ⟨h.a.below hb,λx e=>by cases e; exact ⟨⟨hO,h.a.l.i.free (Nat.le_of_eq hg.symm),bX _⟩,h.fresh hg⟩,λx e=>⟨(h.v x e).1.below hb,(h.v x e).2⟩,λx y e e'=>by
  cases e;have:=(h.v y e').1.o.1;omega⟩
theorem rG (h:Q6 w0 M w gk K ka kn kc2 ks ia ic I gt pt t od none) (hO:Rg.Own w' g #[.pointer none] 31) (hg:g=w.heap.size) (hb:Below w.heap.size w w'):Q6 w0 M w' gk K ka kn kc2 ks ia ic I gt pt t od (some g) :=
 ⟨h.a.below hb,λx e=>⟨(h.d x e).1.below hb,(h.d x e).2⟩,λx e=>by cases e; exact ⟨⟨hO,h.a.l.i.free (Nat.le_of_eq hg.symm),bX _⟩,h.fresh hg⟩,λx y e e'=>by
  cases e';have:=(h.d x e).1.o.1;omega⟩
theorem got (h:Q6 w0 M w gk K ka kn kc2 ks ia ic I gt pt t od ow) (hn:0<I.length) (c:Calls prog f args w (wH M w s)):Calls prog f args w λe w'=>∃ p M',e = .returned (tv p)/\Hid (Q6 w0 M' w' gk K ka kn kc2 ks ia ic I gt pt t od ow)/\Hid (IsT M' p s/\∀ q u,IsT M q u->IsT M' q u):=c.mono λe w' ⟨p,M',he,ht,ff,i,tt⟩=>by
 have f':=ff.fr λ_ h=>h.elim;exact ⟨p,M',he,hid ⟨h.a.fn hn ff i tt,λx e=>⟨(h.d x e).1.frm h.a.l.i f',(h.d x e).2⟩,λx e=>⟨(h.v x e).1.frm h.a.l.i f',(h.v x e).2⟩,h.ne⟩,hid ⟨ht,λ_ _ h=>h.mono ff.mono⟩⟩
theorem zR (h:Q6 w0 M w gk K ka kn kc2 ks ia ic I gt pt t (some gd) (some gw)) (ht:IsT M pd dT) (hO:Rg.Own w' gd #[.pointer pd] 31) (hu:Rg.Upd w gd w'):Sd w0 M w' gk K ka kn kc2 ks ia ic I [(gw,none,.nil),(gd,pd,dT),(gt,pt,t)]:=by
 obtain ⟨h1,h2,h3,h4⟩:=h.d gd rfl;obtain ⟨h5,h6,h7,h8⟩:=h.v gw rfl;have hne:=h.ne gd gw rfl rfl;have:=((h.a.add h5 (p:=none) (t:=.nil) rfl).add h1 (p:=none) (t:=.nil) rfl).set hu hO ht h2 h3 (λx hx=>by
  simp at hx;rcases hx with rfl | rfl
  .exact λe=>hne e.symm
  .exact h4)
 exact this.sub (λx hx=>by simp at hx; rcases hx with rfl | rfl | rfl <;> simp)
theorem zS (h:Q6 w0 M w gk K ka kn kc2 ks ia ic I gt pt t (some gd) (some gw)) (hs:Sd w0 M w' gk K ka kn kc2 ks ia ic I [(gw,none,.nil),(gd,pd,dT),(gt,pt,t)]) (ht:IsT M pw wT) (hO:Rg.Own w2 gw #[.pointer pw] 31) (hu:Rg.Upd w' gw w2):Sd w0 M w2 gk K ka kn kc2 ks ia ic I [(gw,pw,wT),(gd,pd,dT),(gt,pt,t)]:=by
 obtain ⟨h5,h6,h7,h8⟩:=h.v gw rfl;have hne:=h.ne gd gw rfl rfl;exact hs.set hu hO ht h6 h7 (λx hx=>by
  simp at hx;rcases hx with rfl | rfl
  .exact hne
  .exact h8)
end Q6
structure Zd (w0:World) (M:Mp) (w:World) (gk:Nat) (K:aL) (ka:aJ) (kn kc2:Nat) (ks:List (aL)) (ia:aJ) (ic:Nat) (I:List Tr.In) (L:List (Nat × aJ × T)) (ya:aJ) (yn yc:Nat) (ws:List Pa) (S:List (aJ × Nat × Nat × List aK)):Prop where
 a:Sd w0 M w gk K ka kn kc2 ks ia ic I L
 p:Ew.iM w ya yn yc ws
 pr:∀ ad,ya=some ad->M.at_ ad.block=none
 st:∀ x∈S,jV w x.1 x.2.1 x.2.2.1 x.2.2.2
namespace Zd
variable {w0:World} {M:Mp} {w:World} {gk:Nat} {K:aL} {ka:aJ} {kn kc2:Nat} {ks:List (aL)} {ia:aJ} {ic:Nat} {I:List Tr.In} {L:List (Nat × aJ × T)} {ya:aJ} {yn yc:Nat} {ws:List Pa} {S:List (aJ × Nat × Nat × List aK)} {w':World} {f:FuncId} {args:aM} {l:List aK} {s:aK} {v:Value}
theorem below (h:Zd w0 M w gk K ka kn kc2 ks ia ic I L ya yn yc ws S) (hb:Below w.heap.size w w'):Zd w0 M w' gk K ka kn kc2 ks ia ic I L ya yn yc ws S:=⟨h.a.below hb,h.p.below hb,h.pr,λx hx=>(h.st x hx).below hb⟩
theorem fr (h:Zd w0 M w gk K ka kn kc2 ks ia ic I L ya yn yc ws S) (ff:Fr M M w w') (a:Sd w0 M w' gk K ka kn kc2 ks ia ic I L):Zd w0 M w' gk K ka kn kc2 ks ia ic I L ya yn yc ws []:=⟨a,Sj h.a.l.i h.p h.pr ff,h.pr,λx hx=>(by cases hx)⟩
theorem refs (h:Zd w0 M w gk K ka kn kc2 ks ia ic I L ya yn yc ws S) (c:Calls prog f args w (vv M w l)):Calls prog f args w λe w'=>∃ a n c,e = .returned (.slice a n c)/\Hid (Zd w0 M w' gk K ka kn kc2 ks ia ic I L ya yn yc ws [(a,n,c,l)]):=c.mono λe w' g=>by
 obtain ⟨a,n,c,he,hs,ha,hf⟩:=h.a.refs g;have hz:=h.fr hf ha;exact ⟨a,n,c,he,hid ⟨ha,hz.p,hz.pr,λx hx=>by rw [List.mem_singleton.1 hx]; exact hs⟩⟩
theorem Zm (h:Zd w0 M w gk K ka kn kc2 ks ia ic I L ya yn yc ws S) (c:Calls prog f args w (Ew.rX w l)):Calls prog f args w λe w'=>∃ a c,e = .returned (.slice a l.length c)/\Hid (Zd w0 M w' gk K ka kn kc2 ks ia ic I L ya yn yc ws ((a,l.length,c,l)::S)):=c.mono λe w' g=>by
 obtain ⟨a,c,he,hs,hb⟩:=g.st;have hz:=h.below hb;refine ⟨a,c,he,hid ⟨hz.a,hz.p,hz.pr,λx hx=>?_⟩⟩;rcases List.mem_cons.1 hx with rfl | hx
 .exact hs
 .exact hz.st x hx
theorem says (h:Zd w0 M w gk K ka kn kc2 ks ia ic I L ya yn yc ws S) (c:Calls prog f args w λe w'=>e = .returned v/\Below w.heap.size w w'):Calls prog f args w λe w'=>e = .returned v/\Hid (Zd w0 M w' gk K ka kn kc2 ks ia ic I L ya yn yc ws S):=c.mono λe w' g=>⟨g.1,hid (h.below g.2)⟩
theorem tells (h:Zd w0 M w gk K ka kn kc2 ks ia ic I L ya yn yc ws S) (c:Calls prog f args w (rR M w s)):Calls prog f args w λe w'=>e = .returned (.string s)/\Hid (Zd w0 M w' gk K ka kn kc2 ks ia ic I L ya yn yc ws []):=c.mono λe w' g=>by
 obtain ⟨he,ha,hf⟩:=h.a.tell g;exact ⟨he,hid (h.fr hf ha)⟩
theorem two {b:aJ} {n m:Nat} {l':List aK} (h:Zd w0 M w gk K ka kn kc2 ks ia ic I L ya yn yc ws ((a,n,c,l)::(b,m,d,l')::S)):jV w b m d l'/\jV w a n c l:=⟨h.st (b,m,d,l') (List.mem_cons_of_mem _ List.mem_cons_self),h.st (a,n,c,l) List.mem_cons_self⟩
end Zd
def dI (d:Int):Int:=if 1<d then d else 1
theorem Ye (d:Int):(dI d).toNat=dN d:=by
 unfold dI dN;split <;> omega
theorem YX {d:Int} (h:d<=9223372036854775807):(64:Int)<=dI d+4611686018427387904/\dI d<=9223372036854775807:=by
 unfold dI;split <;> omega
section
variable {P:List Tr.Pair} (ok:CX P) (hlen:P.length<=24)
include ok
theorem Ik:bq .nil P=build 64 (iV P):=ok.has.built ok.1 ok.2
include hlen
theorem wE:(lq (bq .nil P)).length<=2000:=by
 rw [Ik ok];have h1:=xW 64 (iV P) (yU ok.1);have h2:(64+1)*(iV P).length<=65*24:=Nat.mul_le_mul aF (Nat.le_trans (Fj _) hlen);omega
theorem JU (d:Nat):(bQ (cB d (bq .nil P))).length<=2000:=by
 rw [pI _ _ ok.has.full];exact Nat.le_trans (wX _ d ok.has.full) (wE ok hlen)
theorem Ox (ws:List Pa):(bQ (eD ws (bq .nil P))).length<=2000:=by
 rw [qV _ _ ok.has.full];exact Nat.le_trans (xJ _ ws ok.has.full) (wE ok hlen)
end
theorem Kt {P:List Tr.Pair} (ok:CX P) (ks:List (aL)) (k:aL) (hk:k∈ks):(Tr.get (eD (ks.map bT) (bq .nil P)) (path k)).isSome=true:=by
 have h:=yT (bq .nil P) (ks.map bT) (bT k) ok.has.full (lF k) (List.mem_map.2 ⟨k,hk,rfl⟩);cases hg:Tr.get (eD (ks.map bT) (bq .nil P)) (path k) with
 | none=>exact absurd hg h
 | some v=>rfl
theorem Gx {t u:T} {k:aL} {m:Tr.Key->Option aK} (h:Has t m) (hc:Cut t u) (hk:k.length=32) (s:aK) (c:Int) (hs:Db (Tr.get t (path k)) = .tuple #[.string s,.int .i64 c]) :
  (c≠8)/\((Db (Tr.get u (path k)) = .tuple #[.string eB,.int .i64 8]/\(Tr.get u (path k)).isSome=false)\/(Db (Tr.get u (path k)) = .tuple #[.string s,.int .i64 c]/\(Tr.get u (path k)).isSome=true)):=by
 have hg:=h.get k hk;constructor
 .rw [hg] at hs;cases hm:m k with
  | none =>
   rw [hm] at hs;have h2:#[Value.string eB,Value.int .i64 7] = #[Value.string s,Value.int .i64 c]:=Value.tuple.inj hs;simp at h2;omega
  | some v =>
   rw [hm] at hs;have h2:#[Value.string v,Value.int .i64 0] = #[Value.string s,Value.int .i64 c]:=Value.tuple.inj hs;simp at h2;omega
 .rcases hc.get (path k) with hu | hu
  .exact .inl ⟨by rw [hu]; rfl,by rw [hu]; rfl⟩
  .exact .inr ⟨by rw [hu]; exact hs,by rw [hu,hg]; rfl⟩
end Sx
end
end Go.Proofs.YtlcplcgigjagpaaGreatDoor
