/-
 Layer 13: awake, ProofOf's walk, of the package's own functions.
-/
import Derived.Test.YtoipgepkhomfgaaGreatDoorPd17
open Go.Lib (hid)
open Go.Proofs.Tryz
set_option linter.unusedSimpArgs false
set_option linter.unusedVariables false
set_option maxHeartbeats 40000000
set_option maxRecDepth 100000
namespace Go.Proofs.YtoipgepkhomfgaaGreatDoor
variable {b2 g j:Nat} {a h1 q:aK} {c z:Int} {ty:TypeId} {ops:Array Oper} {o:Oper} {Q:Exit->Act->World->Prop} {ev:Operand->Value}
section
open Go.RowKit
namespace Tm
open Tr Ni Pk Ky No Rf Rl
open Sm (Tab)
theorem ZL:bG (bq .nil lAB) (bJ kb)=[bg (bq .nil lAB),bg lBx]:=by kernel_rfl
theorem Zi:bE (bq .nil lAB)=fU (bg (bq .nil lAB)):=by kernel_rfl
theorem Zc:mG (bG (bq .nil lAB) (bJ kb))=[bE (bq .nil lAB),bE lBx]:=by
 have e2:bE lBx=fU (bg lBx):=rfl;have h32:32<=(fU (bg lBx)).size:=by rw [<-e2,Uo]; decide
 rw [ZL,Zi,e2];unfold mG Xp;simp [h32]
theorem Un:jI [bE (bq .nil lAB),bE lBx]=118:=by
 rw [RU,Uo];rfl
theorem NG:∀ s∈[bE (bq .nil lAB),bE lBx],s.size<=900000:=λs hs=>by
 rcases List.mem_cons.1 hs with rfl | hs
 .exact (xG.enc ZC).2
 .rw [List.mem_singleton.1 hs];exact (ER.2.enc ER.1).2
theorem ZI:[bE (bq .nil lAB),bE lBx].Nodup:=by
 have h:bE (bq .nil lAB)≠bE lBx:=λe=>Yn (by rw [iV xG.ns,iV ER.2.ns,e]);simp [h]
theorem Ju (w:World) (hT:Tab w):Calls prog 10 #[] w λe w'=>e = .returned (.bool true)/\Below w.heap.size w w':=by
 refine Lr (λM W p hi ht hT=>?_) (λM W g a n c hi hT hB hS=>?_) (λW=>Iy 1 (by omega) W) (λW=>Iy 99 (by omega) W) (λW a n c h=>?_) w hT
 .have:=Dh M p _ kb wW tL.good tL.fine ZE W hi ht hT;rw [show Tr.get (bq .nil lAB) (bJ kb)=some (some sy) from XW,Zc] at this;exact this.mono λ_ _ h=>h.yes
 .have hn:n=2:=hS.s.len.symm;exact Ls M W g a n c _ _ (iJ _) mR hi hT hB.o hS.s (by omega) ZI (λs hs=>Nat.le_trans (NG s hs) (by unfold maxLen; omega)) λW' a n c hb h hrow=>SA (hi.below hb) (hT.below hb hT.pos) a n c h λb off e=>hi.out (hrow b off e)
 .have hn:n=2:=h.len.symm;have:=PE _ NG a n c W h (by omega);rw [Un] at this;exact this
structure Fk (K:Nat->Prop) (M M':Mp) (w w':World):Prop where
 os:w'.os=w.os
 tape:w'.tape=w.tape
 output:w'.output=w.output
 size:w.heap.size<=w'.heap.size
 block:∀ k,k<w.heap.size->M.at_ k=none->¬ K k->w'.heap[k]? = w.heap[k]?
 mono:∀ k t,M.at_ k=some t->M'.at_ k=some t
 fresh:∀ k,k<w.heap.size->M.at_ k=none->M'.at_ k=none
 grow:∀ k,M.ft k->M'.ft k
 foot:∀ k,k<w.heap.size->M'.ft k->M.ft k
 nob:∀ k,K k->k<w.heap.size->M.at_ k=none/\¬ gq w k
def Kc (K:Nat->Prop) (M:Mp) (w:World):Prop:=∀ k,K k->k<w.heap.size->M.at_ k=none/\¬ gq w k
section
variable {K K1:Nat->Prop} {M M1 M2 M':Mp} {w w1 w2 w':World}
theorem Fr.k (f:Fr M M w w') (hK:Kc K M w):Fk K M M w w' :=
 ⟨f.os,f.tape,f.output,f.size,λk hk hm _=>f.block k hk hm,f.mono,f.fresh,f.grow,λ_ _ h=>h,hK⟩
theorem Fk.fr (f:Fk K M M' w w') (h:∀ k,K k->w.heap.size<=k):Fr M M' w w' :=
 ⟨f.os,f.tape,f.output,f.size,λk hk hm=>f.block k hk hm λe=>by have:=h k e; omega,f.mono,f.fresh,f.grow,λk hf=>by
  by_cases hl:k<w.heap.size
  .exact .inl (f.foot k hl hf)
  .exact .inr (.inl (by omega))⟩
abbrev Fnw:=Fk λ_=>False
theorem Fnw.k (f:Fnw M M' w w') (hK:Kc K M w):Fk K M M' w w' :=
 ⟨f.os,f.tape,f.output,f.size,λk hk hm _=>f.block k hk hm λh=>h,f.mono,f.fresh,f.grow,f.foot,hK⟩
theorem Fr.n (f:Fr M M' w w') (h:∀ k,k<w.heap.size->M'.ft k->M.ft k):Fnw M M' w w' :=
 ⟨f.os,f.tape,f.output,f.size,λk hk hm _=>f.block k hk hm,f.mono,f.fresh,f.grow,h,λ_ h=>h.elim⟩
theorem Fnw.of (f:Fr M M w w'):Fnw M M w w':=Fr.n f λ_ _ h=>h
theorem Fk.trans (h:Fk K M M1 w w1) (g:Fk K1 M1 M2 w1 w2) (hk:∀ k,K1 k->K k\/w.heap.size<=k):Fk K M M2 w w2:=by
 have hs:=h.size;have hn1:∀ k,k<w.heap.size->¬ K k->¬ K1 k:=λk hl hn h1=>(hk k h1).elim hn (by omega);exact ⟨g.os.trans h.os,g.tape.trans h.tape,g.output.trans h.output,Nat.le_trans hs g.size,λk hl hm hn=>(g.block k (by omega) (h.fresh k hl hm) (hn1 k hl hn)).trans (h.block k hl hm hn),λk t hm=>g.mono k t (h.mono k t hm),λk hl hm=>g.fresh k (by omega) (h.fresh k hl hm),λk hf=>g.grow k (h.grow k hf),λk hl hf=>h.foot k hl (g.foot k (by omega) hf),h.nob⟩
theorem Fk.box (f:Fk K M M' w w') (hg:¬ M.ft g) (hlt:g<w.heap.size):¬ M'.ft g:=λh=>hg (f.foot g hlt h)
theorem Wp {n c:Nat} {l:aM} (hi:Inv M w) (h:bf w a n c l) (f:Fk K M M' w w'):bf w' a n c l:=by
 refine ⟨h.1,h.2.1,h.2.2.1,h.2.2.2.1,λj hj=>?_⟩;obtain ⟨b,off,e,hlt,hc⟩:=h.2.2.2.2 j hj;exact ⟨b,off,e,aI hlt f.size,by rw [World.cell?_of_block (w:=w) (f.block b hlt (hi.cZ hc) λhk=>(f.nob b hk hlt).2 ⟨_,_,hc⟩)]; exact hc⟩
theorem Za {cs:aN} {t:TypeId} (h:Rg.Own w g cs t) (f:Fk K M M' w w') (hm:M.at_ g=none) (hg:¬ K g):Rg.Own w' g cs t:=⟨aI h.1 f.size,(f.block g h.1 hm hg).trans h.2⟩
theorem Bx.fk {cs:aN} {t:TypeId} (h:Bx M w g cs t) (hi:Inv M w) (f:Fk K M M' w w') (hg:¬ K g):Bx M' w' g cs t:=⟨Za h.o f (nR hi h.n) hg,f.box h.n h.o.1,h.h⟩
end
section
variable {P:Program} {w w':World} {b:Nat} {R R':Value->Value->Prop} {t kt et:TypeId} {fs:Array Field} {key val:Value}
end
end Tm
end
section
open Go.RowKit
namespace Sx
open Tr Ni Pk Ky
open Tm
abbrev Iv:Type:=Pa × aK
def inC (x:Iv) (h:Hdl):List Value:=[.slice h.1 h.2.1 h.2.2,.pointer x.2]
def inA (x:Iv) (h:Hdl):aN:=#[.slice h.1 h.2.1 h.2.2,.pointer x.2]
theorem MU:(prog.info? 233).map (λi=>(i.zero,i.size,i.bytes))=some (some (.agg #[.slice none 0 0,.pointer none]),2,32):=by kernel_rfl
theorem BL:∃ i z,prog.info? 233=some i/\i.zero=some z/\i.size=2/\i.bytes=32/\z.cells.size=2:=by
 obtain ⟨i0,hi,hz,hs,hby⟩:=info_parts MU;exact ⟨i0,_,hi,hz,hs,hby,rfl⟩
def Zw (w:World) (b o:Nat) (x:Iv) (h:Hdl):Prop:=w.cell? ⟨b,o,none⟩=some (.slice h.1 h.2.1 h.2.2)/\w.cell? ⟨b,o+1,none⟩=some (.pointer x.2)
def qZ (w:World) (a:aK) (n c:Nat) (l:List Iv):Prop :=
 n<=c/\c<=maxLen/\l.length=n/\(a=none->c=0)/\∀ j,j<n->∃ b off h,a=some ⟨b,off,none⟩/\b<w.heap.size/\Zw w b (off+j*2) (l.getD j ([],none)) h/\bf w h.1 h.2.1 h.2.2 (l.getD j ([],none)).1
theorem qZ.len {w:World} {n c:Nat} {l:List Iv} (h:qZ w a n c l):l.length=n:=h.2.2.1
theorem qZ.at' {w:World} {n c:Nat} {l:List Iv} (h:qZ w a n c l) (j:Nat) (hj:j<n):∃ b off h,a=some ⟨b,off,none⟩/\b<w.heap.size/\Zw w b (off+j*2) (l.getD j ([],none)) h/\bf w h.1 h.2.1 h.2.2 (l.getD j ([],none)).1:=h.2.2.2.2 j hj
theorem qZ.nil (w:World):qZ w none 0 0 []:=⟨aG,Nat.zero_le _,rfl,λ_=>rfl,λ_ h=>absurd h (Nat.not_lt_zero _)⟩
def oK:List Iv->List Hdl->List Value
 | x::xs,h::hs=>.slice h.1 h.2.1 h.2.2 :: .pointer x.2::oK xs hs
 | _,_=>[]
theorem xZ:∀ (xs:List Iv) (hs:List Hdl) (x:Iv) (h:Hdl),hs.length=xs.length->oK (xs++[x]) (hs++[h])=oK xs hs++inC x h
 | [],[],_,_,_=>rfl
 | y::xs,g::hs,x,h,e=>by
  have:=xZ xs hs x h (by simpa using e);simp [oK,this]
theorem Ei:∀ (xs:List Iv) (hs:List Hdl) (j:Nat) (x:Iv) (h:Hdl),xs[j]? = some x->hs[j]? = some h->
  (oK xs hs)[j*2]? = some (.slice h.1 h.2.1 h.2.2)/\(oK xs hs)[j*2+1]? = some (.pointer x.2)
 | [],_,_,_,_,hx,_=>by simp at hx
 | _::_,[],_,_,_,_,hh=>by simp at hh
 | y::xs,g::hs,0,x,h,hx,hh=>by
  simp at hx hh;subst hx hh;simp [oK]
 | y::xs,g::hs,j+1,x,h,hx,hh=>by
  have:=Ei xs hs j x h (by simpa using hx) (by simpa using hh);rw [show (j+1)*2=j*2+2 by omega];simp only [oK,List.getElem?_cons_succ];exact this
def oU (B:Nat) (w:World) (v:Value) (xs:List Iv):Prop :=
 ∃ hs:List Hdl,hs.length=xs.length/\w.ownsRow B 233 2 v xs.length (oK xs hs)/\∀ (j:Nat) (x:Iv) (h:Hdl),xs[j]? = some x->hs[j]? = some h->BsP (λb=>v.ownBlock≠some b) w h x.1
theorem oU.nil (B:Nat) (w:World):oU B w (.slice none 0 0) []:=⟨[],rfl,World.ownsRow_nil _ _ _ _,λ_ _ _ hx _=>by simp at hx⟩
theorem oU.lt {B:Nat} {w:World} {v:Value} {xs:List Iv} (h:oU B w v xs):∀ k,v.ownBlock=some k->B<=k/\k<w.heap.size:=by
 obtain ⟨hs,_,ho,_⟩:=h;exact ho.lt
theorem oU.below {B:Nat} {w w':World} {v:Value} {xs:List Iv} (h:oU B w v xs) (hb:Below w.heap.size w w'):oU B w' v xs:=by
 obtain ⟨hs,hlen,ho,hi⟩:=h;exact ⟨hs,hlen,ho.kept (Bu.gL hb) (by cases v.ownBlock <;> simp),λj x h hx hh=>(hi j x h hx hh).kept hb.size λb _ hlt=>hb.block b hlt⟩
theorem oU.push {B:Nat} {w w':World} {v v':Value} {xs:List Iv} {x:Iv} {h:Hdl} {hs:List Hdl} (hlen:hs.length=xs.length) (hi:∀ (j:Nat) (x:Iv) (h:Hdl),xs[j]? = some x->hs[j]? = some h->BsP (λb=>v.ownBlock≠some b) w h x.1)
  (hI:BsP (λb=>v.ownBlock≠some b) w h x.1) (ho:w'.ownsRow B 233 2 v' (xs.length+1) (oK xs hs++inC x h))
  (hg:w.grownBy w' v.ownBlock) (hat:v'.ownBlock=v.ownBlock\/v'.ownBlock=some w.heap.size):oU B w' v' (xs++[x]):=by
 have keep:∀ {l:aM} {h:Hdl},BsP (λb=>v.ownBlock≠some b) w h l->BsP (λb=>v'.ownBlock≠some b) w' h l:=λ{l h} hh=>by
  have h1:=hh.to (q:=λb=>v'.ownBlock≠some b/\v.ownBlock≠some b) λb hlt hb=>⟨λe=>by
   rcases hat with h2 | h2
   .exact hb (h2 ▸ e)
   .rw [h2] at e;have:=Option.some.inj e;omega,hb⟩
  have h2:=h1.kept (w':=w') hg.size λb hb hlt=>hg.block b hlt (λe=>hb.2 e.symm);exact h2.to λb _ hb=>hb.1
 refine ⟨hs++[h],by simp [hlen],?_,λj y g hy hh=>?_⟩
 .rw [List.length_append,xZ xs hs x h hlen];exact ho
 .by_cases hj:j<xs.length
  .rw [List.getElem?_append_left hj] at hy;rw [List.getElem?_append_left (by omega)] at hh;exact keep (hi j y g hy hh)
  .have hj2:j=xs.length:=by
    have:=(List.getElem?_eq_some_iff.1 hy).1;simp at this;omega
   subst hj2;rw [List.getElem?_append_right aG,Nat.sub_self] at hy;rw [List.getElem?_append_right (by omega),hlen,Nat.sub_self] at hh;simp at hy hh;subst hy hh;exact keep hI
theorem oU.done {B:Nat} {w:World} {v:Value} {xs:List Iv} (h:oU B w v xs):∃ a n cap,v = .slice a n cap/\qZ w a n cap xs:=by
 obtain ⟨hs,hlen,ho,hi⟩:=h;rcases ho.2 with ⟨rfl,hz⟩ | ⟨g,cap,cur,rfl,hbg,hg,hnc,hcm,hcs,htake⟩
 .have:xs=[]:=List.eq_nil_of_length_eq_zero hz;subst this;exact ⟨none,0,0,rfl,qZ.nil _⟩
 .refine ⟨_,_,_,rfl,hnc,hcm,rfl,λe=>(by cases e),λj hj=>?_⟩;have hx:xs[j]? = some (xs.getD j ([],none)):=by simp [hj]
  have hh:hs[j]? = some (hs.getD j (none,0,0)):=by simp [show j<hs.length by omega]
  obtain ⟨f0,f1⟩:=Ei xs hs j _ _ hx hh;have e:∀ i,(⟨g,0,none⟩:Addr).add i=⟨g,0+i,none⟩:=λi=>Addr.add_mid g 0 i;refine ⟨g,0,hs.getD j (none,0,0),rfl,(Array.getElem?_eq_some_iff.1 hg).1,⟨?_,?_⟩,(hi j _ _ hx hh).1⟩
  .have:=ho.cells (g:=g) rfl _ _ f0;rw [e] at this;exact this
  .have:=ho.cells (g:=g) rfl _ _ f1;rw [e,<-Nat.add_assoc] at this;exact this
theorem Gf {w:World} {B:Nat} {v:Value} {xs:List Iv} {x:Iv} {h:Hdl} (hR:oU B w v xs) (h2:Rg.Own w b2 (inA x h) 233) (hI:BsP (λb=>v.ownBlock≠some b) w h x.1) (hn:xs.length<=1000000) (hB:B<=w.heap.size) :
  ∃ v' w',(Builtin.append_ #[230,230] ty #[v,.slice (some ⟨b2,0,none⟩) 1 1]).run prog w = .ok v' w'/\oU B w' v' (xs++[x])/\w.grownBy w' v.ownBlock:=by
 obtain ⟨i0,z0,hi,hz,hsz,hby,hzc⟩:=BL;obtain ⟨hs',hlen,hown,hi'⟩:=hR;obtain ⟨v',w',hr,h3,h4,_,h5⟩:=run_append_own_at (P:=prog) w B 230 ty 233 i0 z0 2 32 underlying230 hi hz hsz hby hzc (by decide) v xs.length _ hown ⟨b2,0,none⟩ 1 1 (inC x h) rfl
  (λj u hu=>by
   rw [Addr.add_mid,Nat.zero_add,cell_of_row w b2 _ _ _ _ h2.2];unfold inA;simpa [inC] using hu)
  (λu hu=>by unfold inC at hu; simp at hu; rcases hu with rfl | rfl <;> rfl) (by unfold maxLen; omega) (by omega) hB
 exact ⟨v',w',hr,oU.push hlen hi' hI h3 h4 h5,h4⟩
theorem yt {rest:List Oper} {a:Act} {w:World} {B:Nat} {v:Value} {xs:List Iv} {x:Iv} {h:Hdl} (hgd:o.guard=none)
  (ho:∃ s y,o.op = .call { callee:=.builtin .append,args:=#[s,y],argTypes:=#[230,230] }/\a.eval s=v/\a.eval y = .slice (some ⟨b2,0,none⟩) 1 1)
  (hR:oU B w v xs) (h2:Rg.Own w b2 (inA x h) 233) (hI:BsP (λb=>v.ownBlock≠some b) w h x.1) (hn:xs.length<=1000000) (hB:B<=w.heap.size)
  (H:∀ v' w',oU B w' v' (xs++[x])->w.grownBy w' v.ownBlock->wpList prog ops Q rest (a.put o.dst v') w'):wpList prog ops Q (o::rest) a w:=by
 obtain ⟨s,y,ho,hs,hy⟩:=ho;refine wpList_plain hgd λK hK=>?_;obtain ⟨v',w',hr,h3,h4⟩:=Gf (ty:=o.type) hR h2 hI hn hB;unfold Oper.wp execOp;simp only [ho,resolve,invoke,builtin,Sem.run_bind,Sem.run_pure,Result.andThen_ok,List.map_toArray,List.map_cons,List.map_nil,hs,hy,hr];exact hK _ _ (H v' w' h3 h4)
theorem yu {B:Nat} {w0 w w':World} {v:Value} {xs:List Iv} (hR:oU B w v xs) (hb:Below B w0 w) (hB:B<=w.heap.size) (hg:w.grownBy w' v.ownBlock):Below B w0 w':=hb.grown hg hB (λg hg=>(hR.lt g hg).1)
theorem OJ {B:Nat} {w0 w:World} {v:Value} {xs:List Iv} {h:Hdl} {l:aM} (hR:oU B w v xs) (g:bf w0 h.1 h.2.1 h.2.2 l) (hb:Below w0.heap.size w0 w) (hB:w0.heap.size<=B):BsP (λb=>v.ownBlock≠some b) w h l:=by
 have h1:=(BsP.old g).kept hb.size λb hlt _=>hb.block b hlt;exact h1.to λb _ hlt e=>by have:=(hR.lt b e).1; omega
theorem Lc {ev:Operand->Value} {o:Oper} {w:World} {b off:Nat} {x:Iv} {h:Hdl} (g:Zw w b off x h) (ho:∃ y,o.op = .load 233 y/\ev y = .pointer (some ⟨b,off,none⟩)) :
  (execOp ev o).run prog w = .ok (.value (.agg (inA x h))) w:=by
 obtain ⟨y,ho,hx⟩:=ho;have hl:=run_loadAt_mid (P:=prog) w b off 233 (inC x h) _ (λj u hu=>by
  match j,hu with
  | 0,hu=>cases hu; exact g.1
  | 1,hu=>cases hu; exact g.2) underlying233 rfl (by
  obtain ⟨i0,hi,hz,hs,hby⟩:=info_parts MU;rw [hi];simp [hs,inC])
 unfold execOp;simp only [ho,hx,Sem.run_bind,Sem.run_pure,Result.andThen_ok,hl];rfl
end Sx
end
section
namespace Tr
open Rf Rl Ni No
def Cut:T->T->Prop
 | .ext q s,t'=>∃ s',t' = .ext q s'/\(s' = .stub (ref s)/\s ≠ .nil\/Cut s s')
 | .br ks,t'=>∃ ks',t' = .br ks'/\∀ i,ks' i = .stub (ref (ks i))/\ks i ≠ .nil\/Cut (ks i) (ks' i)
 | t,t'=>t'=t
theorem Cut.ref:∀ {t t':T},Cut t t'->Tr.ref t'=Tr.ref t
 | .nil,_,h=>by rw [show _=T.nil from h]
 | .leaf _ _,_,h=>by rw [show _=T.leaf _ _ from h]
 | .stub _,_,h=>by rw [show _=T.stub _ from h]
 | .ext q s,_,h=>by
  obtain ⟨s',rfl,h⟩:=h;have e:Tr.ref s'=Tr.ref s:=by
   rcases h with ⟨rfl,_⟩ | h
   .rfl
   .exact h.ref
  show ofP (fU ⟨2,q,eB,fM (Tr.ref s')⟩)=ofP (fU ⟨2,q,eB,fM (Tr.ref s)⟩);rw [e]
 | .br ks,_,h=>by
  obtain ⟨ks',rfl,h⟩:=h;have e:∀ i,Tr.ref (ks' i)=Tr.ref (ks i):=λi=>by
   rcases h i with ⟨e,_⟩ | h
   .rw [e]; rfl
   .exact h.ref
  show ofP (fU ⟨3,[],eB,dx λi=>Tr.ref (ks' i)⟩)=ofP (fU ⟨3,[],eB,dx λi=>Tr.ref (ks i)⟩);rw [show (λi=>Tr.ref (ks' i))=λi=>Tr.ref (ks i) from funext e]
def Sub (s s':T):Prop:=s' = .stub (ref s)/\s ≠ .nil\/Cut s s'
theorem Sub.ref {s s':T} (h:Sub s s'):Tr.ref s'=Tr.ref s:=by
 rcases h with ⟨rfl,_⟩ | h
 .rfl
 .exact h.ref
theorem Cut.node {t t':T} (h:Cut t t'):bg t'=bg t:=by
 cases t with
 | nil=>rw [show t'=T.nil from h]
 | leaf p v=>rw [show t'=T.leaf _ _ from h]
 | stub r=>rw [show t'=T.stub _ from h]
 | ext q s =>
  obtain ⟨s',rfl,h⟩:=h;show (⟨2,q,eB,fM (Tr.ref s')⟩:Nd)=⟨2,q,eB,fM (Tr.ref s)⟩
  rw [Sub.ref h]
 | br ks =>
  obtain ⟨ks',rfl,h⟩:=h;show (⟨3,[],eB,dx λi=>Tr.ref (ks' i)⟩:Nd)=⟨3,[],eB,dx λi=>Tr.ref (ks i)⟩
  rw [show (λi=>Tr.ref (ks' i))=λi=>Tr.ref (ks i) from funext λi=>Sub.ref (h i)]
theorem Cut.ZA {t t':T} (h:Cut t t') (g:Cj t):Cj t':=by
 cases t with
 | nil=>exact g.elim
 | leaf p v=>exact g.elim
 | ext q s=>exact g.elim
 | stub r=>rw [show t'=T.stub _ from h]; trivial
 | br ks =>
  obtain ⟨ks',rfl,_⟩:=h
  trivial
theorem Cut.ne {t t':T} (h:Cut t t') (g:t ≠ .nil):t' ≠ .nil:=by
 cases t with
 | nil=>exact absurd rfl g
 | leaf p v=>rw [show t'=T.leaf _ _ from h]; intro e; cases e
 | stub r=>rw [show t'=T.stub _ from h]; intro e; cases e
 | ext q s =>
  obtain ⟨s',rfl,_⟩:=h;intro e; cases e
 | br ks =>
  obtain ⟨ks',rfl,_⟩:=h;intro e; cases e
theorem Cut.nil {t':T} (h:Cut .nil t'):t' = .nil:=h
theorem Cut.good:∀ {t t':T} {L:Nat},Cut t t'->Good t L->Good t' L
 | .nil,_,_,h,g=>by rw [show _=T.nil from h]; exact g
 | .leaf _ _,_,_,h,g=>by rw [show _=T.leaf _ _ from h]; exact g
 | .stub _,_,_,h,g=>by rw [show _=T.stub _ from h]; exact g
 | .ext q s,_,L,h,g=>by
  obtain ⟨s',rfl,h⟩:=h;refine ⟨g.1,g.2.1,g.2.2.1,?_,?_⟩
  .rcases h with ⟨rfl,_⟩ | h
   .trivial
   .exact h.ZA g.2.2.2.1
  .rcases h with ⟨rfl,_⟩ | h
   .trivial
   .exact h.good g.2.2.2.2
 | .br ks,_,L,h,g=>by
  obtain ⟨ks',rfl,h⟩:=h;obtain ⟨h1,⟨i,j,hij,hi,hj⟩,h3⟩:=g;have hne:∀ i,ks i ≠ .nil->ks' i ≠ .nil:=λi hi=>by
   rcases h i with ⟨e,_⟩ | h
   .rw [e]; intro e; cases e
   .exact h.ne hi
  refine ⟨h1,⟨i,j,hij,hne i hi,hne j hj⟩,λi=>?_⟩;rcases h i with ⟨e,_⟩ | h
  .rw [e]; trivial
  .exact h.good (h3 i)
theorem Cut.fine:∀ {t t':T} {L:Nat},Cut t t'->Good t L->L<=64->Fine t->Fine t'
 | .nil,_,_,h,_,_,f=>by rw [show _=T.nil from h]; exact f
 | .leaf _ _,_,_,h,_,_,f=>by rw [show _=T.leaf _ _ from h]; exact f
 | .stub _,_,_,h,_,_,f=>by rw [show _=T.stub _ from h]; exact f
 | .ext q s,_,L,h,g,hL,f=>by
  obtain ⟨s',rfl,h⟩:=h;rcases h with ⟨rfl,hn⟩ | h
  .exact (eT s _ g.2.2.2.2 (by omega) f hn).2
  .exact h.fine g.2.2.2.2 (by omega) f
 | .br ks,_,L,h,g,hL,f=>by
  obtain ⟨ks',rfl,h⟩:=h;intro i;rcases h i with ⟨e,hn⟩ | h
  .rw [e]; exact (eT (ks i) _ (g.2.2 i) (by omega) (f i) hn).2
  .exact h.fine (g.2.2 i) (by omega) (f i)
theorem EX {s:T} (h:(ref s).size=32):s ≠ .nil:=by
 rintro rfl;have h2:(0:Nat)=32:=h;omega
def onP (q:Pa) (ws:List Pa):List Pa:=(ws.filter λw=>decide (q<+:w)).map λw=>w.drop q.length
def onC (c:Nat) (ws:List Pa):List Pa:=(ws.filter λw=>decide (w≠[]/\(w.headD 0).toNat=c)).map List.tail
def fH:List Pa->T->T
 | ws,.ext q s=>.ext q (if onP q ws=[]/\(ref s).size=32 then .stub (ref s) else fH (onP q ws) s)
 | ws,.br ks=>.br λi=>if onC i.val ws=[]/\(ref (ks i)).size=32 then .stub (ref (ks i)) else fH (onC i.val ws) (ks i)
 | _,t=>t
theorem wm:∀ (t:T) (ws:List Pa),Cut t (fH ws t)
 | .nil,_=>rfl
 | .leaf _ _,_=>rfl
 | .stub _,_=>rfl
 | .ext q s,ws=>by
  refine ⟨_,rfl,?_⟩;by_cases h:onP q ws=[]/\(ref s).size=32
  .rw [if_pos h]; exact .inl ⟨rfl,EX h.2⟩
  .rw [if_neg h]; exact .inr (wm s _)
 | .br ks,ws=>by
  refine ⟨_,rfl,λi=>?_⟩;by_cases h:onC i.val ws=[]/\(ref (ks i)).size=32
  .rw [if_pos h]; exact .inl ⟨rfl,EX h.2⟩
  .rw [if_neg h]; exact .inr (wm (ks i) _)
theorem XC {q w:Pa} {ws:List Pa} (hw:w∈ws) (h:q<+:w):w.drop q.length∈onP q ws:=List.mem_map.2 ⟨w,List.mem_filter.2 ⟨hw,aJ h⟩,rfl⟩
theorem XL {c:UInt8} {r:Pa} {ws:List Pa} (hw:c::r∈ws):r∈onC c.toNat ws:=List.mem_map.2 ⟨c::r,List.mem_filter.2 ⟨hw,aJ ⟨by simp,rfl⟩⟩,rfl⟩
theorem wU:∀ (t:T) (ws:List Pa) (w:Pa),Full t->Nib w->w∈ws->Tr.get (fH ws t) w≠none
 | .nil,_,_,_,_,_=>by intro e; cases e
 | .leaf _ _,_,_,_,_,_=>by intro e; cases e
 | .stub _,_,_,f,_,_=>f.elim
 | .ext q s,ws,w,f,hn,hw=>by
  show Tr.get (.ext q _) w≠none;by_cases hq:q<+:w
  .have hm:=XC hw hq;have hne:onP q ws≠[]:=λe=>by rw [e] at hm; cases hm
   rw [if_neg (λh=>hne h.1)];simp only [Tr.get,if_pos hq];exact wU s _ _ f (hn.drop _) hm
  .rw [iD _ hq];intro e; cases e
 | .br ks,ws,[],_,_,_=>by intro e; cases e
 | .br ks,ws,c::r,f,hn,hw=>by
  show Tr.get (if onC (nb c).val ws=[]/\(ref (ks (nb c))).size=32 then .stub (ref (ks (nb c))) else fH (onC (nb c).val ws) (ks (nb c))) r≠none;have hv:(nb c).val=c.toNat:=Nat.mod_eq_of_lt hn.head;have hm:=XL hw;rw [<-hv] at hm;have hne:onC (nb c).val ws≠[]:=λe=>by rw [e] at hm; cases hm
  rw [if_neg (λh=>hne h.1)];exact wU (ks (nb c)) _ _ (f _) hn.tail hm
end Tr
end
section
namespace Tr
open Rf Rl Ni No
theorem TF {α:Type} {f : α->Nat} {l:List α} (h:(l.map f).sum=0):∀ i∈l,f i=0:=by
 induction l with
 | nil=>intro i hi; cases hi
 | cons x l ih =>
  simp only [List.map_cons,List.sum_cons] at h;intro i hi;rcases List.mem_cons.1 hi with rfl | hi
  .omega
  .exact ih (by omega) i hi
theorem zx:∀ {t u:T},Cut t u->fG u=0->u=t
 | .nil,_,h,_=>h
 | .leaf _ _,_,h,_=>h
 | .stub _,_,h,_=>h
 | .ext q s,_,h,hz=>by
  obtain ⟨s',rfl,h⟩:=h;rcases h with ⟨rfl,_⟩ | h
  .cases hz
  .rw [zx h hz]
 | .br ks,_,h,hz=>by
  obtain ⟨ks',rfl,h⟩:=h;congr 1;funext i;have hi:fG (ks' i)=0:=TF hz i (List.mem_finRange i);rcases h i with ⟨e,_⟩ | h
  .rw [e] at hi; cases hi
  .exact zx h hi
end Tr
end
section
namespace Tr
open Rf Rl Ni No
theorem XM (q:Pa) (a b:List Pa):onP q (a++b)=onP q a++onP q b:=by simp [onP]
theorem WR (q w:Pa):onP q [w]=if q<+:w then [w.drop q.length] else []:=by
 unfold onP;by_cases h:q<+:w
 .simp [h]
 .simp [h]
theorem Vq (q:Pa) (ws:List Pa) (h:j<ws.length):onP q (ws.take (j+1))=onP q (ws.take j)++if q<+:ws.getD j [] then [(ws.getD j []).drop q.length] else []:=by
 rw [List.take_succ_eq_append_getElem h,XM,WR];simp [List.getD,h]
theorem Vf (q:Pa) (ws:List Pa):(onP q ws).length<=ws.length:=by
 unfold onP;rw [List.length_map];exact List.length_filter_le _ _
end Tr
end
section
open Go.RowKit
namespace Sx
open Tr Rf Rl Ni No Tm
def nZ (i:Fin 16):Pa:=[UInt8.ofNat i.val]
def dO:T->List Pa
 | .ext q _=>[q]
 | .br ks=>(bI ks).map nZ
 | _=>[]
def vZ (F:Pa->T->T):T->T
 | .ext q s=>.ext q (F q s)
 | .br ks=>.br λi=>if isNil (ks i) then .nil else F (nZ i) (ks i)
 | t=>t
def qG (F:Pa->T->T):T->List T
 | .ext q s=>[F q s]
 | .br ks=>(bI ks).map λi=>F (nZ i) (ks i)
 | _=>[]
def kE (C:Pa->T->Nat) (t:T) (j:Nat):Nat:=((List.range j).map λi=>C ((dO t).getD i []) ((aY t).getD i .nil)).sum
theorem Ot (C:Pa->T->Nat) (t:T) (j:Nat):kE C t (j+1)=kE C t j+C ((dO t).getD j []) ((aY t).getD j .nil):=by
 unfold kE;rw [List.range_succ,List.map_append,List.sum_append];simp
theorem vG (F:Pa->T->T) (t:T):(qG F t).length=(aY t).length:=by
 cases t with
 | br ks=>simp [qG,aY]
 | _=>rfl
theorem getD_map {α β:Type} (f : α->β) (l:List α) (d : β) (j:Nat) (hj:j<l.length):(l.map f).getD j d=f l[j]:=by
 rw [List.getD_eq_getElem?_getD,List.getElem?_map,List.getElem?_eq_getElem hj];rfl
theorem EU (F:Pa->T->T) (t:T) (j:Nat) (hj:j<(aY t).length):(qG F t).getD j .nil=F ((dO t).getD j []) ((aY t).getD j .nil):=by
 cases t with
 | nil=>cases hj
 | leaf p v=>cases hj
 | stub r=>cases hj
 | ext q s =>
  obtain rfl:j=0:=by
   have:j<1:=hj;omega
  rfl
 | br ks =>
  have h1:j<(bI ks).length:=by simpa [aY] using hj
  show ((bI ks).map _).getD j .nil=F (((bI ks).map nZ).getD j []) (((bI ks).map ks).getD j .nil);rw [getD_map _ _ _ _ h1,getD_map _ _ _ _ h1,getD_map _ _ _ _ h1]
def OkF (F:Pa->T->T) (C:Pa->T->Nat) (t:T):Prop:=∀ j,j<(aY t).length->
 ref (F ((dO t).getD j []) ((aY t).getD j .nil))=ref ((aY t).getD j .nil)/\(∃ L,Tr.Good (F ((dO t).getD j []) ((aY t).getD j .nil)) L/\L<=64/\Fine (F ((dO t).getD j []) ((aY t).getD j .nil)))/\
 (C ((dO t).getD j []) ((aY t).getD j .nil)=0->F ((dO t).getD j []) ((aY t).getD j .nil)=(aY t).getD j .nil)/\
 ((bg t).kd=2->dB (F ((dO t).getD j []) ((aY t).getD j .nil))≠1/\dB (F ((dO t).getD j []) ((aY t).getD j .nil))≠2)
theorem Tt {ks:Fin 16->T} {i:Fin 16} (h:ks i ≠ .nil):rank ks i<(aY (.br ks)).length/\(aY (.br ks)).getD (rank ks i) .nil=ks i/\(dO (.br ks)).getD (rank ks i) []=nZ i:=by
 have h1:=XK h;have h2:(bI ks)[rank ks i]=i:=by
  have:=sF h;rw [List.getElem?_eq_getElem h1] at this;exact Option.some.inj this
 refine ⟨by simpa [aY] using h1,?_,?_⟩
 .show ((bI ks).map ks).getD _ _=_;rw [getD_map _ _ _ _ h1,h2]
 .show ((bI ks).map nZ).getD _ _=_;rw [getD_map _ _ _ _ h1,h2]
theorem SE {F:Pa->T->T} {C:Pa->T->Nat} {t:T} (h:OkF F C t):bg (vZ F t)=bg t:=by
 cases t with
 | nil=>rfl
 | leaf p v=>rfl
 | stub r=>rfl
 | ext q s =>
  have:=(h 0 (by show 0<1; omega)).1;show (⟨2,q,eB,fM (ref (F q s))⟩:Nd)=⟨2,q,eB,fM (ref s)⟩
  rw [show ref (F q s)=ref s from this]
 | br ks =>
  show (⟨3,[],eB,dx λi=>ref (if isNil (ks i) then .nil else F (nZ i) (ks i))⟩:Nd)=⟨3,[],eB,dx λi=>ref (ks i)⟩
  congr 2;funext i;cases hi:isNil (ks i) with
  | true=>rw [if_pos rfl,bM.1 hi]
  | false =>
   have hne:ks i ≠ .nil:=λe=>by rw [bM.2 e] at hi; cases hi
   obtain ⟨h1,h2,h3⟩:=Tt hne;have:=(h _ h1).1;rw [h2,h3] at this;rw [if_neg (by decide),this]
theorem Ga {F:Pa->T->T} {t:T} {L:Nat} (g:Tr.Good t L) (hL:L<=64) (f:Fine t) (hn:t ≠ .nil) (hs:¬ dQ t):makeT (bg t) (qG F t)=vZ F t:=by
 cases t with
 | nil=>exact absurd rfl hn
 | leaf p v=>rfl
 | stub r=>exact absurd trivial hs
 | ext q s=>rfl
 | br ks =>
  have h:∀ i,(ref (ks i)).size≠0↔ks i ≠ .nil:=λi=>mh (g.2.2 i) (by omega) (f i);show T.br (zu (dx λi=>ref (ks i)) ((bI ks).map λi=>F (nZ i) (ks i))) = .br _;congr 1;funext i;rw [Dr h];cases hi:isNil (ks i) with
  | true=>rw [if_pos rfl,if_pos rfl]
  | false =>
   have hne:ks i ≠ .nil:=λe=>by rw [bM.2 e] at hi; cases hi
   rw [if_neg (by decide),if_neg (by decide),List.getD_eq_getElem?_getD,List.getElem?_map,sF hne];rfl
theorem GV {F:Pa->T->T} {t s:T} (h:s∈qG F t):∃ j,j<(aY t).length/\s=F ((dO t).getD j []) ((aY t).getD j .nil):=by
 obtain ⟨j,hj,rfl⟩:=List.getElem_of_mem h;have hj':=hj;rw [vG] at hj';refine ⟨j,hj',?_⟩;rw [<-EU F t j hj',List.getD_eq_getElem?_getD,List.getElem?_eq_getElem hj];rfl
theorem YP {F:Pa->T->T} {C:Pa->T->Nat} {t:T} {L:Nat} (g:Tr.Good t L) (hL:L<=64) (f:Fine t) (hn:t ≠ .nil) (hs:¬ dQ t) (h:OkF F C t):Mk (bg t) (qG F t):=by
 refine Yv g hL f hn hs ?_ (λs hm=>?_) (λq s e u hu=>?_) (Ga g hL f hn hs) (SE h) ?_ ?_
 .apply List.ext_getElem
  .simp [vG]
  .intro j h1 h2;have hj:j<(aY t).length:=by simpa using h2
   have hj2:j<(qG F t).length:=by rw [vG]; exact hj
   have e1:(qG F t)[j]=(qG F t).getD j .nil:=by rw [List.getD_eq_getElem?_getD,List.getElem?_eq_getElem hj2]; rfl
   have e2:(aY t)[j]=(aY t).getD j .nil:=by rw [List.getD_eq_getElem?_getD,List.getElem?_eq_getElem hj]; rfl
   rw [List.getElem_map,List.getElem_map,e1,e2,EU F t j hj];exact (h j hj).1
 .obtain ⟨j,hj,rfl⟩:=GV hm;exact (h j hj).2.1
 .obtain ⟨j,hj,rfl⟩:=GV hu;exact (h j hj).2.2.2 (by rw [e]; rfl)
 .cases t with
  | stub r=>exact absurd trivial hs
  | _=>exact λh=>h
 .cases t with
  | nil=>exact absurd rfl hn
  | _=>intro e; cases e
theorem oZ:∀ {l:List Nat},l.sum=0->∀ x∈l,x=0
 | [],_,x,h=>by cases h
 | y::l,h,x,hx=>by
  rw [List.sum_cons] at h;rcases List.mem_cons.1 hx with rfl | hx
  .omega
  .exact oZ (l:=l) (by omega) x hx
theorem SL {F:Pa->T->T} {C:Pa->T->Nat} {t:T} (h:OkF F C t) (hz:kE C t (aY t).length=0):vZ F t=t:=by
 have h0:∀ j,j<(aY t).length->F ((dO t).getD j []) ((aY t).getD j .nil)=(aY t).getD j .nil:=λj hj=>(h j hj).2.2.1 (oZ hz _ (List.mem_map.2 ⟨j,List.mem_range.2 hj,rfl⟩));cases t with
 | nil=>rfl
 | leaf p v=>rfl
 | stub r=>rfl
 | ext q s =>
  show T.ext q (F q s) = .ext q s;rw [show F q s=s from h0 0 (by show 0<1; omega)]
 | br ks =>
  show T.br _ = .br ks;congr 1;funext i;cases hi:isNil (ks i) with
  | true=>rw [if_pos rfl]; exact (bM.1 hi).symm
  | false =>
   have hne:ks i ≠ .nil:=λe=>by rw [bM.2 e] at hi; cases hi
   obtain ⟨h1,h2,h3⟩:=Tt hne;have:=h0 _ h1;rw [h2,h3] at this;rw [if_neg (by decide),this]
theorem zV {α:Type} (p : α->Bool) (g : α->Nat):∀ l:List α,(∀ i∈l,p i=false->g i=0)->((l.filter p).map g).sum=(l.map g).sum
 | [],_=>rfl
 | x::l,h=>by
  have ih:=zV p g l λi hi=>h i (List.mem_cons_of_mem _ hi);cases hp:p x with
  | true=>rw [List.filter_cons_of_pos hp,List.map_cons,List.map_cons,List.sum_cons,List.sum_cons,ih]
  | false =>
   rw [List.filter_cons_of_neg (by rw [hp]; decide),List.map_cons,List.sum_cons,ih,h x List.mem_cons_self hp];omega
theorem YG (C:Pa->T->Nat) (ks:Fin 16->T):kE C (.br ks) (aY (.br ks)).length=((List.finRange 16).map λi=>if isNil (ks i) then 0 else C (nZ i) (ks i)).sum:=by
 have h1:((List.range (aY (.br ks)).length).map λi=>C ((dO (.br ks)).getD i []) ((aY (.br ks)).getD i .nil))=(bI ks).map λi=>C (nZ i) (ks i):=by
  apply List.ext_getElem
  .simp [aY]
  .intro j a b;have hj:j<(bI ks).length:=by simpa using b
   rw [List.getElem_map,List.getElem_map,List.getElem_range];show C (((bI ks).map nZ).getD j []) (((bI ks).map ks).getD j .nil)=_;rw [getD_map _ _ _ _ hj,getD_map _ _ _ _ hj]
 unfold kE;rw [h1,<-zV (λi=>!isNil (ks i)) _ (List.finRange 16) (λi _ hp=>by
  have hi:isNil (ks i)=true:=by simpa using hp
  rw [hi]; rfl)]
 show ((bI ks).map _).sum=((bI ks).map _).sum;congr 1;apply List.map_congr_left;intro i hi;have hne:=Tr.jR.1 hi;rw [if_neg (λe=>hne (bM.1 e))]
theorem Ws (C:Pa->T->Nat) (q:Pa) (s:T):kE C (.ext q s) (aY (.ext q s)).length=C q s:=by
 show (List.map _ (List.range 1)).sum=_;simp [dO,aY,List.range_succ]
theorem UF {k:aL} (h:k.size=32):32<=(fF k).bytes.length:=by
 have hp:dN k=true:=aJ (.inr h);unfold fF;rw [if_pos hp];have h1:=Rl.kT (It.mk false k []);rw [Rl.inner_mk] at h1;have h2:k.data.toList.length=k.size:=Rl.iX k;simp only [List.map_nil,List.flatten_nil,List.append_nil] at h1;omega
theorem IK {α β:Type} {f : α->List β} {x : α}:∀ {l:List α},x∈l->(f x).length<=((l.map f).flatten).length
 | y::l,h=>by
  rw [List.map_cons,List.flatten_cons,List.length_append];rcases List.mem_cons.1 h with rfl | h
  .omega
  .have:=IK (f:=f) h;omega
theorem MR {N:Nd} {k:aL} (h:fF k∈cO N) (hk:k.size=32):32<=(jB N).length:=by
 have h1:=Rl.kT (fP N);unfold fP at h1;rw [Rl.inner_mk,List.length_append] at h1;have h2:=IK (f:=It.bytes) h;have h3:=UF hk;unfold jB fP;omega
theorem Oe {N:Nd} (h:32<=(jB N).length):(ofP (fU N)).size=32:=by
 have h1:=wZ N;unfold ofP;rw [if_neg (by omega)];have:(⟨(oh (fU N)).toArray⟩:aL).size=(oh (fU N)).length:=by show (oh (fU N)).toArray.size=_; simp
 rw [this,jX]
theorem CV {q:Pa} {s:T} (h:(ref (.ext q s)).size≠32):(ref s).size≠32:=λe=>h (Oe (MR (k:=ref s) (by
 unfold cO;rw [if_neg (show ¬ (2:Int)=3 by decide),if_neg (show ¬ (2:Int)=1 by decide)];exact List.mem_cons_of_mem _ List.mem_cons_self) e))
theorem JF {ks:Fin 16->T} (h:(ref (.br ks)).size≠32) (i:Fin 16):(ref (ks i)).size≠32:=λe=>h (Oe (MR (k:=ref (ks i)) (by
 unfold cO;rw [if_pos rfl];exact List.mem_append_left _ (List.mem_map.2 ⟨_,List.mem_map.2 ⟨i,List.mem_finRange i,rfl⟩,rfl⟩)) e))
theorem uh:∀ (t:T) (ws:List Pa),(ref t).size≠32->fH ws t=t
 | .nil,_,_=>rfl
 | .leaf _ _,_,_=>rfl
 | .stub _,_,_=>rfl
 | .ext q s,ws,h=>by
  show T.ext q (if onP q ws=[]/\(ref s).size=32 then .stub (ref s) else fH (onP q ws) s)=_;rw [if_neg (λe=>CV h e.2),uh s _ (CV h)]
 | .br ks,ws,h=>by
  show T.br (λi=>if onC i.val ws=[]/\(ref (ks i)).size=32 then .stub (ref (ks i)) else fH (onC i.val ws) (ks i))=_;congr 1;funext i;rw [if_neg (λe=>JF h i e.2),uh (ks i) _ (JF h i)]
def qV (ws:List Pa) (st:Pa) (s:T):T:=if (ref s).size=32 then (if onP st ws=[] then .stub (ref s) else fH (onP st ws) s) else s
theorem Xv (i:Fin 16) (ws:List Pa):onP (nZ i) ws=onC i.val ws:=by
 unfold onP onC nZ;have h:∀ w:Pa,(decide ([UInt8.ofNat i.val]<+:w))=decide (w≠[]/\(w.headD 0).toNat=i.val):=λw=>by
  have hi:=i.isLt;have e:(UInt8.ofNat i.val).toNat=i.val:=by simp; omega
  cases w with
  | nil=>simp
  | cons c r =>
   rw [Bool.eq_iff_iff,decide_eq_true_iff,decide_eq_true_iff];constructor
   .rintro ⟨z,hz⟩;simp at hz;refine ⟨by simp,?_⟩;show c.toNat=_;rw [<-hz.1,e]
   .rintro ⟨_,h2⟩;have h2':c.toNat=i.val:=h2;refine ⟨r,?_⟩;have:c=UInt8.ofNat i.val:=UInt8.toNat_inj.1 (by rw [h2',e]);rw [this]; rfl
 rw [show (λw:Pa=>decide ([UInt8.ofNat i.val]<+:w))=λw=>decide (w≠[]/\(w.headD 0).toNat=i.val) from funext h];apply List.map_congr_left;intro w _;show w.drop 1=w.tail;simp
theorem zf (ws:List Pa) (st:Pa) (s:T):qV ws st s=if onP st ws=[]/\(ref s).size=32 then .stub (ref s) else fH (onP st ws) s:=by
 unfold qV;by_cases h:(ref s).size=32
 .rw [if_pos h];by_cases hd:onP st ws=[]
  .rw [if_pos hd,if_pos ⟨hd,h⟩]
  .rw [if_neg hd,if_neg (λe=>hd e.1)]
 .rw [if_neg h,if_neg (λe=>h e.2),uh s _ h]
theorem Hl (ws:List Pa) (t:T):vZ (qV ws) t=fH ws t:=by
 cases t with
 | nil=>rfl
 | leaf p v=>rfl
 | stub r=>rfl
 | ext q s =>
  show T.ext q (qV ws q s)=_;rw [zf]; rfl
 | br ks =>
  show T.br _=T.br _;congr 1;funext i;cases hi:isNil (ks i) with
  | true=>rw [if_pos rfl,bM.1 hi,if_neg (λe=>EX e.2 rfl)]; rfl
  | false=>rw [if_neg (by decide),zf,Xv]
theorem XZ {s s':T} (h:Sub s s') (hz:fG s'=0):s'=s:=by
 rcases h with ⟨rfl,_⟩ | h
 .cases hz
 .exact zx h hz
theorem Om (ws:List Pa) (st:Pa) (s:T):Sub s (qV ws st s):=by
 rw [zf];by_cases h:onP st ws=[]/\(ref s).size=32
 .rw [if_pos h]; exact .inl ⟨rfl,EX h.2⟩
 .rw [if_neg h]; exact .inr (wm s _)
theorem yO {t:T} (hj:j<(aY t).length):(aY t).getD j .nil∈aY t:=by
 rw [List.getD_eq_getElem?_getD,List.getElem?_eq_getElem hj];exact List.getElem_mem _
theorem Nw {s:T} (h:Cj s):dB s≠1/\dB s≠2:=by
 cases s with
 | br ks=>exact ⟨by show (3:Int)≠1; decide,by show (3:Int)≠2; decide⟩
 | stub r=>exact ⟨by show (-1:Int)≠1; decide,by show (-1:Int)≠2; decide⟩
 | _=>exact h.elim
theorem YZ {F:Pa->T->T} {t:T} {L:Nat} (g:Tr.Good t L) (hL:L<=64) (f:Fine t) (hF:∀ st s,Sub s (F st s)):OkF F (λst s=>fG (F st s)) t:=by
 intro j hj;have hm:=yO hj;obtain ⟨hne,hf,_,L',hl,hg⟩:=nu g f _ hm;have hS:=hF ((dO t).getD j []) ((aY t).getD j .nil);generalize (aY t).getD j .nil=s at *
 refine ⟨hS.ref,?_,λhz=>XZ hS hz,λhk=>?_⟩
 .rcases hS with ⟨e,_⟩ | h
  .rw [e];exact ⟨0,trivial,by omega,(eT s L' hg (by omega) hf hne).2⟩
  .exact ⟨L',h.good hg,by omega,h.fine hg (by omega) hf⟩
 .have hbr:Cj s:=by
   cases t with
   | nil=>cases hm
   | leaf p v=>cases hm
   | stub r=>cases hm
   | ext q u =>
    obtain rfl:s=u:=by
     have:s∈[u]:=hm;simpa using this
    exact g.2.2.2.1
   | br ks=>exact absurd hk (by show (3:Int)≠2; decide)
  rcases hS with ⟨e,_⟩ | h
  .rw [e]; exact Nw trivial
  .exact Nw (h.ZA hbr)
theorem QC (F:Pa->T->T) (t:T) (hs:¬ dQ t):kE (λst s=>fG (F st s)) t (aY t).length=fG (vZ F t):=by
 cases t with
 | nil=>rfl
 | leaf p v=>rfl
 | stub r=>exact absurd trivial hs
 | ext q s=>rw [Ws]; rfl
 | br ks =>
  rw [YG];show _=((List.finRange 16).map λi=>fG (if isNil (ks i) then .nil else F (nZ i) (ks i))).sum;congr 1;apply List.map_congr_left;intro i _;cases hi:isNil (ks i) with
  | true=>rfl
  | false=>rfl
end Sx
end
section
open Go.RowKit
namespace Ew
open Tr Ni Pk Ky No Rf Rl Tm
def wv (h:Hdl):Value:=.slice h.1 h.2.1 h.2.2
theorem Xe:(prog.info? 40).map (λi=>(i.zero,i.size,i.bytes))=some (some (.slice none 0 0),1,24):=by kernel_rfl
theorem BU:∃ i,prog.info? 40=some i/\i.zero=some (.slice none 0 0)/\i.size=1/\i.bytes=24:=by
 obtain ⟨i0,hi,hz,hs,hby⟩:=info_parts Xe;exact ⟨i0,hi,hz,hs,hby⟩
theorem UC {p:Nat->Prop} {w:World} {h:Hdl} {l:aM} (g:BsP p w h l) (i:Nat) (hi:i<=h.2.1):BsP p w (dL h.1 h.2.2 i,h.2.1-i,h.2.2-i) (l.drop i):=by
 refine ⟨yV g.1 i hi,λad e hn=>?_⟩;have hn2:0<h.2.1-i:=hn;have e2:dL h.1 h.2.2 i=some ad:=e;unfold dL at e2;by_cases hc:h.2.2=i
 .rw [if_pos hc] at e2;exact g.2 ad e2 (by omega)
 .rw [if_neg hc] at e2;cases ha:h.1 with
  | none=>rw [ha] at e2; cases e2
  | some a0 =>
   rw [ha] at e2;obtain rfl:=Option.some.inj e2;have hb:(a0.add i).block=a0.block:=by
    unfold Addr.add;split <;> rfl
   show p (a0.add i).block;rw [hb];exact g.2 _ ha (by omega)
def sS (w:World) (a:aK) (n c:Nat) (l:List Pa):Prop :=
 n<=c/\c<=maxLen/\l.length=n/\(a=none->c=0)/\∀ j,j<n->∃ b off h,a=some ⟨b,off,none⟩/\b<w.heap.size/\w.cell? ⟨b,off+j,none⟩=some (wv h)/\bf w h.1 h.2.1 h.2.2 (l.getD j [])
theorem sS.len {w:World} {n c:Nat} {l:List Pa} (h:sS w a n c l):l.length=n:=h.2.2.1
theorem sS.at' {w:World} {n c:Nat} {l:List Pa} (h:sS w a n c l) (j:Nat) (hj:j<n):∃ b off h,a=some ⟨b,off,none⟩/\b<w.heap.size/\w.cell? ⟨b,off+j,none⟩=some (wv h)/\bf w h.1 h.2.1 h.2.2 (l.getD j []):=h.2.2.2.2 j hj
theorem sS.below {w w':World} {a:aK} {n c:Nat} {l:List Pa} (h:sS w a n c l) (hb:Below w.heap.size w w'):sS w' a n c l :=
 ⟨h.1,h.2.1,h.2.2.1,h.2.2.2.1,λj hj=>by
  obtain ⟨b,off,g,e,hlt,hp,hi⟩:=h.2.2.2.2 j hj;exact ⟨b,off,g,e,aI hlt hb.size,aW hb hp,hi.below hb⟩⟩
theorem sS.nil (w:World):sS w none 0 0 []:=⟨aG,Nat.zero_le _,rfl,λ_=>rfl,λ_ h=>absurd h (Nat.not_lt_zero _)⟩
def nI (B:Nat) (w:World) (v:Value) (xs:List Pa):Prop :=
 ∃ hs:List Hdl,hs.length=xs.length/\w.ownsRow B 40 1 v xs.length (hs.map wv)/\∀ (j:Nat) (x:Pa) (h:Hdl),xs[j]? = some x->hs[j]? = some h->BsP (λb=>v.ownBlock≠some b) w h x
theorem nI.nil (B:Nat) (w:World):nI B w (.slice none 0 0) []:=⟨[],rfl,World.ownsRow_nil _ _ _ _,λ_ _ _ hx _=>by simp at hx⟩
theorem nI.lt {B:Nat} {w:World} {v:Value} {xs:List Pa} (h:nI B w v xs):∀ k,v.ownBlock=some k->B<=k/\k<w.heap.size:=by
 obtain ⟨hs,_,ho,_⟩:=h;exact ho.lt
theorem nI.below {B:Nat} {w w':World} {v:Value} {xs:List Pa} (h:nI B w v xs) (hb:Below w.heap.size w w'):nI B w' v xs:=by
 obtain ⟨hs,hlen,ho,hi⟩:=h;exact ⟨hs,hlen,ho.kept (Bu.gL hb) (by cases v.ownBlock <;> simp),λj x h hx hh=>(hi j x h hx hh).kept hb.size λb _ hlt=>hb.block b hlt⟩
theorem nI.push {B:Nat} {w w':World} {v v':Value} {xs:List Pa} {x:Pa} {h:Hdl} {hs:List Hdl} (hlen:hs.length=xs.length) (hi:∀ (j:Nat) (x:Pa) (h:Hdl),xs[j]? = some x->hs[j]? = some h->BsP (λb=>v.ownBlock≠some b) w h x)
  (hI:BsP (λb=>v.ownBlock≠some b) w h x) (ho:w'.ownsRow B 40 1 v' (xs.length+1) (hs.map wv++[wv h]))
  (hg:w.grownBy w' v.ownBlock) (hat:v'.ownBlock=v.ownBlock\/v'.ownBlock=some w.heap.size):nI B w' v' (xs++[x]):=by
 have keep:∀ {l:aM} {h:Hdl},BsP (λb=>v.ownBlock≠some b) w h l->BsP (λb=>v'.ownBlock≠some b) w' h l:=λ{l h} hh=>by
  have h1:=hh.to (q:=λb=>v'.ownBlock≠some b/\v.ownBlock≠some b) λb hlt hb=>⟨λe=>by
   rcases hat with h2 | h2
   .exact hb (h2 ▸ e)
   .rw [h2] at e;have:=Option.some.inj e;omega,hb⟩
  have h2:=h1.kept (w':=w') hg.size λb hb hlt=>hg.block b hlt (λe=>hb.2 e.symm);exact h2.to λb _ hb=>hb.1
 refine ⟨hs++[h],by simp [hlen],?_,λj y g hy hh=>?_⟩
 .rw [List.length_append,List.map_append];exact ho
 .by_cases hj:j<xs.length
  .rw [List.getElem?_append_left hj] at hy;rw [List.getElem?_append_left (by omega)] at hh;exact keep (hi j y g hy hh)
  .have hj2:j=xs.length:=by
    have:=(List.getElem?_eq_some_iff.1 hy).1;simp at this;omega
   subst hj2;rw [List.getElem?_append_right aG,Nat.sub_self] at hy;rw [List.getElem?_append_right (by omega),hlen,Nat.sub_self] at hh;simp at hy hh;subst hy hh;exact keep hI
theorem nI.done {B:Nat} {w:World} {v:Value} {xs:List Pa} (h:nI B w v xs):∃ a cap,v = .slice a xs.length cap/\sS w a xs.length cap xs:=by
 obtain ⟨hs,hlen,ho,hi⟩:=h;rcases ho.2 with ⟨rfl,hz⟩ | ⟨g,cap,cur,rfl,hbg,hg,hnc,hcm,hcs,htake⟩
 .have:xs=[]:=List.eq_nil_of_length_eq_zero hz;subst this;exact ⟨none,0,rfl,sS.nil _⟩
 .refine ⟨_,_,rfl,hnc,hcm,rfl,λe=>(by cases e),λj hj=>?_⟩;have hx:xs[j]? = some (xs.getD j []):=by simp [hj]
  have hh:hs[j]? = some (hs.getD j (none,0,0)):=by simp [show j<hs.length by omega]
  refine ⟨g,0,hs.getD j (none,0,0),rfl,(Array.getElem?_eq_some_iff.1 hg).1,?_,(hi j _ _ hx hh).1⟩;have:=ho.cells (g:=g) rfl j (wv (hs.getD j (none,0,0))) (by rw [List.getElem?_map,hh]; rfl);rw [Addr.add_mid] at this;exact this
theorem Kj {w:World} {B:Nat} {v:Value} {xs:List Pa} {x:Pa} {h:Hdl} (hR:nI B w v xs) (h2:Rg.Own w b2 #[wv h] 40) (hI:BsP (λb=>v.ownBlock≠some b) w h x) (hn:xs.length<=1000000) (hB:B<=w.heap.size) :
  ∃ v' w',(Builtin.append_ #[86,86] ty #[v,.slice (some ⟨b2,0,none⟩) 1 1]).run prog w = .ok v' w'/\nI B w' v' (xs++[x])/\w.grownBy w' v.ownBlock/\(v'.ownBlock=v.ownBlock\/v'.ownBlock=some w.heap.size):=by
 obtain ⟨i0,hi,hz,hsz,hby⟩:=BU;obtain ⟨hs,hlen,ho,hp⟩:=hR;obtain ⟨v',w',hr,h3,h4,_,h5⟩:=run_append_own_at (P:=prog) w B 86 ty 40 i0 (.slice none 0 0) 1 24 underlying86 hi hz hsz hby rfl (by decide) v xs.length _ ho ⟨b2,0,none⟩ 1 1 [wv h] rfl
  (λj u hu=>by
   have hj:j=0:=by
    have:=(List.getElem?_eq_some_iff.1 hu).1;simp at this;omega
   subst hj;have hu':wv h=u:=by simpa using hu
   rw [Addr.add_mid,<-hu'];exact aV h2 rfl)
  (λu hu=>by rw [List.mem_singleton.1 hu]; rfl) (by unfold maxLen; omega) (by omega) hB
 exact ⟨v',w',hr,nI.push hlen hp hI h3 h4 h5,h4,h5⟩
theorem Bc {rest:List Oper} {a:Go.Act} {w:World} {Q:Exit->Go.Act->World->Prop} {B:Nat} {v:Value} {xs:List Pa} {x:Pa} {h:Hdl} (hR:nI B w v xs) (h2:Rg.Own w b2 #[wv h] 40) (hI:BsP (λb=>v.ownBlock≠some b) w h x) (hn:xs.length<=1000000) (hB:B<=w.heap.size) (hgd:o.guard=none)
  (ho:∃ s y,o.op = .call { callee:=.builtin .append,args:=#[s,y],argTypes:=#[86,86] }/\a.eval s=v/\a.eval y = .slice (some ⟨b2,0,none⟩) 1 1)
  (H:∀ v' w',nI B w' v' (xs++[x])->w.grownBy w' v.ownBlock->(v'.ownBlock=v.ownBlock\/v'.ownBlock=some w.heap.size)->wpList prog ops Q rest (a.put o.dst v') w'):wpList prog ops Q (o::rest) a w:=by
 obtain ⟨s,y',ho,hs,hy⟩:=ho;obtain ⟨v',w',hr,h3,h4,h5⟩:=Kj (ty:=o.type) hR h2 hI hn hB;refine eZ hgd v' w' ?_ (H v' w' h3 h4 h5);unfold execOp;simp only [ho,resolve,invoke,builtin,Sem.run_bind,Sem.run_pure,Result.andThen_ok,List.map_toArray,List.map_cons,List.map_nil,hs,hy,hr]
theorem IG {w:World} {h:Hdl} (b:Nat) (hb:b=w.heap.size) (ho:∃ y,o.op = .buildSlice 86 1 #[(0,y)]/\ev y = .slice h.1 h.2.1 h.2.2) :
  (execOp ev o).run prog w = .ok (.value (.slice (some ⟨b,0,none⟩) 1 1)) (w.alloc (.cells #[wv h] 40)):=by
 obtain ⟨y,ho,hx⟩:=ho;subst hb;unfold execOp;simp only [ho,List.map_toArray,List.map_cons,List.map_nil,hx];obtain ⟨a,n,c⟩:=h;kernel_rfl
theorem rZ {w:World} {b off:Nat} {h2 h3:Nat} (hc:w.cell? ⟨b,off,none⟩=some (.slice h1 h2 h3)) (ho:∃ x,o.op = .load 40 x/\ev x = .pointer (some ⟨b,off,none⟩)) :
  (execOp ev o).run prog w = .ok (.value (.slice h1 h2 h3)) w:=by
 obtain ⟨x,ho,hx⟩:=ho;unfold execOp;simp [ho,hx,go_sem,hc]
end Ew
end
section
open Go.RowKit
namespace Sx
open Tr Ni Pk Ky No Rf Rl Tm
open Sm (Tab)
def ji (N:Nd) (j:Nat):Pa:=if N.kd=2 then N.p else [UInt8.ofNat j]
def iZ (N:Nd) (ps:List (aK)):Nat->List Iv
 | 0=>[]
 | j+1=>if (N.ks.getD j eB).size=0 then iZ N ps j else iZ N ps j++[(ji N j,ps.getD (iZ N ps j).length none)]
theorem vE (N:Nd) (ps:List (aK)) (hl:N.ks.length=16):∀ j,j<=16->(iZ N ps j).length=(bF (N.ks.take j)).length
 | 0,_=>rfl
 | j+1,hj=>by
  have ih:=vE N ps hl j (by omega);rw [nO N.ks j (by omega)];unfold iZ;by_cases h:(N.ks.getD j eB).size=0
  .rw [if_pos h,if_neg (by simpa using h),List.append_nil,ih]
  .rw [if_neg h,if_pos h,List.length_append,List.length_append,ih];rfl
theorem Jp (N:Nd) (ps:List (aK)):∀ j,(iZ N ps j).map Prod.fst=((List.range j).filter λi=>decide ((N.ks.getD i eB).size≠0)).map (ji N)
 | 0=>rfl
 | j+1=>by
  have ih:=Jp N ps j;rw [List.range_succ,List.filter_append,List.map_append,<-ih];show List.map Prod.fst (if (N.ks.getD j eB).size=0 then iZ N ps j else iZ N ps j++[(ji N j,ps.getD (iZ N ps j).length none)])=_;by_cases h:(N.ks.getD j eB).size=0
  .rw [if_pos h,List.filter_cons_of_neg (by rw [decide_eq_false (λe=>e h)]; decide)];simp
  .rw [if_neg h,List.filter_cons_of_pos (p:=λi=>decide ((N.ks.getD i eB).size≠0)) (aJ h),List.map_append];rfl
theorem Ho (N:Nd) (ps:List (aK)) (hl:N.ks.length=16) (hp:ps.length=(bF N.ks).length):∀ j,j<=16->(iZ N ps j).map Prod.snd=ps.take (iZ N ps j).length
 | 0,_=>rfl
 | j+1,hj=>by
  have ih:=Ho N ps hl hp j (by omega);have hlen:=vE N ps hl (j+1) hj;have hmono:=tX (ks:=N.ks) (j+1);unfold iZ;unfold iZ at hlen;by_cases h:(N.ks.getD j eB).size=0
  .rw [if_pos h]; exact ih
  .rw [if_neg h] at hlen ⊢;rw [List.length_append,List.length_singleton] at hlen ⊢;have hlt:(iZ N ps j).length<ps.length:=by omega
   rw [List.map_append,ih,List.take_succ_eq_append_getElem hlt];simp [List.getD,hlt]
theorem Kk {t:T} {L:Nat} (g:Tr.Good t L) (hL:L<=64) (f:Fine t):((List.range 16).filter λi=>decide (((bg t).ks.getD i eB).size≠0)).map (ji (bg t))=dO t:=by
 have hz:∀ (st:Nat->Pa),((List.range 16).filter λi=>decide ((zks.getD i eB).size≠0)).map st=[]:=λst=>by
  have:((List.range 16).filter λi=>decide ((zks.getD i eB).size≠0))=[]:=by decide +kernel
  rw [this]; rfl
 cases t with
 | nil=>exact hz _
 | leaf p v=>exact hz _
 | stub r=>exact hz _
 | ext q s =>
  have hs:(ref s).size≠0:=(mh g.2.2.2.2 (by omega) f).2 (kM g.2.2.2.1);show ((List.range 16).filter λi=>decide (((fM (ref s)).getD i eB).size≠0)).map _=[q]
  have h1:((List.range 16).filter λi=>decide (((fM (ref s)).getD i eB).size≠0))=[0]:=by
   rw [show List.range 16=0::(List.range 15).map (· + 1) from rfl,List.filter_cons_of_pos (by show decide ((ref s).size≠0)=true; exact aJ hs)];congr 1
  rw [h1];rfl
 | br ks =>
  have h:∀ i,(ref (ks i)).size≠0↔ks i ≠ .nil:=λi=>mh (g.2.2 i) (by omega) (f i);show ((List.range 16).filter λi=>decide (((dx λi=>ref (ks i)).getD i eB).size≠0)).map _=(bI ks).map nZ;have hr:List.range 16=(List.finRange 16).map Fin.val:=by decide
  rw [hr,List.filter_map,List.map_map];unfold bI;have e:((λi:Nat=>decide (((dx λi=>ref (ks i)).getD i eB).size≠0)) ∘ Fin.val)=λi:Fin 16=>!isNil (ks i):=by
   funext i;show decide (((dx λi=>ref (ks i)).getD i.val eB).size≠0)=_;rw [ow];cases hi:isNil (ks i) with
   | true=>rw [bM.1 hi]; rfl
   | false=>exact aJ ((h i).2 λe=>by rw [bM.2 e] at hi; cases hi)
  rw [e];apply List.map_congr_left;intro i _;rfl
theorem Gy {w:World} (b:Nat) (hb:b=w.heap.size) (ho:∃ y,o.op = .buildSlice 40 1 #[(0,y)]/\ev y = .int .u8 z) :
  (execOp ev o).run prog w = .ok (.value (.slice (some ⟨b,0,none⟩) 1 1)) (w.alloc (.cells #[.int .u8 z] 5)):=by
 obtain ⟨y,ho,hx⟩:=ho;subst hb;unfold execOp;simp only [ho,List.map_toArray,List.map_cons,List.map_nil,hx];kernel_rfl
theorem YF {w:World} {b:Nat} {c:UInt8} (h:Rg.Own w b #[.int .u8 c.toNat] 5):bf w (some ⟨b,0,none⟩) 1 1 [c] :=
 ⟨aG,by unfold maxLen; omega,rfl,λe=>(by cases e),λj hj=>by
  obtain rfl:j=0:=by omega
  exact ⟨b,0,rfl,h.1,Tm.aV h rfl⟩⟩
theorem Jf {w:World} {x:Iv} {h:Hdl} (b:Nat) (hb:b=w.heap.size) (ho:∃ y,o.op = .buildSlice 230 1 #[(0,y)]/\ev y = .agg (inA x h)) :
  (execOp ev o).run prog w = .ok (.value (.slice (some ⟨b,0,none⟩) 1 1)) (w.alloc (.cells (inA x h) 233)):=by
 obtain ⟨y,ho,hx⟩:=ho;subst hb;unfold execOp;simp only [ho,List.map_toArray,List.map_cons,List.map_nil,hx];obtain ⟨a,n,c⟩:=h;kernel_rfl
theorem xK (a:aK) (n c:Nat) (p:aK) (x:Iv) (hx:x.2=p):prog.built 233 [(0,.slice a n c),(1,tv p)]=some (inA x (a,n,c)):=by
 subst hx;kernel_rfl
def FM (M:Mp) (w:World) (t:T) (e:Ending) (w':World):Prop:=∃ a n c xs,e = .returned (.slice a n c)/\qZ w' a n c xs/\(∀ ad,a=some ad->w.heap.size<=ad.block)/\xs.map Prod.fst=dO t/\Are M (xs.map Prod.snd) (aY t)/\Fr M M w w'/\Inv M w'/\Tab w'
theorem Ma (M:Mp) (p:aK) (t:T) (L:Nat) (g:Tr.Good t L) (hL:L<=64) (f:Fine t) (w:World) (hi:Inv M w) (ht:IsT M p t) (hT:Tab w) :
  Calls prog 162 #[tv p] w (FM M w t):=by
 obtain ⟨w1,hw1⟩:=au (w.alloc (.cells #[.pointer p] 35))
 have ab:Rg.Own w1 w.heap.size #[.pointer p] 35:=by rw [hw1]; exact Rg.Own.new _ _ _
 have hb1:Below w.heap.size w w1:=by rw [hw1]; exact al1 _ _
 have Bm:=hid (Ak M p t L g hL f w1 (hi.below hb1) ht (hT.below hb1 hT.pos));have bd:=hid ab;have HB1:=hid hb1;have HI:=hid hi;have ca:Hid ((bg t).ks.length=16):=hid (cK t);have cw:=hid (Kk g hL f);have vu:=hid (sD g hL f);obtain ⟨N,hN⟩:=ay (bg t)
 have HN:=hid hN;rw [hN] at ca cw vu;clear ab hb1 hi g f hN;have hgo:Calls prog 162 #[.agg #[.pointer p]] w (FM M w t):=by
  subst hw1;go_enter func162,ntmps162;go_wp2_with (first
   | (refine aA (aU (Tm.aV (j:=0) bd.out rfl) ⟨_,rfl,rfl⟩) ?_))
  refine Bm.out.mono ?_;rintro e w2 ⟨na,nn,nc,ka,kc,ps,rfl,_,hbs,nl,cV,hka,f2,i2,t2⟩;rw [HN.out] at hbs ⊢;have hlen:ps.length=(bF N.ks).length:=by rw [vu.out,List.length_map,cV.1]
  have kx:=hid hbs;have gp:=hid nl;have gx:=hid cV;have fb:Hid (Fr M M w w2/\Inv M w2/\Tab w2):=hid ⟨(Fr.below M HB1.out).trans HI.out f2,i2,t2⟩;have HLen:=hid hlen;have mt:dZ (w2.alloc (.cells (ndC nd0 none 0 0) 69)) w2.heap.size nd0 none 0 0:=Rg.Own.new _ _ _;have fl:=hid mt;have hs1:w.heap.size<=w2.heap.size:=fb.out.1.size;have HS2:=hid hs1;clear hbs nl cV hka f2 i2 t2 hlen mt Bm bd hs1;go_wp2_with (first
   | (refine aA (bD _ _ _ w2.heap.size rfl rfl) ?_)
   | (refine bH fl.out rfl N na nn nc ca.out rfl _ _ rfl rfl rfl rfl ?_)
   | (refine aA (jO (dM fl.out) ca.out ⟨_,rfl,rfl⟩) ?_))
  obtain ⟨w3,hw3⟩:=au ((w2.alloc (.cells (ndC nd0 none 0 0) 69)).setRow w2.heap.size (ndC N na nn nc))
  have HB3:Hid (Below w2.heap.size w2 w3):=hid (by rw [hw3]; exact bZ (al1 _ _) aG _);have ag:Hid (dZ w3 w2.heap.size N na nn nc):=hid (by rw [hw3]; exact dM fl.out);rw [<-hw3];clear hw3 fl;obtain ⟨gN,hgN⟩:=ay w2.heap.size
  rw [hgN];rw [hgN] at ag;have cR:=hid (kx.out.1.below HB3.out);have tE:=hid (gp.out.below HB3.out);clear hgN;go_loopw [5,16] (λv0 i wr=>∃ (j:Nat) (v:Value),v=v0/\j<=16/\i = .int .i64 j/\Hid (oU w3.heap.size wr v (iZ N ps j))/\Hid (Below w3.heap.size w3 wr)) (λ_ i _=>16-(intOf i).toNat)
  case atStart=>exact ⟨0,_,rfl,Nat.zero_le _,rfl,hid (oU.nil _ _),hid aH⟩
  case round =>
   obtain ⟨j,v,rfl,hj,rfl,HR,HB⟩:=hrel;by_cases hlt:j<16
   .have i1:(j:Int)<16:=by omega
    by_cases hkz:(N.ks.getD j eB).size=0
    .have ol:Hid (iZ N ps (j+1)=iZ N ps j):=hid (by rw [iZ,if_pos hkz]);have HE:Hid (N.ks.getD j eB=eB):=hid (dP hkz);clear hkz;go_wp2_with (refine Rg.run rfl (.string (N.ks.getD j eB)) _ (dF ca.out hlt ⟨_,_,rfl,rfl,rfl⟩) ?_; rw [HE.out])
     go_roundw
     case rel=>exact ⟨j+1,_,rfl,by omega,by go_num,by rw [ol.out]; exact HR,HB⟩
     case measure=>simp [intOf]; omega
    .have ol:Hid (iZ N ps (j+1)=iZ N ps j++[(ji N j,ps.getD (iZ N ps j).length none)]):=hid (by rw [iZ,if_neg hkz]);have hne:=Ni.dJ (s:=N.ks.getD j eB) (by omega);have hel:(iZ N ps j).length<ps.length:=by
      have h1:=vE N ps ca.out (j+1) (by omega);rw [ol.out,List.length_append,List.length_singleton] at h1;have h2:=tX (ks:=N.ks) (j+1);have h3:=HLen.out;omega
     have hp16:ps.length<=16:=by rw [gx.out.1]; exact pK t
     obtain ⟨b,off,rfl,hblt,hcc⟩:=tE.out.2.2.2.2 _ hel;obtain ⟨q,hq⟩:=ay (ps.getD (iZ N ps j).length none)
     rw [hq] at hcc ol;have hcr:=aW HB.out hcc;obtain ⟨va,vc,rfl⟩:∃ a c,v = .slice a (iZ N ps j).length c:=by
      obtain ⟨_,_,ho,_⟩:=HR.out;rcases ho.2 with ⟨rfl,h0⟩ | ⟨g,cap,cur,rfl,_⟩
      .exact ⟨_,_,by rw [h0]⟩
      .exact ⟨_,_,rfl⟩
     have HU:Hid (((UInt8.ofNat j).toNat:Int)=(j:Int)):=hid (by
      have:(UInt8.ofNat j).toNat=j:=by simp; omega
      rw [this])
     obtain ⟨K,hK⟩:=ay (N.ks.getD j eB)
     have HK:=hid hK;rw [hK] at hne;clear hkz hK hcc hblt hq;by_cases hk2:N.kd=2
     .have k0:N.kd=2:=hk2;have k1:(N.kd==2)=true:=by rw [beq_iff_eq]; exact hk2
      have k2:decide (N.kd=2)=true:=aJ hk2;have tG:Hid (ji N j=N.p):=hid (if_pos hk2);have hA:Rg.Own (wr.alloc (.cells #[.int .u8 (j:Int)] 5)) wr.heap.size #[.int .u8 (UInt8.ofNat j).toNat] 5:=by rw [HU.out]; exact Rg.Own.new _ _ _
      have gE:Below wr.heap.size wr (wr.alloc (.cells #[.int .u8 (j:Int)] 5)):=al1 _ _;obtain ⟨wa,tI⟩:=au (wr.alloc (.cells #[.int .u8 (j:Int)] 5))
      rw [<-tI] at hA gE;have nm:BsP (λk=>(Value.slice va (iZ N ps j).length vc).ownBlock≠some k) wa (na,nn,nc) (ji N j):=(by
       rw [tG.out];exact OJ (h:=(na,nn,nc)) (HR.out.below gE) cR.out (HB.out.trans (gE.mono HB.out.size)) aG)
      obtain ⟨w4,hw4⟩:=au (wa.alloc (.cells (inA (ji N j,q) (na,nn,nc)) 233))
      have hO4:Rg.Own w4 wa.heap.size (inA (ji N j,q) (na,nn,nc)) 233:=by rw [hw4]; exact Rg.Own.new _ _ _
      have hb4:Below wa.heap.size wa w4:=by rw [hw4]; exact al1 _ _
      have hbW:Below wr.heap.size wr w4:=gE.trans (hb4.mono gE.size);have dj:Hid (BsP (λk=>(Value.slice va (iZ N ps j).length vc).ownBlock≠some k) w4 (na,nn,nc) (ji N j)):=hid (nm.kept hb4.size λk _ hl=>hb4.block k hl);have b8:=hid hO4;have HR4:=hid (HR.out.below hbW);have KK:=hid hbW;have L0:Hid (_=_):=hid tI;have B7:Hid (_=_):=hid hw4;have L1:Hid (wa.cell? ⟨gN,0,none⟩=some (.int .i64 N.kd)):=hid (dD ((ag.out.below HB.out).below gE)).1
      have Se:Hid (wa.cell? ⟨gN,1,none⟩=some (.slice na nn nc)):=hid (dD ((ag.out.below HB.out).below gE)).2.1;have HC:Hid (wa.cell? ⟨b,off+(iZ N ps j).length,none⟩=some (.pointer q)):=hid (aW gE hcr);have ib:Hid (w3.heap.size<=w4.heap.size/\(iZ N ps j).length<=1000000):=hid ⟨Nat.le_trans HB.out.size hbW.size,by omega⟩;obtain ⟨xs,hxs⟩:=ay (iZ N ps j)
      rw [hxs] at hel ol HC ib HR4 dj;rw [hxs];obtain ⟨n0,hn0⟩:=ay xs.length
      have HN0:=hid hn0;rw [hn0] at hel HC HR4 dj ⊢;have h0:=L1.out;clear hA gE nm hO4 hb4 hbW tI hw4 hxs hk2 hcr ag cR tE hn0;go_wp2_with (first
       | (refine Rg.run rfl (.string (N.ks.getD j eB)) _ (dF ca.out hlt ⟨_,_,rfl,rfl,rfl⟩) ?_; rw [HK.out])
       | (refine aA (Gy wr.heap.size rfl ⟨_,rfl,rfl⟩) ?_; rw [<-L0.out])
       | (refine Rg.run rfl (.slice na nn nc) _ (Ew.rZ (h1:=na) (h2:=nn) (h3:=nc) Se.out ⟨_,rfl,rfl⟩) ?_)
       | (refine aA (aU HC.out ⟨_,rfl,rfl⟩) ?_)
       | (refine aA (bL (xK na nn nc q (ji N j,q) rfl) ⟨_,rfl,rfl⟩) ?_)
       | (refine aA (Jf wa.heap.size rfl ⟨_,rfl,rfl⟩) ?_; rw [<-B7.out])
       | (refine yt rfl ⟨_,_,rfl,rfl,rfl⟩ HR4.out b8.out dj.out ib.out.2 ib.out.1 ?_))
      intro v' w5 eN hg5;have dc:=hid eN;have aa:Hid (Below w3.heap.size w3 w5):=hid (yu HR4.out (HB.out.trans (KK.out.mono HB.out.size)) ib.out.1 hg5);clear eN hg5;go_wp2;go_roundw
      case rel=>exact ⟨j+1,_,rfl,by omega,by go_num,by rw [ol.out]; exact dc,aa⟩
      case measure=>simp [intOf]; omega
     .have k1:(N.kd==2)=false:=by rw [beq_eq_false_iff_ne]; exact hk2
      have k2:decide (N.kd=2)=false:=decide_eq_false hk2;have tG:Hid (ji N j=[UInt8.ofNat j]):=hid (if_neg hk2);have hA:Rg.Own (wr.alloc (.cells #[.int .u8 (j:Int)] 5)) wr.heap.size #[.int .u8 (UInt8.ofNat j).toNat] 5:=by rw [HU.out]; exact Rg.Own.new _ _ _
      have gE:Below wr.heap.size wr (wr.alloc (.cells #[.int .u8 (j:Int)] 5)):=al1 _ _;obtain ⟨wa,tI⟩:=au (wr.alloc (.cells #[.int .u8 (j:Int)] 5))
      rw [<-tI] at hA gE;have nm:BsP (λk=>(Value.slice va (iZ N ps j).length vc).ownBlock≠some k) wa (some ⟨wr.heap.size,0,none⟩,1,1) (ji N j):=(by
       rw [tG.out];refine ⟨YF hA,λad e _ e2=>?_⟩;cases e;exact absurd (HR.out.lt _ e2).2 (Nat.lt_irrefl _))
      obtain ⟨w4,hw4⟩:=au (wa.alloc (.cells (inA (ji N j,q) (some ⟨wr.heap.size,0,none⟩,1,1)) 233))
      have hO4:Rg.Own w4 wa.heap.size (inA (ji N j,q) (some ⟨wr.heap.size,0,none⟩,1,1)) 233:=by rw [hw4]; exact Rg.Own.new _ _ _
      have hb4:Below wa.heap.size wa w4:=by rw [hw4]; exact al1 _ _
      have hbW:Below wr.heap.size wr w4:=gE.trans (hb4.mono gE.size);have dj:Hid (BsP (λk=>(Value.slice va (iZ N ps j).length vc).ownBlock≠some k) w4 (some ⟨wr.heap.size,0,none⟩,1,1) (ji N j)):=hid (nm.kept hb4.size λk _ hl=>hb4.block k hl);have b8:=hid hO4;have HR4:=hid (HR.out.below hbW);have KK:=hid hbW;have L0:Hid (_=_):=hid tI;have B7:Hid (_=_):=hid hw4;have L1:Hid (wa.cell? ⟨gN,0,none⟩=some (.int .i64 N.kd)):=hid (dD ((ag.out.below HB.out).below gE)).1
      have Se:Hid (wa.cell? ⟨gN,1,none⟩=some (.slice na nn nc)):=hid (dD ((ag.out.below HB.out).below gE)).2.1;have HC:Hid (wa.cell? ⟨b,off+(iZ N ps j).length,none⟩=some (.pointer q)):=hid (aW gE hcr);have ib:Hid (w3.heap.size<=w4.heap.size/\(iZ N ps j).length<=1000000):=hid ⟨Nat.le_trans HB.out.size hbW.size,by omega⟩;obtain ⟨xs,hxs⟩:=ay (iZ N ps j)
      rw [hxs] at hel ol HC ib HR4 dj;rw [hxs];obtain ⟨n0,hn0⟩:=ay xs.length
      have HN0:=hid hn0;rw [hn0] at hel HC HR4 dj ⊢;have h0:=L1.out;clear hA gE nm hO4 hb4 hbW tI hw4 hxs hk2 hcr ag cR tE hn0;go_wp2_with (first
       | (refine Rg.run rfl (.string (N.ks.getD j eB)) _ (dF ca.out hlt ⟨_,_,rfl,rfl,rfl⟩) ?_; rw [HK.out])
       | (refine aA (Gy wr.heap.size rfl ⟨_,rfl,rfl⟩) ?_; rw [<-L0.out])
       | (refine aA (aU HC.out ⟨_,rfl,rfl⟩) ?_)
       | (refine aA (bL (xK (some ⟨wr.heap.size,0,none⟩) 1 1 q (ji N j,q) rfl) ⟨_,rfl,rfl⟩) ?_)
       | (refine aA (Jf wa.heap.size rfl ⟨_,rfl,rfl⟩) ?_; rw [<-B7.out])
       | (refine yt rfl ⟨_,_,rfl,rfl,rfl⟩ HR4.out b8.out dj.out ib.out.2 ib.out.1 ?_))
      intro v' w5 eN hg5;have dc:=hid eN;have aa:Hid (Below w3.heap.size w3 w5):=hid (yu HR4.out (HB.out.trans (KK.out.mono HB.out.size)) ib.out.1 hg5);clear eN hg5;go_wp2;go_roundw
      case rel=>exact ⟨j+1,_,rfl,by omega,by go_num,by rw [ol.out]; exact dc,aa⟩
      case measure=>simp [intOf]; omega
   .obtain rfl:j=16:=by omega
    have hR:=HR.out;obtain ⟨a,n,c,rfl,By⟩:=hR.done;have hlo:∀ ad,a=some ad->w3.heap.size<=ad.block:=λad e=>by
     subst e;exact (hR.lt ad.block rfl).1
    have j7:=vE N ps ca.out 16 aG;have htk:N.ks.take 16=N.ks:=by rw [<-ca.out]; exact List.take_length
    rw [htk,<-HLen.out] at j7;have BB:(iZ N ps 16).map Prod.snd=ps:=by
     rw [Ho N ps ca.out HLen.out 16 aG,j7,List.take_length]
    have ae:Hid (FM M w t (.returned (.slice a n c)) wr):=hid ⟨a,n,c,_,rfl,By,λad e=>Nat.le_trans (Nat.le_trans HS2.out HB3.out.size) (hlo ad e),by rw [Jp]; exact cw.out,by rw [BB]; exact gx.out,fb.out.1.trans HI.out (Fr.below M (bst HB3.out HB.out)),(fb.out.2.1.below HB3.out).below HB.out,(fb.out.2.2.below HB3.out fb.out.2.2.pos).below HB.out (aI fb.out.2.2.pos HB3.out.size)⟩;clear By hlo j7 htk BB hR HR;go_wp2;go_ret;exact ae.out
 exact hgo
def kF (n:Nat):Int:=((min n 9223372036854775807:Nat):Int)
def chA (q:aK) (c:Int):aN:=#[.pointer q,.int .i64 c]
theorem Sc (n:Nat):0<=kF n/\kF n<=9223372036854775807:=by unfold kF; omega
theorem Bt {n:Nat}:kF n=0↔n=0:=by unfold kF; omega
theorem WQ (a b:Nat):kF a+min (kF b) (9223372036854775807-kF a)=kF (a+b):=by unfold kF; omega
theorem MQ:(prog.info? 88).map (·.size)=some 2:=by kernel_rfl
theorem Sl:(prog.info? 233).map (·.size)=some 2:=by kernel_rfl
theorem XJ (q:aK) (c:Int):(chA q c).all (·.oneCell')=true:=by simp [chA,Value.oneCell']
theorem XT (x:Iv) (h:Hdl):(inA x h).all (·.oneCell')=true:=by simp [inA,Value.oneCell']
theorem eP (ev:Operand->Value) (o:Oper) (w:World) (b:Nat) (hb:b=w.heap.size) (ho:o.op = .alloc 88):(execOp ev o).run prog w = .ok (.value (.pointer (some ⟨b,0,none⟩))) (w.alloc (.cells (chA none 0) 88)):=by
 subst hb;unfold execOp;rw [ho];kernel_rfl
theorem Ev (ev:Operand->Value) (o:Oper) (w:World) (b:Nat) (hb:b=w.heap.size) (ho:o.op = .alloc 233):(execOp ev o).run prog w = .ok (.value (.pointer (some ⟨b,0,none⟩))) (w.alloc (.cells (inA ([],none) (none,0,0)) 233)):=by
 subst hb;unfold execOp;rw [ho];kernel_rfl
theorem dU {rest:List Oper} {act:Go.Act} {w:World} {Q:Exit->Go.Act->World->Prop} {b:Nat} {cs:aN} (h:Rg.Own w b cs 88) (hs:cs.size=2) (q:aK) (c:Int)
  (hgd:o.guard=none) (x y:Operand) (ho:o.op = .store 88 x y) (hx:act.eval x = .pointer (some ⟨b,0,none⟩)) (hy:act.eval y = .agg (chA q c)) (hd:o.dst=none)
  (hQ:∀ w',Rg.Own w' b (chA q c) 88->Rg.Upd w b w'->wpList prog ops Q rest act w'):wpList prog ops Q (o::rest) act w :=
 wpList_store_rowTo hgd 88 x y ho hd b _ hx hy 88 _ h.2 MQ hs (XJ _ _) (hQ _ ⟨by simp; exact h.1,setRow_heap _ _ _ _ _ _ h.2⟩ (Rg.Upd.set _ _ _))
theorem FI {rest:List Oper} {act:Go.Act} {w:World} {Q:Exit->Go.Act->World->Prop} {b:Nat} {cs:aN} (h:Rg.Own w b cs 233) (hs:cs.size=2) (x0:Iv) (h0:Hdl)
  (hgd:o.guard=none) (x y:Operand) (ho:o.op = .store 233 x y) (hx:act.eval x = .pointer (some ⟨b,0,none⟩)) (hy:act.eval y = .agg (inA x0 h0)) (hd:o.dst=none)
  (hQ:∀ w',Rg.Own w' b (inA x0 h0) 233->Rg.Upd w b w'->wpList prog ops Q rest act w'):wpList prog ops Q (o::rest) act w :=
 wpList_store_rowTo hgd 233 x y ho hd b _ hx hy 233 _ h.2 Sl hs (XT _ _) (hQ _ ⟨by simp; exact h.1,setRow_heap _ _ _ _ _ _ h.2⟩ (Rg.Upd.set _ _ _))
theorem FD {w:World} {b:Nat} (h:Rg.Own w b (chA q c) 88):(loadVar 88 ⟨b,0,none⟩).run prog w = .ok (.agg (chA q c)) w :=
 run_loadVar_row (P:=prog) w b 88 88 (chA q c) (0,0) _ h.2 underlying88 rfl MQ
theorem JX {w:World} {b:Nat} (h:Rg.Own w b (chA q c) 88) (ho:∃ x,o.op = .load 88 x/\ev x = .pointer (some ⟨b,0,none⟩)):(execOp ev o).run prog w = .ok (.value (.agg (chA q c))) w:=by
 obtain ⟨x,ho,hx⟩:=ho;unfold execOp;simp only [ho,hx,Instr.loadAt,Instr.sureAddr,Sem.run_bind,Sem.run_pure,Result.andThen_ok,FD h]
theorem Jd {w:World} (ho:∃ x,o.op = .field 88 x 0/\ev x = .agg (chA q c)):(execOp ev o).run prog w = .ok (.value (tv q)) w:=by
 obtain ⟨x,ho,hx⟩:=ho;unfold execOp;simp only [ho,hx];kernel_rfl
theorem Rq:prog.built 88 []=some (chA none 0):=by kernel_rfl
theorem CS (q:aK):prog.built 88 [(0,tv q)]=some (chA q 0):=by kernel_rfl
theorem Jo (q:aK) (c:Int):prog.built 88 [(0,tv q),(1,.int .i64 c)]=some (chA q c):=by kernel_rfl
theorem um {fn:Func} {u:Tmp} (hf:fn.results = #[.cell u 88]) (tmps:aN) {w:World} {b:Nat} (hp:tmps.getD u undef = .pointer (some ⟨b,0,none⟩)) (h:Rg.Own w b (chA q c) 88) :
  (results fn tmps).run prog w = .ok (.agg (chA q c)) w:=by
 have hp':tmps[u]?.getD undef = .pointer (some ⟨b,0,none⟩):=by simpa using hp
 simp [results,hf,hp',asAddr,FD h]
theorem Oh {fn:Func} {u v:Tmp} (hf:fn.results = #[.cell u 88,.tmp v]) (tmps:aN) {w:World} {b:Nat} (hp:tmps.getD u undef = .pointer (some ⟨b,0,none⟩)) (h:Rg.Own w b (chA q c) 88) :
  (results fn tmps).run prog w = .ok (.tuple #[.agg (chA q c),tmps.getD v undef]) w:=by
 have hp':tmps[u]?.getD undef = .pointer (some ⟨b,0,none⟩):=by simpa using hp
 simp [results,hf,hp',asAddr,FD h]
theorem zH (q:aK) (c:Int):∀ (j:Nat) (x:Int),(chA q c)[j]? ≠ some (Value.int .u8 x):=λj x h=>by
 match j,h with
 | 0,h=>simp [chA] at h
 | 1,h=>simp [chA] at h
 | j+2,h=>simp [chA] at h
structure JOk (B:Nat) (K:Nat->Prop) (J:Mp->World->Prop):Prop where
 fr:∀ M M' w w',J M w->Inv M w->w.heap.size<=w'.heap.size->(∀ k,k<B->M.at_ k=none->w'.heap[k]? = w.heap[k]?)->(∀ k t,M.at_ k=some t->M'.at_ k=some t)->(∀ k,k<B->M'.ft k->M.ft k)->(∀ k,k<B->M.at_ k=none->M'.at_ k=none)->J M' w'
 kc:∀ M w,J M w->Inv M w->Kc K M w
 lt:∀ k,K k->k<B
 sz:∀ M w,J M w->B<=w.heap.size
theorem JOk.fn {B:Nat} {K:Nat->Prop} {J:Mp->World->Prop} (h:JOk B K J) {M M':Mp} {w w':World} (j:J M w) (i:Inv M w) (f:Fnw M M' w w'):J M' w' :=
 h.fr M M' w w' j i f.size (λk hk hm=>f.block k (aI hk (h.sz M w j)) hm λe=>e) f.mono (λk hk=>f.foot k (aI hk (h.sz M w j))) (λk hk=>f.fresh k (aI hk (h.sz M w j)))
theorem JOk.below {B:Nat} {K:Nat->Prop} {J:Mp->World->Prop} (h:JOk B K J) {M:Mp} {w w':World} (j:J M w) (i:Inv M w) (hb:Below w.heap.size w w'):J M w':=h.fn j i (Fnw.of (Fr.below M hb))
def qF (K:Nat->Prop) (J:Mp->World->Prop) (M:Mp) (w:World) (t:T) (n:Nat) (e:Ending) (w':World):Prop :=
 ∃ q M',e = .returned (.agg (chA q (kF n)))/\IsT M' q t/\Fk K M M' w w'/\Inv M' w'/\Tab w'/\J M' w'
def Nv (K:Nat->Prop) (J:Mp->World->Prop) (fo:Nat) (co:aN) (st:Pa) (s t':T) (n:Nat):Prop :=
 ∀ (M:Mp) (w:World) (a:aK) (m c:Nat) (p:aK),J M w->Inv M w->Tab w->bf w a m c st->IsT M p s->Calls prog fo (#[.slice a m c,tv p]++co) w (qF K J M w t' n)
end Sx
end
section
open Go.RowKit
namespace Tm
open Tr Ni Pk Ky No Rf Rl
open Sm (Tab)
theorem Qe {M:Mp} {w w':World} {b:Nat} {t:T} {n c:Nat} {ka:aK} {kn kc:Nat} (hi:Inv M w) (hb:Below w.heap.size w w') (hB:w.heap.size<=b) (hn:t ≠ .nil)
  (hc:w'.heap[b]? = some (.cells (gY t a n c ka kn kc 0 (FZ t)) 135 (0,0))) (hp:bf w' a n c (bU t)) (hf:∀ ad,a=some ad->0<n->M.ft ad.block\/w.heap.size<=ad.block) (hk:Ks0 M w.heap.size w' ka kn kc (fq t)) :
  OT M w t (.returned (.agg #[.pointer (some ⟨b,0,none⟩)])) w':=by
 have f:=Fr.more hi hb b t hB;have hlt:b<w'.heap.size:=(Array.getElem?_eq_some_iff.1 hc).1;refine ⟨_,Tm.more M b t w.heap.size w'.heap.size,rfl,⟨b,rfl,sG _ _ _ _ _,hn⟩,f,⟨λk hk=>hk.elim (λh=>aI (hi.lt_ k h) hb.size) (λh=>h.2),λk u hm=>?_⟩,hb,λk hk h=>h.elim (λh=>h) (λh=>absurd h.1 (by omega))⟩;by_cases e:k=b
 .subst e;rw [sG] at hm;obtain rfl:=Option.some.inj hm;refine ⟨hn,Or.inr ⟨hB,hlt⟩,a,n,c,ka,kn,kc,0,_,hc,⟨hp,λad e hn=>?_⟩,⟨hk.1,hk.2.1,hk.2.2.1,hk.2.2.2.1,λj hj=>?_⟩,Or.inl ⟨rfl,rfl⟩⟩
  .obtain ⟨b',off,e',hlt',_⟩:=hp.at' 0 hn;rcases hf ad e hn with h | h
   .exact Or.inl h
   .rw [e] at e';obtain rfl:=Option.some.inj e';exact Or.inr ⟨h,hlt'⟩
  .obtain ⟨b',off,p,e,hlt',hm,hcb,ht⟩:=hk.2.2.2.2 j hj;exact ⟨b',off,p,e,hlt',hm.elim Or.inl (λh=>Or.inr ⟨h,hlt'⟩),hcb,ht.mono f.mono⟩
 .rw [qM e] at hm;have hlt:=hi.lt hm;obtain ⟨h1,h2,a,n,c,ka,kn,kc,d,r,g1,g2,g3,g4⟩:=hi.part_ k u hm;exact ⟨h1,Or.inl h2,a,n,c,ka,kn,kc,d,r,(hb.block k hlt).trans g1,g2.fr hi f,g3.fr hi f,g4⟩
def uK (M:Mp) (w:World) (t:T) (c:Int) (e:Ending) (w':World):Prop:=∃ p M',e = .returned (.tuple #[tv p,.int .i64 c])/\IsT M' p t/\Fr M M' w w'/\Inv M' w'/\Tab w'/\∀ k,k<w.heap.size->M'.ft k->M.ft k
theorem Qr {M:Mp} {w w2 w5 w8:World} {t:T} {e:Ending} (hi:Inv M w) (hz:0<w.heap.size) (hb2:Below w.heap.size w w2) (hO2:Rg.Own w2 g #[.pointer none] 35) (hg:w.heap.size<=g) (f5:Fr M M w2 w5) (t5:Tab w5) (hG:OT M w5 t e w8) :
  ∃ p,e = .returned (tv p)/\∀ w9,Rg.Upd w8 g w9->uK M w t 0 (.returned (.tuple #[tv p,.int .i64 0])) w9:=by
 obtain ⟨p,M',he,ht,f,i,b,hf⟩:=hG;have f28:=f5.trans (hi.below hb2) f;have hn:¬ M'.ft g:=f28.box (hi.free hg) hO2.1 (cZ hO2 (eH _));have f8:=(Fr.below M hb2).trans hi f28;have h25:=hb2.size;have h55:=f5.size;exact ⟨p,he,λw9 hu=>⟨p,M',rfl,ht,f8.upd hu hg,i.upd hu hn,λi hi=>by rw [World.cell?_of_block (hu.block 0 (by omega))]; exact (t5.below b t5.pos) i hi,λk hk=>hf k (by omega)⟩⟩
theorem Vl (M:Mp) (N:Nd) (ts:List T) (hM:Mk N ts) (pa:aK) (pn pc:Nat) (ps:List (aK)) (hA:Are M ps ts) (ka:aK) (kn kc:Nat) (hn:kn<=1000000) (w:World) (hi:Inv M w) (hT:Tab w) (hB:bf w pa pn pc N.p) (hP:iQ w ka kn kc ps) :
  Calls prog 175 #[.agg (ndC N pa pn pc),.slice ka kn kc] w (uK M w (makeT N ts) 0):=by
 obtain ⟨w2,hw2,hN,hX,hb2⟩:∃ w2,w2=(w.alloc (.cells (ndC N pa pn pc) 69)).alloc (.cells #[.pointer none] 35)/\dZ w2 w.heap.size N pa pn pc/\Rg.Own w2 (w.heap.size+1) #[.pointer none] 35/\Below w.heap.size w w2:=by
  refine ⟨_,rfl,(Rg.Own.new _ _ _).below (al1 _ _),?_,al2 _ _ _⟩;have:=Rg.Own.new (w.alloc (.cells (ndC N pa pn pc) 69)) #[.pointer none] 35;simpa using this
 have hkn:(bF N.ks).length=kn:=by rw [hM.refs,List.length_map,<-hA.1]; exact hP.2.2.1
 have hpn:pn<=1000000:=by have:=hB.len; have:=hM.pl; omega
 have HN:=hid hN;have HX:=hid hX;have HB:=hid hb2;have kx:=hid (hB.below hb2);have HP:=hid (hP.below hb2);have HI:=hid (hi.below hb2);have Hb:=HI;have sq:=hid (hT.below hb2 hT.pos);have HL:=hid hM.ks;have HW:Hid (_=_):=hid hw2;have fh:=hid (Ig N pa pn pc hM.ks w2);have ya:=hid (λwz hz=>Cr hM.ks hM.may hM.v hM.few pa pn pc wz hz)
 have ae:Hid (∀ w5 w8 e,Fr M M w2 w5->Tab w5->OT M w5 (makeT N ts) e w8->∃ p,e = .returned (tv p)/\∀ w9,Rg.Upd w8 (w.heap.size+1) w9->uK M w (makeT N ts) 0 (.returned (.tuple #[tv p,.int .i64 0])) w9):=hid (λw5 w8 e f t g=>Qr hi hT.pos hb2 hX (Nat.le_succ _) f t g)
 have hU:Hid (∀ w5,iQ w5 ka kn kc ps->∀ wz,Below w5.heap.size w5 wz->Calls prog 191 #[.agg (ndC N pa pn pc),.slice ka kn kc] wz λe w'=>∃ va vn vc,e = .returned (.slice va vn vc)/\Ks0 M w5.heap.size w' va vn vc (fq (makeT N ts))/\Below wz.heap.size wz w'):=hid (λw5 hp wz hb=>by
  refine (zY M N hM.ks pa pn pc ps ts hA hM.kd' ka kn kc wz (hp.below hb) hn).mono ?_;rintro e w' ⟨va,vn,vc,he,hk,hb'⟩;exact ⟨va,vn,vc,he,hk.lo hb.size,hb'⟩)
 have yb:=hid (zm (makeT N ts) N.kd N.v hM.k hM.mv hM.ms);have gp:=hid hM.mp;have yd:=hid hM.mn;have lj:Hid (M.at_ w.heap.size=none/\M.at_ (w.heap.size+1)=none):=hid ⟨hi.out aG,hi.out (by omega)⟩;have HM:=hid hM;have HA:=hid hA;obtain ⟨TT,ir⟩:=ay (makeT N ts)
 rw [ir] at ae hU yb gp yd ⊢;obtain ⟨gN,hgN⟩:=ay w.heap.size
 obtain ⟨gT,eo⟩:=ay (w.heap.size+1)
 have hgg:gN≠gT:=by omega
 have lk:Hid (gT=w.heap.size+1):=hid eo.symm;rw [eo] at HX ae lj;rw [hgN] at HN lj;have Hc:Hid (_=_):=hid hgN;have Hd:=hid hkn;clear hN hX hb2 hB hP hi hT hM hA hw2 ir hkn eo hgN;have hgo:Calls prog 175 #[.agg (ndC N pa pn pc),.slice ka kn kc] w (uK M w TT 0):=by
  go_enter func175,ntmps175;go_wp2_with (first
   | (refine aA (aX _ _ _ gT (by rw [lk.out]; simp) rfl) ?_; rw [<-HW.out,Hc.out])
   | (refine aA (bR HN.out HL.out ⟨_,rfl,rfl⟩) ?_))
  refine fh.out.mono ?_;rintro e w3 ⟨a3,n3,c3,rfl,ll,ec,hb3⟩;obtain rfl:kn=n3:=by rw [<-ll.2.2.1]; exact Hd.out.symm
  have ix:=hid (HN.out.below hb3);have cN:=hid (HX.out.below hb3);have HB3:=hid (hb3);have cR:=hid (kx.out.below hb3);have cn:=hid ll;have sr:Hid (∀ b off,a3=some ⟨b,off,none⟩->M.at_ b=none):=hid (λb off e=>HI.out.out (ec b off e));clear ll ec hb3 fh HX kx HW;go_wp2_with (first
   | (refine aA (bR ix.out HL.out ⟨_,rfl,rfl⟩) ?_))
  refine (ya.out w3 cR.out).mono ?_;rintro e w4 ⟨rfl,hb4⟩;have o8:=hid (ix.out.below hb4);have di:=hid (cN.out.below hb4);have dj:=hid (cR.out.below hb4);have bc:=hid (bst HB3.out hb4);have du:=hid (cn.out.below hb4);have lL:=hid (HP.out.below bc.out);have HI4:=hid (HI.out.below bc.out);have ia:=hid (sq.out.below bc.out sq.out.pos);have c0:=(dD o8.out).1;clear hb4 ix cN HB3 cR cn ya HP HI sq;go_upto_region 4 with fail
  go_cut [36] (λv wx=>v = .bool false/\Hid (Below w4.heap.size w4 wx))
  case first =>
   rcases HM.out.kd with ⟨h1,h2⟩ | ⟨h1,s,hts,hs1,hs2⟩ | ⟨h1,h2⟩
   .rw [h1] at c0;clear h1 h2;go_wp2_with fail
    go_meet
    exact ⟨rfl,hid aH⟩
   .rw [h1] at c0;have hps:ps.length=1:=by rw [HA.out.1,hts]; rfl
    have hk1:kn=1:=by rw [<-lL.out.2.2.1]; exact hps
    obtain ⟨b,off,hka,hlt,hc⟩:=lL.out.2.2.2.2 0 (by omega);have ht:=HA.out.2 0 (by omega);rw [hts] at ht;have ht':IsT M (ps.getD 0 none) s:=ht;have ot:=λwz (hb:Below w4.heap.size w4 wz)=>Tm.dA M (ps.getD 0 none) s wz (HI4.out.below hb) ht';obtain ⟨p,hp⟩:=ay (ps.getD 0 none)
    rw [hp] at hc ot;have fh:=hid ot;obtain ⟨K,hK⟩:=ay (dB s)
    rw [hK] at fh hs1 hs2;have k1:(K==1)=false:=by rw [beq_eq_false_iff_ne]; exact hs1
    have k2:(K==2)=false:=by rw [beq_eq_false_iff_ne]; exact hs2
    have k1':decide (K=1)=false:=decide_eq_false hs1;have k2':decide (K=2)=false:=decide_eq_false hs2;rw [Nat.add_zero] at hc;have HC:=hid hc;clear h1 hps ht ht' ot hp hK hts;subst hk1;subst hka;go_wp2_with (first
     | (refine aA (aU HC.out ⟨_,rfl,rfl⟩) ?_)
     | (refine Rg.runW ?hw _ _ (aU HC.out ⟨_,rfl,rfl⟩) ?_; case hw=>rfl))
    refine (fh.out w4 aH).mono ?_;rintro e w5 ⟨rfl,hb5⟩;have ss:=hid ((Below.cell (p:=⟨b,off,none⟩) hb5 hlt).trans HC.out);have aa:=hid hb5;clear hb5;go_wp2_with (first
     | (refine aA (aU ss.out ⟨_,rfl,rfl⟩) ?_)
     | (refine Rg.runW ?hw _ _ (aU ss.out ⟨_,rfl,rfl⟩) ?_; case hw=>rfl))
    refine (fh.out w5 aa.out).mono ?_;rintro e w6 ⟨rfl,hb6⟩;have bi:=hid (bst aa.out hb6);clear hb6;go_wp2_with fail
    go_meet
    exact ⟨rfl,bi⟩
   .rw [h1] at c0;clear h1 h2;go_wp2_with fail
    go_meet
    exact ⟨rfl,hid aH⟩
  case rest =>
  obtain ⟨rfl,aa⟩:=hcut;obtain ⟨wd,hwd⟩:=au wc
  subst hwd;have fl:=hid (o8.out.below aa.out);have ye:=hid (di.out.below aa.out);have ml:=hid (dj.out.below aa.out);have yf:=hid (du.out.below aa.out);have sC:=hid (lL.out.below aa.out);have pv:=hid (HI4.out.below aa.out);have yh:=hid (ia.out.below aa.out ia.out.pos);have mm:Hid (Fr M M w2 wd):=hid (Fr.below M (bst bc.out aa.out));have HEq:=hid (Ed M ps ts ka kn kc a3 kn c3 wd sC.out HA.out HM.out.fine (by rw [<-HM.out.refs]; exact yf.out) sr.out hn pv.out yh.out);clear o8 di dj du lL HI4 ia aa bc yf c0;go_wp2_with fail
  refine HEq.out.mono ?_;rintro e w5 ⟨rfl,cq,hi5,eK⟩;have gR:Hid (dZ w5 gN N pa pn pc):=hid (jM fl.out cq lj.out.1);have fy:=hid (jM ye.out cq lj.out.2);have sE:=hid (mP pv.out ml.out cq);have yi:=hid (sC.out.frm pv.out cq);have qT:=hid hi5;replace ae:=hid (λw8 e g=>ae.out w5 w8 e (mm.out.trans Hb.out cq) eK g);replace hU:=hid (hU.out w5 yi.out);have Hh:Hid (∀ wz,Below w5.heap.size w5 wz->Calls prog 115 #[.slice pa pn pc] wz (JW wz N.p)):=hid (λwz hb=>qh pa pn pc N.p hpn wz (sE.out.below hb))
  clear cq hi5 eK HEq fl ye ml sC pv yh mm;go_wp2_with fail
  have bo:Hid (Below w5.heap.size w5 w5.drew):=hid aH.drew;refine aC (S:=λw'=>dZ w' gN N pa pn pc) (gR.out.drew) λhld=>?_;refine ah 0 ?_;try simp only [Act.put,ak]
  refine ah 1 ?_ (hy:=by intro wz hSw; (have q0:=(dD hSw).1; go_simp <;> with_reducible rfl));try simp only [Act.put,ak]
  refine ah 2 ?_;try simp only [Act.put,ak]
  refine ah 3 ?_ (hy:=by intro wz hSw; (have q0:=(dD hSw).2.1; go_simp <;> with_reducible rfl));try simp only [Act.put,ak]
  refine ah 5 ?_;try simp only [Act.put,ak]
  refine ah 6 ?_ (hy:=by intro wz hSw; (have q0:=(dD hSw).2.2; go_simp <;> with_reducible rfl));try simp only [Act.put,ak]
  refine ah 7 ?_ (hy:=by intro wz hSw; (refine bR hSw HL.out ?_; exact ⟨_,rfl,rfl⟩));try simp only [Act.put,ak]
  refine ah 8 ?_;try simp only [Act.put,ak]
  refine aj 4 λK hK=>?_;go_simp;go_at_call 115
  (with_reducible refine (Hh.out _ bo.out).mono ?_)
  rintro e gr ⟨a7,n7,c7,rfl,oj,hbx⟩;have cm:=hid (oj.weak bo.out.size);replace bo:=hid (bst bo.out hbx);clear oj;refine hK.out _ _ (hld.below hbx) λhld=>?_;clear hK K hbx;try simp only [Act.put,ak]
  refine aj 9 λK hK=>?_;go_simp;go_at_call 191
  (with_reducible refine (hU.out _ bo.out).mono ?_)
  rintro e wv1 ⟨va,vn,vc,rfl,hks,hbx⟩;have ju:=hid hks;replace cm:=hid (cm.out.below hbx);replace bo:=hid (bst bo.out hbx);clear hks;refine hK.out _ _ (hld.below hbx) λhld=>?_;clear hK K hbx;try simp only [Act.put,ak]
  refine ah 10 ?_ (hy:=by intro wz hSw; (refine bL (yb.out a7 n7 c7 va vn vc) ?_; exact ⟨_,rfl,rfl⟩));try simp only [Act.put,ak]
  refine aj 11 λK hK=>?_;refine Rg.meetAlloc (by rfl) (jd (t:=TT) ⟨_,rfl,rfl⟩) ?_;rintro wv2 b11 cD h11 hbx;have cg:w5.heap.size<=b11:=by rw [cD]; exact bo.out.size
  replace cm:=hid (cm.out.below hbx);replace ju:=hid (ju.out.below hbx);replace bo:=hid (bst bo.out hbx);obtain ⟨Hi,mr,hE⟩:=ae.out _ _ (Qe qT.out bo.out cg yd.out h11.2 (by rw [gp.out]; exact cm.out.1) (λad e _=>Or.inr (cm.out.2 ad e)) ju.out);obtain rfl:Hi=some ⟨b11,0,none⟩:=by cases mr; rfl
  have HE:=hid hE;clear hE mr cD;refine hK.out _ _ (hld.below hbx) λhld=>?_;clear hK K hbx;try simp only [Act.put,ak]
  refine ah 12 ?_;try simp only [Act.put,ak]
  refine aj 13 λK hK=>?_;refine eD (by rfl) (fy.out.below bo.out) (off:=0) (by simp) (some ⟨b11,0,none⟩) ⟨_,_,rfl,rfl,rfl⟩ ?_;rintro pw hn hu;have Hj:Hid (Rg.Own pw gT #[.pointer (some ⟨b11,0,none⟩)] 35):=hid hn;have Hm:=hid (HE.out _ hu);refine hK.out _ _ (hld.upd hu hgg) λhld=>?_;clear hK K hn hu;try simp only [Act.put,ak]
  refine ah 14 ?_;try simp only [Act.put,ak]
  refine aB ?_;clear hld;go_wp2;exact bodyPost_ret (jq (q:=4) (u:=5) rfl _ rfl Hj.out) rfl Hm.out
 exact hgo
end Tm
end
section
open Go.RowKit
namespace Sx
open Tr Ni Pk Ky No Rf Rl Tm
open Sm (Tab)
theorem lQ {w w':World} (h:Tab w) (hu:Rg.Upd w g w') (hg:0<g):Tab w':=λi hi=>by
 rw [World.cell?_of_block (hu.block 0 (by omega))];exact h i hi
theorem JY (M:Mp) (p:aK) (t:T) (L:Nat) (g:Tr.Good t L) (hL:L<=64) (f:Fine t) (ts:List T) (hM:Mk (bg t) ts) (ps:List (aK)) (hA:Are M ps ts) (ka:aK) (kn kc:Nat) (hn:kn<=1000000) (w:World) (hi:Inv M w) (ht:IsT M p t) (hT:Tab w) (hP:iQ w ka kn kc ps) :
  Calls prog 163 #[tv p,.slice ka kn kc] w (uK M w (makeT (bg t) ts) 0):=by
 obtain ⟨w1,hw1⟩:=au ((w.alloc (.cells #[.pointer p] 35)).alloc (.cells #[.pointer none] 35))
 have hb1:Below w.heap.size w w1:=by rw [hw1]; exact al2 _ _ _
 have ab:Rg.Own w1 w.heap.size #[.pointer p] 35:=by rw [hw1]; exact (Rg.Own.new _ _ _).below (al1 _ _)
 have hX1:Rg.Own w1 (w.heap.size+1) #[.pointer none] 35:=by
  have:=Rg.Own.new (w.alloc (.cells #[.pointer p] 35)) #[.pointer none] 35;rw [hw1];simpa using this
 have hi1:=hi.below hb1;have hT1:=hT.below hb1 hT.pos;have Bm:=hid (Ak M p t L g hL f w1 hi1 ht hT1);have cM:Hid (Bx M w1 (w.heap.size+1) #[.pointer none] 35):=hid ⟨hX1,hi.free (Nat.le_succ _),eH _⟩;have bd:=hid ab;have tl:=hid (hP.below hb1);have HI1:=hid hi1;have HB1:=hid hb1;have HI:=hid hi;have HM:=hid hM;have HA:=hid hA;have HW1:=hid hw1;have ca:Hid ((bg t).ks.length=16):=hid (cK t);have HZ:Hid (0<w.heap.size):=hid hT.pos;obtain ⟨N,hN⟩:=ay (bg t)
 have HN:=hid hN;rw [hN] at ca HM ⊢;obtain ⟨TT,ir⟩:=ay (makeT N ts)
 have HTT:=hid ir;rw [ir];obtain ⟨gX,df⟩:=ay (w.heap.size+1)
 have eA:=hid df;rw [df] at cM;clear hb1 ab hX1 hi1 hT1 hi hT hM hA hP g f hN hw1 ir df;have hgo:Calls prog 163 #[.agg #[.pointer p],.slice ka kn kc] w (uK M w TT 0):=by
  go_enter func163,ntmps163;go_wp2_with (first
   | (refine aA (aX _ _ _ gX (by rw [<-eA.out]; simp) rfl) ?_; rw [<-HW1.out])
   | (refine aA (aU (Tm.aV (j:=0) bd.out rfl) ⟨_,rfl,rfl⟩) ?_))
  refine Bm.out.mono ?_;rintro e w2 ⟨na,nn,nc,ka2,kc2,ps2,rfl,_,hbs,_,_,_,f2,i2,t2⟩;rw [HN.out] at hbs ⊢;have kx:=hid hbs.1;have px:=hid (tl.out.frm HI1.out f2);have cF:=hid (cM.out.frm HI1.out f2);have fb:Hid (Fr M M w w2/\Inv M w2/\Tab w2):=hid ⟨(Fr.below M HB1.out).trans HI.out f2,i2,t2⟩;have mt:dZ (w2.alloc (.cells (ndC nd0 none 0 0) 69)) w2.heap.size nd0 none 0 0:=Rg.Own.new _ _ _;have fl:=hid mt;clear hbs f2 i2 t2 mt Bm bd cM tl HI1;go_wp2_with (first
   | (refine aA (bD _ _ _ w2.heap.size rfl rfl) ?_)
   | (refine bH fl.out rfl N na nn nc ca.out rfl _ _ rfl rfl rfl rfl ?_)
   | (refine aA (bR (dM fl.out) ca.out ⟨_,rfl,rfl⟩) ?_))
  obtain ⟨w3,hw3⟩:=au ((w2.alloc (.cells (ndC nd0 none 0 0) 69)).setRow w2.heap.size (ndC N na nn nc))
  have hb3:Below w2.heap.size w2 w3:=by rw [hw3]; exact bZ (al1 _ _) aG _
  rw [<-hw3];clear hw3 fl;have hmk:=Vl M N ts HM.out na nn nc ps HA.out ka kn kc hn w3 (fb.out.2.1.below hb3) (fb.out.2.2.below hb3 fb.out.2.2.pos) (kx.out.below hb3) (px.out.below hb3);rw [HTT.out] at hmk;refine hmk.mono ?_;rintro e w4 ⟨q,M4,rfl,np,f4,i4,t4,k4⟩;have pj:=(cF.out.below hb3).frm (fb.out.2.1.below hb3) f4;have di:=hid pj
  have ae:Hid (∀ w5,Rg.Upd w4 gX w5->uK M w TT 0 (.returned (.tuple #[tv q,.int .i64 0])) w5):=hid (λw5 hu=>⟨q,M4,rfl,np,(fb.out.1.trans HI.out ((Fr.below M hb3).trans fb.out.2.1 f4)).upd hu (by have:=eA.out; omega),i4.upd hu pj.n,lQ t4 hu (by have:=eA.out; have:=HZ.out; omega),λk hk=>k4 k (aI (aI hk fb.out.1.size) hb3.size)⟩);clear hmk np f4 i4 t4 k4 pj hb3 cF fb px kx;go_wp2_with (first
   | (refine aZ di.out.o (by simp) q rfl _ _ rfl rfl rfl ?_; intro w5 ap aq; have az:Hid (Rg.Own w5 gX #[.pointer q] 35):=hid ap; have n9:=hid (ae.out w5 aq); clear ap aq))
  exact bodyPost_ret (jq (q:=4) (u:=5) rfl _ rfl az.out) rfl n9.out
 exact hgo
structure Cg (K:Nat->Prop) (J:Mp->World->Prop) (M0:Mp) (w0:World) (ts:List T) (M:Mp) (w:World) (v:Value) (ps:List (aK)):Prop where
 f:Fk K M0 M w0 w
 i:Inv M w
 t:Tab w
 j:J M w
 row:w.ownsRow w0.heap.size 35 1 v ps.length (ps.map Value.pointer)
 nr:∀ k,v.ownBlock=some k->¬ M.ft k
 are:Are M ps ts
 z:0<w0.heap.size
section
variable {B:Nat} {K:Nat->Prop} {J:Mp->World->Prop} {M0 M M':Mp} {w0 w w':World} {ra:aK} {rn rc:Nat} {xs:List Iv} {ts:List T} {v v':Value} {ps:List (aK)}
theorem Ze (h:qZ w ra rn rc xs) (hi:Inv M w) (f:Fk K M M' w w') (hk:∀ ad,ra=some ad->¬ K ad.block):qZ w' ra rn rc xs :=
 ⟨h.1,h.2.1,h.2.2.1,h.2.2.2.1,λj hj=>by
  obtain ⟨b,off,g,e,hlt,hp,hb⟩:=h.2.2.2.2 j hj;have hm:=hi.nU hp.2;have hs:=f.block b hlt hm (hk _ e);exact ⟨b,off,g,e,aI hlt f.size,⟨by rw [World.cell?_of_block hs]; exact hp.1,by rw [World.cell?_of_block hs]; exact hp.2⟩,Wp hi hb f⟩⟩
theorem Cg.below (h:Cg K J M0 w0 ts M w v ps) (hJ:JOk B K J) (hb:Below w.heap.size w w'):Cg K J M0 w0 ts M w' v ps :=
 ⟨h.f.trans ((Fr.below M hb).k (hJ.kc M w h.j h.i)) (λk hk=>.inl hk),h.i.below hb,h.t.below hb h.t.pos,hJ.below h.j h.i hb,dI h.row λk e=>hb.block k (h.row.lt k e).2,h.nr,h.are,h.z⟩
theorem Cg.call (h:Cg K J M0 w0 ts M w v ps) (hk:∀ k,K k->k<w0.heap.size) (f:Fk K M M' w w') (i:Inv M' w') (t:Tab w') (j:J M' w'):Cg K J M0 w0 ts M' w' v ps :=
 ⟨h.f.trans f (λk hk=>.inl hk),i,t,j,dI h.row λk e=>f.block k (h.row.lt k e).2 (nR h.i (h.nr k e)) (λe2=>by have:=hk k e2; have:=(h.row.lt k e).1; omega),λk e=>f.box (h.nr k e) (h.row.lt k e).2,h.are.mono f.mono,h.z⟩
theorem Fk.grown (f:Fk K M0 M w0 w) {row:Option Nat} (hg:w.grownBy w' row) (hr:∀ k,row=some k->w0.heap.size<=k):Fk K M0 M w0 w' :=
 ⟨hg.os.trans f.os,hg.tape.trans f.tape,hg.output.trans f.output,Nat.le_trans f.size hg.size,λk hk hm hn=>(hg.block k (aI hk f.size) λe=>by have:=hr k e.symm; omega).trans (f.block k hk hm hn),f.mono,f.fresh,f.grow,f.foot,f.nob⟩
theorem Cg.push (h:Cg K J M0 w0 ts M w v ps) (hJ:JOk B K J) (hB:B<=w0.heap.size) {s:T} (hq:IsT M q s) (hrow:w'.ownsRow w0.heap.size 35 1 v' (ps.length+1) (ps.map Value.pointer++[.pointer q])) (hg:w.grownBy w' v.ownBlock) (hl:v'.ownBlock=v.ownBlock\/v'.ownBlock=some w.heap.size):Cg K J M0 w0 (ts++[s]) M w' v' (ps++[q]):=by
 have hr:∀ k,v.ownBlock=some k->w0.heap.size<=k:=λk e=>(h.row.lt k e).1;refine ⟨Fk.grown h.f hg hr,h.i.keep hg.size λk hk=>hg.block k (h.i.lt_ k hk) λe=>h.nr k e.symm hk,λi hi=>?_,hJ.fr M M w w' h.j h.i hg.size (λk hk _=>hg.block k (aI hk (hJ.sz M w h.j)) λe=>by have:=hr k e.symm; omega) (λ_ _ h=>h) (λ_ _ h=>h) (λ_ _ h=>h),by rw [List.length_append,List.map_append]; exact hrow,λk e hf=>?_,h.are.snoc ⟨rfl,λj hj=>?_⟩,h.z⟩
 .have hz:=h.z;have hs:=h.f.size;rw [World.cell?_of_block (hg.block 0 (by omega) λe=>by have:=hr _ e.symm; omega)];exact h.t i hi
 .rcases hl with e2 | e2
  .exact h.nr k (by rw [<-e2]; exact e) hf
  .rw [e2] at e;obtain rfl:=Option.some.inj e;exact h.i.free aG hf
 .obtain rfl:j=0:=by simp at hj; exact hj
  exact hq
theorem IY {n:Nat} (h:w.ownsRow n 35 1 v ps.length (ps.map Value.pointer)):∃ a c,v = .slice a ps.length c/\iQ w a ps.length c ps:=by
 have h':=h;obtain ⟨_,h2⟩:=h;rcases h2 with ⟨rfl,hn⟩ | ⟨g,cap,cur,rfl,_⟩
 .have:ps=[]:=List.length_eq_zero_iff.1 hn;subst this;exact ⟨none,0,rfl,aG,Nat.zero_le _,rfl,λ_=>rfl,λ_ h=>absurd h (Nat.not_lt_zero _)⟩
 .obtain ⟨_,_,hlt,hnc,hcm,hc⟩:=DU h';exact ⟨_,cap,rfl,hnc,hcm,rfl,λe=>(by cases e),λj hj=>⟨g,0,rfl,hlt,by rw [Nat.zero_add]; exact hc j hj⟩⟩
end
theorem Kw {rest:List Oper} {a:Go.Act} {w:World} {Q:Exit->Go.Act->World->Prop} {B:Nat} {v:Value} {ps:List (aK)} (hR:w.ownsRow B 35 1 v ps.length (ps.map Value.pointer)) (h2:Rg.Own w b2 (mD [q]) 35) (hn:ps.length<=1000000) (hB:B<=w.heap.size) (hgd:o.guard=none)
  (ho:∃ s y,o.op = .call { callee:=.builtin .append,args:=#[s,y],argTypes:=#[122,122] }/\a.eval s=v/\a.eval y = .slice (some ⟨b2,0,none⟩) 1 1)
  (H:∀ v' w',w'.ownsRow B 35 1 v' (ps.length+1) (ps.map Value.pointer++[.pointer q])->w.grownBy w' v.ownBlock->(v'.ownBlock=v.ownBlock\/v'.ownBlock=some w.heap.size)->wpList prog ops Q rest (a.put o.dst v') w'):wpList prog ops Q (o::rest) a w:=by
 obtain ⟨s,y',ho,hs,hy⟩:=ho;obtain ⟨i0,z0,hi,hz,hsz,hby,hzc⟩:=jF;obtain ⟨v',w',hr,h3,h4,_,h5⟩:=run_append_own_at (P:=prog) w B 122 o.type 35 i0 z0 1 8 underlying122 hi hz hsz hby hzc (by decide) v ps.length _ hR ⟨b2,0,none⟩ 1 1 [.pointer q] rfl
  (λj u hu=>by
   have hj:j=0:=by
    have:=(List.getElem?_eq_some_iff.1 hu).1;simp at this;omega
   subst hj;have hu':Value.pointer q=u:=by simpa using hu
   rw [Addr.add_mid,<-hu'];exact Tm.aV h2 rfl)
  (λu hu=>by rw [List.mem_singleton.1 hu]; rfl) (by unfold maxLen; omega) (by omega) hB
 refine eZ hgd v' w' ?_ (H v' w' h3 h4 h5);unfold execOp;simp only [ho,resolve,invoke,builtin,Sem.run_bind,Sem.run_pure,Result.andThen_ok,List.map_toArray,List.map_cons,List.map_nil,hs,hy,hr]
theorem Vh {xs:List Iv} {l:List Pa} (h:xs.map Prod.fst=l) (j:Nat):(xs.getD j ([],none)).1=l.getD j []:=by
 subst h;by_cases hj:j<xs.length
 .simp [List.getD,hj]
 .simp [List.getD,List.getElem?_eq_none (show xs.length<=j by omega)]
theorem Vj {xs:List Iv} {l:List (aK)} (h:xs.map Prod.snd=l) (j:Nat):(xs.getD j ([],none)).2=l.getD j none:=by
 subst h;by_cases hj:j<xs.length
 .simp [List.getD,hj]
 .simp [List.getD,List.getElem?_eq_none (show xs.length<=j by omega)]
theorem Fk.upd {K:Nat->Prop} {M M':Mp} {w w1 w2:World} (f:Fk K M M' w w1) (hu:Rg.Upd w1 g w2) (hg:w.heap.size<=g):Fk K M M' w w2 :=
 ⟨hu.os.trans f.os,hu.tape.trans f.tape,hu.output.trans f.output,by rw [hu.size]; exact f.size,λk hk hm hn=>(hu.block k (by omega)).trans (f.block k hk hm hn),f.mono,f.fresh,f.grow,f.foot,f.nob⟩
theorem Ny {B:Nat} {K:Nat->Prop} {J:Mp->World->Prop} (hJ:JOk B K J) {M M':Mp} {w w1 w2:World} {t:T} {n:Nat} (h0:J M w) (hz:0<w.heap.size) (f:Fk K M M' w w1) (i:Inv M' w1) (ht:Tab w1) (j:J M' w1) (hf:¬ M'.ft g) (hg:w.heap.size<=g) (hu:Rg.Upd w1 g w2) (hq:IsT M' q t):qF K J M w t n (.returned (.agg (chA q (kF n)))) w2:=by
 have hB:=hJ.sz M w h0;exact ⟨q,M',rfl,hq,Fk.upd f hu hg,i.upd hu hf,lQ ht hu (by omega),hJ.fr M' M' w1 w2 j i (by rw [hu.size]; exact aG) (λk hk _=>hu.block k (by omega)) (λ_ _ h=>h) (λ_ _ h=>h) (λ_ _ h=>h)⟩
theorem GL {B:Nat} {K:Nat->Prop} {J:Mp->World->Prop} (hJ:JOk B K J) (fo:Nat) (co:aN) (eO:∀ args w,(callFunc fo args).run prog w = .ok (.enter fo args) w) (F:Pa->T->T) (C:Pa->T->Nat) (M:Mp) (p:aK) (t:T) (L:Nat) (g:Tr.Good t L) (hL:L<=64) (f:Fine t) (hok:OkF F C t)
  (hO:∀ j,j<(aY t).length->Nv K J fo co ((dO t).getD j []) ((aY t).getD j .nil) (F ((dO t).getD j []) ((aY t).getD j .nil)) (C ((dO t).getD j []) ((aY t).getD j .nil)))
  (w:World) (hi:Inv M w) (ht:IsT M p t) (hT:Tab w) (hj:J M w) :
  Calls prog 124 #[tv p,.func (.func fo) #[] co] w (qF K J M w (vZ F t) (kE C t (aY t).length)):=by
 obtain ⟨w1,hw1⟩:=au ((w.alloc (.cells #[.pointer p] 35)).alloc (.cells (chA none 0) 88))
 have hb1:Below w.heap.size w w1:=by rw [hw1]; exact al2 _ _ _
 have ab:Rg.Own w1 w.heap.size #[.pointer p] 35:=by rw [hw1]; exact (Rg.Own.new _ _ _).below (al1 _ _)
 have hX1:Rg.Own w1 (w.heap.size+1) (chA none 0) 88:=by
  have:=Rg.Own.new (w.alloc (.cells #[.pointer p] 35)) (chA none 0) 88;rw [hw1];simpa using this
 have hi1:=hi.below hb1;have hT1:=hT.below hb1 hT.pos;have Sf:=hid (Ma M p t L g hL f w1 hi1 ht hT1);have cM:Hid (Bx M w1 (w.heap.size+1) (chA none 0) 88):=hid ⟨hX1,hi.free (Nat.le_succ _),zH _ _⟩;have bd:Hid (Bx M w1 w.heap.size #[.pointer p] 35):=hid ⟨ab,hi.free aG,eH _⟩;have HI1:=hid hi1;have HB1:=hid hb1;have HI:=hid hi;have L3:=hid (hJ.below hj hi hb1);have HJ:=hid hJ;have vx:=hid hj;have HW1:=hid hw1;have So:=hid ht;have gm:=hid hok;have pm:=hid hO
 have HZ:Hid (0<w.heap.size):=hid hT.pos;have HRm:=hid (λ(hn:t ≠ .nil) (hs:¬ dQ t) (M:Mp) (ht:IsT M p t) (ps:List (aK)) (hA:Are M ps (qG F t)) (ka:aK) (kc:Nat) (hl:ps.length<=1000000) (w:World) (hi:Inv M w) (hT:Tab w) (hP:iQ w ka ps.length kc ps)=>by
  have:=JY M p t L g hL f _ (YP g hL f hn hs hok) ps hA ka ps.length kc hl w hi ht hT hP;rwa [Ga g hL f hn hs] at this)
 have oR:=hid (λh=>SL hok h);have ta:=hid (vG F t);have HMa:=hid (EU F t);have qq:=pK t;obtain ⟨n,hn⟩:=ay ((aY t).length)
 have HN:=hid hn;obtain ⟨gT,eo⟩:=ay w.heap.size
 obtain ⟨gX,df⟩:=ay (w.heap.size+1)
 have eA:Hid (gX=w.heap.size+1):=hid df.symm;have lk:Hid (w.heap.size=gT):=hid eo;rw [df] at cM;rw [eo] at bd;rw [hn] at qq ⊢;clear hb1 ab hX1 hi1 hT1 hi hT hJ hj g f hok hO hw1 hn eo df ht;have hgo:Calls prog 124 #[.agg #[.pointer p],.func (.func fo) #[] co] w (qF K J M w (vZ F t) (kE C t n)):=by
  go_enter func124,ntmps124;go_wp2_with (first
   | (refine aA (eP _ _ _ gX (by rw [eA.out]; simp) rfl) ?_; rw [<-HW1.out,lk.out])
   | (refine aA (aU (Tm.aV (j:=0) bd.out.o rfl) ⟨_,rfl,rfl⟩) ?_))
  refine Sf.out.mono ?_;rintro e w2 ⟨ra,rn,rc,xs,rfl,hins,hra,BC,cV,f2,i2,t2⟩;have hrn:rn=n:=by rw [<-hins.len,<-HN.out,<-cV.1,List.length_map]
  subst hrn;have L4:=hid BC;have gx:=hid cV;have L5:=hid hins;have lw:Hid (∀ k,w.heap.size<=k->¬ K k):=hid (λk hk e=>by have:=HJ.out.lt k e; have:=HJ.out.sz M w vx.out; omega);have HRb:Hid (∀ ad,ra=some ad->¬ K ad.block):=hid (λad e=>lw.out _ (Nat.le_trans HB1.out.size (hra ad e)));have cF:=hid (cM.out.frm HI1.out f2);have c8:=hid (bd.out.frm HI1.out f2);have hs2:w.heap.size<=w2.heap.size:=Nat.le_trans HB1.out.size f2.size;have HI2:=hid i2
  have cl:Hid (∀ k,K k->k<w2.heap.size):=hid (λk e=>by have:=HJ.out.lt k e; have:=HJ.out.sz M w vx.out; omega);have cG:Hid (B<=w2.heap.size/\w.heap.size<=w2.heap.size):=hid ⟨by have:=HJ.out.sz M w vx.out; omega,hs2⟩;have fb:Hid (Fk K M M w w2):=hid (((Fr.below M HB1.out).trans HI.out f2).k (HJ.out.kc M w vx.out HI.out))
  have tn:Hid (Cg K J M w2 ((qG F t).take 0) M w2 (.slice none 0 0) []):=hid ⟨(Fr.refl M w2).k (HJ.out.kc M w2 (HJ.out.fn L3.out HI1.out (Fnw.of f2)) i2),i2,t2,HJ.out.fn L3.out HI1.out (Fnw.of f2),World.ownsRow_nil _ _ _ _,λ_ e=>(by cases e),⟨rfl,λ_ h=>absurd h (Nat.not_lt_zero _)⟩,aI HZ.out hs2⟩;clear hins hra BC cV f2 i2 t2 hs2 Sf bd cM L3 HI1;go_wp2
  go_loopw [5,6,15] (λv0 a i wr=>∃ (j:Nat) (v:Value) (ps:List (aK)) (M':Mp),v=v0/\j<=rn/\a = .int .i64 (kF (kE C t j))/\i = .int .i64 j/\Hid (Cg K J M w2 ((qG F t).take j) M' wr v ps)) (λ_ _ i _=>16-(intOf i).toNat)
  case atStart=>exact ⟨0,_,[],M,rfl,Nat.zero_le _,rfl,rfl,tn⟩
  case round =>
   obtain ⟨j,v,ps,M3,rfl,hjn,rfl,rfl,HG⟩:=hrel;clear tn;by_cases hlt:j<rn
   .have i1:(j:Int)<(rn:Int):=by omega
    have vy:j<(aY t).length:=by rw [HN.out]; exact hlt
    have HAj:=hid vy;obtain ⟨b,off,⟨ha,hm,hc⟩,rfl,hblt,hin,hbs⟩:=(Ze L5.out HI2.out HG.out.f HRb.out).at' j hlt;have hT0:IsT M (xs.getD j ([],none)).2 ((aY t).getD j .nil):=by
     rw [Vj (xs:=xs) rfl j];exact gx.out.2 j (by rw [gx.out.1]; exact vy)
    have io:=hT0.mono HG.out.f.mono;rw [Vh L4.out j] at hbs;have fw:Hid ((qG F t).take (j+1)=(qG F t).take j++[F ((dO t).getD j []) ((aY t).getD j .nil)]):=hid (by
     have hl:j<(qG F t).length:=by rw [ta.out]; exact vy
     rw [List.take_succ_eq_append_getElem hl,<-HMa.out j vy,List.getD_eq_getElem?_getD,List.getElem?_eq_getElem hl];rfl)
    have L6:Hid (kF (kE C t j)+min (kF (C ((dO t).getD j []) ((aY t).getD j .nil))) (9223372036854775807-kF (kE C t j))=kF (kE C t (j+1))):=hid (by rw [Ot]; exact WQ _ _);have rt:=hid (pm.out j vy M3);obtain ⟨x,hx⟩:=ay (xs.getD j ([],none))
    rw [hx] at io hin;obtain ⟨s,hs⟩:=ay (kF (kE C t j))
    have hsb:=Sc (kE C t j);have hcb:=Sc (C ((dO t).getD j []) ((aY t).getD j .nil));rw [hs] at L6 hsb ⊢;obtain ⟨c,hcc⟩:=ay (kF (C ((dO t).getD j []) ((aY t).getD j .nil)))
    have tM:=hid hcc;rw [hcc] at L6 hcb;have tP:=hid hin;have kx:=hid hbs;have HT3:=hid io;have hps:ps.length=j:=by rw [HG.out.are.1,List.length_take,ta.out]; omega
    have HPs:=hid hps;have hNew:=Rg.Own.new wr (inA ([],none) (none,0,0)) 233;have uA:=hid hNew;clear vy hT0 io hin hbs hblt hx hs hcc hps hNew;go_wp2_with (first
     | (refine aA (Lc tP.out ⟨_,rfl,rfl⟩) ?_)
     | (refine aA (Ev _ _ _ wr.heap.size rfl rfl) ?_)
     | (refine FI uA.out rfl x (ha,hm,hc) rfl _ _ rfl rfl rfl rfl ?_; intro w3 hO3 hu3; have ag:Hid (Rg.Own w3 wr.heap.size (inA x (ha,hm,hc)) 233):=hid hO3; have HB3:Hid (Below wr.heap.size wr w3):=hid (hu3.below (al1 _ _) aG); clear hO3 hu3)
     | (refine aA (Ew.rZ (Tm.aV (j:=0) ag.out rfl) ⟨_,rfl,rfl⟩) ?_)
     | (refine aA (aU (Tm.aV (j:=1) ag.out rfl) ⟨_,rfl,rfl⟩) ?_))
    have j8:=hid (HG.out.below HJ.out HB3.out);refine (rt.out w3 ha hm hc x.2 j8.out.j j8.out.i j8.out.t (kx.out.below HB3.out) HT3.out).mono ?_;rintro e w4 ⟨q,M4,rfl,np,f4,i4,t4,j4⟩;rw [tM.out];have r5:=hid (j8.out.call cl.out f4 i4 t4 j4);have ia:=hid np;have hNew:=Rg.Own.new w4 (chA none 0) 88;have vz:=hid hNew;clear np f4 i4 t4 j4 hNew HG j8 ag HB3 uA tP kx HT3 rt;go_wp2_with (first
     | (refine aA (eP _ _ _ w4.heap.size rfl rfl) ?_)
     | (refine dU vz.out rfl q c rfl _ _ rfl rfl rfl rfl ?_; intro w5 ap aq; have az:Hid (Rg.Own w5 w4.heap.size (chA q c) 88):=hid ap; have aa:Hid (Below w4.heap.size w4 w5):=hid (aq.below (al1 _ _) aG); clear ap aq; have eM:=hid (r5.out.below HJ.out (bst aa.out (al1 w5 (.cells (mD [q]) 35)))))
     | (refine aA (aU (Tm.aV (j:=0) az.out rfl) ⟨_,rfl,rfl⟩) ?_)
     | (refine aA (En w5.heap.size rfl ⟨_,rfl,rfl⟩) ?_)
     | (refine Kw eM.out.row (Rg.Own.new w5 _ _) (by have:=HPs.out; omega) eM.out.f.size rfl ⟨_,_,rfl,rfl,rfl⟩ ?_; intro v' w7 Sp ic yo; have hc7:w7.cell? ⟨w4.heap.size,1,none⟩=some (.int .i64 c):=(by
       have cz:=az.out.below (al1 w5 (.cells (mD [q]) 35));have hne:some w4.heap.size≠v.ownBlock:=λe=>by have:=(r5.out.row.lt _ e.symm).2; omega
       rw [World.cell?_of_block (ic.block w4.heap.size cz.1 hne)];exact Tm.aV (j:=1) cz rfl); have fm:=hid (eM.out.push HJ.out cG.out.1 ia.out Sp ic yo); clear Sp ic yo))
    go_roundw
    case rel=>exact ⟨j+1,v',ps++[q],M4,rfl,by omega,by rw [<-L6.out],by go_num,by rw [fw.out]; exact fm⟩
    case measure=>simp [intOf]; omega
   .obtain rfl:j=rn:=by omega
    have t7:=hid HG.out;have hall:(qG F t).take j=qG F t:=by
     have:=ta.out;rw [HN.out] at this;rw [<-this]; exact List.take_length
    have cN:=hid (cF.out.fk HI2.out HG.out.f (lw.out _ (by rw [eA.out]; exact Nat.le_succ _)));have ag:=hid (c8.out.fk HI2.out HG.out.f (lw.out _ (by rw [lk.out]; exact aG)));have eL:Hid (Fk K M M3 w wr):=hid (fb.out.trans HG.out.f λk hk=>.inl hk);have fd:Hid (w.heap.size<=gX):=hid (by rw [eA.out]; exact Nat.le_succ _);by_cases hz:kE C t j=0
    .have ae:Hid (∀ w9,Rg.Upd wr gX w9->qF K J M w (vZ F t) (kE C t j) (.returned (.agg (chA p 0))) w9):=hid (λw9 hu=>by
      have h1:=Ny (n:=kE C t j) (q:=p) (t:=vZ F t) HJ.out vx.out HZ.out eL.out HG.out.i HG.out.t HG.out.j cN.out.n fd.out hu (by rw [oR.out (by rw [HN.out]; exact hz)]; exact So.out.mono eL.out.mono);rwa [show kF (kE C t j)=0 from Bt.2 hz] at h1)
     have e0:kF (kE C t j)=0:=Bt.2 hz;rw [e0];clear hz hall e0 HG t7;go_wp2_with (first
      | (refine aA (aU (Tm.aV (j:=0) ag.out.o rfl) ⟨_,rfl,rfl⟩) ?_)
      | (refine aA (bL (CS p) ⟨_,rfl,rfl⟩) ?_)
      | (refine dU cN.out.o rfl p 0 rfl _ _ rfl rfl rfl rfl ?_; intro w9 ax aE; have ce:Hid (Rg.Own w9 gX (chA p 0) 88):=hid ax; have fS:=hid (ae.out w9 aE); clear ax aE))
     exact bodyPost_ret (um rfl _ rfl ce.out) rfl fS.out
    .have hs0:=λe=>hz (Bt.1 e);have hkl:0<(aY t).length:=Nat.pos_of_ne_zero λe=>hz (by rw [<-HN.out,e]; rfl);have hne:t ≠ .nil:=λe=>by rw [e] at hkl; exact absurd hkl (Nat.not_lt_zero _)
     have hst:¬ dQ t:=λe=>by
      cases t with
      | stub r=>exact absurd hkl (Nat.not_lt_zero _)
      | _=>exact e
     obtain ⟨a,c,rfl,nl⟩:=IY HG.out.row;have cV:=HG.out.are;rw [hall] at cV;have dd:=hid (HRm.out hne hst M3 (So.out.mono eL.out.mono) ps cV a c (by rw [cV.1,ta.out,HN.out]; omega) wr HG.out.i HG.out.t nl);obtain ⟨s,hs⟩:=ay (kF (kE C t j))
     rw [hs] at hs0;have HS:=hid hs;rw [hs];have b0:(s==0)=false:=by rw [beq_eq_false_iff_ne]; exact hs0
     have b1:decide (s=0)=false:=decide_eq_false hs0;clear hz hall hs0 hkl hne hst nl cV hs;go_wp2_with (first
      | (refine aA (aU (Tm.aV (j:=0) ag.out.o rfl) ⟨_,rfl,rfl⟩) ?_))
     refine dd.out.mono ?_;rintro e w5 ⟨q,M5,rfl,BE,f5,i5,t5,k5⟩;have L7:Fnw M3 M5 wr w5:=f5.n k5;have kw:=cN.out.frm HG.out.i f5;obtain ⟨w6,mC⟩:=au (w5.alloc (.cells #[.pointer none] 35))
     have hb6:Below w5.heap.size w5 w6:=by rw [mC]; exact al1 _ _
     have jt:Hid (Rg.Own w6 w5.heap.size #[.pointer none] 35):=hid (by rw [mC]; exact Rg.Own.new _ _ _);have HW6:=hid mC;have oS:Hid (Bx M5 w5 gX (chA none 0) 88):=hid kw;have bi:=hid hb6;have ae:Hid (∀ w7,Below w5.heap.size w5 w7->∀ w9,Rg.Upd w7 gX w9->qF K J M w (vZ F t) (kE C t j) (.returned (.agg (chA q s))) w9):=hid (λw7 dv w9 hu=>by
      have hF5:Fk K M M5 w w5:=eL.out.trans (L7.k (HJ.out.kc M3 wr HG.out.j HG.out.i)) λk hk=>.inl hk;have Sq:=HJ.out.fn HG.out.j HG.out.i L7;have sh:Fk K M M5 w w7:=hF5.trans ((Fr.below M5 dv).k (HJ.out.kc M5 w5 Sq i5)) λk hk=>.inl hk;have h1:=Ny (n:=kE C t j) (q:=q) (t:=vZ F t) HJ.out vx.out HZ.out sh (i5.below dv) (t5.below dv t5.pos) (HJ.out.below Sq i5 dv) kw.n fd.out hu BE;rwa [HS.out] at h1)
     clear BE f5 i5 t5 k5 L7 kw mC hb6 HG t7 dd b0 b1;go_wp2_with (first
      | (refine aA (aX _ _ _ w5.heap.size rfl rfl) ?_; rw [<-HW6.out])
      | (refine aZ jt.out (by simp) q rfl _ _ rfl rfl rfl ?_; intro w7 cY cQ; have iu:Hid (Rg.Own w7 w5.heap.size #[.pointer q] 35):=hid cY; have cm:Hid (Below w5.heap.size w5 w7):=hid (cQ.below bi.out aG); clear cY cQ; have mL:=hid (oS.out.below cm.out); have J7:=hid (ae.out w7 cm.out))
      | (refine aA (aU (Tm.aV (j:=0) iu.out rfl) ⟨_,rfl,rfl⟩) ?_)
      | (refine aA (bL (Jo q s) ⟨_,rfl,rfl⟩) ?_)
      | (refine dU mL.out.o rfl q s rfl _ _ rfl rfl rfl rfl ?_; intro w9 ax aE; have ce:Hid (Rg.Own w9 gX (chA q s) 88):=hid ax; have fS:=hid (J7.out w9 aE); clear ax aE))
     exact bodyPost_ret (um rfl _ rfl ce.out) rfl fS.out
 exact hgo
end Sx
end
end Go.Proofs.YtoipgepkhomfgaaGreatDoor
