/-
 Trees of paths and values, plain: what stands in them, one put in, one taken out, what is built; two trees of the same paths and values are one.
-/
import Derived.Lib.Hide
import Derived.Test.YtnecijeakeklaaaGreatDoorRows
import Derived.WalkKit
import Derived.WalkSpells
import Derived.WalkLawsBesides
import Derived.ProofKit
import Derived.OpenShut
import Derived.DataBytes
import Derived.Below
import Derived.Laws.BytesString
import Derived.Laws.IdiomStrings
import Derived.Deep.OwnRows
import Derived.Deep.Draws
import Derived.OwnWalk
import Derived.Laws.OwnMore
import Derived.Deep.MidRow
import Derived.Deep.Slices
import Derived.Handy
import Derived.Laws.NewBlocks
import Derived.Defers
import Derived.Recover
import Derived.Laws.Pointers
import Derived.Laws.BitsAllLaws
import Derived.Deep.RegionHeld3
import Derived.Laws.Rows
import Derived.ChangeAlike
import Derived.Lib.AppendZeros
import Derived.Laws.AppendOwnNone
open Go.Lib (hid)
set_option linter.unusedSimpArgs false
set_option linter.unusedVariables false
set_option maxHeartbeats 40000000
set_option maxRecDepth 100000
namespace Go.Proofs.YtnecijeakeklaaaGreatDoor
section
namespace Tr
abbrev Pa:=List UInt8
inductive T
 | nil
 | leaf (p:Pa) (v:ByteArray)
 | ext (p:Pa) (t:T)
 | br (ks:Fin 16→T)
 | stub (r:ByteArray)
def Nib (p:Pa):Prop:=∀ c∈p,c.toNat<16
theorem Nib.nil:Nib []:=fun _ h=>by cases h
theorem Nib.cons {c:UInt8} {p:Pa} (hc:c.toNat<16) (h:Nib p):Nib (c::p):=fun x hx=>by
 rcases List.mem_cons.1 hx with rfl | hx
 ·exact hc
 ·exact h x hx
theorem Nib.head {c:UInt8} {p:Pa} (h:Nib (c::p)):c.toNat<16:=h c List.mem_cons_self
theorem Nib.tail {c:UInt8} {p:Pa} (h:Nib (c::p)):Nib p:=fun x hx=>h x (List.mem_cons_of_mem _ hx)
theorem Nib.append {p q:Pa} (h:Nib p) (g:Nib q):Nib (p++q):=fun x hx=>by
 rcases List.mem_append.1 hx with hx | hx
 ·exact h x hx
 ·exact g x hx
theorem Nib.left {p q:Pa} (h:Nib (p++q)):Nib p:=fun x hx=>h x (List.mem_append_left _ hx)
theorem Nib.right {p q:Pa} (h:Nib (p++q)):Nib q:=fun x hx=>h x (List.mem_append_right _ hx)
theorem Nib.drop {p:Pa} (h:Nib p) (n:Nat):Nib (p.drop n):=fun x hx=>h x (List.mem_of_mem_drop hx)
theorem Nib.take {p:Pa} (h:Nib p) (n:Nat):Nib (p.take n):=fun x hx=>h x (List.mem_of_mem_take hx)
def nb (c:UInt8):Fin 16:=⟨c.toNat%16,Nat.mod_lt _ (by decide)⟩
theorem nb_inj {a b:UInt8} (ha:a.toNat<16) (hb:b.toNat<16) (h:nb a=nb b):a=b:=by
 have:=congrArg Fin.val h;simp only [nb] at this;exact UInt8.toNat_inj.1 (by omega)
def nibOf (i:Fin 16):UInt8:=UInt8.ofNat i.val
theorem nibOf_toNat (i:Fin 16):(nibOf i).toNat=i.val:=by
 have:=i.isLt;unfold nibOf;rw [UInt8.toNat_ofNat'];omega
theorem nibOf_lt (i:Fin 16):(nibOf i).toNat<16:=by rw [nibOf_toNat]; exact i.isLt
theorem nb_of (i:Fin 16):nb (nibOf i)=i:=by
 apply Fin.ext;show (nibOf i).toNat%16=i.val;rw [nibOf_toNat];exact Nat.mod_eq_of_lt i.isLt
theorem of_nb {c:UInt8} (h:c.toNat<16):nibOf (nb c)=c:=nb_inj (nibOf_lt _) h (nb_of _)
def cp:Pa→Pa→Nat
 | a::p,b::q=>if a=b then cp p q+1 else 0
 | _,_=>0
theorem cp_parts:∀ (q p:Pa),¬ q<+:p → ¬ p<+:q→∃ (s:Pa) (a b:UInt8) (q' p':Pa),q=s++a::q'∧p=s++b::p'∧a≠b∧cp q p=s.length
 | [],p,h,_=>absurd (List.nil_prefix) h
 | _::_,[],_,h=>absurd (List.nil_prefix) h
 | a::q,b::p,h,g=>by
  by_cases e:a=b
  ·subst e;obtain ⟨s,x,y,q',p',h1,h2,h3,h4⟩:=cp_parts q p (fun k=>h (List.cons_prefix_cons.2 ⟨rfl,k⟩)) (fun k=>g (List.cons_prefix_cons.2 ⟨rfl,k⟩));exact ⟨a::s,x,y,q',p',by rw [h1]; rfl,by rw [h2]; rfl,h3,by simp [cp,h4]⟩
  ·exact ⟨[],a,b,q,p,rfl,rfl,e,by simp [cp,e]⟩
theorem pre_two {a b:UInt8} {p r:Pa} (hab:a≠b):∀ (q' q:Pa),q'<+:q++a::p→q'<+:q++b::r→q'<+:q
 | [],_,_,_=>List.nil_prefix
 | c::q',[],h,g=>absurd ((List.cons_prefix_cons.1 h).1.symm.trans (List.cons_prefix_cons.1 g).1) hab
 | c::q',d::q,h,g=>by
  obtain ⟨h1,h2⟩:=List.cons_prefix_cons.1 h;obtain ⟨_,g2⟩:=List.cons_prefix_cons.1 g;exact List.cons_prefix_cons.2 ⟨h1,pre_two hab q' q h2 g2⟩
theorem pre_len {q p:Pa} (h:q<+:p) (hl:p.length≤q.length):q=p:=h.eq_of_length (Nat.le_antisymm h.length_le hl)
theorem pre_drop {q p:Pa} (h:q<+:p):p=q++p.drop q.length:=by
 obtain ⟨r,rfl⟩:=h;rw [List.drop_left]
def get:T→Pa→Option (Option ByteArray)
 | .nil,_=>some none
 | .leaf q v,p=>some (if q=p then some v else none)
 | .ext q t,p=>if q<+:p then get t (p.drop q.length) else some none
 | .br ks,p=>match p with
  | []=>some none
  | c::r=>get (ks (nb c)) r
 | .stub _,_=>none
def isNil:T→Bool
 | .nil=>true
 | _=>false
theorem isNil_iff {t:T}:isNil t=true↔t = .nil:=by cases t <;> simp [isNil]
def IsBr:T→Prop
 | .br _=>True
 | .stub _=>True
 | _=>False
def Full:T→Prop
 | .nil=>True
 | .leaf _ _=>True
 | .ext _ t=>Full t
 | .br ks=>∀ i,Full (ks i)
 | .stub _=>False
def Good:T→Nat→Prop
 | .nil,_=>True
 | .leaf p _,L=>p.length=L∧Nib p
 | .ext q t,L=>q≠[]∧Nib q∧q.length≤L∧IsBr t∧Good t (L-q.length)
 | .br ks,L=>0<L∧(∃ i j,i≠j∧ks i ≠ .nil∧ks j ≠ .nil)∧∀ i,Good (ks i) (L-1)
 | .stub _,_=>True
theorem get_ext (q r:Pa) (t:T):get (.ext q t) (q++r)=get t r:=by
 simp [get]
theorem get_ext_not {q p:Pa} (t:T) (h:¬ q<+:p):get (.ext q t) p=some none:=by
 simp [get,h]
theorem get_br (ks:Fin 16→T) (i:Fin 16) (r:Pa):get (.br ks) (nibOf i::r)=get (ks i) r:=by
 simp [get,nb_of]
theorem some_path:∀ (t:T) (L:Nat),Good t L→Full t→t ≠ .nil→∃ (p:Pa) (v:ByteArray),p.length=L∧Nib p∧get t p=some (some v)
 | .nil,_,_,_,h=>absurd rfl h
 | .leaf p v,L,h,_,_=>⟨p,v,h.1,h.2,by simp [get]⟩
 | .ext q t,L,h,f,_=>by
  obtain ⟨h1,h2,h3,h4,h5⟩:=h;obtain ⟨p,v,g1,g2,g3⟩:=some_path t _ h5 f (by rintro rfl; exact h4);exact ⟨q++p,v,by rw [List.length_append]; omega,h2.append g2,by rw [get_ext]; exact g3⟩
 | .br ks,L,h,f,_=>by
  obtain ⟨h1,⟨i,j,_,hi,_⟩,h3⟩:=h;obtain ⟨p,v,g1,g2,g3⟩:=some_path (ks i) _ (h3 i) (f i) hi;exact ⟨nibOf i::p,v,by rw [List.length_cons]; omega,.cons (nibOf_lt i) g2,by rw [get_br]; exact g3⟩
 | .stub _,_,_,f,_=>absurd f id
theorem two_paths {ks:Fin 16→T} {L:Nat} (h:Good (.br ks) L) (f:Full (.br ks)):∃ (i j:Fin 16) (p q:Pa) (v u:ByteArray),i≠j∧p.length+1=L∧q.length+1=L∧Nib p∧Nib q∧get (.br ks) (nibOf i::p)=some (some v)∧get (.br ks) (nibOf j::q)=some (some u):=by
 obtain ⟨h1,⟨i,j,hij,hi,hj⟩,h3⟩:=h;obtain ⟨p,v,g1,g2,g3⟩:=some_path (ks i) _ (h3 i) (f i) hi;obtain ⟨q,u,k1,k2,k3⟩:=some_path (ks j) _ (h3 j) (f j) hj;exact ⟨i,j,p,q,v,u,hij,by omega,by omega,g2,k2,by rw [get_br]; exact g3,by rw [get_br]; exact k3⟩
theorem nibOf_inj {i j:Fin 16} (h:nibOf i=nibOf j):i=j:=by rw [← nb_of i,h,nb_of]
def Same (L:Nat) (t t':T):Prop:=∀ p:Pa,p.length=L→Nib p→get t p=get t' p
theorem Same.symm {L:Nat} {t t':T} (h:Same L t t'):Same L t' t:=fun p h1 h2=>(h p h1 h2).symm
theorem not_nil {t:T} {L:Nat} (h:Good t L) (f:Full t) (hn:t ≠ .nil) (hs:Same L t .nil):False:=by
 obtain ⟨p,v,h1,h2,h3⟩:=some_path t L h f hn;rw [hs p h1 h2] at h3;cases h3
theorem leaf_br {q:Pa} {v:ByteArray} {ks:Fin 16→T} {L:Nat} (h:Good (.br ks) L) (f:Full (.br ks)) (hs:Same L (.leaf q v) (.br ks)):False:=by
 obtain ⟨i,j,p,r,_,_,hij,h1,h2,n1,n2,g1,g2⟩:=two_paths h f;rw [← hs _ (by rw [List.length_cons]; omega) (.cons (nibOf_lt i) n1)] at g1;rw [← hs _ (by rw [List.length_cons]; omega) (.cons (nibOf_lt j) n2)] at g2;have e:∀ x:Pa,∀ u,get (.leaf q v) x=some (some u)→q=x:=fun x u hx=>by
  simp [get] at hx;exact hx.1
 have:=(e _ _ g1).symm.trans (e _ _ g2);exact hij (nibOf_inj (List.cons.inj this).1)
theorem isBr_br {t:T} (h:IsBr t) (f:Full t):∃ ks,t = .br ks:=by
 cases t with
 | br ks=>exact ⟨ks,rfl⟩
 | stub r=>exact absurd f id
 | nil=>exact absurd h id
 | leaf _ _=>exact absurd h id
 | ext _ _=>exact absurd h id
theorem leaf_ext {q q':Pa} {v:ByteArray} {s:T} {L:Nat} (h:Good (.ext q' s) L) (f:Full (.ext q' s)) (hs:Same L (.leaf q v) (.ext q' s)):False:=by
 obtain ⟨h1,h2,h3,h4,h5⟩:=h;obtain ⟨ks,rfl⟩:=isBr_br h4 f;obtain ⟨i,j,p,r,_,_,hij,k1,k2,n1,n2,g1,g2⟩:=two_paths h5 f;have e:∀ x:Pa,∀ u,get (.leaf q v) x=some (some u)→q=x:=fun x u hx=>by
  simp [get] at hx;exact hx.1
 have e1:=e (q'++nibOf i::p) _ (by rw [hs _ (by rw [List.length_append,List.length_cons]; omega) (h2.append (.cons (nibOf_lt i) n1)),get_ext]; exact g1);have e2:=e (q'++nibOf j::r) _ (by rw [hs _ (by rw [List.length_append,List.length_cons]; omega) (h2.append (.cons (nibOf_lt j) n2)),get_ext]; exact g2);have:=List.append_cancel_left (e1.symm.trans e2);exact hij (nibOf_inj (List.cons.inj this).1)
theorem ext_br {q:Pa} {s:T} {ks:Fin 16→T} {L:Nat} (hq:q≠[]) (h:Good (.br ks) L) (f:Full (.br ks)) (hs:Same L (.ext q s) (.br ks)):False:=by
 obtain ⟨i,j,p,r,_,_,hij,h1,h2,n1,n2,g1,g2⟩:=two_paths h f;rw [← hs _ (by rw [List.length_cons]; omega) (.cons (nibOf_lt i) n1)] at g1;rw [← hs _ (by rw [List.length_cons]; omega) (.cons (nibOf_lt j) n2)] at g2;have e:∀ (k:Fin 16) (x:Pa) u,get (.ext q s) (nibOf k::x)=some (some u)→∃ q',q=nibOf k::q':=fun k x u hx=>by
  by_cases hp:q<+:nibOf k::x
  ·cases q with
   | nil=>exact absurd rfl hq
   | cons c q' =>
    have:=(List.cons_prefix_cons.1 hp).1;exact ⟨q',by rw [this]⟩
  ·rw [get_ext_not s hp] at hx; cases hx
 obtain ⟨a,ha⟩:=e i p _ g1;obtain ⟨b,hb⟩:=e j r _ g2;exact hij (nibOf_inj (List.cons.inj (ha.symm.trans hb)).1)
theorem ext_pre {q q':Pa} {s s':T} {L:Nat} (h:Good (.ext q s) L) (f:Full (.ext q s)) (hs:Same L (.ext q s) (.ext q' s')):q'<+:q:=by
 obtain ⟨h1,h2,h3,h4,h5⟩:=h;obtain ⟨ks,rfl⟩:=isBr_br h4 f;obtain ⟨i,j,p,r,_,_,hij,k1,k2,n1,n2,g1,g2⟩:=two_paths h5 f;have e:∀ (x:Pa) u,get (.ext q' s') x=some (some u)→q'<+:x:=fun x u hx=>by
  by_cases hp:q'<+:x
  ·exact hp
  ·rw [get_ext_not s' hp] at hx; cases hx
 have e1:=e (q++nibOf i::p) _ (by rw [← hs _ (by rw [List.length_append,List.length_cons]; omega) (h2.append (.cons (nibOf_lt i) n1)),get_ext]; exact g1);have e2:=e (q++nibOf j::r) _ (by rw [← hs _ (by rw [List.length_append,List.length_cons]; omega) (h2.append (.cons (nibOf_lt j) n2)),get_ext]; exact g2);exact pre_two (fun e=>hij (nibOf_inj e)) q' q e1 e2
theorem uniq:∀ (t t':T) (L:Nat),Good t L→Full t→Good t' L→Full t'→Same L t t'→t=t'
 | .nil,t',L,_,_,g',f',hs=>by
  cases h:t' with
  | nil=>rfl
  | _=>exact absurd hs.symm (fun hs=>not_nil g' f' (by rw [h]; intro e; cases e) hs)
 | .leaf q v,t',L,g,f,g',f',hs=>by
  cases t' with
  | nil=>exact (not_nil g f (by intro e; cases e) hs).elim
  | leaf q' v' =>
   have h1:=hs q g.1 g.2;have h2:q'=q∧v=v':=by
    simp only [get,if_true] at h1;by_cases e:q'=q
    ·rw [if_pos e] at h1;exact ⟨e,Option.some.inj (Option.some.inj h1)⟩
    ·rw [if_neg e] at h1; cases h1
   rw [h2.1,h2.2]
  | ext q' s'=>exact (leaf_ext g' f' hs).elim
  | br ks'=>exact (leaf_br g' f' hs).elim
  | stub _=>exact absurd f' id
 | .ext q s,t',L,g,f,g',f',hs=>by
  cases t' with
  | nil=>exact (not_nil g f (by intro e; cases e) hs).elim
  | leaf q' v'=>exact (leaf_ext g f hs.symm).elim
  | ext q' s' =>
   have e1:=ext_pre g f hs;have e2:=ext_pre g' f' hs.symm;obtain rfl:=pre_len e1 e2.length_le;obtain ⟨h1,h2,h3,h4,h5⟩:=g;obtain ⟨k1,k2,k3,k4,k5⟩:=g';have:=uniq s s' _ h5 f k5 f' (fun p hp hn=>by
    have:=hs (q'++p) (by rw [List.length_append]; omega) (h2.append hn);rwa [get_ext,get_ext] at this)
   rw [this]
  | br ks'=>exact (ext_br g.1 g' f' hs).elim
  | stub _=>exact absurd f' id
 | .br ks,t',L,g,f,g',f',hs=>by
  cases t' with
  | nil=>exact (not_nil g f (by intro e; cases e) hs).elim
  | leaf q' v'=>exact (leaf_br g f hs.symm).elim
  | ext q' s'=>exact (ext_br g'.1 g f hs.symm).elim
  | br ks' =>
   have:ks=ks':=by
    funext i;refine uniq (ks i) (ks' i) _ (g.2.2 i) (f i) (g'.2.2 i) (f' i) (fun p hp hn=>?_);have h0:=g.1;have:=hs (nibOf i::p) (by rw [List.length_cons]; omega) (.cons (nibOf_lt i) hn);rwa [get_br,get_br] at this
   rw [this]
  | stub _=>exact absurd f' id
 | .stub _,_,_,_,f,_,_,_=>absurd f id
end Tr
end
section
namespace Tr
def wrap (q:Pa) (t:T):T:=if q=[] then t else .ext q t
def two (i j:Fin 16) (a b:T):T:=.br (fun k=>if k=i then a else if k=j then b else .nil)
def fork (q:Pa) (f:Pa→T) (p:Pa) (v:ByteArray):T :=
 wrap (q.take (cp q p)) (two (nb (q.getD (cp q p) 0)) (nb (p.getD (cp q p) 0)) (f (q.drop (cp q p+1))) (.leaf (p.drop (cp q p+1)) v))
def put:T→Pa→ByteArray→T
 | .nil,p,v=>.leaf p v
 | .leaf q u,p,v=>if q=p then .leaf p v else fork q (fun r=>.leaf r u) p v
 | .ext q t,p,v=>if q<+:p then .ext q (put t (p.drop q.length) v) else fork q (fun r=>wrap r t) p v
 | .br ks,p,v=>match p with
  | []=>.br ks
  | c::r=>.br (fun i=>if i=nb c then put (ks i) r v else ks i)
 | .stub r,_,_=>.stub r
theorem fork_eq {s q' p':Pa} {a b:UInt8} {f:Pa→T} {v:ByteArray} (hc:cp (s++a::q') (s++b::p')=s.length) :
  fork (s++a::q') f (s++b::p') v=wrap s (two (nb a) (nb b) (f q') (.leaf p' v)):=by
 unfold fork;rw [hc];have h1:∀ (x:UInt8) (r:Pa),(s++x::r).take s.length=s:=fun x r=>by simp
 have h2:∀ (x:UInt8) (r:Pa),(s++x::r).getD s.length 0=x:=fun x r=>by simp [List.getD]
 have h3:∀ (x:UInt8) (r:Pa),(s++x::r).drop (s.length+1)=r:=fun x r=>by
  rw [show s++x::r=(s++[x])++r by simp,show s.length+1=(s++[x]).length by simp,List.drop_left]
 rw [h1,h2,h2,h3,h3]
theorem get_wrap (q:Pa) (t:T) (p:Pa):get (wrap q t) p=if q<+:p then get t (p.drop q.length) else some none:=by
 unfold wrap;by_cases h:q=[]
 ·subst h; simp
 ·rw [if_neg h]; rfl
theorem get_two (i j:Fin 16) (a b:T) (c:UInt8) (r:Pa):get (two i j a b) (c::r)=get (if nb c=i then a else if nb c=j then b else .nil) r:=rfl
theorem good_wrap {s:Pa} {t:T} {L:Nat} (hn:Nib s) (hl:s.length≤L) (hb:IsBr t) (hg:Good t (L-s.length)):Good (wrap s t) L:=by
 unfold wrap;by_cases h:s=[]
 ·subst h; rw [if_pos rfl]; exact hg
 ·rw [if_neg h]; exact ⟨h,hn,hl,hb,hg⟩
theorem full_wrap {s:Pa} {t:T} (h:Full t):Full (wrap s t):=by
 unfold wrap;split
 ·exact h
 ·exact h
theorem wrap_ne {s:Pa} {t:T} (h:t ≠ .nil):wrap s t ≠ .nil:=by
 unfold wrap;split
 ·exact h
 ·intro e; cases e
theorem good_two {i j:Fin 16} {a b:T} {L:Nat} (hij:i≠j) (ha:a ≠ .nil) (hb:b ≠ .nil) (hL:0<L) (ga:Good a (L-1)) (gb:Good b (L-1)):Good (two i j a b) L:=by
 refine ⟨hL,⟨i,j,hij,?_,?_⟩,fun k=>?_⟩
 ·simpa using ha
 ·simpa [hij.symm] using hb
 ·dsimp only;split
  ·exact ga
  ·split
   ·exact gb
   ·trivial
theorem full_two {i j:Fin 16} {a b:T} (ha:Full a) (hb:Full b):Full (two i j a b):=fun k=>by
 dsimp only;split
 ·exact ha
 ·split
  ·exact hb
  ·trivial
theorem isBr_ne {t:T} (h:IsBr t):t ≠ .nil:=by rintro rfl; exact h
theorem isBr_put {t:T} (h:IsBr t) (p:Pa) (v:ByteArray):IsBr (put t p v):=by
 cases t with
 | br ks=>cases p <;> trivial
 | stub r=>trivial
 | nil=>exact h.elim
 | leaf _ _=>exact h.elim
 | ext _ _=>exact h.elim
theorem put_ne (t:T) (p:Pa) (v:ByteArray):put t p v ≠ .nil:=by
 cases t with
 | nil=>intro e; cases e
 | leaf q u =>
  unfold put;split
  ·intro e; cases e
  ·unfold fork; exact wrap_ne (by intro e; cases e)
 | ext q t =>
  unfold put;split
  ·intro e; cases e
  ·unfold fork; exact wrap_ne (by intro e; cases e)
 | br ks=>cases p <;> (intro e; cases e)
 | stub r=>intro e; cases e
theorem good_put:∀ (t:T) (L:Nat),Good t L→∀ (p:Pa) (v:ByteArray),p.length=L→Nib p→Good (put t p v) L
 | .nil,L,_,p,v,hp,hn=>⟨hp,hn⟩
 | .leaf q u,L,g,p,v,hp,hn=>by
  unfold put;by_cases e:q=p
  ·rw [if_pos e]; exact ⟨hp,hn⟩
  ·rw [if_neg e];obtain ⟨gl,gn⟩:=g;obtain ⟨s,a,b,q',p',rfl,rfl,hab,hc⟩:=cp_parts q p (fun h=>e (pre_len h (by omega))) (fun h=>e (pre_len h (by omega)).symm);rw [fork_eq hc];rw [List.length_append,List.length_cons] at gl hp;refine good_wrap gn.left (by omega) trivial (good_two (fun h=>hab (nb_inj gn.right.head hn.right.head h)) (by intro h; cases h) (by intro h; cases h) (by omega) ⟨by omega,gn.right.tail⟩ ⟨by omega,hn.right.tail⟩)
 | .ext q t,L,g,p,v,hp,hn=>by
  obtain ⟨g1,g2,g3,g4,g5⟩:=g;unfold put;by_cases e:q<+:p
  ·rw [if_pos e];exact ⟨g1,g2,g3,isBr_put g4 _ _,good_put t _ g5 _ v (by rw [List.length_drop]; omega) (hn.drop _)⟩
  ·rw [if_neg e];obtain ⟨s,a,b,q',p',rfl,rfl,hab,hc⟩:=cp_parts q p e (fun h=>e (by rw [pre_len h (by omega)]; exact List.prefix_rfl));rw [fork_eq hc];rw [List.length_append,List.length_cons] at g3 hp;rw [List.length_append,List.length_cons] at g5;refine good_wrap g2.left (by omega) trivial (good_two (fun h=>hab (nb_inj g2.right.head hn.right.head h)) (wrap_ne (isBr_ne g4)) (by intro h; cases h) (by omega) (good_wrap g2.right.tail (by omega) g4 ?_) ⟨by omega,hn.right.tail⟩);rw [show L-s.length-1-q'.length=L-(s.length+(q'.length+1)) by omega];exact g5
 | .br ks,L,g,p,v,hp,hn=>by
  cases p with
  | nil=>exact g
  | cons c r =>
   obtain ⟨h1,⟨i,j,hij,hi,hj⟩,h3⟩:=g;rw [List.length_cons] at hp;refine ⟨h1,⟨i,j,hij,?_,?_⟩,fun k=>?_⟩
   ·dsimp only; split
    ·exact put_ne _ _ _
    ·exact hi
   ·dsimp only; split
    ·exact put_ne _ _ _
    ·exact hj
   ·dsimp only; split
    ·exact good_put (ks k) _ (h3 k) r v (by omega) hn.tail
    ·exact h3 k
 | .stub _,_,_,_,_,_,_=>trivial
theorem full_put:∀ (t:T),Full t→∀ (p:Pa) (v:ByteArray),Full (put t p v)
 | .nil,_,_,_=>trivial
 | .leaf q u,_,p,v=>by
  unfold put;split
  ·trivial
  ·unfold fork; exact full_wrap (full_two trivial trivial)
 | .ext q t,f,p,v=>by
  unfold put;split
  ·exact full_put t f _ v
  ·unfold fork; exact full_wrap (full_two (full_wrap f) trivial)
 | .br ks,f,p,v=>by
  cases p with
  | nil=>exact f
  | cons c r =>
   intro k;dsimp only;split
   ·exact full_put (ks k) (f k) r v
   ·exact f k
 | .stub _,f,_,_=>f
theorem get_fork {s p1:Pa} {a b:UInt8} {v:ByteArray} {Y A:T} (hab:a≠b) (ha:a.toNat<16) (hb:b.toNat<16) (h1:∀ r,get Y (s++a::r)=get A r) (h2:∀ x,(∀ r,x≠s++a::r)→get Y x=some none)
  (x:Pa) (hx:x.length=(s++b::p1).length) (hn:Nib x):get (wrap s (two (nb a) (nb b) A (.leaf p1 v))) x=if x=s++b::p1 then some (some v) else get Y x:=by
 rw [get_wrap];by_cases hs:s<+:x
 ·obtain ⟨r,rfl⟩:=hs;rw [if_pos (List.prefix_append _ _),List.drop_left];cases r with
  | nil=>simp at hx
  | cons c r =>
   rw [get_two];have hcn:=hn.right.head;by_cases hca:c=a
   ·subst hca;rw [if_pos rfl,if_neg (fun e=>hab (List.cons.inj (List.append_cancel_left e)).1),h1]
   ·rw [if_neg (fun e=>hca (nb_inj hcn ha e))];have hY:get Y (s++c::r)=some none:=h2 _ (fun r' e=>hca (List.cons.inj (List.append_cancel_left e)).1);by_cases hcb:c=b
    ·subst hcb;rw [if_pos rfl];by_cases hr:r=p1
     ·subst hr; rw [if_pos rfl]; simp [get]
     ·rw [if_neg (fun e=>hr (List.cons.inj (List.append_cancel_left e)).2),hY];have:¬ p1=r:=fun e=>hr e.symm;simp [get,this]
    ·rw [if_neg (fun e=>hcb (nb_inj hcn hb e)),if_neg (fun e=>hcb (List.cons.inj (List.append_cancel_left e)).1),hY];rfl
 ·rw [if_neg hs,if_neg (fun e=>hs (by rw [e]; exact List.prefix_append _ _)),h2 x (fun r e=>hs (by rw [e]; exact List.prefix_append _ _))]
theorem pre_app {s q':Pa} {a:UInt8} {r:Pa}:s++a::q'<+:s++a::r↔q'<+:r:=by
 rw [List.prefix_append_right_inj,List.cons_prefix_cons];simp
theorem get_put:∀ (t:T) (L:Nat),Good t L→∀ (p:Pa) (v:ByteArray),p.length=L→Nib p→get t p≠none→∀ x:Pa,x.length=L→Nib x→get (put t p v) x=if x=p then some (some v) else get t x
 | .nil,L,_,p,v,hp,hn,_,x,hx,nx=>by
  unfold put;by_cases e:x=p
  ·subst e; simp [get]
  ·rw [if_neg e];have:¬ p=x:=fun h=>e h.symm;simp [get,this]
 | .leaf q u,L,g,p,v,hp,hn,_,x,hx,nx=>by
  unfold put;by_cases e:q=p
  ·subst e;rw [if_pos rfl];by_cases e2:x=q
   ·subst e2; simp [get]
   ·rw [if_neg e2];have:¬ q=x:=fun h=>e2 h.symm;simp [get,this]
  ·rw [if_neg e];obtain ⟨gl,gn⟩:=g;obtain ⟨s,a,b,q',p',rfl,rfl,hab,hc⟩:=cp_parts q p (fun h=>e (pre_len h (by omega))) (fun h=>e (pre_len h (by omega)).symm);rw [fork_eq hc];refine get_fork hab gn.right.head hn.right.head (fun r=>?_) (fun y hy=>?_) x (by rw [hx,hp]) nx
   ·simp [get]
   ·have:¬ s++a::q'=y:=fun h=>hy q' h.symm;simp [get,this]
 | .ext q t,L,g,p,v,hp,hn,hs,x,hx,nx=>by
  obtain ⟨g1,g2,g3,g4,g5⟩:=g;unfold put;by_cases e:q<+:p
  ·rw [if_pos e];obtain ⟨p1,rfl⟩:=e;rw [List.drop_left];rw [get_ext] at hs;rw [List.length_append] at hp;by_cases e2:q<+:x
   ·obtain ⟨x1,rfl⟩:=e2;rw [List.length_append] at hx;rw [get_ext,get_ext,get_put t _ g5 p1 v (by omega) hn.right hs x1 (by omega) nx.right];by_cases e3:x1=p1
    ·subst e3; rw [if_pos rfl,if_pos rfl]
    ·rw [if_neg e3,if_neg (fun h=>e3 (List.append_cancel_left h))]
   ·rw [get_ext_not _ e2,get_ext_not _ e2,if_neg (fun h=>e2 (by rw [h]; exact List.prefix_append _ _))]
  ·rw [if_neg e];obtain ⟨s,a,b,q',p',rfl,rfl,hab,hc⟩:=cp_parts q p e (fun h=>e (by rw [pre_len h (by omega)]; exact List.prefix_rfl));rw [fork_eq hc];refine get_fork hab g2.right.head hn.right.head (fun r=>?_) (fun y hy=>?_) x (by rw [hx,hp]) nx
   ·rw [get_wrap];by_cases h:q'<+:r
    ·rw [if_pos h];obtain ⟨r',rfl⟩:=h;rw [List.drop_left,show s++a::(q'++r')=(s++a::q')++r' by simp,get_ext]
    ·rw [if_neg h,get_ext_not _ (fun k=>h (pre_app.1 k))]
   ·rw [get_ext_not];intro k;obtain ⟨z,rfl⟩:=k;exact hy (q'++z) (by simp)
 | .br ks,L,g,p,v,hp,hn,hs,x,hx,nx=>by
  have hL:=g.1;cases p with
  | nil=>simp at hp; omega
  | cons c r =>
   cases x with
   | nil=>simp at hx; omega
   | cons d y =>
    rw [List.length_cons] at hp hx;have e1:get (put (.br ks) (c::r) v) (d::y)=get (if nb d=nb c then put (ks (nb d)) r v else ks (nb d)) y:=rfl;have e2:get (.br ks) (d::y)=get (ks (nb d)) y:=rfl;have e3:get (.br ks) (c::r)=get (ks (nb c)) r:=rfl;rw [e3] at hs;rw [e1,e2];by_cases hdc:d=c
    ·subst hdc;rw [if_pos rfl,get_put (ks (nb d)) _ (g.2.2 _) r v (by omega) hn.tail hs y (by omega) nx.tail];by_cases e:y=r
     ·subst e; rw [if_pos rfl,if_pos rfl]
     ·rw [if_neg e,if_neg (fun h=>e (List.cons.inj h).2)]
    ·rw [if_neg (fun h=>hdc (nb_inj nx.head hn.head h)),if_neg (fun h=>hdc (List.cons.inj h).1)]
 | .stub _,_,_,_,_,_,_,hs,_,_,_=>absurd rfl hs
def kidsOf (ks:Fin 16→T):List (Fin 16):=(List.finRange 16).filter fun i=>!isNil (ks i)
theorem mem_kidsOf {ks:Fin 16→T} {i:Fin 16}:i∈kidsOf ks↔ks i ≠ .nil:=by
 unfold kidsOf;rw [List.mem_filter];constructor
 ·rintro ⟨_,h⟩ e;rw [isNil_iff.2 e] at h; cases h
 ·intro h;refine ⟨List.mem_finRange i,?_⟩;cases hi:isNil (ks i) with
  | false=>rfl
  | true=>exact absurd (isNil_iff.1 hi) h
end Tr
end
section
namespace Tr
abbrev In:=Pa × ByteArray
def commonL:List In→Nat
 | []=>0
 | x::r=>r.foldl (fun n y=>min n (cp x.1 y.1)) x.1.length
def restL (l:List In) (n:Nat):List In:=l.map fun x=>(x.1.drop n,x.2)
def beginL (l:List In) (c:Fin 16):List In:=l.filter fun x=>decide ((x.1.getD 0 0).toNat=c.val)
def build (L:Nat) (l:List In):T :=
 match l with
 | []=>.nil
 | [x]=>.leaf x.1 x.2
 | x::y::r =>
  if _h:0<commonL (x::y::r)∧0<L then .ext (x.1.take (commonL (x::y::r))) (build (L-commonL (x::y::r)) (restL (x::y::r) (commonL (x::y::r))))
  else if _h2:0<L then .br (fun c=>build (L-1) (restL (beginL (x::y::r) c) 1)) else .nil
termination_by L
def findL (l:List In) (p:Pa):Option ByteArray:=(l.find? fun x=>decide (x.1=p)).map (·.2)
def Ok (L:Nat) (l:List In):Prop:=(∀ x∈l,x.1.length=L∧Nib x.1)∧l.Pairwise (fun x y=>x.1≠y.1)
theorem cp_le:∀ (p q:Pa),cp p q≤p.length
 | [],_=>Nat.zero_le _
 | _::_,[]=>Nat.zero_le _
 | a::p,b::q=>by
  unfold cp;split
  ·have:=cp_le p q;rw [List.length_cons]; omega
  ·exact Nat.zero_le _
theorem cp_take:∀ (n:Nat) (p q:Pa),n≤cp p q→p.take n=q.take n
 | 0,_,_,_=>by simp
 | n+1,[],_,h=>absurd h (by simp [cp])
 | n+1,_::_,[],h=>absurd h (by simp [cp])
 | n+1,a::p,b::q,h=>by
  unfold cp at h;split at h
  ·rename_i e;rw [e,List.take_succ_cons,List.take_succ_cons,cp_take n p q (by omega)]
  ·omega
theorem cp_drop:∀ (n:Nat) (p q:Pa),n≤cp p q→cp (p.drop n) (q.drop n)=cp p q-n
 | 0,_,_,_=>by simp
 | n+1,[],_,h=>absurd h (by simp [cp])
 | n+1,_::_,[],h=>absurd h (by simp [cp])
 | n+1,a::p,b::q,h=>by
  by_cases e:a=b
  ·have e2:cp (a::p) (b::q)=cp p q+1:=by simp [cp,e]
   rw [e2] at h ⊢;rw [List.drop_succ_cons,List.drop_succ_cons,cp_drop n p q (by omega)];omega
  ·simp [cp,e] at h
theorem cp_lt {p q:Pa} (hl:p.length=q.length) (h:p≠q):cp p q<p.length:=by
 rcases Nat.lt_or_ge (cp p q) p.length with h1 | h1
 ·exact h1
 ·exfalso;apply h;have:=cp_take p.length p q h1;rwa [List.take_of_length_le (Nat.le_refl _),List.take_of_length_le (by omega)] at this
theorem cp_zero {a b:UInt8} {p q:Pa}:cp (a::p) (b::q)=0↔a≠b:=by
 unfold cp;split
 ·rename_i h; simp [h]
 ·rename_i h; simp [h]
theorem fold_le (x:In):∀ (r:List In) (m:Nat),r.foldl (fun n y=>min n (cp x.1 y.1)) m≤m∧∀ y∈r,r.foldl (fun n y=>min n (cp x.1 y.1)) m≤cp x.1 y.1
 | [],m=>⟨Nat.le_refl _,fun _ h=>by cases h⟩
 | y::r,m=>by
  obtain ⟨h1,h2⟩:=fold_le x r (min m (cp x.1 y.1));rw [List.foldl_cons];refine ⟨Nat.le_trans h1 (Nat.min_le_left _ _),fun z hz=>?_⟩;rcases List.mem_cons.1 hz with rfl | hz
  ·exact Nat.le_trans h1 (Nat.min_le_right _ _)
  ·exact h2 z hz
theorem fold_eq (x:In):∀ (r:List In) (m:Nat),r.foldl (fun n y=>min n (cp x.1 y.1)) m=m∨∃ y∈r,r.foldl (fun n y=>min n (cp x.1 y.1)) m=cp x.1 y.1
 | [],m=>.inl rfl
 | y::r,m=>by
  rw [List.foldl_cons];rcases fold_eq x r (min m (cp x.1 y.1)) with h | ⟨z,hz,h⟩
  ·rcases Nat.le_total m (cp x.1 y.1) with h2 | h2
   ·rw [Nat.min_eq_left h2] at h; rw [Nat.min_eq_left h2]; exact .inl h
   ·rw [Nat.min_eq_right h2] at h; rw [Nat.min_eq_right h2]; exact .inr ⟨y,List.mem_cons_self,h⟩
  ·exact .inr ⟨z,List.mem_cons_of_mem _ hz,h⟩
theorem common_le {x:In} {r:List In}:∀ y∈x::r,commonL (x::r)≤cp x.1 y.1:=by
 intro y hy;rcases List.mem_cons.1 hy with rfl | hy
 ·have:=(fold_le y r y.1.length).1;have e:cp y.1 y.1=y.1.length:=by
   have:∀ p:Pa,cp p p=p.length:=fun p=>by
    induction p with
    | nil=>rfl
    | cons a p ih=>simp [cp,ih]
   exact this _
  rw [e]; exact this
 ·exact (fold_le x r x.1.length).2 y hy
theorem common_eq {x y:In} {r:List In} {L:Nat} (h:Ok L (x::y::r)):∃ z∈y::r,commonL (x::y::r)=cp x.1 z.1∧x.1≠z.1:=by
 obtain ⟨h1,h2⟩:=h;have hne:∀ z∈y::r,x.1≠z.1:=(List.pairwise_cons.1 h2).1;rcases fold_eq x (y::r) x.1.length with e | ⟨z,hz,e⟩
 ·exfalso;have h3:=(fold_le x (y::r) x.1.length).2 y List.mem_cons_self;rw [e] at h3;have h4:=cp_lt (by rw [(h1 x List.mem_cons_self).1,(h1 y (by simp)).1]) (hne y List.mem_cons_self);omega
 ·exact ⟨z,hz,e,hne z hz⟩
theorem common_lt {x y:In} {r:List In} {L:Nat} (h:Ok L (x::y::r)):commonL (x::y::r)<L:=by
 obtain ⟨z,hz,e,hne⟩:=common_eq h;have h1:=h.1 x List.mem_cons_self;have h2:=h.1 z (List.mem_cons_of_mem _ hz);have:=cp_lt (by rw [h1.1,h2.1]) hne;omega
theorem all_begin {x:In} {r:List In} {y:In} (hy:y∈x::r):y.1.take (commonL (x::r))=x.1.take (commonL (x::r)):=(cp_take _ _ _ (common_le y hy)).symm
theorem ok_rest {L n:Nat} {l:List In} (h:Ok L l) (hn:n≤L) (ht:∀ x∈l,∀ y∈l,x.1.take n=y.1.take n):Ok (L-n) (restL l n):=by
 refine ⟨fun x hx=>?_,?_⟩
 ·obtain ⟨y,hy,rfl⟩:=List.mem_map.1 hx;have:=h.1 y hy;exact ⟨by rw [List.length_drop]; omega,this.2.drop n⟩
 ·unfold restL;rw [List.pairwise_map];refine List.Pairwise.imp_of_mem ?_ h.2;intro a b ha hb hab e;apply hab;rw [← List.take_append_drop n a.1,← List.take_append_drop n b.1,ht a ha b hb];exact congrArg _ e
theorem mem_begin {l:List In} {c:Fin 16} {x:In}:x∈beginL l c↔x∈l∧(x.1.getD 0 0).toNat=c.val:=by
 unfold beginL;rw [List.mem_filter,decide_eq_true_eq]
theorem head_of {L:Nat} {x:In} (h:x.1.length=L) (hn:Nib x.1) (hL:0<L):∃ c r,x.1=c::r∧c.toNat<16:=by
 cases hx:x.1 with
 | nil=>rw [hx] at h; simp at h; omega
 | cons c r=>rw [hx] at hn; exact ⟨c,r,rfl,hn.head⟩
theorem begin_head {L:Nat} {l:List In} (h:Ok L l) (hL:0<L) {c:Fin 16} {x:In} (hx:x∈beginL l c):∃ r,x.1=nibOf c::r:=by
 obtain ⟨h1,h2⟩:=mem_begin.1 hx;obtain ⟨d,r,e,hd⟩:=head_of (h.1 x h1).1 (h.1 x h1).2 hL;rw [e] at h2;refine ⟨r,?_⟩;have:d.toNat=c.val:=h2;rw [e,UInt8.toNat_inj.1 (show d.toNat=(nibOf c).toNat by rw [nibOf_toNat]; exact this)]
theorem ok_begin {L:Nat} {l:List In} (h:Ok L l) (hL:0<L) (c:Fin 16):Ok (L-1) (restL (beginL l c) 1):=by
 refine ok_rest (L:=L) ⟨fun x hx=>h.1 x (mem_begin.1 hx).1,h.2.filter _⟩ hL (fun x hx y hy=>?_);obtain ⟨r,e⟩:=begin_head h hL hx;obtain ⟨s,e'⟩:=begin_head h hL hy;rw [e,e'];rfl
theorem build_ne {L:Nat}:∀ {l:List In},Ok L l→l≠[]→build L l ≠ .nil
 | [],_,h=>absurd rfl h
 | [x],_,_=>by rw [build]; intro e; cases e
 | x::y::r,h,_=>by
  have:=common_lt h;rw [build];split
  ·intro e; cases e
  ·rw [dif_pos (by omega)]; intro e; cases e
theorem build_full:∀ (L:Nat) (l:List In),Full (build L l):=by
 intro L
 induction L using Nat.strongRecOn with
 | ind L ih =>
  intro l
  match l with
  | []=>rw [build]; trivial
  | [x]=>rw [build]; trivial
  | x::y::r =>
   rw [build];split
   ·exact ih _ (by omega) _
   ·split
    ·exact fun c=>ih _ (by omega) _
    ·trivial
theorem rest_common {x y:In} {r:List In} {L:Nat} (h:Ok L (x::y::r)):commonL (restL (x::y::r) (commonL (x::y::r)))=0:=by
 obtain ⟨z,hz,e,_⟩:=common_eq h;have h1:(z.1.drop (commonL (x::y::r)),z.2)∈restL (x::y::r) (commonL (x::y::r)):=List.mem_map.2 ⟨z,List.mem_cons_of_mem _ hz,rfl⟩;have h2:=common_le (x:=(x.1.drop (commonL (x::y::r)),x.2)) (r:=restL (y::r) (commonL (x::y::r))) _ h1;have h3:=cp_drop (commonL (x::y::r)) x.1 z.1 (by omega);have h4:commonL (restL (x::y::r) (commonL (x::y::r)))=commonL ((x.1.drop (commonL (x::y::r)),x.2)::restL (y::r) (commonL (x::y::r))):=rfl;rw [h4];dsimp only at h2;omega
theorem good_build:∀ (L:Nat) (l:List In),Ok L l→Good (build L l) L:=by
 intro L
 induction L using Nat.strongRecOn with
 | ind L ih =>
  intro l h
  match l with
  | []=>rw [build]; trivial
  | [x]=>rw [build]; exact h.1 x (by simp)
  | x::y::r =>
   have hlt:=common_lt h;have hx:=h.1 x List.mem_cons_self;rw [build];by_cases h0:0<commonL (x::y::r)
   ·have hok:=ok_rest h (n:=commonL (x::y::r)) (by omega) (fun a ha b hb=>by rw [all_begin ha,all_begin hb]);have hlen:(x.1.take (commonL (x::y::r))).length=commonL (x::y::r):=by rw [List.length_take]; omega
    have hrc:=rest_common h;rw [dif_pos ⟨h0,by omega⟩];obtain ⟨n,hn⟩:∃ n,commonL (x::y::r)=n:=⟨_,rfl⟩
    rw [hn] at h0 hlt hok hlen hrc ⊢;refine ⟨fun e=>by rw [e] at hlen; simp at hlen; omega,hx.2.take _,by omega,?_,?_⟩
    ·have e:restL (x::y::r) n=(x.1.drop n,x.2)::(y.1.drop n,y.2)::restL r n:=rfl;rw [e] at hrc ⊢;rw [build,dif_neg (by omega),dif_pos (by omega)]
     trivial
    ·rw [hlen]; exact ih _ (by omega) _ hok
   ·rw [dif_neg (by omega),dif_pos (by omega)];obtain ⟨z,hz,e,hne⟩:=common_eq h;have hzz:=h.1 z (List.mem_cons_of_mem _ hz);obtain ⟨a,p,ea,ha⟩:=head_of hx.1 hx.2 (by omega);obtain ⟨b,q,eb,hb⟩:=head_of hzz.1 hzz.2 (by omega);rw [ea,eb] at e;have hab:a≠b:=(cp_zero (p:=p) (q:=q)).1 (by omega);have mem:∀ (w:In) (c:UInt8) (s:Pa),w∈x::y::r→w.1=c::s→c.toNat<16→build (L-1) (restL (beginL (x::y::r) (nb c)) 1) ≠ .nil:=fun w c s hw he hc=>by
     refine build_ne (ok_begin h (by omega) (nb c)) (fun k=>?_);have:w∈beginL (x::y::r) (nb c):=mem_begin.2 ⟨hw,by rw [he]; show c.toNat=c.toNat%16; omega⟩;have h2:(w.1.drop 1,w.2)∈restL (beginL (x::y::r) (nb c)) 1:=List.mem_map.2 ⟨w,this,rfl⟩;rw [k] at h2;cases h2
    exact ⟨by omega,⟨nb a,nb b,fun k=>hab (nb_inj ha hb k),mem x a p List.mem_cons_self ea ha,mem z b q (List.mem_cons_of_mem _ hz) eb hb⟩,fun c=>ih _ (by omega) _ (ok_begin h (by omega) c)⟩
theorem find_none {l:List In} {p:Pa} (h:∀ x∈l,x.1≠p):findL l p=none:=by
 unfold findL;rw [List.find?_eq_none.2 (fun x hx=>by simpa using h x hx)];rfl
theorem find_rest {l:List In} {q p:Pa} (h:∀ x∈l,q<+:x.1):findL (restL l q.length) p=findL l (q++p):=by
 unfold findL restL;rw [List.find?_map,Option.map_map];have:(l.find? ((fun x:In=>decide (x.1=p)) ∘ fun x:In=>(x.1.drop q.length,x.2)))=l.find? fun x=>decide (x.1=q++p):=by
  induction l with
  | nil=>rfl
  | cons x l ih =>
   obtain ⟨s,hs⟩:=h x List.mem_cons_self;have e:((fun x:In=>decide (x.1=p)) ∘ fun x:In=>(x.1.drop q.length,x.2)) x=decide (x.1=q++p):=by
    show decide (x.1.drop q.length=p)=decide (x.1=q++p);rw [← hs,List.drop_left];simp
   rw [List.find?_cons,List.find?_cons,e,ih (fun y hy=>h y (List.mem_cons_of_mem _ hy))]
 rw [this];rfl
theorem find_begin {l:List In} {c:Fin 16} {p:Pa}:findL (beginL l c) (nibOf c::p)=findL l (nibOf c::p):=by
 unfold findL beginL;congr 1
 induction l with
 | nil=>rfl
 | cons x l ih =>
  by_cases h:(x.1.getD 0 0).toNat=c.val
  ·rw [List.filter_cons_of_pos (by simpa using h),List.find?_cons,List.find?_cons,ih]
  ·rw [List.filter_cons_of_neg (by simpa using h),List.find?_cons,ih];have:¬ x.1=nibOf c::p:=fun e=>h (by rw [e]; exact nibOf_toNat c);simp [this]
theorem get_build:∀ (L:Nat) (l:List In),Ok L l→∀ p:Pa,p.length=L→Nib p→get (build L l) p=some (findL l p):=by
 intro L
 induction L using Nat.strongRecOn with
 | ind L ih =>
  intro l h p hp hn
  match l with
  | []=>rw [build]; rfl
  | [x] =>
   rw [build];by_cases e:x.1=p
   ·simp [get,findL,e]
   ·simp [get,findL,e]
  | x::y::r =>
   have hlt:=common_lt h;have hx:=h.1 x List.mem_cons_self;rw [build];by_cases h0:0<commonL (x::y::r)
   ·have hok:=ok_rest h (n:=commonL (x::y::r)) (by omega) (fun a ha b hb=>by rw [all_begin ha,all_begin hb]);have hlen:(x.1.take (commonL (x::y::r))).length=commonL (x::y::r):=by rw [List.length_take]; omega
    have hpre:∀ z∈x::y::r,x.1.take (commonL (x::y::r))<+:z.1:=fun z hz=>by rw [← all_begin hz]; exact List.take_prefix _ _
    rw [dif_pos ⟨h0,by omega⟩];obtain ⟨n,hn'⟩:∃ n,commonL (x::y::r)=n:=⟨_,rfl⟩
    rw [hn'] at h0 hlt hok hlen hpre ⊢;obtain ⟨q,hq⟩:∃ q,x.1.take n=q:=⟨_,rfl⟩
    rw [hq] at hlen hpre ⊢;by_cases e:q<+:p
    ·obtain ⟨p1,rfl⟩:=e;rw [List.length_append] at hp;rw [get_ext,ih _ (by omega) _ hok p1 (by omega) hn.right,← hlen,find_rest hpre]
    ·rw [get_ext_not _ e,find_none (fun z hz k=>e (by rw [← k]; exact hpre z hz))]
   ·rw [dif_neg (by omega),dif_pos (by omega)];cases p with
    | nil=>simp at hp; omega
    | cons c s =>
     rw [List.length_cons] at hp;have e1:get (.br fun c=>build (L-1) (restL (beginL (x::y::r) c) 1)) (c::s)=get (build (L-1) (restL (beginL (x::y::r) (nb c)) 1)) s:=rfl;rw [e1,ih _ (by omega) _ (ok_begin h (by omega) _) s (by omega) hn.tail];have e2:=find_rest (l:=beginL (x::y::r) (nb c)) (q:=[c]) (p:=s) (fun z hz=>by
      obtain ⟨t,et⟩:=begin_head h (by omega) hz;rw [et,of_nb hn.head];exact List.cons_prefix_cons.2 ⟨rfl,List.nil_prefix⟩)
     rw [show ([c]:Pa).length=1 from rfl] at e2;rw [e2];have e3:=find_begin (l:=x::y::r) (c:=nb c) (p:=s);rw [of_nb hn.head] at e3;exact congrArg some e3
end Tr
end
section
open Go.RowKit Go.ChangeShapes Go.WideShapes
def Sec (p:Prop):Prop:=Unit→p
theorem Sec.out {p:Prop} (h:Sec p):p:=h ()
theorem sec {p:Prop} (h:p):Sec p:=fun _=>h
theorem below_drewN {B:Nat} {w w':World} (h:Below B w w') (q:Nat):Below B w (w'.drewN q):=⟨h.os,h.tape,h.output,h.size,h.block⟩
def IsBs (w:World) (a:Option Addr) (n cap:Nat) (l:List UInt8):Prop :=
 n≤cap∧cap≤maxLen∧l.length=n∧(a=none→cap=0)∧∀ j,j<n→∃ b off,a=some ⟨b,off,none⟩∧b<w.heap.size∧w.cell? ⟨b,off+j,none⟩=some (.int .u8 (l.getD j 0).toNat)
namespace IsBs
theorem len {w:World} {a:Option Addr} {n cap:Nat} {l:List UInt8} (h:IsBs w a n cap l):l.length=n:=h.2.2.1
theorem at' {w:World} {a:Option Addr} {n cap:Nat} {l:List UInt8} (h:IsBs w a n cap l) (j:Nat) (hj:j<n):∃ b off,a=some ⟨b,off,none⟩∧b<w.heap.size∧w.cell? ⟨b,off+j,none⟩=some (.int .u8 (l.getD j 0).toNat):=h.2.2.2.2 j hj
theorem kept {w w':World} {a:Option Addr} {n cap:Nat} {l:List UInt8} (h:IsBs w a n cap l) (hs:w.heap.size≤w'.heap.size)
  (hc:∀ b o,b<w.heap.size→w'.cell? ⟨b,o,none⟩=w.cell? ⟨b,o,none⟩):IsBs w' a n cap l:=by
 refine ⟨h.1,h.2.1,h.2.2.1,h.2.2.2.1,fun j hj=>?_⟩;obtain ⟨b,off,h1,h2,h3⟩:=h.2.2.2.2 j hj;exact ⟨b,off,h1,Nat.lt_of_lt_of_le h2 hs,by rw [hc b _ h2]; exact h3⟩
theorem below {w w':World} {a:Option Addr} {n cap:Nat} {l:List UInt8} (h:IsBs w a n cap l) (hb:Below w.heap.size w w'):IsBs w' a n cap l :=
 h.kept hb.size fun b o hlt=>hb.cell (p:=⟨b,o,none⟩) hlt
theorem alloc {w:World} {a:Option Addr} {n cap:Nat} {l:List UInt8} (h:IsBs w a n cap l) (o:Obj):IsBs (w.alloc o) a n cap l :=
 h.below ((Below.refl _ _).alloc (Nat.le_refl _) _)
theorem grown {w w':World} {a:Option Addr} {n cap:Nat} {l:List UInt8} (h:IsBs w a n cap l) (hg:w.grownBy w' none):IsBs w' a n cap l :=
 h.below ((Below.refl _ _).grown hg (Nat.le_refl _) (fun k hk=>by cases hk))
theorem drewN {w:World} {a:Option Addr} {n cap:Nat} {l:List UInt8} (h:IsBs w a n cap l) (q:Nat):IsBs (w.drewN q) a n cap l:=h
theorem capNone {w:World} {n cap:Nat} {l:List UInt8} (h:IsBs w none n cap l):n=0∧cap=0∧l=[]:=by
 have hc:=h.2.2.2.1 rfl;have h1:=h.1;have h2:=h.len;have:n=0:=by omega
 subst this;exact ⟨rfl,hc,List.eq_nil_of_length_eq_zero h2⟩
theorem nil (w:World):IsBs w none 0 0 []:=⟨Nat.le_refl _,Nat.zero_le _,rfl,fun _=>rfl,fun _ hj=>absurd hj (Nat.not_lt_zero _)⟩
end IsBs
def GotBs (w:World) (l:List UInt8) (e:Ending) (w':World):Prop:=∃ a n cap,e = .returned (.slice a n cap)∧IsBs w' a n cap l∧Below w.heap.size w w'
theorem IsBs.ofRow {w:World} {b n:Nat} {f:Nat→Value} {t:TypeId} (l:List UInt8) (hn:n≤maxLen) (h:w.rowIs b t n f) (hl:l.length=n) (hf:∀ j,j<n→f j = .int .u8 (l.getD j 0).toNat):IsBs w (some ⟨b,0,none⟩) n n l :=
 ⟨Nat.le_refl _,hn,hl,(fun e=>by cases e),fun j hj=>⟨b,0,rfl,h.lt,by rw [Nat.zero_add,← hf j hj]; exact h.cell hj⟩⟩
theorem IsBs.ofOwn {w:World} {B:Nat} {t:TypeId} {v:Value} {n:Nat} {l:List UInt8} (h:w.ownsRow B t 1 v n (l.map fun x=>Value.int .u8 x.toNat)):∃ a cap,v = .slice a n cap∧IsBs w a n cap l:=by
 have hl:l.length=n:=by simpa using h.1
 rcases h.2 with ⟨rfl,hz⟩ | ⟨g,cap,cur,rfl,hbg,hg,hnc,hcm,hcs,htake⟩
 ·have e:l=[]:=List.eq_nil_of_length_eq_zero (by rw [hl]; exact hz);subst e;subst hz;exact ⟨none,0,rfl,IsBs.nil w⟩
 ·refine ⟨_,_,rfl,hnc,hcm,hl,fun e=>(by cases e),fun j hj=>⟨g,0,rfl,(Array.getElem?_eq_some_iff.1 hg).1,?_⟩⟩;have:=h.cells (g:=g) rfl j (.int .u8 (l.getD j 0).toNat) (by simp [List.getD,hl,hj]);have e:(⟨g,0,none⟩:Addr).add j=⟨g,0+j,none⟩:=by unfold Addr.add; split <;> simp_all
  rw [e] at this;exact this
theorem IsBs.new (w:World) (l:List UInt8) (hl:l.length≤maxLen) (cs:Array Value) (t:TypeId) (hc:cs=(l.map fun x=>Value.int .u8 x.toNat).toArray):IsBs (w.alloc (.cells cs t)) (some ⟨w.heap.size,0,none⟩) l.length l.length l:=by
 subst hc;refine ⟨Nat.le_refl _,hl,rfl,fun e=>(by cases e),fun j hj=>⟨w.heap.size,0,rfl,by simp,?_⟩⟩;rw [Nat.zero_add,World.cell?_alloc_mark];simp [List.getD,hj]
theorem conv_bs {w:World} {a:Option Addr} {n cap:Nat} {l:List UInt8} (h:IsBs w a n cap l) :
  Sem.run Tryz.prog (convert 51 9 (Value.slice a n cap)) w = .ok (.string ⟨l.toArray⟩) w:=by
 by_cases h0:n=0
 ·subst h0;have e:l=[]:=List.eq_nil_of_length_eq_zero h.len;subst e;have:=run_convert_bytes_string (P:=Tryz.prog) w 51 9 5 a 0 cap Tryz.underlying51 Tryz.underlying5 Tryz.underlying9;rw [this];cases a <;> simp [Conv.bytesToString,loadCells]
  all_goals rfl
 ·obtain ⟨b,off,rfl,hb,hc⟩:=h.at' 0 (by omega);have hl:=h.len;have:=run_convert_bytes_back (P:=Tryz.prog) w 51 9 5 ⟨b,off,none⟩ cap l Tryz.underlying51 Tryz.underlying5 Tryz.underlying9 (fun j hj=>by
   obtain ⟨b',off',e,_,hc'⟩:=h.at' j (by omega);simp at e;obtain ⟨rfl,rfl⟩:=e;have e2:(⟨b,off,none⟩:Addr).add j=⟨b,off+j,none⟩:=by unfold Addr.add; split <;> simp_all
   rw [e2,hc'];simp [List.getD,hj])
  rw [hl] at this;exact this
end
section
open Go.RowKit Go.ChangeShapes Go.WideShapes
inductive It where
 | mk (l:Bool) (s:ByteArray) (xs:List It)
namespace It
def l:It→Bool | .mk l _ _=>l
def s:It→ByteArray | .mk _ s _=>s
def xs:It→List It | .mk _ _ xs=>xs
theorem ind {P:It→Prop} (h:∀ l s xs,(∀ y∈xs,P y)→P (.mk l s xs)):∀ x,P x
 | .mk l s xs=>h l s xs (fun y _=>ind h y)
termination_by x=>SizeOf.sizeOf x
decreasing_by
 have:=List.sizeOf_lt_of_mem ‹y∈xs›;simp;omega
end It
def Lies (w:World) (b o:Nat) (x:It) (A:Option Addr) (N C:Nat):Prop :=
 w.cell? ⟨b,o,none⟩=some (.bool x.l)∧w.cell? ⟨b,o+1,none⟩=some (.string x.s)∧w.cell? ⟨b,o+2,none⟩=some (.slice A N C)
theorem Lies.stays {B:Nat} {w w':World} {b o:Nat} {x:It} {A:Option Addr} {N C:Nat} (h:Lies w b o x A N C) (hb:Below B w w') (hlt:b<B):Lies w' b o x A N C :=
 ⟨by rw [hb.cell (p:=⟨b,_,none⟩) hlt]; exact h.1,by rw [hb.cell (p:=⟨b,_,none⟩) hlt]; exact h.2.1,by rw [hb.cell (p:=⟨b,_,none⟩) hlt]; exact h.2.2⟩
inductive ItsP (p:Nat→Prop) (w:World):List It→Option Addr→Nat→Nat→Prop
 | mk {xs:List It} {a:Option Addr} {n cap:Nat} (A:Nat→Option Addr) (N C:Nat→Nat) (hl:xs.length=n) (hc:n≤cap) (hm:cap≤maxLen) (hw:n≤2932031007402) (hn:a=none→cap=0)
   (h:∀ (j:Nat) (x:It),xs[j]? = some x→∃ b off,a=some ⟨b,off,none⟩∧p b∧b<w.heap.size∧Lies w b (off+j*3) x (A j) (N j) (C j))
   (hi:∀ (j:Nat) (x:It),xs[j]? = some x→ItsP p w x.xs (A j) (N j) (C j)):ItsP p w xs a n cap
abbrev ItsIn (B:Nat) (w:World) (xs:List It) (a:Option Addr) (n cap:Nat):Prop:=ItsP (fun b=>B≤b) w xs a n cap
abbrev IsIts (w:World) (xs:List It) (a:Option Addr) (n cap:Nat):Prop:=ItsIn 0 w xs a n cap
def itV (x:It) (a:Option Addr) (n cap:Nat):Value:=.agg #[.bool x.l,.string x.s,.slice a n cap]
def IsIt (w:World) (x:It) (v:Value):Prop:=∃ a n cap,v=itV x a n cap∧IsIts w x.xs a n cap
namespace ItsP
variable {p:Nat→Prop} {w w':World} {xs:List It} {a:Option Addr} {n cap:Nat}
theorem len (h:ItsP p w xs a n cap):xs.length=n:=by cases h; assumption
theorem le (h:ItsP p w xs a n cap):n≤cap:=by cases h; assumption
theorem max (h:ItsP p w xs a n cap):cap≤maxLen:=by cases h; assumption
theorem few (h:ItsP p w xs a n cap):n≤2932031007402:=by cases h; assumption
theorem none' (h:ItsP p w xs a n cap):a=none→cap=0:=by cases h; assumption
theorem kept (h:ItsP p w xs a n cap) (hs:w.heap.size≤w'.heap.size) (hk:∀ b o,p b→b<w.heap.size→w'.cell? ⟨b,o,none⟩=w.cell? ⟨b,o,none⟩):ItsP p w' xs a n cap:=by
 induction h with
 | mk A N C hl hc hm hw hn h hi ih =>
  refine .mk A N C hl hc hm hw hn (fun j x hx=>?_) ih;obtain ⟨b,off,e,hB,hlt,c0,c1,c2⟩:=h j x hx;exact ⟨b,off,e,hB,Nat.lt_of_lt_of_le hlt hs,by rw [hk b _ hB hlt,c0],by rw [hk b _ hB hlt,c1],by rw [hk b _ hB hlt,c2]⟩
theorem stays (h:ItsP p w xs a n cap) (hb:Below w.heap.size w w'):ItsP p w' xs a n cap:=h.kept hb.size fun b o _ hlt=>hb.cell (p:=⟨b,o,none⟩) hlt
theorem to {p':Nat→Prop} (h:ItsP p w xs a n cap) (hp:∀ b,b<w.heap.size→p b→p' b):ItsP p' w xs a n cap:=by
 induction h with
 | mk A N C hl hc hm hw hn h hi ih =>
  refine .mk A N C hl hc hm hw hn (fun j x hx=>?_) ih;obtain ⟨b,off,e,hb,hlt,r⟩:=h j x hx;exact ⟨b,off,e,hp b hlt hb,hlt,r⟩
theorem at' (h:ItsP p w xs a n cap) (j:Nat) (hj:j<n):∃ x b off A N C,xs[j]? = some x∧a=some ⟨b,off,none⟩∧b<w.heap.size∧Lies w b (off+j*3) x A N C∧ItsP p w x.xs A N C:=by
 cases h with
 | mk A N C hl hc hm hw hn h hi =>
  have hx:xs[j]? = some (xs[j]'(by omega)):=List.getElem?_eq_getElem (by omega);obtain ⟨b,off,e,_,hlt,hL⟩:=h j _ hx;exact ⟨_,b,off,A j,N j,C j,hx,e,hlt,hL,hi j _ hx⟩
theorem nil (p:Nat→Prop) (w:World):ItsP p w [] none 0 0:=.mk (fun _=>none) (fun _=>0) (fun _=>0) rfl (Nat.le_refl _) (Nat.zero_le _) (by omega) (fun _=>rfl) (fun _ _ h=>by simp at h) (fun _ _ h=>by simp at h)
theorem alloc (h:ItsP p w xs a n cap) (o:Obj):ItsP p (w.alloc o) xs a n cap:=h.stays ((Below.refl _ _).alloc (Nat.le_refl _) _)
end ItsP
namespace ItsIn
variable {B:Nat} {w w':World} {xs:List It} {a:Option Addr} {n cap:Nat}
theorem kept (h:ItsIn B w xs a n cap) (hs:w.heap.size≤w'.heap.size) (hk:∀ b o,B≤b→b<w.heap.size→w'.cell? ⟨b,o,none⟩=w.cell? ⟨b,o,none⟩):ItsIn B w' xs a n cap:=ItsP.kept h hs hk
theorem weak {B':Nat} (h:ItsIn B w xs a n cap) (hB:B'≤B):ItsIn B' w xs a n cap:=ItsP.to h fun _ _ hb=>Nat.le_trans hB hb
theorem nil (B:Nat) (w:World):ItsIn B w [] none 0 0:=ItsP.nil _ _
end ItsIn
theorem of_al {w wr:World} {o:Obj} (h:Below (w.heap.size+1) (w.alloc o) wr):Below w.heap.size w wr:=((Below.refl _ _).alloc (Nat.le_refl _) _).trans (h.mono (Nat.le_succ _))
theorem al_size {w wr:World} {o:Obj} (h:Below (w.heap.size+1) (w.alloc o) wr):w.heap.size+1≤wr.heap.size:=by
 have:=h.size;simpa using this
theorem al_of {w wr:World} {o:Obj} (h:Below (w.alloc o).heap.size (w.alloc o) wr):Below (w.heap.size+1) (w.alloc o) wr:=h.mono (by simp)
theorem al_step {w wr w2:World} {o:Obj} (h:Below (w.heap.size+1) (w.alloc o) wr) (h2:Below wr.heap.size wr w2):Below (w.heap.size+1) (w.alloc o) w2:=h.trans (h2.mono (al_size h))
theorem al1 (w:World) (o:Obj):Below w.heap.size w (w.alloc o):=(Below.refl _ _).alloc (Nat.le_refl _) _
theorem al2 (w:World) (o o':Obj):Below w.heap.size w ((w.alloc o).alloc o'):=(al1 w o).alloc (by simp) _
theorem below_step {B:Nat} {w w1 w2:World} (h:Below B w w1) (h2:Below w1.heap.size w1 w2) (hB:B≤w.heap.size):Below B w w2:=h.trans (h2.mono (Nat.le_trans hB h.size))
theorem bst {w w1 w2:World} (h:Below w.heap.size w w1) (h2:Below w1.heap.size w1 w2):Below w.heap.size w w2:=below_step h h2 (Nat.le_refl _)
theorem info_item:(Tryz.prog.info? 168).map (·.size)=some 3:=by kernel_rfl
theorem Lies.range {w:World} {b o:Nat} {x:It} {A:Option Addr} {N C:Nat} (h:Lies w b o x A N C):w.rangeAt b o [.bool x.l,.string x.s,.slice A N C]:=fun i v hv=>by
 match i,hv with
 | 0,hv=>cases hv; exact h.1
 | 1,hv=>cases hv; exact h.2.1
 | 2,hv=>cases hv; exact h.2.2
theorem run_load_item {w:World} {b o:Nat} {x:It} {A:Option Addr} {N C:Nat} (h:Lies w b o x A N C):(loadVar 168 ⟨b,o,none⟩).run Tryz.prog w = .ok (itV x A N C) w :=
 run_loadVar_mid w b o 168 _ _ h.range Tryz.underlying168 rfl info_item
theorem res_item {fn:Func} {p:Tmp} (hf:fn.results = #[.cell p 168]) (tmps:Array Value) {w:World} {b o:Nat} {x:It} {A:Option Addr} {N C:Nat} (hp:tmps.getD p undef = .pointer (some ⟨b,o,none⟩)) (h:Lies w b o x A N C) :
  (results fn tmps).run Tryz.prog w = .ok (itV x A N C) w:=by
 have hp':tmps[p]?.getD undef = .pointer (some ⟨b,o,none⟩):=by simpa using hp
 simp [results,hf,hp',asAddr,run_load_item h]
theorem res_item1 {fn:Func} {p u:Tmp} (hf:fn.results = #[.cell p 168,.tmp u]) (tmps:Array Value) {w:World} {b o:Nat} {x:It} {A:Option Addr} {N C:Nat} (hp:tmps.getD p undef = .pointer (some ⟨b,o,none⟩)) (h:Lies w b o x A N C) :
  (results fn tmps).run Tryz.prog w = .ok (.tuple #[itV x A N C,tmps.getD u undef]) w:=by
 have hp':tmps[p]?.getD undef = .pointer (some ⟨b,o,none⟩):=by simpa using hp
 simp [results,hf,hp',asAddr,run_load_item h]
theorem res_item2 {fn:Func} {p u z:Tmp} (hf:fn.results = #[.cell p 168,.tmp u,.tmp z]) (tmps:Array Value) {w:World} {b o:Nat} {x:It} {A:Option Addr} {N C:Nat} (hp:tmps.getD p undef = .pointer (some ⟨b,o,none⟩)) (h:Lies w b o x A N C) :
  (results fn tmps).run Tryz.prog w = .ok (.tuple #[itV x A N C,tmps.getD u undef,tmps.getD z undef]) w:=by
 have hp':tmps[p]?.getD undef = .pointer (some ⟨b,o,none⟩):=by simpa using hp
 simp [results,hf,hp',asAddr,run_load_item h]
theorem lies_new (w:World) (x:It) (A:Option Addr) (N C:Nat) (t:TypeId):Lies (w.alloc (.cells #[.bool x.l,.string x.s,.slice A N C] t)) w.heap.size 0 x A N C :=
 ⟨by rw [World.cell?_alloc_mark]; rfl,by rw [World.cell?_alloc_mark]; rfl,by rw [World.cell?_alloc_mark]; rfl⟩
end
section
open Go.RowKit
namespace Pk
def errP (c:Int):PanicEntry:={ v:=.iface 62 (.int .i64 c),recovered:=false }
theorem fail_any (c:Int) (w:World):Calls Tryz.prog 173 #[.int .i64 c] w fun e w'=>e = .panicked [errP c]∧w=w':=by
 go_enter Tryz.func173,Tryz.ntmps173;go_wp2;simp [bodyPost,errP]
theorem catch_panicking (p:Addr) (x c:Int) (older:List PanicEntry) (w:World) (hc:w.cell? p=some (.int .i64 x)) (hz:w.frozen? p=false) :
  CallsD Tryz.prog 171 #[.pointer (some p)] (.panicking (errP c::older)) w fun e u' w' =>
   e = .returned (.tuple #[])∧u' = .panicking ({ errP c with recovered:=true }::older)∧w'=w.setCell p (.int .i64 c):=by
 refine callsD_of_wpS Tryz.func171 rfl fun c₀ cs hu=>?_;apply wpS_seq;apply wpS_region;simp [wpOpsS,go_sem,recoverD,hu,errP,Tryz.ntmps171,Exit.thenS];apply wpS_seq;apply wpS_region;simp [wpOpsS,go_sem,Exit.thenS];refine wpS_cond (t:=true) (by simp [Act.eval,Array.replicate]) ?_;simp only [if_true];apply wpS_region;have hta:(Instr.typeAssert (.iface 62 (.int .i64 c)) 20 62 false).run Tryz.prog w = .ok (.int .i64 c) w:=by kernel_rfl
 simp [wpOpsS,go_sem,hta,hc,hz,bodyPostS,results,Tryz.results171]
theorem catch_idle (p:Addr) (w:World) :
  CallsD Tryz.prog 171 #[.pointer (some p)] .returning w fun e u' w'=>e = .returned (.tuple #[])∧u' = .returning∧w'=w:=by
 refine callsD_of_wpS Tryz.func171 rfl fun c₀ cs hu=>?_;apply wpS_seq;apply wpS_region;simp [wpOpsS,go_sem,recoverD,hu,Tryz.ntmps171,Exit.thenS];apply wpS_seq;apply wpS_region;simp [wpOpsS,go_sem,Exit.thenS];refine wpS_cond (t:=false) (by simp [Act.eval,Array.replicate]) ?_;simp only [Bool.false_eq_true,if_false];refine wpS_of_wp (wp_skip ?_);cases c₀
 simp_all [bodyPostS,results,Tryz.results171]
theorem caught_ok (D:FuncId) (caps:Array Value) (hD:∀ w,(callFunc D caps).run Tryz.prog w = .ok (.enter D caps) w) (w:World) (R:World→Prop)
  (h:Calls Tryz.prog D caps (w.alloc (.cells #[.int .i64 0] 62)) fun e w'=>e = .returned (.tuple #[])∧(w'.cell? ⟨w.heap.size,0,none⟩=some (.int .i64 0)∧w'.frozen? ⟨w.heap.size,0,none⟩=false)∧R w') :
  Calls Tryz.prog 141 #[.func (.func D) #[] caps] w fun e w'=>e = .returned (.int .i64 0)∧∃ w1,R w1∧w'=w1.setCell ⟨w.heap.size,0,none⟩ (.int .i64 0):=by
 have hmf:∀ (fn:Fn) (first cap:Array Value) (w:World),(Instr.makeFunc fn first cap).run Tryz.prog w = .ok (.func fn first cap) w:=fun _ _ _ _=>rfl;have H:=hid h;clear h;go_enter_defers Tryz.func141,Tryz.ntmps141
 go_wp2_with fail
 refine H.out.mono ?_;rintro e w1 ⟨rfl,⟨hc,hz⟩,hR⟩;have HR:=hid hR;clear hR H;go_wp2;refine leaves_cons (f:=171) (args:=#[.pointer (some ⟨w.heap.size,0,none⟩)]) (by simp) (by simp [go_sem]) ?_;refine (catch_idle ⟨w.heap.size,0,none⟩ _).mono ?_;rintro e u' w'' ⟨rfl,rfl,rfl⟩;simp [Leaves,settle,results,Tryz.results141,go_sem,hc];exact ⟨w1,HR.out,rfl⟩
theorem caught_err (D:FuncId) (caps:Array Value) (hD:∀ w,(callFunc D caps).run Tryz.prog w = .ok (.enter D caps) w) (w:World) (c:Int) (R:World→Prop)
  (h:Calls Tryz.prog D caps (w.alloc (.cells #[.int .i64 0] 62)) fun e w'=>e = .panicked [errP c]∧(w'.cell? ⟨w.heap.size,0,none⟩=some (.int .i64 0)∧w'.frozen? ⟨w.heap.size,0,none⟩=false)∧R w') :
  Calls Tryz.prog 141 #[.func (.func D) #[] caps] w fun e w'=>e = .returned (.int .i64 c)∧∃ w1,R w1∧w'=w1.setCell ⟨w.heap.size,0,none⟩ (.int .i64 c):=by
 have hmf:∀ (fn:Fn) (first cap:Array Value) (w:World),(Instr.makeFunc fn first cap).run Tryz.prog w = .ok (.func fn first cap) w:=fun _ _ _ _=>rfl;have H:=hid h;clear h;go_enter_defers Tryz.func141,Tryz.ntmps141
 go_wp2_with fail
 refine H.out.mono ?_;rintro e w1 ⟨rfl,⟨hc,hz⟩,hR⟩;have HR:=hid hR;clear hR H;go_wp2;refine leaves_cons (f:=171) (args:=#[.pointer (some ⟨w.heap.size,0,none⟩)]) (by simp) (by simp [go_sem]) ?_;refine (catch_panicking ⟨w.heap.size,0,none⟩ 0 c [] _ hc hz).mono ?_;rintro e u' w'' ⟨rfl,rfl,rfl⟩;simp [Leaves,settle,results,Tryz.results141,go_sem,hc];exact ⟨w1,HR.out,rfl⟩
end Pk
end
section
open Go.RowKit
namespace Rl
open Pk
def valB (l:List UInt8):Nat:=l.foldl (fun a b=>a*256+b.toNat) 0
theorem valB_snoc (l:List UInt8) (c:UInt8):valB (l++[c])=valB l*256+c.toNat:=by simp [valB]
theorem valB_from (l:List UInt8):∀ a,l.foldl (fun a b=>a*256+b.toNat) a<(a+1)*256 ^ l.length:=by
 induction l with
 | nil=>intro a; simp
 | cons c l ih =>
  intro a;rw [List.foldl_cons,List.length_cons,Nat.pow_succ];have h1:=ih (a*256+c.toNat);have h2:=c.toNat_lt;have h3:(a*256+c.toNat+1)*256 ^ l.length≤((a+1)*256)*256 ^ l.length:=Nat.mul_le_mul_right _ (by omega);have h4:(a+1)*(256 ^ l.length*256)=((a+1)*256)*256 ^ l.length:=by
   rw [Nat.mul_comm (256 ^ l.length) 256,Nat.mul_assoc]
  omega
theorem valB_lt (l:List UInt8):valB l<256 ^ l.length:=by
 have:=valB_from l 0;simpa [valB] using this
def headE:List UInt8→Except Int (Bool × Nat × Nat)
 | []=>.error 5
 | c::t =>
  if c.toNat<128 then .ok (false,0,1)
  else if c.toNat-(if 192≤c.toNat then 192 else 128)≤55 then .ok (decide (192≤c.toNat),1,c.toNat-(if 192≤c.toNat then 192 else 128))
  else if t.length<c.toNat-(if 192≤c.toNat then 192 else 128)-55 then .error 5
  else if t.headD 0=0∨valB (t.take (c.toNat-(if 192≤c.toNat then 192 else 128)-55))≤55 then .error 6
  else .ok (decide (192≤c.toNat),1+(c.toNat-(if 192≤c.toNat then 192 else 128)-55),valB (t.take (c.toNat-(if 192≤c.toNat then 192 else 128)-55)))
def HeadsTo (s:ByteArray):Except Int (Bool × Nat × Nat)→Prop
 | .error c=>∀ w,Calls Tryz.prog 198 #[.string s] w fun e w'=>e = .panicked [errP c]∧w=w'
 | .ok (l,a,v)=>∀ w,Calls Tryz.prog 198 #[.string s] w fun e w'=>e = .returned (.tuple #[.bool l,.int .i64 a,.int .u64 v])∧w=w'
theorem size_len (s:ByteArray):s.size=s.data.toList.length:=by rw [Array.length_toList]; rfl
theorem get_at (s:ByteArray) (i:Nat) (h:i<s.size):s[i]=s.data.toList.getD i 0:=by
 have h':i<s.data.toList.length:=by rw [← size_len]; exact h
 rw [List.getD_eq_getElem?_getD,List.getElem?_eq_getElem h'];simp;rfl
theorem head_nil (s:ByteArray) (h:s.data.toList=[]):HeadsTo s (.error 5):=by
 intro w;have hs:s.size=0:=by rw [size_len,h]; rfl
 have hnil:(s.toList==[])=true:=by rw [ByteArray.toList_eq,h]; rfl
 go_enter Tryz.func198,Tryz.ntmps198;go_wp2_with (go_at_call 173; refine (fail_any _ _).mono ?_; rintro e w1 ⟨rfl,rfl⟩)
 simp [bodyPost]
theorem head_text (s:ByteArray) (c:UInt8) (t:List UInt8) (h:s.data.toList=c::t) (hc:c.toNat<128):HeadsTo s (.ok (false,0,1)):=by
 intro w;have hs:0<s.size:=by rw [size_len,h]; simp
 have hnil:(s.toList==[])=false:=by rw [ByteArray.toList_eq,h]; rfl
 have h0:s[0]=c:=by rw [get_at s 0 hs,h]; rfl
 have hlt:s[0].toNat<128:=by rw [h0]; exact hc
 clear h h0 hc;go_enter Tryz.func198,Tryz.ntmps198;go_wp2;go_ret3
 exact ⟨rfl,rfl⟩
def firstN (c:UInt8):Nat:=c.toNat-(if 192≤c.toNat then 192 else 128)
theorem head_short (s:ByteArray) (c:UInt8) (t:List UInt8) (h:s.data.toList=c::t) (hc:¬ c.toNat<128) (hn:firstN c≤55):HeadsTo s (.ok (decide (192≤c.toNat),1,firstN c)):=by
 intro w;have hs:0<s.size:=by rw [size_len,h]; simp
 have hnil:(s.toList==[])=false:=by rw [ByteArray.toList_eq,h]; rfl
 have h0:s[0]=c:=by rw [get_at s 0 hs,h]; rfl
 clear h;unfold firstN at hn ⊢;by_cases h192:192≤c.toNat
 ·rw [if_pos h192] at hn ⊢;obtain ⟨m,hm⟩:∃ m:Nat,c.toNat=192+m:=⟨c.toNat-192,by omega⟩
  rw [← h0] at hm;have hd:Hid (decide (192≤c.toNat)=decide ((192:Int)≤192+(m:Int))):=hid (by rw [← h0,hm]; apply decide_eq_decide.2; omega);have hv:Hid (((c.toNat-192:Nat):Int)=192+(m:Int)-192):=hid (by rw [← h0,hm]; omega);have hm2:m≤55:=by rw [← h0] at hn; omega
  skip
  clear h192 hn h0 hc;go_enter Tryz.func198,Tryz.ntmps198;go_wp2;go_ret3
  exact ⟨by rw [hd.out,hv.out]; rfl,rfl⟩
 ·rw [if_neg h192] at hn ⊢;obtain ⟨m,hm⟩:∃ m:Nat,c.toNat=128+m:=⟨c.toNat-128,by omega⟩
  rw [← h0] at hm;have hd:Hid (decide (192≤c.toNat)=decide ((192:Int)≤128+(m:Int))):=hid (by rw [← h0,hm]; apply decide_eq_decide.2; omega);have hv:Hid (((c.toNat-128:Nat):Int)=128+(m:Int)-128):=hid (by rw [← h0,hm]; omega);have hm2:m≤55:=by rw [← h0] at hn; omega
  have hlt:m<64:=by rw [← h0] at h192; omega
  clear h192 hn h0 hc;go_enter Tryz.func198,Tryz.ntmps198;go_wp2;go_ret3
  exact ⟨by rw [hd.out,hv.out]; rfl,rfl⟩
theorem or_byte (x b:Nat) (hx:x<72057594037927936) (hb:b<256):bits .or .u64 (IntKind.u64.wrap ((x:Int)*256)) (IntKind.u64.wrap (b:Int))=((x*256+b:Nat):Int):=by
 have e1:IntKind.u64.wrap ((x:Int)*256)=((x*256:Nat):Int):=by rw [IntKind.wrap_u64]; omega
 have e2:IntKind.u64.wrap (b:Int)=((b:Nat):Int):=by rw [IntKind.wrap_u64]; omega
 rw [e1,e2,u64_or_nat _ _ (by omega) (by omega),nat_join 8 _ _ (by omega) (by omega)]
theorem take_next (l:List UInt8) (q:Nat) (h1:1≤q) (hq:q<l.length):(l.drop 1).take q=(l.drop 1).take (q-1)++[l.getD q 0]:=by
 have h2:q-1<(l.drop 1).length:=by rw [List.length_drop]; omega
 have:=List.take_succ_eq_append_getElem h2;rw [show q-1+1=q by omega] at this;rw [this];congr 2;rw [List.getElem_drop,List.getD_eq_getElem?_getD,List.getElem?_eq_getElem hq];simp [show 1+(q-1)=q by omega]
theorem pow_le7 {k n:Nat} (h:n<256 ^ k) (hk:k≤7):n<72057594037927936:=Nat.lt_of_lt_of_le h (Nat.pow_le_pow_right (by omega) hk)
theorem first_of' {s:ByteArray} (h:0<s.size):s.data.toList.headD 0=s[0]:=by
 obtain ⟨⟨l⟩⟩:=s;cases l with
 | nil=>simp [ByteArray.size] at h
 | cons c l=>rfl
theorem head_cutL (s:ByteArray) (m:Nat) (hm:s.data.toList.headD 0=UInt8.ofNat (192+m)) (h56:56≤m) (h64:m≤63) (hs:0<s.size) (hcut:s.size<m-54):HeadsTo s (.error 5):=by
 intro w;have hnil:(s.toList==[])=false:=by
  rw [beq_eq_false_iff_ne,ByteArray.toList_eq];intro e;rw [size_len,e] at hs;simp at hs
 have h0:s[0].toNat=192+m:=by
  rw [← first_of' hs,hm];simp;omega
 clear hm;go_enter Tryz.func198,Tryz.ntmps198;go_wp2_with (go_at_call 173; refine (fail_any _ _).mono ?_; rintro e w1 ⟨rfl,rfl⟩)
 simp [bodyPost]
theorem head_cutT (s:ByteArray) (m:Nat) (hm:s.data.toList.headD 0=UInt8.ofNat (128+m)) (h56:56≤m) (h64:m≤63) (hs:0<s.size) (hcut:s.size<m-54):HeadsTo s (.error 5):=by
 intro w;have hnil:(s.toList==[])=false:=by
  rw [beq_eq_false_iff_ne,ByteArray.toList_eq];intro e;rw [size_len,e] at hs;simp at hs
 have h0:s[0].toNat=128+m:=by
  rw [← first_of' hs,hm];simp;omega
 clear hm;go_enter Tryz.func198,Tryz.ntmps198;go_wp2_with (go_at_call 173; refine (fail_any _ _).mono ?_; rintro e w1 ⟨rfl,rfl⟩)
 simp [bodyPost]
theorem head_longL (s:ByteArray) (m:Nat) (hm:s.data.toList.headD 0=UInt8.ofNat (192+m)) (h56:56≤m) (h64:m≤63) (hcut:m-54≤s.size) (hgood:s.data.toList.getD 1 0≠0∧55<valB ((s.data.toList.drop 1).take (m-55))):HeadsTo s (.ok (true,m-54,valB ((s.data.toList.drop 1).take (m-55)))):=by
 intro w;have hs:0<s.size:=by omega
 have hnil:(s.toList==[])=false:=by
  rw [beq_eq_false_iff_ne,ByteArray.toList_eq];intro e;rw [size_len,e] at hs;simp at hs
 have h0:s[0].toNat=192+m:=by
  rw [← first_of' hs,hm];simp;omega
 obtain ⟨V,hV⟩:∃ V,valB ((s.data.toList.drop 1).take (m-55))=V:=⟨_,rfl⟩
 rw [hV] at hgood ⊢;have HV:=hid hV;clear hm hV;go_enter Tryz.func198,Tryz.ntmps198;go_wp2;go_loop [4,6] (fun v i=>∃ q x:Nat,1≤q∧q≤m-54∧i = .int .i64 q∧v = .int .u64 x∧Hid (x=valB ((s.data.toList.drop 1).take (q-1)))) (fun _ i=>m-(intOf i).toNat)
 case atStart=>exact ⟨1,0,by omega,by omega,rfl,rfl,hid rfl⟩
 case round =>
  obtain ⟨q,x,hq1,hq,rfl,rfl,HX⟩:=hrel;by_cases hlt:q<m-54
  ·have hqs:q<s.size:=by omega
   have hx:x<72057594037927936:=by
    rw [HX.out];exact pow_le7 (valB_lt _) (by rw [List.length_take,List.length_drop]; omega)
   have HS:Hid (bits .or .u64 ((x:Int)*256) (IntKind.u64.wrap (s[q].toNat:Int))=((x*256+s[q].toNat:Nat):Int)):=hid (by rw [← or_byte _ _ hx s[q].toNat_lt,show IntKind.u64.wrap ((x:Int)*256)=(x:Int)*256 by rw [IntKind.wrap_u64]; omega]);have HN:Hid (x*256+s[q].toNat=valB ((s.data.toList.drop 1).take (q+1-1))):=hid (by
    rw [show q+1-1=q by omega,take_next _ q hq1 (by rw [← size_len]; exact hqs),valB_snoc,← HX.out,get_at s q hqs])
   go_wp2;go_round
   case rel=>exact ⟨q+1,_,by omega,by omega,by go_num,by rw [HS.out],hid HN.out⟩
   case measure=>simp [intOf]; omega
  ·obtain rfl:q=m-54:=by omega
   have hv:x=V:=by rw [HX.out,← HV.out,show m-54-1=m-55 by omega]
   have hs1:1<s.size:=by omega
   have h1:s[1].toNat≠0:=by
    rw [get_at s 1 hs1];intro e;exact hgood.1 (UInt8.toNat_inj.1 e)
   have hb1:((s[1].toNat:Int)==0)=false:=by simp; omega
   have hV:=hgood.2;subst hv;have hA:Hid (((m-54:Nat):Int)=1+(192+(m:Int)-192)-55):=hid (by omega);clear HX HV hgood hlt h1;go_wp2;go_ret3
   exact ⟨by rw [hA.out]; rfl,rfl⟩
theorem head_longT (s:ByteArray) (m:Nat) (hm:s.data.toList.headD 0=UInt8.ofNat (128+m)) (h56:56≤m) (h64:m≤63) (hcut:m-54≤s.size) (hgood:s.data.toList.getD 1 0≠0∧55<valB ((s.data.toList.drop 1).take (m-55))):HeadsTo s (.ok (false,m-54,valB ((s.data.toList.drop 1).take (m-55)))):=by
 intro w;have hs:0<s.size:=by omega
 have hnil:(s.toList==[])=false:=by
  rw [beq_eq_false_iff_ne,ByteArray.toList_eq];intro e;rw [size_len,e] at hs;simp at hs
 have h0:s[0].toNat=128+m:=by
  rw [← first_of' hs,hm];simp;omega
 obtain ⟨V,hV⟩:∃ V,valB ((s.data.toList.drop 1).take (m-55))=V:=⟨_,rfl⟩
 rw [hV] at hgood ⊢;have HV:=hid hV;clear hm hV;go_enter Tryz.func198,Tryz.ntmps198;go_wp2;go_loop [4,6] (fun v i=>∃ q x:Nat,1≤q∧q≤m-54∧i = .int .i64 q∧v = .int .u64 x∧Hid (x=valB ((s.data.toList.drop 1).take (q-1)))) (fun _ i=>m-(intOf i).toNat)
 case atStart=>exact ⟨1,0,by omega,by omega,rfl,rfl,hid rfl⟩
 case round =>
  obtain ⟨q,x,hq1,hq,rfl,rfl,HX⟩:=hrel;by_cases hlt:q<m-54
  ·have hqs:q<s.size:=by omega
   have hx:x<72057594037927936:=by
    rw [HX.out];exact pow_le7 (valB_lt _) (by rw [List.length_take,List.length_drop]; omega)
   have HS:Hid (bits .or .u64 ((x:Int)*256) (IntKind.u64.wrap (s[q].toNat:Int))=((x*256+s[q].toNat:Nat):Int)):=hid (by rw [← or_byte _ _ hx s[q].toNat_lt,show IntKind.u64.wrap ((x:Int)*256)=(x:Int)*256 by rw [IntKind.wrap_u64]; omega]);have HN:Hid (x*256+s[q].toNat=valB ((s.data.toList.drop 1).take (q+1-1))):=hid (by
    rw [show q+1-1=q by omega,take_next _ q hq1 (by rw [← size_len]; exact hqs),valB_snoc,← HX.out,get_at s q hqs])
   go_wp2;go_round
   case rel=>exact ⟨q+1,_,by omega,by omega,by go_num,by rw [HS.out],hid HN.out⟩
   case measure=>simp [intOf]; omega
  ·obtain rfl:q=m-54:=by omega
   have hv:x=V:=by rw [HX.out,← HV.out,show m-54-1=m-55 by omega]
   have hs1:1<s.size:=by omega
   have h1:s[1].toNat≠0:=by
    rw [get_at s 1 hs1];intro e;exact hgood.1 (UInt8.toNat_inj.1 e)
   have hb1:((s[1].toNat:Int)==0)=false:=by simp; omega
   have hV:=hgood.2;subst hv;have hF:Hid (decide ((192:Int)≤128+(m:Int))=false):=hid (by simp; omega);have hA:Hid (((m-54:Nat):Int)=1+(128+(m:Int)-128)-55):=hid (by omega);clear HX HV hgood hlt h1;go_wp2;go_ret3
   refine ⟨?_,rfl⟩;rw [hA.out];show Ending.returned (.tuple #[.bool (decide ((192:Int)≤128+(m:Int))),_,_])=_;rw [hF.out];rfl
theorem head_badL (s:ByteArray) (m:Nat) (hm:s.data.toList.headD 0=UInt8.ofNat (192+m)) (h56:56≤m) (h64:m≤63) (hcut:m-54≤s.size) (hbad:s.data.toList.getD 1 0=0∨valB ((s.data.toList.drop 1).take (m-55))≤55):HeadsTo s (.error 6):=by
 intro w;have hs:0<s.size:=by omega
 have hnil:(s.toList==[])=false:=by
  rw [beq_eq_false_iff_ne,ByteArray.toList_eq];intro e;rw [size_len,e] at hs;simp at hs
 have h0:s[0].toNat=192+m:=by
  rw [← first_of' hs,hm];simp;omega
 obtain ⟨V,hV⟩:∃ V,valB ((s.data.toList.drop 1).take (m-55))=V:=⟨_,rfl⟩
 rw [hV] at hbad;have HV:=hid hV;clear hm hV;go_enter Tryz.func198,Tryz.ntmps198;go_wp2;go_loop [4,6] (fun v i=>∃ q x:Nat,1≤q∧q≤m-54∧i = .int .i64 q∧v = .int .u64 x∧Hid (x=valB ((s.data.toList.drop 1).take (q-1)))) (fun _ i=>m-(intOf i).toNat)
 case atStart=>exact ⟨1,0,by omega,by omega,rfl,rfl,hid rfl⟩
 case round =>
  obtain ⟨q,x,hq1,hq,rfl,rfl,HX⟩:=hrel;by_cases hlt:q<m-54
  ·have hqs:q<s.size:=by omega
   have hx:x<72057594037927936:=by
    rw [HX.out];exact pow_le7 (valB_lt _) (by rw [List.length_take,List.length_drop]; omega)
   have HS:Hid (bits .or .u64 ((x:Int)*256) (IntKind.u64.wrap (s[q].toNat:Int))=((x*256+s[q].toNat:Nat):Int)):=hid (by rw [← or_byte _ _ hx s[q].toNat_lt,show IntKind.u64.wrap ((x:Int)*256)=(x:Int)*256 by rw [IntKind.wrap_u64]; omega]);have HN:Hid (x*256+s[q].toNat=valB ((s.data.toList.drop 1).take (q+1-1))):=hid (by
    rw [show q+1-1=q by omega,take_next _ q hq1 (by rw [← size_len]; exact hqs),valB_snoc,← HX.out,get_at s q hqs])
   go_wp2;go_round
   case rel=>exact ⟨q+1,_,by omega,by omega,by go_num,by rw [HS.out],hid HN.out⟩
   case measure=>simp [intOf]; omega
  ·obtain rfl:q=m-54:=by omega
   have hv:x=V:=by rw [HX.out,← HV.out,show m-54-1=m-55 by omega]
   have hs1:1<s.size:=by omega
   have h1:s[1].toNat=0∨x≤55:=by
    rw [get_at s 1 hs1,hv];rcases hbad with h | h
    ·exact .inl (by rw [h]; rfl)
    ·exact .inr h
   subst hv;clear HX HV hbad hlt;by_cases hz:s[1].toNat=0
   ·have hb1:((s[1].toNat:Int)==0)=true:=by simp; omega
    clear hz h1;go_wp2_with (go_at_call 173; refine (fail_any _ _).mono ?_; rintro e w1 ⟨rfl,rfl⟩)
    simp [bodyPost]
   ·have hb1:((s[1].toNat:Int)==0)=false:=by simp; omega
    have hx55:x≤55:=by omega
    clear hz h1;go_wp2_with (go_at_call 173; refine (fail_any _ _).mono ?_; rintro e w1 ⟨rfl,rfl⟩)
    simp [bodyPost]
theorem head_badT (s:ByteArray) (m:Nat) (hm:s.data.toList.headD 0=UInt8.ofNat (128+m)) (h56:56≤m) (h64:m≤63) (hcut:m-54≤s.size) (hbad:s.data.toList.getD 1 0=0∨valB ((s.data.toList.drop 1).take (m-55))≤55):HeadsTo s (.error 6):=by
 intro w;have hs:0<s.size:=by omega
 have hnil:(s.toList==[])=false:=by
  rw [beq_eq_false_iff_ne,ByteArray.toList_eq];intro e;rw [size_len,e] at hs;simp at hs
 have h0:s[0].toNat=128+m:=by
  rw [← first_of' hs,hm];simp;omega
 obtain ⟨V,hV⟩:∃ V,valB ((s.data.toList.drop 1).take (m-55))=V:=⟨_,rfl⟩
 rw [hV] at hbad;have HV:=hid hV;clear hm hV;go_enter Tryz.func198,Tryz.ntmps198;go_wp2;go_loop [4,6] (fun v i=>∃ q x:Nat,1≤q∧q≤m-54∧i = .int .i64 q∧v = .int .u64 x∧Hid (x=valB ((s.data.toList.drop 1).take (q-1)))) (fun _ i=>m-(intOf i).toNat)
 case atStart=>exact ⟨1,0,by omega,by omega,rfl,rfl,hid rfl⟩
 case round =>
  obtain ⟨q,x,hq1,hq,rfl,rfl,HX⟩:=hrel;by_cases hlt:q<m-54
  ·have hqs:q<s.size:=by omega
   have hx:x<72057594037927936:=by
    rw [HX.out];exact pow_le7 (valB_lt _) (by rw [List.length_take,List.length_drop]; omega)
   have HS:Hid (bits .or .u64 ((x:Int)*256) (IntKind.u64.wrap (s[q].toNat:Int))=((x*256+s[q].toNat:Nat):Int)):=hid (by rw [← or_byte _ _ hx s[q].toNat_lt,show IntKind.u64.wrap ((x:Int)*256)=(x:Int)*256 by rw [IntKind.wrap_u64]; omega]);have HN:Hid (x*256+s[q].toNat=valB ((s.data.toList.drop 1).take (q+1-1))):=hid (by
    rw [show q+1-1=q by omega,take_next _ q hq1 (by rw [← size_len]; exact hqs),valB_snoc,← HX.out,get_at s q hqs])
   go_wp2;go_round
   case rel=>exact ⟨q+1,_,by omega,by omega,by go_num,by rw [HS.out],hid HN.out⟩
   case measure=>simp [intOf]; omega
  ·obtain rfl:q=m-54:=by omega
   have hv:x=V:=by rw [HX.out,← HV.out,show m-54-1=m-55 by omega]
   have hs1:1<s.size:=by omega
   have h1:s[1].toNat=0∨x≤55:=by
    rw [get_at s 1 hs1,hv];rcases hbad with h | h
    ·exact .inl (by rw [h]; rfl)
    ·exact .inr h
   subst hv;clear HX HV hbad hlt;by_cases hz:s[1].toNat=0
   ·have hb1:((s[1].toNat:Int)==0)=true:=by simp; omega
    clear hz h1;go_wp2_with (go_at_call 173; refine (fail_any _ _).mono ?_; rintro e w1 ⟨rfl,rfl⟩)
    simp [bodyPost]
   ·have hb1:((s[1].toNat:Int)==0)=false:=by simp; omega
    have hx55:x≤55:=by omega
    clear hz h1;go_wp2_with (go_at_call 173; refine (fail_any _ _).mono ?_; rintro e w1 ⟨rfl,rfl⟩)
    simp [bodyPost]
theorem head_tells (s:ByteArray):HeadsTo s (headE s.data.toList):=by
 obtain ⟨l,hl⟩:∃ l,s.data.toList=l:=⟨_,rfl⟩
 cases l with
 | nil=>rw [hl]; exact head_nil s hl
 | cons c t =>
  have hsz:s.size=t.length+1:=by rw [size_len,hl]; rfl
  have hh:s.data.toList.headD 0=c:=by rw [hl]; rfl
  have hd1:s.data.toList.drop 1=t:=by rw [hl]; rfl
  have hg1:s.data.toList.getD 1 0=t.headD 0:=by rw [hl]; cases t <;> rfl
  have hc:=c.toNat_lt;have hof:∀ k,c.toNat=k→c=UInt8.ofNat k:=fun k e=>by rw [← e]; simp
  rw [hl];dsimp only [headE];by_cases h1:c.toNat<128
  ·rw [if_pos h1]; exact head_text s c t hl h1
  ·rw [if_neg h1];by_cases h2:c.toNat-(if 192≤c.toNat then 192 else 128)≤55
   ·rw [if_pos h2]; exact head_short s c t hl h1 h2
   ·rw [if_neg h2];by_cases h192:192≤c.toNat
    ·simp only [if_pos h192,decide_eq_true h192] at h2 ⊢;have hcm:c=UInt8.ofNat (192+(c.toNat-192)):=hof _ (by omega);by_cases h3:t.length<c.toNat-192-55
     ·rw [if_pos h3];exact head_cutL s (c.toNat-192) (by rw [hh]; exact hcm) (by omega) (by omega) (by omega) (by omega)
     ·rw [if_neg h3];by_cases h4:t.headD 0=0∨valB (t.take (c.toNat-192-55))≤55
      ·rw [if_pos h4];exact head_badL s (c.toNat-192) (by rw [hh]; exact hcm) (by omega) (by omega) (by omega) (by rw [hd1,hg1]; exact h4)
      ·rw [if_neg h4];have:=head_longL s (c.toNat-192) (by rw [hh]; exact hcm) (by omega) (by omega) (by omega) (by
        rw [hd1,hg1];exact ⟨fun e=>h4 (.inl e),by omega⟩)
       rw [hd1,show c.toNat-192-54=1+(c.toNat-192-55) by omega] at this;exact this
    ·simp only [if_neg h192,decide_eq_false h192] at h2 ⊢;have hcm:c=UInt8.ofNat (128+(c.toNat-128)):=hof _ (by omega);by_cases h3:t.length<c.toNat-128-55
     ·rw [if_pos h3];exact head_cutT s (c.toNat-128) (by rw [hh]; exact hcm) (by omega) (by omega) (by omega) (by omega)
     ·rw [if_neg h3];by_cases h4:t.headD 0=0∨valB (t.take (c.toNat-128-55))≤55
      ·rw [if_pos h4];exact head_badT s (c.toNat-128) (by rw [hh]; exact hcm) (by omega) (by omega) (by omega) (by rw [hd1,hg1]; exact h4)
      ·rw [if_neg h4];have:=head_longT s (c.toNat-128) (by rw [hh]; exact hcm) (by omega) (by omega) (by omega) (by
        rw [hd1,hg1];exact ⟨fun e=>h4 (.inl e),by omega⟩)
       rw [hd1,show c.toNat-128-54=1+(c.toNat-128-55) by omega] at this;exact this
end Rl
end
section
open Go.RowKit
namespace Rg
def nthO:List Oper→Nat→Option Oper
 | [],_=>none
 | o::_,0=>some o
 | _::l,n+1=>nthO l n
theorem nthO_eq:∀ (l:List Oper) (n:Nat),l[n]? = nthO l n
 | [],_=>by simp [nthO]
 | _::_,0=>by simp [nthO]
 | _::l,n+1=>by simpa [nthO] using nthO_eq l n
theorem takeL {P:Program} {md:Region.Mode} {l:List Oper} {Q:Exit→Act→World→Prop} {S:World→Prop} {i:Nat} {oi:Oper} {v:Value} {fuel:Nat} {listed:Array Bool} {a:Act} {w:World} (hi:nthO l i=some oi)
  (hs:Region.noSelect l.toArray=true) (hf:Region.free md l.toArray listed i=true) (hr:(Region.ready md l.toArray listed).contains i=true)
  (hQ:∀ c a w,Q (.panic c) (a.put oi.dst v) w→Q (.panic c) a w) (hy:YieldsIf P l.toArray S oi v a) (hS:S w)
  (h:wpAnyH P md l.toArray Q S fuel (listed.setIfInBounds i true) (a.put oi.dst v) w):wpAnyH P md l.toArray Q S (fuel+1) listed a w :=
 wpAnyH_take (by rw [List.getElem?_toArray,nthO_eq]; exact hi) hs hf hr hQ hy hS h
theorem readyL {P:Program} {md:Region.Mode} {l:List Oper} {Q:Exit→Act→World→Prop} {S:World→Prop} {fuel:Nat} {listed:Array Bool} {a:Act} {w:World} {i:Nat} {o:Oper} (ho:nthO l i=some o)
  (h:∀ K':Act→World→Prop,Shut (∀ a w,S w→(S w→wpAnyH P md l.toArray Q S fuel (listed.setIfInBounds i true) a w)→K' a w)→if Region.wanted o (yielded l.toArray a.tmps)=true then Oper.wp P o a w K' Q else K' (a.put o.dst undef) w):AllReadyH P md l.toArray Q S fuel listed a w [i] :=
 AllReadyH.cons (by rw [List.getElem?_toArray,nthO_eq]; exact ho) h AllReadyH.nil
theorem readyC {P:Program} {md:Region.Mode} {l:List Oper} {Q:Exit→Act→World→Prop} {S:World→Prop} {fuel:Nat} {listed:Array Bool} {a:Act} {w:World} {i:Nat} {rs:List Nat} {o:Oper} (ho:nthO l i=some o)
  (h:∀ K':Act→World→Prop,Shut (∀ a w,S w→(S w→wpAnyH P md l.toArray Q S fuel (listed.setIfInBounds i true) a w)→K' a w)→if Region.wanted o (yielded l.toArray a.tmps)=true then Oper.wp P o a w K' Q else K' (a.put o.dst undef) w)
  (hs:AllReadyH P md l.toArray Q S fuel listed a w rs):AllReadyH P md l.toArray Q S fuel listed a w (i::rs) :=
 AllReadyH.cons (by rw [List.getElem?_toArray,nthO_eq]; exact ho) h hs
theorem s {α:Type}:(∀ (l:List α) (i:Nat) (x : α),l.toArray.setIfInBounds i x=(l.set i x).toArray)∧(∀ (l:List α) (x y : α),(y::l).set 0 x=x::l)∧∀ (l:List α) (i:Nat) (x y : α),(y::l).set (i+1) x=y::l.set i x :=
 ⟨fun _ _ _=>List.setIfInBounds_toArray ..,fun _ _ _=>List.set_cons_zero ..,fun _ _ _ _=>List.set_cons_succ ..⟩
theorem tk {P:Program} {md:Region.Mode} {l:List Oper} {Q:Exit→Act→World→Prop} {S:World→Prop} {i:Nat} {oi:Oper} {v:Value} {fuel:Nat} {listed:Array Bool} {a:Act} {w:World} (hi:nthO l i=some oi)
  (h:wpAnyH P md l.toArray Q S fuel (listed.setIfInBounds i true) (a.put oi.dst v) w) (hs:Region.noSelect l.toArray=true:=by kernel_rfl) (hf:Region.free md l.toArray listed i=true:=by kernel_rfl) (hr:(Region.ready md l.toArray listed).contains i=true:=by kernel_rfl)
  (hQ:∀ c a w,Q (.panic c) (a.put oi.dst v) w→Q (.panic c) a w:=by exact fun _ _ _ h=>h) (hw:Region.wanted oi (yielded l.toArray a.tmps)=true:=by rfl) (hS:S w:=by assumption)
  (hy:∀ wz,S wz→(execOp a.eval oi).run P wz = .ok (.value v) wz:=by intro wz hSw; (try dsimp only at hSw); go_simp <;> with_reducible rfl) :
  wpAnyH P md l.toArray Q S (fuel+1) listed a w:=takeL hi hs hf hr hQ (Or.inl ⟨hw,hy⟩) hS h
theorem rd {P:Program} {md:Region.Mode} {l:List Oper} {Q:Exit→Act→World→Prop} {S:World→Prop} {fuel:Nat} {listed:Array Bool} {a:Act} {w:World} {i:Nat} {o:Oper} (ho:nthO l i=some o)
  (h:∀ K':Act→World→Prop,Shut (∀ a w,S w→(S w→wpAnyH P md l.toArray Q S fuel (listed.setIfInBounds i true) a w)→K' a w)→if Region.wanted o (yielded l.toArray a.tmps)=true then Oper.wp P o a w K' Q else K' (a.put o.dst undef) w) (hr:Region.ready md l.toArray listed=[i]:=by kernel_rfl) :
  wpAnyH P md l.toArray Q S (fuel+1) listed a w:=wpAnyH_ready hr (by simp) (readyL ho h)
theorem meet {P:Program} {o:Oper} {a:Act} {w:World} {K:Act→World→Prop} {Q:Exit→Act→World→Prop} {ops:Array Oper} (hw:Region.wanted o (yielded ops a.tmps)=true) (v:Value) (w':World)
  (hr:(execOp a.eval o).run P w = .ok (.value v) w') (h:K (a.put o.dst v) w'):if Region.wanted o (yielded ops a.tmps)=true then Oper.wp P o a w K Q else K (a.put o.dst undef) w:=by
 rw [if_pos hw];unfold Oper.wp;rw [hr];exact h
theorem want {P:Program} {o:Oper} {a:Act} {w:World} {K:Act→World→Prop} {Q:Exit→Act→World→Prop} {ops:Array Oper} (hw:Region.wanted o (yielded ops a.tmps)=true)
  (h:Oper.wp P o a w K Q):if Region.wanted o (yielded ops a.tmps)=true then Oper.wp P o a w K Q else K (a.put o.dst undef) w:=by
 rw [if_pos hw];exact h
def Own (w:World) (b:Nat) (cs:Array Value) (T:TypeId):Prop:=b<w.heap.size∧w.heap[b]? = some (.cells cs T (0,0))
theorem Own.below {w w':World} {b:Nat} {cs:Array Value} {T:TypeId} (h:Own w b cs T) (hb:Below w.heap.size w w'):Own w' b cs T :=
 ⟨Nat.lt_of_lt_of_le h.1 hb.size,(hb.block _ h.1).trans h.2⟩
theorem Own.new (w:World) (cs:Array Value) (T:TypeId):Own (w.alloc (.cells cs T)) w.heap.size cs T :=
 ⟨by simp,by show (w.heap.push _)[w.heap.size]? = _; simp⟩
theorem Own.drew {w:World} {b:Nat} {cs:Array Value} {T:TypeId} (h:Own w b cs T):Own w.drew b cs T:=h
structure Upd (w:World) (b:Nat) (w':World):Prop where
 os:w'.os=w.os
 tape:w'.tape=w.tape
 output:w'.output=w.output
 size:w'.heap.size=w.heap.size
 block:∀ k,k≠b→w'.heap[k]? = w.heap[k]?
theorem Own.upd {w w':World} {b b':Nat} {cs:Array Value} {T:TypeId} (h:Own w b cs T) (hu:Upd w b' w') (hne:b≠b'):Own w' b cs T :=
 ⟨by rw [hu.size]; exact h.1,(hu.block _ hne).trans h.2⟩
theorem Upd.below {B:Nat} {w0 w w':World} {b:Nat} (hu:Upd w b w') (h:Below B w0 w) (hB:B≤b):Below B w0 w' :=
 ⟨hu.os.trans h.os,hu.tape.trans h.tape,hu.output.trans h.output,by rw [hu.size]; exact h.size,fun k hk=>(hu.block k (by omega)).trans (h.block k hk)⟩
theorem Upd.set (w:World) (b:Nat) (cs:Array Value):Upd w b (w.setRow b cs) :=
 ⟨rfl,rfl,rfl,by simp,fun k hk=>setRow_other w b k cs hk⟩
theorem meetAlloc {P:Program} {o:Oper} {a:Act} {w:World} {K:Act→World→Prop} {Q:Exit→Act→World→Prop} {ops:Array Oper} (hw:Region.wanted o (yielded ops a.tmps)=true) {cs:Array Value} {T:TypeId}
  (hr:(execOp a.eval o).run P w = .ok (.value (.pointer (some ⟨w.heap.size,0,none⟩))) (w.alloc (.cells cs T)))
  (h:∀ w' b,b=w.heap.size→Own w' b cs T→Below w.heap.size w w'→K (a.put o.dst (.pointer (some ⟨b,0,none⟩))) w'):if Region.wanted o (yielded ops a.tmps)=true then Oper.wp P o a w K Q else K (a.put o.dst undef) w :=
 meet hw _ _ hr (h _ _ rfl (Own.new _ _ _) ((Below.refl _ _).alloc (Nat.le_refl _) _))
theorem meetStore {P:Program} {o:Oper} {a:Act} {w:World} {K:Act→World→Prop} {Q:Exit→Act→World→Prop} {ops:Array Oper} (hw:Region.wanted o (yielded ops a.tmps)=true) {g:Nat} {old:Array Value} {T:TypeId} (hg:Own w g old T)
  (ty:TypeId) (cells:Array Value) (ho:∃ x y,o.op = .store ty x y∧a.eval x = .pointer (some ⟨g,0,none⟩)∧a.eval y = .agg cells)
  (hi:(P.info? ty).map (·.size)=some cells.size) (hold:old.size=cells.size) (h1:cells.all (·.oneCell')=true)
  (h:∀ w',Own w' g cells T→Upd w g w'→K (a.put o.dst undef) w'):if Region.wanted o (yielded ops a.tmps)=true then Oper.wp P o a w K Q else K (a.put o.dst undef) w:=by
 obtain ⟨x,y,ho,hx,hy⟩:=ho;exact want hw (wp_store_row ty x y ho g cells hx hy T old hg.2 hi hold h1 (h _ ⟨by simp; exact hg.1,setRow_heap _ _ _ _ _ _ hg.2⟩ (Upd.set _ _ _)))
theorem run {P:Program} {w:World} {ops:Array Oper} {rest:List Oper} {o:Oper} {a:Act} {Q:Exit→Act→World→Prop} (hgd:o.guard=none) (v:Value) (w':World)
  (hr:(execOp a.eval o).run P w = .ok (.value v) w') (h:wpList P ops Q rest (a.put o.dst v) w'):wpList P ops Q (o::rest) a w :=
 wpList_plain hgd fun K hK=>by
  unfold Oper.wp;rw [hr];exact hK _ _ h
theorem runW {P:Program} {w:World} {ops:Array Oper} {rest:List Oper} {o:Oper} {a:Act} {Q:Exit→Act→World→Prop} (hw:Region.wanted o (yielded ops a.tmps)=true) (v:Value) (w':World)
  (hr:(execOp a.eval o).run P w = .ok (.value v) w') (h:wpList P ops Q rest (a.put o.dst v) w'):wpList P ops Q (o::rest) a w :=
 wpList_step fun K hK=>by
  rw [if_pos hw];unfold Oper.wp;rw [hr];exact hK _ _ h
end Rg
end
section
open Go.RowKit
namespace Rv
def turned (f:Nat→Value) (n k:Nat):Nat→Value:=fun j=>if j<n∧(j<k∨n-1-j<k) then f (n-1-j) else f j
theorem turned_zero (f:Nat→Value) (n:Nat):turned f n 0=f:=by
 funext j;simp [turned]
theorem turned_step (f:Nat→Value) (n k:Nat) (h:k<n-1-k) (j:Nat) :
  (if j=n-1-k then turned f n k k else if j=k then turned f n k (n-1-k) else turned f n k j)=turned f n (k+1) j:=by
 unfold turned
 repeat' split
 all_goals first | rfl | (congr 1; omega) | omega
theorem turned_int (f:Nat→Value) (n k:Nat) (hf:∀ j,j<n→∃ z:Int,f j = .int .u8 z) (j:Nat) (hj:j<n):∃ z:Int,turned f n k j = .int .u8 z:=by
 unfold turned;split
 ·exact hf _ (by omega)
 ·exact hf _ hj
theorem turned_all (f:Nat→Value) (n k:Nat) (h:¬ k<n-1-k) (j:Nat):turned f n k j=turned f n n j:=by
 unfold turned
 repeat' split
 all_goals first | rfl | (congr 1; omega) | omega
theorem upd_set {w w1:World} {g:Nat} (h:Rg.Upd w g w1) (i:Nat) (v:Value):Rg.Upd w g (w1.setCell ⟨g,i,none⟩ v) :=
 ⟨h.os,h.tape,h.output,by rw [← h.size]; simp,fun k hk=>(Below.heap_setCell w1 ⟨g,i,none⟩ v k hk).trans (h.block k hk)⟩
theorem upd_drew {w w1:World} {g:Nat} (h:Rg.Upd w g w1):Rg.Upd w g w1.drew:=⟨h.os,h.tape,h.output,h.size,h.block⟩
theorem step {w wr:World} {g n cap k m:Nat} {T:TypeId} {f:Nat→Value} (h:wr.rowIs g T cap (turned f n k)∧Rg.Upd w g wr) (hk:k<m) (hm:m+1+k=n) {x y:Value} (hx:turned f n k k=x) (hy:turned f n k m=y) :
  ((wr.setCell ⟨g,k,none⟩ y).setCell ⟨g,m,none⟩ x).drew.rowIs g T cap (turned f n (k+1))∧Rg.Upd w g ((wr.setCell ⟨g,k,none⟩ y).setCell ⟨g,m,none⟩ x).drew:=by
 refine ⟨(((h.1.set k y).set m x).congr (fun j _=>?_)).drew,upd_drew (upd_set (upd_set h.2 k y) m x)⟩;rw [← turned_step f n k (by omega) j,hx,show n-1-k=m by omega,hy]
theorem reverse_any (g n cap:Nat) (T:TypeId) (f:Nat→Value) (h0:0<n) (hn:n≤cap) (hcap:cap≤maxLen) (w:World) (h:w.rowIs g T cap f) (hf:∀ j,j<n→∃ z:Int,f j = .int .u8 z) :
  Calls Tryz.prog 201 #[.slice (some ⟨g,0,none⟩) n cap] w fun e w'=>e = .returned (.tuple #[])∧w'.rowIs g T cap (turned f n n)∧Rg.Upd w g w':=by
 unfold maxLen at hcap;go_enter Tryz.func201,Tryz.ntmps201;go_wp2;go_loopw [2,3] (fun i j wr=>∃ k m:Nat,2*k≤n∧m+1+k=n∧i = .int .i64 k∧j = .int .i64 m∧Hid (wr.rowIs g T cap (turned f n k)∧Rg.Upd w g wr)) (fun i _ _=>n-(intOf i).toNat)
 case atStart=>exact ⟨0,n-1,by omega,by omega,by go_num,by go_num,hid ⟨by rw [turned_zero]; exact h,rfl,rfl,rfl,rfl,fun _ _=>rfl⟩⟩
 case round =>
  obtain ⟨k,m,hk,hm,rfl,rfl,HR⟩:=hrel;clear h;by_cases hlt:k<m
  ·obtain ⟨hr,hu⟩:=HR.out;have ci:=hr.cell (i:=k) (by omega);have cj:=hr.cell (i:=m) (by omega);have fi:=hr.frozen k;have fj:=hr.frozen m;clear hr hu;obtain ⟨x,hx⟩:=turned_int f n k hf k (by omega);obtain ⟨y,hy⟩:=turned_int f n k hf m (by omega);rw [hx] at ci;rw [hy] at cj;have HX:=hid hx;have HY:=hid hy;clear hx hy hf;go_wp2_with fail
   go_region
   go_wp2;go_roundw
   case rel=>exact ⟨k+1,m-1,by omega,by omega,by go_num,by go_num,hid (step HR.out hlt hm HX.out HY.out)⟩
   case measure=>simp [intOf]; omega
  ·obtain ⟨hr,hu⟩:=HR.out;have HE:=hid hr;have HU:=hid hu;clear hr hu HR;go_wp2;go_end0;exact ⟨rfl,HE.out.congr (fun j _=>turned_all f n k (by omega) j),HU.out⟩
end Rv
end
section
open Go.RowKit
namespace Cc
theorem info_u8:(Tryz.prog.info? 5).map (fun i=>(i.zero,i.size,i.bytes))=some (some (.int .u8 0),1,1):=by kernel_rfl
def GotRow (w:World) (l:List UInt8) (e:Ending) (w':World):Prop :=
 ∃ v,e = .returned v∧w'.ownsRow w.heap.size 5 1 v l.length (l.map fun x=>Value.int .u8 x.toNat)∧Below w.heap.size w w'
theorem grow_zero (w:World) :
  Calls Tryz.prog 126 #[.slice none 0 0,.int .i64 0] w (GotRow w []):=by
 go_enter Tryz.func126,Tryz.ntmps126;go_wp2;go_ret;exact ⟨_,rfl,World.ownsRow_nil _ _ _ _,Below.refl _ _⟩
theorem grow_pos (n:Nat) (h0:0<n) (hn:n≤1099511627776) (w:World) :
  Calls Tryz.prog 126 #[.slice none 0 0,.int .i64 n] w (GotRow w []):=by
 obtain ⟨i0,hi,hz0,hz1,hz2⟩:=info_parts info_u8;have hr:=Lib.run_append_nil_zeros (P:=Tryz.prog) w 51 3 51 5 i0 (.int .u8 0) .i64 .i64 Tryz.underlying51 Tryz.underlying3 hi hz0 n h0 (by omega) (by omega) (by rw [hz2]; omega);have hge:=grownCap_ge w n 0 5;have hle:=grownCap_le_maxLen w n 0 5 (by unfold maxLen; omega)
 have HO:Hid ((w.drew.alloc (.cells (Builtin.zeroCells (Value.int IntKind.u8 0).cells n++Builtin.zeroCells (Value.int IntKind.u8 0).cells (grownCap w n 0 5-n)) 5)).ownsRow w.heap.size 5 1 (.slice (some ⟨w.heap.size,0,none⟩) 0 (grownCap w n 0 5)) 0 []):=hid (by
  refine ⟨rfl,.inr ⟨w.heap.size,_,_,rfl,Nat.le_refl _,heap_alloc_new w.drew _,Nat.zero_le _,hle,?_,by simp⟩⟩;have hz1:(Value.int IntKind.u8 0).cells.size=1:=rfl;simp only [Array.size_append,size_zeroCells,hz1];omega)
 obtain ⟨c,hc⟩:∃ c,grownCap w n 0 5=c:=⟨_,rfl⟩
 rw [hc] at hr hge hle HO;obtain ⟨o,ho⟩:∃ o,Obj.cells (Builtin.zeroCells (Value.int IntKind.u8 0).cells n++Builtin.zeroCells (Value.int IntKind.u8 0).cells (c-n)) 5=o:=⟨_,rfl⟩
 rw [ho] at hr HO;have HR:=hid hr;clear hr ho hc hi hz0 hz1 hz2;unfold maxLen at hle;go_enter Tryz.func126,Tryz.ntmps126;go_wp2_with (at_builtin; refine Lib.wpList_append_run _ rfl _ _ _ _ rfl _ _ rfl rfl _ _ HR.out ?_)
 go_wp2;go_ret;exact ⟨_,rfl,HO.out,(Below.drew (Below.refl _ _)).alloc (Nat.le_refl _) _⟩
theorem grow_any (n:Nat) (hn:n≤1099511627776) (w:World) :
  Calls Tryz.prog 126 #[.slice none 0 0,.int .i64 n] w (GotRow w []):=by
 by_cases h0:n=0
 ·subst h0; exact grow_zero w
 ·exact grow_pos n (by omega) hn w
def IsRows (w:World) (a:Option Addr) (n:Nat) (ls:List (List UInt8)):Prop :=
 ls.length=n∧∀ j,j<n→∃ b off,a=some ⟨b,off,none⟩∧b<w.heap.size∧∃ a' n' c',w.cell? ⟨b,off+j,none⟩=some (.slice a' n' c')∧IsBs w a' n' c' (ls.getD j [])
def joinK (ls:List (List UInt8)) (k:Nat):List UInt8:=(ls.take k).flatten
theorem joinK_snoc (ls:List (List UInt8)) (k:Nat) (h:k<ls.length):joinK ls (k+1)=joinK ls k++ls.getD k []:=by
 unfold joinK;have e:ls.getD k []=ls[k]:=by simp [List.getD,h]
 rw [List.take_succ_eq_append_getElem h,e,List.flatten_append];congr 1;exact List.append_nil _
theorem joinK_le (ls:List (List UInt8)) (k:Nat):(joinK ls k).length≤ls.flatten.length:=by
 unfold joinK
 conv=>rhs; rw [← List.take_append_drop k ls]
 rw [List.flatten_append,List.length_append];exact Nat.le_add_right _ _
theorem news_cells {w:World} {a:Option Addr} {n cap:Nat} {l:List UInt8} (h:IsBs w a n cap l) (ad:Addr) (ha:a=some ad) :
  ∀ j u,(l.map fun x=>Value.int .u8 x.toNat)[j]? = some u→w.cell? (ad.add j)=some u:=by
 intro j u hu;have hl:=h.len;have hj:j<n:=by
  rcases Nat.lt_or_ge j n with h' | h'
  ·exact h'
  ·rw [List.getElem?_eq_none (by simp [hl]; exact h')] at hu; cases hu
 obtain ⟨b,off,h1,_,h3⟩:=h.at' j hj;rw [ha] at h1;injection h1 with h1;subst h1;have e:(⟨b,off,none⟩:Addr).add j=⟨b,off+j,none⟩:=by unfold Addr.add; split <;> simp_all
 rw [e,h3];rw [← hu];simp [List.getD,hl,hj]
theorem concat_any (a:Option Addr) (n cap:Nat) (ls:List (List UInt8)) (hn:n≤1000000) (hL:ls.flatten.length≤1099511627776) (w:World) (h:IsRows w a n ls) :
  Calls Tryz.prog 102 #[.slice a n cap] w (GotRow w ls.flatten):=by
 have H:=hid h;have HN:=hid h.1;have HL:=hid hL;obtain ⟨i0,hi,hz0,hz1,hz2⟩:=info_parts info_u8;have HI:Hid (_∧_∧_∧_):=hid ⟨hi,hz0,hz1,hz2⟩;clear h hL hi hz0 hz1 hz2;go_enter Tryz.func102,Tryz.ntmps102;go_wp2;go_loop [3,11] (fun s i=>∃ k:Nat,k≤n∧i = .int .i64 k∧s = .int .i64 ((joinK ls k).length:Nat)) (fun _ i=>n-(intOf i).toNat)
 case atStart=>exact ⟨0,Nat.zero_le _,rfl,rfl⟩
 case round =>
  obtain ⟨k,hk,rfl,rfl⟩:=hrel;by_cases hlt:k<n
  ·obtain ⟨b,off,rfl,hb,a',n',c',hc,hx⟩:=H.out.2 k hlt;have hj:=joinK_snoc ls k (by rw [HN.out]; exact hlt);have hl1:=joinK_le ls (k+1);have hl2:=HL.out;have hxl:=hx.len;have hs:(joinK ls (k+1)).length=(joinK ls k).length+n':=by rw [hj,List.length_append,hxl]
   obtain ⟨p,hp⟩:∃ p,(joinK ls k).length=p:=⟨_,rfl⟩
   have hpn:p+n'≤1099511627776:=by omega
   rw [hp] at hs ⊢;have HS:=hid hs;clear hs hj hl1 hl2 hxl hp hx;go_wp2;go_round
   case rel=>exact ⟨k+1,by omega,by go_num,by rw [HS.out]; go_num⟩
   case measure=>simp [intOf]; omega
  ·obtain rfl:k=n:=by omega
   have hlen:(joinK ls k).length≤1099511627776:=Nat.le_trans (joinK_le ls k) HL.out;clear hlt hk;obtain ⟨p,hp⟩:∃ p,(joinK ls k).length=p:=⟨_,rfl⟩
   rw [hp] at hlen ⊢;clear hp;go_wp2_with fail
   refine (grow_any p hlen _).mono ?_;rintro e w1 ⟨v,rfl,hown,hb1⟩;go_wp2;go_loopw [6,27] (fun v i wr=>∃ q:Nat,q≤k∧i = .int .i64 q∧Hid (wr.ownsRow w.heap.size 5 1 v (joinK ls q).length ((joinK ls q).map fun x=>Value.int .u8 x.toNat))∧Below w.heap.size w wr) (fun _ i _=>k-(intOf i).toNat)
   case atStart=>exact ⟨0,Nat.zero_le _,rfl,hid hown,hb1⟩
   case round =>
    obtain ⟨q,hq,rfl,HO,hB⟩:=hrel;by_cases hqt:q<k
    ·obtain ⟨b,off,rfl,hb,a',n',c',hc,hx⟩:=H.out.2 q hqt;have hj:=joinK_snoc ls q (by rw [HN.out]; exact hqt);have hl1:=joinK_le ls (q+1);have hl2:=HL.out;have hxl:=hx.len;have hs:(joinK ls (q+1)).length=(joinK ls q).length+n':=by rw [hj,List.length_append,hxl]
     have hbd:(joinK ls q).length+n'≤1099511627776:=by omega
     have hc2:wr.cell? ⟨b,off+q,none⟩=some (.slice a' n' c'):=by rw [hB.cell (p:=⟨b,off+q,none⟩) hb]; exact hc
     have hx2:=hid (news_cells (hx.below hB));have HS:=hid hs;have HJ:=hid hj;have hsz:=hB.size;clear hs hj hl1 hl2 hxl hc;rcases a' with _ | ad
     ·obtain ⟨rfl,rfl,hnil⟩:=hx.capNone;have HJ2:Hid (joinK ls (q+1)=joinK ls q):=hid (by rw [HJ.out,hnil,List.append_nil]);clear hx hnil hbd;go_wp2_with (at_builtin; refine wpList_append_own_none rfl _ _ 51 rfl w.heap.size 5 i0 1 Tryz.underlying51 HI.out.1 _ _ _ rfl HO.out rfl ?_)
      go_wp2;go_roundw
      case rel=>exact ⟨q+1,by omega,by go_num,by rw [HJ2.out]; exact HO,hB⟩
      case measure=>simp [intOf]; omega
     ·have HX:=hid hx.len;clear hx;go_wp2_with (at_builtin; refine wpList_append_own _ rfl _ _ 51 rfl w.heap.size 5 i0 (.int .u8 0) 1 1 Tryz.underlying51 HI.out.1 HI.out.2.1 HI.out.2.2.1 HI.out.2.2.2 rfl (by decide) _ _ _ rfl HO.out ad n' c' ((ls.getD q []).map fun x=>Value.int .u8 x.toNat) rfl ?c0 ?c1 ?c2 ?c3 ?c4 ?c5 ?_)
      case c0=>rw [List.length_map,Nat.mul_one]; exact HX.out
      case c1=>exact hx2.out ad rfl
      case c2=>intro u hu; simp at hu; obtain ⟨_,_,rfl⟩:=hu; rfl
      case c3=>unfold maxLen; omega
      case c4=>omega
      case c5=>exact hsz
      intro v' w2 hown2 hgrow _;have hlt':=HO.out.lt;go_wp2;go_roundw
      case rel =>
       refine ⟨q+1,by omega,by go_num,hid ?_,hB.grown hgrow hsz (fun g hg=>(hlt' g hg).1)⟩;rw [HS.out,HJ.out,List.map_append];exact hown2
      case measure=>simp [intOf]; omega
    ·obtain rfl:q=k:=by omega
     have HE:Hid (joinK ls q=ls.flatten):=hid (by
      unfold joinK; rw [List.take_of_length_le (by rw [HN.out]; exact Nat.le_refl _)])
     have hO:=HO.out;rw [HE.out] at hO;have HG:=hid hO;clear hO;go_wp2;go_ret;exact ⟨_,rfl,HG.out,hB⟩
end Cc
end
end Go.Proofs.YtnecijeakeklaaaGreatDoor
