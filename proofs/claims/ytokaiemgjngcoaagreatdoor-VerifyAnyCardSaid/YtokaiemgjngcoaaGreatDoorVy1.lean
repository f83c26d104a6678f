/-
 Regions that draw their order, walked by hand: one operation at a time, over the list of operations; operations whose run is known.
-/
import Derived.Deep.RegionHeld3
import Derived.Lib.Hide
import Derived.Test.YtokaiemgjngcoaaGreatDoorRows
import Derived.WalkSpells
import Derived.WalkLawsBesides
import Derived.DataBytes
import Derived.Deep.OwnRows
import Derived.Deep.Slices
import Derived.Handy
import Derived.Lib.AppendZeros
import Derived.Laws.AppendOwnNone
import Derived.Lib.Strings
import Derived.Lib.Slices
import Derived.Lib.Walk
import Derived.Great.BuildSlice
open Go.Lib (hid)
open Go.Proofs.Tryz
set_option linter.unusedSimpArgs false
set_option linter.unusedVariables false
set_option maxHeartbeats 40000000
set_option maxRecDepth 100000
namespace Go.Proofs.YtokaiemgjngcoaaGreatDoor
variable {P:Program} {md:Region.Mode} {Q:Exit->Act->World->Prop} {S:World->Prop} {B' C L fuel g i k q:Nat} {o oi:Oper} {v:Value} {listed:Array Bool} {K:Act->World->Prop} {ops:Array Oper} {c:UInt8} {e t:TypeId} {w1 w2 wr:World} {bs news:List Value} {z:Int} {ad:Addr}
section
open Go.RowKit
namespace Rg
def nthO:List Oper->Nat->Option Oper
 | [],_=>none
 | o::_,0=>some o
 | _::l,n+1=>nthO l n
theorem yT:∀ (l:List Oper) (n:Nat),l[n]? = nthO l n
 | [],_=>by simp [nthO]
 | _::_,0=>by simp [nthO]
 | _::l,n+1=>by simpa [nthO] using yT l n
theorem takeL {l:List Oper} {a:Act} {w:World} (hi:nthO l i=some oi)
  (hs:Region.noSelect l.toArray=true) (hf:Region.free md l.toArray listed i=true) (hr:(Region.ready md l.toArray listed).contains i=true)
  (hQ:∀ c a w,Q (.panic c) (a.put oi.dst v) w->Q (.panic c) a w) (hy:YieldsIf P l.toArray S oi v a) (hS:S w)
  (h:wpAnyH P md l.toArray Q S fuel (listed.setIfInBounds i true) (a.put oi.dst v) w):wpAnyH P md l.toArray Q S (fuel+1) listed a w :=
 wpAnyH_take (by rw [List.getElem?_toArray,yT]; exact hi) hs hf hr hQ hy hS h
theorem readyL {l:List Oper} {a:Act} {w:World} (ho:nthO l i=some o)
  (h:∀ K':Act->World->Prop,Shut (∀ a w,S w->(S w->wpAnyH P md l.toArray Q S fuel (listed.setIfInBounds i true) a w)->K' a w)->if Region.wanted o (yielded l.toArray a.tmps)=true then Oper.wp P o a w K' Q else K' (a.put o.dst undef) w):AllReadyH P md l.toArray Q S fuel listed a w [i] :=
 AllReadyH.cons (by rw [List.getElem?_toArray,yT]; exact ho) h AllReadyH.nil
theorem readyC {l:List Oper} {a:Act} {w:World} {rs:List Nat} (ho:nthO l i=some o)
  (h:∀ K':Act->World->Prop,Shut (∀ a w,S w->(S w->wpAnyH P md l.toArray Q S fuel (listed.setIfInBounds i true) a w)->K' a w)->if Region.wanted o (yielded l.toArray a.tmps)=true then Oper.wp P o a w K' Q else K' (a.put o.dst undef) w)
  (hs:AllReadyH P md l.toArray Q S fuel listed a w rs):AllReadyH P md l.toArray Q S fuel listed a w (i::rs) :=
 AllReadyH.cons (by rw [List.getElem?_toArray,yT]; exact ho) h hs
theorem s {α:Type}:(∀ (l:List α) (i:Nat) (x : α),l.toArray.setIfInBounds i x=(l.set i x).toArray)/\(∀ (l:List α) (x y : α),(y::l).set 0 x=x::l)/\∀ (l:List α) (i:Nat) (x y : α),(y::l).set (i+1) x=y::l.set i x :=
 ⟨λ_ _ _=>List.setIfInBounds_toArray ..,λ_ _ _=>List.set_cons_zero ..,λ_ _ _ _=>List.set_cons_succ ..⟩
theorem tk {l:List Oper} {a:Act} {w:World} (hi:nthO l i=some oi)
  (h:wpAnyH P md l.toArray Q S fuel (listed.setIfInBounds i true) (a.put oi.dst v) w) (hs:Region.noSelect l.toArray=true:=by kernel_rfl) (hf:Region.free md l.toArray listed i=true:=by kernel_rfl) (hr:(Region.ready md l.toArray listed).contains i=true:=by kernel_rfl)
  (hQ:∀ c a w,Q (.panic c) (a.put oi.dst v) w->Q (.panic c) a w:=by exact λ_ _ _ h=>h) (hw:Region.wanted oi (yielded l.toArray a.tmps)=true:=by rfl) (hS:S w:=by assumption)
  (hy:∀ wz,S wz->(execOp a.eval oi).run P wz = .ok (.value v) wz:=by intro wz hSw; (try dsimp only at hSw); go_simp <;> with_reducible rfl) :
  wpAnyH P md l.toArray Q S (fuel+1) listed a w:=takeL hi hs hf hr hQ (Or.inl ⟨hw,hy⟩) hS h
theorem rd {l:List Oper} {a:Act} {w:World} (ho:nthO l i=some o)
  (h:∀ K':Act->World->Prop,Shut (∀ a w,S w->(S w->wpAnyH P md l.toArray Q S fuel (listed.setIfInBounds i true) a w)->K' a w)->if Region.wanted o (yielded l.toArray a.tmps)=true then Oper.wp P o a w K' Q else K' (a.put o.dst undef) w) (hr:Region.ready md l.toArray listed=[i]:=by kernel_rfl) :
  wpAnyH P md l.toArray Q S (fuel+1) listed a w:=wpAnyH_ready hr (by simp) (readyL ho h)
theorem meet {a:Act} {w:World} (hw:Region.wanted o (yielded ops a.tmps)=true) (v:Value) (w':World)
  (hr:(execOp a.eval o).run P w = .ok (.value v) w') (h:K (a.put o.dst v) w'):if Region.wanted o (yielded ops a.tmps)=true then Oper.wp P o a w K Q else K (a.put o.dst undef) w:=by
 rw [if_pos hw];unfold Oper.wp;rw [hr];exact h
theorem want {a:Act} {w:World} (hw:Region.wanted o (yielded ops a.tmps)=true)
  (h:Oper.wp P o a w K Q):if Region.wanted o (yielded ops a.tmps)=true then Oper.wp P o a w K Q else K (a.put o.dst undef) w:=by
 rw [if_pos hw];exact h
def Own (w:World) (b:Nat) (cs:Array Value) (T:TypeId):Prop:=b<w.heap.size/\w.heap[b]? = some (.cells cs T (0,0))
theorem Own.below {w w':World} {b:Nat} {cs:Array Value} {T:TypeId} (h:Own w b cs T) (hb:Below w.heap.size w w'):Own w' b cs T :=
 ⟨Nat.lt_of_lt_of_le h.1 hb.size,(hb.block _ h.1).trans h.2⟩
theorem Own.new (w:World) (cs:Array Value) (T:TypeId):Own (w.alloc (.cells cs T)) w.heap.size cs T :=
 ⟨by simp,by show (w.heap.push _)[w.heap.size]? = _; simp⟩
theorem Own.drew {w:World} {b:Nat} {cs:Array Value} {T:TypeId} (h:Own w b cs T):Own w.drew b cs T:=h
structure Upd (w:World) (b:Nat) (w':World):Prop where
 os:w'.os=w.os
 tape:w'.tape=w.tape
 output:w'.output=w.output
 size:w'.heap.size=w.heap.size
 block:∀ k,k≠b->w'.heap[k]? = w.heap[k]?
theorem Own.upd {w w':World} {b b':Nat} {cs:Array Value} {T:TypeId} (h:Own w b cs T) (hu:Upd w b' w') (hne:b≠b'):Own w' b cs T :=
 ⟨by rw [hu.size]; exact h.1,(hu.block _ hne).trans h.2⟩
theorem Upd.below {B:Nat} {w0 w w':World} {b:Nat} (hu:Upd w b w') (h:Below B w0 w) (hB:B<=b):Below B w0 w' :=
 ⟨hu.os.trans h.os,hu.tape.trans h.tape,hu.output.trans h.output,by rw [hu.size]; exact h.size,λk hk=>(hu.block k (by omega)).trans (h.block k hk)⟩
theorem Upd.set (w:World) (b:Nat) (cs:Array Value):Upd w b (w.setRow b cs) :=
 ⟨rfl,rfl,rfl,by simp,λk hk=>setRow_other w b k cs hk⟩
theorem meetAlloc {a:Act} {w:World} (hw:Region.wanted o (yielded ops a.tmps)=true) {cs:Array Value} {T:TypeId}
  (hr:(execOp a.eval o).run P w = .ok (.value (.pointer (some ⟨w.heap.size,0,none⟩))) (w.alloc (.cells cs T)))
  (h:∀ w' b,b=w.heap.size->Own w' b cs T->Below w.heap.size w w'->K (a.put o.dst (.pointer (some ⟨b,0,none⟩))) w'):if Region.wanted o (yielded ops a.tmps)=true then Oper.wp P o a w K Q else K (a.put o.dst undef) w :=
 meet hw _ _ hr (h _ _ rfl (Own.new _ _ _) ((Below.refl _ _).alloc (Nat.le_refl _) _))
theorem meetStore {a:Act} {w:World} (hw:Region.wanted o (yielded ops a.tmps)=true) {old:Array Value} {T:TypeId} (hg:Own w g old T)
  (ty:TypeId) (cells:Array Value) (ho:∃ x y,o.op = .store ty x y/\a.eval x = .pointer (some ⟨g,0,none⟩)/\a.eval y = .agg cells)
  (hi:(P.info? ty).map (·.size)=some cells.size) (hold:old.size=cells.size) (h1:cells.all (·.oneCell')=true)
  (h:∀ w',Own w' g cells T->Upd w g w'->K (a.put o.dst undef) w'):if Region.wanted o (yielded ops a.tmps)=true then Oper.wp P o a w K Q else K (a.put o.dst undef) w:=by
 obtain ⟨x,y,ho,hx,hy⟩:=ho;exact want hw (wp_store_row ty x y ho g cells hx hy T old hg.2 hi hold h1 (h _ ⟨by simp; exact hg.1,setRow_heap _ _ _ _ _ _ hg.2⟩ (Upd.set _ _ _)))
theorem run {w:World} {rest:List Oper} {a:Act} (hgd:o.guard=none) (v:Value) (w':World)
  (hr:(execOp a.eval o).run P w = .ok (.value v) w') (h:wpList P ops Q rest (a.put o.dst v) w'):wpList P ops Q (o::rest) a w :=
 wpList_plain hgd λK hK=>by
  unfold Oper.wp;rw [hr];exact hK _ _ h
theorem runW {w:World} {rest:List Oper} {a:Act} (hw:Region.wanted o (yielded ops a.tmps)=true) (v:Value) (w':World)
  (hr:(execOp a.eval o).run P w = .ok (.value v) w') (h:wpList P ops Q rest (a.put o.dst v) w'):wpList P ops Q (o::rest) a w :=
 wpList_step λK hK=>by
  rw [if_pos hw];unfold Oper.wp;rw [hr];exact hK _ _ h
end Rg
theorem au : (∀ (α : Type) (l : List α) (i : Nat) (x : α), l.toArray.setIfInBounds i x = (l.set i x).toArray)/\(∀ (α : Type) (l : List α) (x y : α), (y :: l).set 0 x = x :: l)/\∀ (α : Type) (l : List α) (i : Nat) (x y : α), (y :: l).set (i + 1) x = y :: l.set i x :=
 ⟨λ_ _ _ _ => List.setIfInBounds_toArray .., λ_ _ _ _ => List.set_cons_zero .., λ_ _ _ _ _ => List.set_cons_succ ..⟩
theorem aj {P : Program} {md : Region.Mode} {l : List Oper} {Q : Exit->Act->World->Prop} {S : World->Prop} (i : Nat) {oi : Oper} {v : Value} {fuel : Nat} {listed : Array Bool} {a : Act} {w : World}
 (h : wpAnyH P md l.toArray Q S fuel (listed.setIfInBounds i true) (a.put oi.dst v) w) (hi : Rg.nthO l i = some oi := by exact rfl) (hs : Region.noSelect l.toArray = true := by kernel_rfl) (hf : Region.free md l.toArray listed i = true := by kernel_rfl) (hr : (Region.ready md l.toArray listed).contains i = true := by kernel_rfl)
 (hQ : ∀ c a w, Q (.panic c) (a.put oi.dst v) w->Q (.panic c) a w := by exact λ_ _ _ h => h) (hw : Region.wanted oi (yielded l.toArray a.tmps) = true := by rfl) (hS : S w := by assumption)
 (hy : ∀ wz, S wz->(execOp a.eval oi).run P wz = .ok (.value v) wz := by intro wz hSw; (try dsimp only at hSw); go_simp <;> with_reducible rfl) :
 wpAnyH P md l.toArray Q S (fuel + 1) listed a w := Rg.takeL hi hs hf hr hQ (Or.inl ⟨hw, hy⟩) hS h
theorem aF {P : Program} {md : Region.Mode} {l : List Oper} {Q : Exit->Act->World->Prop} {S F : World->Prop} (i : Nat) (hF : ∀ wz, S wz->F wz) {oi : Oper} {v : Value} {fuel : Nat} {listed : Array Bool} {a : Act} {w : World}
 (h : wpAnyH P md l.toArray Q S fuel (listed.setIfInBounds i true) (a.put oi.dst v) w) (hi : Rg.nthO l i = some oi := by exact rfl) (hs : Region.noSelect l.toArray = true := by kernel_rfl) (hf : Region.free md l.toArray listed i = true := by kernel_rfl) (hr : (Region.ready md l.toArray listed).contains i = true := by kernel_rfl)
 (hQ : ∀ c a w, Q (.panic c) (a.put oi.dst v) w->Q (.panic c) a w := by exact λ_ _ _ h => h) (hw : Region.wanted oi (yielded l.toArray a.tmps) = true := by rfl) (hS : S w := by assumption)
 (hy : ∀ wz, S wz->F wz->(execOp a.eval oi).run P wz = .ok (.value v) wz := by intro wz hSw hcc; (try dsimp only at hSw); go_simp <;> with_reducible rfl) :
 wpAnyH P md l.toArray Q S (fuel + 1) listed a w := Rg.takeL hi hs hf hr hQ (Or.inl ⟨hw, λwz hz => hy wz hz (hF wz hz)⟩) hS h
theorem ak {P : Program} {md : Region.Mode} {l : List Oper} {Q : Exit->Act->World->Prop} {S : World->Prop} {fuel : Nat} {listed : Array Bool} {a : Act} {w : World} (i : Nat) {o : Oper}
 (h : ∀ K' : Act->World->Prop, Shut (∀ a w, S w->(S w->wpAnyH P md l.toArray Q S fuel (listed.setIfInBounds i true) a w)->K' a w)->if Region.wanted o (yielded l.toArray a.tmps) = true then Oper.wp P o a w K' Q else K' (a.put o.dst undef) w) (ho : Rg.nthO l i = some o := by exact rfl) (hr : Region.ready md l.toArray listed = [i] := by kernel_rfl) :
 wpAnyH P md l.toArray Q S (fuel + 1) listed a w := wpAnyH_ready hr (by simp) (Rg.readyL ho h)
theorem ay {α : Sort _} (x : α) : ∃ y, y = x := ⟨x, rfl⟩
theorem aA {α : Sort _} (x : α) : ∃ y, x = y := ⟨x, rfl⟩
theorem aH {n : Nat} : n<=n := Nat.le_refl _
theorem aI {k : Nat} {w : World} : Below k w w := Below.refl _ _
theorem aJ {n m k : Nat} (h : n < m) (g : m<=k) : n < k := Nat.lt_of_lt_of_le h g
theorem aK {p : Prop} [Decidable p] (h : p) : decide p = true := decide_eq_true h
abbrev aL := Option Addr
abbrev aM := ByteArray
abbrev aN := List UInt8
abbrev aO := Array Value
theorem aB {P : Program} {w : World} {ops : Array Oper} {rest : List Oper} {o : Oper} {a : Act} {Q : Exit->Act->World->Prop} {v : Value} {w' : World}
 (hr : (execOp a.eval o).run P w = .ok (.value v) w') (h : wpList P ops Q rest (a.put o.dst v) w') (hg : o.guard = none := by exact rfl) : wpList P ops Q (o :: rest) a w := Rg.run hg v w' hr h
theorem aC {P : Program} {md : Region.Mode} {ops : Array Oper} {Q : Exit->Act->World->Prop} {S : World->Prop} {fuel : Nat} {listed : Array Bool} {a : Act} {w : World} (h : Q .normal a w) (hr : Region.ready md ops listed = [] := by kernel_rfl) : wpAnyH P md ops (NoPanic Q) S fuel listed a w := wpAnyH_done hr (NoPanic.normal h) fuel
theorem aD {P : Program} {id : Nat} {ops : Array Oper} {Q : Exit->Act->World->Prop} {S : World->Prop} {a : Act} {w : World} (hS : S w.drew) (h : S w.drew->wpAnyH P .any ops (NoPanic Q) S ops.size (Array.replicate ops.size false) a w.drew) (hm : P.follows .mixedOrders = true := by kernel_rfl) :
 (Code.region id ops true).wp P Q a w := wp_region_noPanic (wp_region_held_drew hm hS h)
end
section
namespace Tr
abbrev Pa:=aN
inductive T
 | nil
 | leaf (p:Pa) (v:aM)
 | ext (p:Pa) (t:T)
 | br (ks:Fin 16->T)
 | stub (r:aM)
def Nib (p:Pa):Prop:=∀ c∈p,c.toNat<16
theorem Nib.nil:Nib []:=λ_ h=>by cases h
theorem Nib.cons {p:Pa} (hc:c.toNat<16) (h:Nib p):Nib (c::p):=λx hx=>by
 rcases List.mem_cons.1 hx with rfl | hx
 .exact hc
 .exact h x hx
theorem Nib.head {p:Pa} (h:Nib (c::p)):c.toNat<16:=h c List.mem_cons_self
theorem Nib.tail {p:Pa} (h:Nib (c::p)):Nib p:=λx hx=>h x (List.mem_cons_of_mem _ hx)
theorem Nib.append {p q:Pa} (h:Nib p) (g:Nib q):Nib (p++q):=λx hx=>by
 rcases List.mem_append.1 hx with hx | hx
 .exact h x hx
 .exact g x hx
theorem Nib.left {p q:Pa} (h:Nib (p++q)):Nib p:=λx hx=>h x (List.mem_append_left _ hx)
theorem Nib.right {p q:Pa} (h:Nib (p++q)):Nib q:=λx hx=>h x (List.mem_append_right _ hx)
theorem Nib.drop {p:Pa} (h:Nib p) (n:Nat):Nib (p.drop n):=λx hx=>h x (List.mem_of_mem_drop hx)
def nb (c:UInt8):Fin 16:=⟨c.toNat%16,Nat.mod_lt _ (by decide)⟩
theorem uo {a b:UInt8} (ha:a.toNat<16) (hb:b.toNat<16) (h:nb a=nb b):a=b:=by
 have:=congrArg Fin.val h;simp only [nb] at this;exact UInt8.toNat_inj.1 (by omega)
def iL (i:Fin 16):UInt8:=UInt8.ofNat i.val
theorem qR (i:Fin 16):(iL i).toNat=i.val:=by
 have:=i.isLt;unfold iL;rw [UInt8.toNat_ofNat'];omega
theorem Fe (i:Fin 16):(iL i).toNat<16:=by rw [qR]; exact i.isLt
theorem VR (i:Fin 16):nb (iL i)=i:=by
 apply Fin.ext;show (iL i).toNat%16=i.val;rw [qR];exact Nat.mod_eq_of_lt i.isLt
theorem WY (h:c.toNat<16):iL (nb c)=c:=uo (Fe _) h (VR _)
def cp:Pa->Pa->Nat
 | a::p,b::q=>if a=b then cp p q+1 else 0
 | _,_=>0
theorem pK:∀ (q p:Pa),¬ q<+:p->¬ p<+:q->∃ (s:Pa) (a b:UInt8) (q' p':Pa),q=s++a::q'/\p=s++b::p'/\a≠b/\cp q p=s.length
 | [],p,h,_=>absurd (List.nil_prefix) h
 | _::_,[],_,h=>absurd (List.nil_prefix) h
 | a::q,b::p,h,g=>by
  by_cases e:a=b
  .subst e;obtain ⟨s,x,y,q',p',h1,h2,h3,h4⟩:=pK q p (λk=>h (List.cons_prefix_cons.2 ⟨rfl,k⟩)) (λk=>g (List.cons_prefix_cons.2 ⟨rfl,k⟩));exact ⟨a::s,x,y,q',p',by rw [h1]; rfl,by rw [h2]; rfl,h3,by simp [cp,h4]⟩
  .exact ⟨[],a,b,q,p,rfl,rfl,e,by simp [cp,e]⟩
theorem rY {q p:Pa} (h:q<+:p) (hl:p.length<=q.length):q=p:=h.eq_of_length (Nat.le_antisymm h.length_le hl)
theorem PO {q p:Pa} (h:q<+:p):p=q++p.drop q.length:=by
 obtain ⟨r,rfl⟩:=h;rw [List.drop_left]
def get:T->Pa->Option (Option aM)
 | .nil,_=>some none
 | .leaf q v,p=>some (if q=p then some v else none)
 | .ext q t,p=>if q<+:p then get t (p.drop q.length) else some none
 | .br ks,p=>match p with
  | []=>some none
  | c::r=>get (ks (nb c)) r
 | .stub _,_=>none
def isNil:T->Bool
 | .nil=>true
 | _=>false
theorem kF {t:T}:isNil t=true↔t = .nil:=by cases t <;> simp [isNil]
def Nu:T->Prop
 | .br _=>True
 | .stub _=>True
 | _=>False
def Full:T->Prop
 | .nil=>True
 | .leaf _ _=>True
 | .ext _ t=>Full t
 | .br ks=>∀ i,Full (ks i)
 | .stub _=>False
def Good:T->Nat->Prop
 | .nil,_=>True
 | .leaf p _,L=>p.length=L/\Nib p
 | .ext q t,L=>q≠[]/\Nib q/\q.length<=L/\Nu t/\Good t (L-q.length)
 | .br ks,L=>0<L/\(∃ i j,i≠j/\ks i ≠ .nil/\ks j ≠ .nil)/\∀ i,Good (ks i) (L-1)
 | .stub _,_=>True
theorem qp (q r:Pa) (t:T):get (.ext q t) (q++r)=get t r:=by
 simp [get]
theorem mU {q p:Pa} (t:T) (h:¬ q<+:p):get (.ext q t) p=some none:=by
 simp [get,h]
end Tr
end
section
namespace Tr
def wrap (q:Pa) (t:T):T:=if q=[] then t else .ext q t
def two (i j:Fin 16) (a b:T):T:=.br (λk=>if k=i then a else if k=j then b else .nil)
def fork (q:Pa) (f:Pa->T) (p:Pa) (v:aM):T :=
 wrap (q.take (cp q p)) (two (nb (q.getD (cp q p) 0)) (nb (p.getD (cp q p) 0)) (f (q.drop (cp q p+1))) (.leaf (p.drop (cp q p+1)) v))
def put:T->Pa->aM->T
 | .nil,p,v=>.leaf p v
 | .leaf q u,p,v=>if q=p then .leaf p v else fork q (λr=>.leaf r u) p v
 | .ext q t,p,v=>if q<+:p then .ext q (put t (p.drop q.length) v) else fork q (λr=>wrap r t) p v
 | .br ks,p,v=>match p with
  | []=>.br ks
  | c::r=>.br (λi=>if i=nb c then put (ks i) r v else ks i)
 | .stub r,_,_=>.stub r
theorem yI {s q' p':Pa} {a b:UInt8} {f:Pa->T} {v:aM} (hc:cp (s++a::q') (s++b::p')=s.length) :
  fork (s++a::q') f (s++b::p') v=wrap s (two (nb a) (nb b) (f q') (.leaf p' v)):=by
 unfold fork;rw [hc];have h1:∀ (x:UInt8) (r:Pa),(s++x::r).take s.length=s:=λx r=>by simp
 have h2:∀ (x:UInt8) (r:Pa),(s++x::r).getD s.length 0=x:=λx r=>by simp [List.getD]
 have h3:∀ (x:UInt8) (r:Pa),(s++x::r).drop (s.length+1)=r:=λx r=>by
  rw [show s++x::r=(s++[x])++r by simp,show s.length+1=(s++[x]).length by simp,List.drop_left]
 rw [h1,h2,h2,h3,h3]
theorem GZ (q:Pa) (t:T) (p:Pa):get (wrap q t) p=if q<+:p then get t (p.drop q.length) else some none:=by
 unfold wrap;by_cases h:q=[]
 .subst h; simp
 .rw [if_neg h]; rfl
theorem TV (i j:Fin 16) (a b:T) (c:UInt8) (r:Pa):get (two i j a b) (c::r)=get (if nb c=i then a else if nb c=j then b else .nil) r:=rfl
theorem wF {s:Pa} {t:T} (hn:Nib s) (hl:s.length<=L) (hb:Nu t) (hg:Good t (L-s.length)):Good (wrap s t) L:=by
 unfold wrap;by_cases h:s=[]
 .subst h; rw [if_pos rfl]; exact hg
 .rw [if_neg h]; exact ⟨h,hn,hl,hb,hg⟩
theorem wV {s:Pa} {t:T} (h:Full t):Full (wrap s t):=by
 unfold wrap;split
 .exact h
 .exact h
theorem Ed {s:Pa} {t:T} (h:t ≠ .nil):wrap s t ≠ .nil:=by
 unfold wrap;split
 .exact h
 .intro e; cases e
theorem Ip {i j:Fin 16} {a b:T} (hij:i≠j) (ha:a ≠ .nil) (hb:b ≠ .nil) (hL:0<L) (ga:Good a (L-1)) (gb:Good b (L-1)):Good (two i j a b) L:=by
 refine ⟨hL,⟨i,j,hij,?_,?_⟩,λk=>?_⟩
 .simpa using ha
 .simpa [hij.symm] using hb
 .dsimp only;split
  .exact ga
  .split
   .exact gb
   .trivial
theorem Io {i j:Fin 16} {a b:T} (ha:Full a) (hb:Full b):Full (two i j a b):=λk=>by
 dsimp only;split
 .exact ha
 .split
  .exact hb
  .trivial
theorem qy {t:T} (h:Nu t):t ≠ .nil:=by rintro rfl; exact h
theorem Qt {t:T} (h:Nu t) (p:Pa) (v:aM):Nu (put t p v):=by
 cases t with
 | br ks=>cases p <;> trivial
 | stub r=>trivial
 | nil=>exact h.elim
 | leaf _ _=>exact h.elim
 | ext _ _=>exact h.elim
theorem Ra (t:T) (p:Pa) (v:aM):put t p v ≠ .nil:=by
 cases t with
 | nil=>intro e; cases e
 | leaf q u =>
  unfold put;split
  .intro e; cases e
  .unfold fork; exact Ed (by intro e; cases e)
 | ext q t =>
  unfold put;split
  .intro e; cases e
  .unfold fork; exact Ed (by intro e; cases e)
 | br ks=>cases p <;> (intro e; cases e)
 | stub r=>intro e; cases e
theorem AO:∀ (t:T) (L:Nat),Good t L->∀ (p:Pa) (v:aM),p.length=L->Nib p->Good (put t p v) L
 | .nil,L,_,p,v,hp,hn=>⟨hp,hn⟩
 | .leaf q u,L,g,p,v,hp,hn=>by
  unfold put;by_cases e:q=p
  .rw [if_pos e]; exact ⟨hp,hn⟩
  .rw [if_neg e];obtain ⟨gl,gn⟩:=g;obtain ⟨s,a,b,q',p',rfl,rfl,hab,hc⟩:=pK q p (λh=>e (rY h (by omega))) (λh=>e (rY h (by omega)).symm);rw [yI hc];rw [List.length_append,List.length_cons] at gl hp;refine wF gn.left (by omega) trivial (Ip (λh=>hab (uo gn.right.head hn.right.head h)) (by intro h; cases h) (by intro h; cases h) (by omega) ⟨by omega,gn.right.tail⟩ ⟨by omega,hn.right.tail⟩)
 | .ext q t,L,g,p,v,hp,hn=>by
  obtain ⟨g1,g2,g3,g4,g5⟩:=g;unfold put;by_cases e:q<+:p
  .rw [if_pos e];exact ⟨g1,g2,g3,Qt g4 _ _,AO t _ g5 _ v (by rw [List.length_drop]; omega) (hn.drop _)⟩
  .rw [if_neg e];obtain ⟨s,a,b,q',p',rfl,rfl,hab,hc⟩:=pK q p e (λh=>e (by rw [rY h (by omega)]; exact List.prefix_rfl));rw [yI hc];rw [List.length_append,List.length_cons] at g3 hp;rw [List.length_append,List.length_cons] at g5;refine wF g2.left (by omega) trivial (Ip (λh=>hab (uo g2.right.head hn.right.head h)) (Ed (qy g4)) (by intro h; cases h) (by omega) (wF g2.right.tail (by omega) g4 ?_) ⟨by omega,hn.right.tail⟩);rw [show L-s.length-1-q'.length=L-(s.length+(q'.length+1)) by omega];exact g5
 | .br ks,L,g,p,v,hp,hn=>by
  cases p with
  | nil=>exact g
  | cons c r =>
   obtain ⟨h1,⟨i,j,hij,hi,hj⟩,h3⟩:=g;rw [List.length_cons] at hp;refine ⟨h1,⟨i,j,hij,?_,?_⟩,λk=>?_⟩
   .dsimp only; split
    .exact Ra _ _ _
    .exact hi
   .dsimp only; split
    .exact Ra _ _ _
    .exact hj
   .dsimp only; split
    .exact AO (ks k) _ (h3 k) r v (by omega) hn.tail
    .exact h3 k
 | .stub _,_,_,_,_,_,_=>trivial
theorem zC:∀ (t:T),Full t->∀ (p:Pa) (v:aM),Full (put t p v)
 | .nil,_,_,_=>trivial
 | .leaf q u,_,p,v=>by
  unfold put;split
  .trivial
  .unfold fork; exact wV (Io trivial trivial)
 | .ext q t,f,p,v=>by
  unfold put;split
  .exact zC t f _ v
  .unfold fork; exact wV (Io (wV f) trivial)
 | .br ks,f,p,v=>by
  cases p with
  | nil=>exact f
  | cons c r =>
   intro k;dsimp only;split
   .exact zC (ks k) (f k) r v
   .exact f k
 | .stub _,f,_,_=>f
theorem Gz {s p1:Pa} {a b:UInt8} {v:aM} {Y A:T} (hab:a≠b) (ha:a.toNat<16) (hb:b.toNat<16) (h1:∀ r,get Y (s++a::r)=get A r) (h2:∀ x,(∀ r,x≠s++a::r)->get Y x=some none)
  (x:Pa) (hx:x.length=(s++b::p1).length) (hn:Nib x):get (wrap s (two (nb a) (nb b) A (.leaf p1 v))) x=if x=s++b::p1 then some (some v) else get Y x:=by
 rw [GZ];by_cases hs:s<+:x
 .obtain ⟨r,rfl⟩:=hs;rw [if_pos (List.prefix_append _ _),List.drop_left];cases r with
  | nil=>simp at hx
  | cons c r =>
   rw [TV];have hcn:=hn.right.head;by_cases hca:c=a
   .subst hca;rw [if_pos rfl,if_neg (λe=>hab (List.cons.inj (List.append_cancel_left e)).1),h1]
   .rw [if_neg (λe=>hca (uo hcn ha e))];have hY:get Y (s++c::r)=some none:=h2 _ (λr' e=>hca (List.cons.inj (List.append_cancel_left e)).1);by_cases hcb:c=b
    .subst hcb;rw [if_pos rfl];by_cases hr:r=p1
     .subst hr; rw [if_pos rfl]; simp [get]
     .rw [if_neg (λe=>hr (List.cons.inj (List.append_cancel_left e)).2),hY];have:¬ p1=r:=λe=>hr e.symm;simp [get,this]
    .rw [if_neg (λe=>hcb (uo hcn hb e)),if_neg (λe=>hcb (List.cons.inj (List.append_cancel_left e)).1),hY];rfl
 .rw [if_neg hs,if_neg (λe=>hs (by rw [e]; exact List.prefix_append _ _)),h2 x (λr e=>hs (by rw [e]; exact List.prefix_append _ _))]
theorem UJ {s q':Pa} {a:UInt8} {r:Pa}:s++a::q'<+:s++a::r↔q'<+:r:=by
 rw [List.prefix_append_right_inj,List.cons_prefix_cons];simp
theorem get_put:∀ (t:T) (L:Nat),Good t L->∀ (p:Pa) (v:aM),p.length=L->Nib p->get t p≠none->∀ x:Pa,x.length=L->Nib x->get (put t p v) x=if x=p then some (some v) else get t x
 | .nil,L,_,p,v,hp,hn,_,x,hx,nx=>by
  unfold put;by_cases e:x=p
  .subst e; simp [get]
  .rw [if_neg e];have:¬ p=x:=λh=>e h.symm;simp [get,this]
 | .leaf q u,L,g,p,v,hp,hn,_,x,hx,nx=>by
  unfold put;by_cases e:q=p
  .subst e;rw [if_pos rfl];by_cases e2:x=q
   .subst e2; simp [get]
   .rw [if_neg e2];have:¬ q=x:=λh=>e2 h.symm;simp [get,this]
  .rw [if_neg e];obtain ⟨gl,gn⟩:=g;obtain ⟨s,a,b,q',p',rfl,rfl,hab,hc⟩:=pK q p (λh=>e (rY h (by omega))) (λh=>e (rY h (by omega)).symm);rw [yI hc];refine Gz hab gn.right.head hn.right.head (λr=>?_) (λy hy=>?_) x (by rw [hx,hp]) nx
   .simp [get]
   .have:¬ s++a::q'=y:=λh=>hy q' h.symm;simp [get,this]
 | .ext q t,L,g,p,v,hp,hn,hs,x,hx,nx=>by
  obtain ⟨g1,g2,g3,g4,g5⟩:=g;unfold put;by_cases e:q<+:p
  .rw [if_pos e];obtain ⟨p1,rfl⟩:=e;rw [List.drop_left];rw [qp] at hs;rw [List.length_append] at hp;by_cases e2:q<+:x
   .obtain ⟨x1,rfl⟩:=e2;rw [List.length_append] at hx;rw [qp,qp,get_put t _ g5 p1 v (by omega) hn.right hs x1 (by omega) nx.right];by_cases e3:x1=p1
    .subst e3; rw [if_pos rfl,if_pos rfl]
    .rw [if_neg e3,if_neg (λh=>e3 (List.append_cancel_left h))]
   .rw [mU _ e2,mU _ e2,if_neg (λh=>e2 (by rw [h]; exact List.prefix_append _ _))]
  .rw [if_neg e];obtain ⟨s,a,b,q',p',rfl,rfl,hab,hc⟩:=pK q p e (λh=>e (by rw [rY h (by omega)]; exact List.prefix_rfl));rw [yI hc];refine Gz hab g2.right.head hn.right.head (λr=>?_) (λy hy=>?_) x (by rw [hx,hp]) nx
   .rw [GZ];by_cases h:q'<+:r
    .rw [if_pos h];obtain ⟨r',rfl⟩:=h;rw [List.drop_left,show s++a::(q'++r')=(s++a::q')++r' by simp,qp]
    .rw [if_neg h,mU _ (λk=>h (UJ.1 k))]
   .rw [mU];intro k;obtain ⟨z,rfl⟩:=k;exact hy (q'++z) (by simp)
 | .br ks,L,g,p,v,hp,hn,hs,x,hx,nx=>by
  have hL:=g.1;cases p with
  | nil=>simp at hp; omega
  | cons c r =>
   cases x with
   | nil=>simp at hx; omega
   | cons d y =>
    rw [List.length_cons] at hp hx;have e1:get (put (.br ks) (c::r) v) (d::y)=get (if nb d=nb c then put (ks (nb d)) r v else ks (nb d)) y:=rfl;have e2:get (.br ks) (d::y)=get (ks (nb d)) y:=rfl;have e3:get (.br ks) (c::r)=get (ks (nb c)) r:=rfl;rw [e3] at hs;rw [e1,e2];by_cases hdc:d=c
    .subst hdc;rw [if_pos rfl,get_put (ks (nb d)) _ (g.2.2 _) r v (by omega) hn.tail hs y (by omega) nx.tail];by_cases e:y=r
     .subst e; rw [if_pos rfl,if_pos rfl]
     .rw [if_neg e,if_neg (λh=>e (List.cons.inj h).2)]
    .rw [if_neg (λh=>hdc (uo nx.head hn.head h)),if_neg (λh=>hdc (List.cons.inj h).1)]
 | .stub _,_,_,_,_,_,_,hs,_,_,_=>absurd rfl hs
def fD (ks:Fin 16->T):List (Fin 16):=(List.finRange 16).filter λi=>!isNil (ks i)
theorem uf {ks:Fin 16->T} {i:Fin 16}:i∈fD ks↔ks i ≠ .nil:=by
 unfold fD;rw [List.mem_filter];constructor
 .rintro ⟨_,h⟩ e;rw [kF.2 e] at h; cases h
 .intro h;refine ⟨List.mem_finRange i,?_⟩;cases hi:isNil (ks i) with
  | false=>rfl
  | true=>exact absurd (kF.1 hi) h
end Tr
end
section
namespace Tr
abbrev In:=Pa × aM
def WX (l:List In) (n:Nat):List In:=l.map λx=>(x.1.drop n,x.2)
theorem Qa:∀ (p q:Pa),cp p q<=p.length
 | [],_=>Nat.zero_le _
 | _::_,[]=>Nat.zero_le _
 | a::p,b::q=>by
  unfold cp;split
  .have:=Qa p q;rw [List.length_cons]; omega
  .exact Nat.zero_le _
theorem KP:∀ (n:Nat) (p q:Pa),n<=cp p q->p.take n=q.take n
 | 0,_,_,_=>by simp
 | n+1,[],_,h=>absurd h (by simp [cp])
 | n+1,_::_,[],h=>absurd h (by simp [cp])
 | n+1,a::p,b::q,h=>by
  unfold cp at h;split at h
  .rename_i e;rw [e,List.take_succ_cons,List.take_succ_cons,KP n p q (by omega)]
  .omega
end Tr
end
section
open Go.RowKit Go.ChangeShapes Go.WideShapes
def Sec (p:Prop):Prop:=Unit->p
theorem Sec.out {p:Prop} (h:Sec p):p:=h ()
theorem sec {p:Prop} (h:p):Sec p:=λ_=>h
theorem below_drewN {B:Nat} {w w':World} (h:Below B w w') (q:Nat):Below B w (w'.drewN q):=⟨h.os,h.tape,h.output,h.size,h.block⟩
def bf (w:World) (a:aL) (n cap:Nat) (l:aN):Prop :=
 n<=cap/\cap<=maxLen/\l.length=n/\(a=none->cap=0)/\∀ j,j<n->∃ b off,a=some ⟨b,off,none⟩/\b<w.heap.size/\w.cell? ⟨b,off+j,none⟩=some (.int .u8 (l.getD j 0).toNat)
namespace bf
theorem len {w:World} {a:aL} {n cap:Nat} {l:aN} (h:bf w a n cap l):l.length=n:=h.2.2.1
theorem at' {w:World} {a:aL} {n cap:Nat} {l:aN} (h:bf w a n cap l) (j:Nat) (hj:j<n):∃ b off,a=some ⟨b,off,none⟩/\b<w.heap.size/\w.cell? ⟨b,off+j,none⟩=some (.int .u8 (l.getD j 0).toNat):=h.2.2.2.2 j hj
theorem kept {w w':World} {a:aL} {n cap:Nat} {l:aN} (h:bf w a n cap l) (hs:w.heap.size<=w'.heap.size)
  (hc:∀ b o,b<w.heap.size->w'.cell? ⟨b,o,none⟩=w.cell? ⟨b,o,none⟩):bf w' a n cap l:=by
 refine ⟨h.1,h.2.1,h.2.2.1,h.2.2.2.1,λj hj=>?_⟩;obtain ⟨b,off,h1,h2,h3⟩:=h.2.2.2.2 j hj;exact ⟨b,off,h1,aJ h2 hs,by rw [hc b _ h2]; exact h3⟩
theorem below {w w':World} {a:aL} {n cap:Nat} {l:aN} (h:bf w a n cap l) (hb:Below w.heap.size w w'):bf w' a n cap l :=
 h.kept hb.size λb o hlt=>hb.cell (p:=⟨b,o,none⟩) hlt
theorem alloc {w:World} {a:aL} {n cap:Nat} {l:aN} (h:bf w a n cap l) (o:Obj):bf (w.alloc o) a n cap l :=
 h.below (aI.alloc aH _)
theorem grown {w w':World} {a:aL} {n cap:Nat} {l:aN} (h:bf w a n cap l) (hg:w.grownBy w' none):bf w' a n cap l :=
 h.below (aI.grown hg aH (λk hk=>by cases hk))
theorem drewN {w:World} {a:aL} {n cap:Nat} {l:aN} (h:bf w a n cap l) (q:Nat):bf (w.drewN q) a n cap l:=h
theorem Ej {w:World} {n cap:Nat} {l:aN} (h:bf w none n cap l):n=0/\cap=0/\l=[]:=by
 have hc:=h.2.2.2.1 rfl;have h1:=h.1;have h2:=h.len;have:n=0:=by omega
 subst this;exact ⟨rfl,hc,List.eq_nil_of_length_eq_zero h2⟩
theorem nil (w:World):bf w none 0 0 []:=⟨aH,Nat.zero_le _,rfl,λ_=>rfl,λ_ hj=>absurd hj (Nat.not_lt_zero _)⟩
end bf
def TD (w:World) (l:aN) (e:Ending) (w':World):Prop:=∃ a n cap,e = .returned (.slice a n cap)/\bf w' a n cap l/\Below w.heap.size w w'
theorem bf.ofRow {w:World} {b n:Nat} {f:Nat->Value} (l:aN) (hn:n<=maxLen) (h:w.rowIs b t n f) (hl:l.length=n) (hf:∀ j,j<n->f j = .int .u8 (l.getD j 0).toNat):bf w (some ⟨b,0,none⟩) n n l :=
 ⟨aH,hn,hl,(λe=>by cases e),λj hj=>⟨b,0,rfl,h.lt,by rw [Nat.zero_add,<-hf j hj]; exact h.cell hj⟩⟩
theorem bf.sS {w:World} {B:Nat} {n:Nat} {l:aN} (h:w.ownsRow B t 1 v n (l.map λx=>Value.int .u8 x.toNat)):∃ a cap,v = .slice a n cap/\bf w a n cap l:=by
 have hl:l.length=n:=by simpa using h.1
 rcases h.2 with ⟨rfl,hz⟩ | ⟨g,cap,cur,rfl,hbg,hg,hnc,hcm,hcs,htake⟩
 .have e:l=[]:=List.eq_nil_of_length_eq_zero (by rw [hl]; exact hz);subst e;subst hz;exact ⟨none,0,rfl,bf.nil w⟩
 .refine ⟨_,_,rfl,hnc,hcm,hl,λe=>(by cases e),λj hj=>⟨g,0,rfl,(Array.getElem?_eq_some_iff.1 hg).1,?_⟩⟩;have:=h.cells (g:=g) rfl j (.int .u8 (l.getD j 0).toNat) (by simp [List.getD,hl,hj]);have e:(⟨g,0,none⟩:Addr).add j=⟨g,0+j,none⟩:=by unfold Addr.add; split <;> simp_all
  rw [e] at this;exact this
theorem bf.new (w:World) (l:aN) (hl:l.length<=maxLen) (cs:aO) (t:TypeId) (hc:cs=(l.map λx=>Value.int .u8 x.toNat).toArray):bf (w.alloc (.cells cs t)) (some ⟨w.heap.size,0,none⟩) l.length l.length l:=by
 subst hc;refine ⟨aH,hl,rfl,λe=>(by cases e),λj hj=>⟨w.heap.size,0,rfl,by simp,?_⟩⟩;rw [Nat.zero_add,World.cell?_alloc_mark];simp [List.getD,hj]
theorem gY {w:World} {a:aL} {n cap:Nat} {l:aN} (h:bf w a n cap l) :
  Sem.run prog (convert 35 9 (Value.slice a n cap)) w = .ok (.string ⟨l.toArray⟩) w:=by
 by_cases h0:n=0
 .subst h0;have e:l=[]:=List.eq_nil_of_length_eq_zero h.len;subst e;have:=run_convert_bytes_string (P:=prog) w 35 9 5 a 0 cap underlying35 underlying5 underlying9;rw [this];cases a <;> simp [Conv.bytesToString,loadCells]
  all_goals rfl
 .obtain ⟨b,off,rfl,hb,hc⟩:=h.at' 0 (by omega);have hl:=h.len;have:=run_convert_bytes_back (P:=prog) w 35 9 5 ⟨b,off,none⟩ cap l underlying35 underlying5 underlying9 (λj hj=>by
   obtain ⟨b',off',e,_,hc'⟩:=h.at' j (by omega);simp at e;obtain ⟨rfl,rfl⟩:=e;have e2:(⟨b,off,none⟩:Addr).add j=⟨b,off+j,none⟩:=by unfold Addr.add; split <;> simp_all
   rw [e2,hc'];simp [List.getD,hj])
  rw [hl] at this;exact this
end
section
open Go.RowKit Go.ChangeShapes Go.WideShapes
inductive It where
 | mk (l:Bool) (s:aM) (xs:List It)
namespace It
def l:It->Bool | .mk l _ _=>l
def s:It->aM | .mk _ s _=>s
def xs:It->List It | .mk _ _ xs=>xs
theorem ind {P:It->Prop} (h:∀ l s xs,(∀ y∈xs,P y)->P (.mk l s xs)):∀ x,P x
 | .mk l s xs=>h l s xs (λy _=>ind h y)
termination_by x=>SizeOf.sizeOf x
decreasing_by
 have:=List.sizeOf_lt_of_mem ‹y∈xs›;simp;omega
end It
def tF (w:World) (b o:Nat) (x:It) (A:aL) (N C:Nat):Prop :=
 w.cell? ⟨b,o,none⟩=some (.bool x.l)/\w.cell? ⟨b,o+1,none⟩=some (.string x.s)/\w.cell? ⟨b,o+2,none⟩=some (.slice A N C)
theorem tF.stays {B:Nat} {w w':World} {b o:Nat} {x:It} {A:aL} {N:Nat} (h:tF w b o x A N C) (hb:Below B w w') (hlt:b<B):tF w' b o x A N C :=
 ⟨by rw [hb.cell (p:=⟨b,_,none⟩) hlt]; exact h.1,by rw [hb.cell (p:=⟨b,_,none⟩) hlt]; exact h.2.1,by rw [hb.cell (p:=⟨b,_,none⟩) hlt]; exact h.2.2⟩
inductive iE (p:Nat->Prop) (w:World):List It->aL->Nat->Nat->Prop
 | mk {xs:List It} {a:aL} {n cap:Nat} (A:Nat->aL) (N C:Nat->Nat) (hl:xs.length=n) (hc:n<=cap) (hm:cap<=maxLen) (hw:n<=2932031007402) (hn:a=none->cap=0)
   (h:∀ (j:Nat) (x:It),xs[j]? = some x->∃ b off,a=some ⟨b,off,none⟩/\p b/\b<w.heap.size/\tF w b (off+j*3) x (A j) (N j) (C j))
   (hi:∀ (j:Nat) (x:It),xs[j]? = some x->iE p w x.xs (A j) (N j) (C j)):iE p w xs a n cap
abbrev bP (B:Nat) (w:World) (xs:List It) (a:aL) (n cap:Nat):Prop:=iE (λb=>B<=b) w xs a n cap
abbrev gZ (w:World) (xs:List It) (a:aL) (n cap:Nat):Prop:=bP 0 w xs a n cap
def itV (x:It) (a:aL) (n cap:Nat):Value:=.agg #[.bool x.l,.string x.s,.slice a n cap]
def Rk (w:World) (x:It) (v:Value):Prop:=∃ a n cap,v=itV x a n cap/\gZ w x.xs a n cap
namespace iE
variable {p:Nat->Prop} {w w':World} {xs:List It} {a:aL} {n cap:Nat}
theorem len (h:iE p w xs a n cap):xs.length=n:=by cases h; assumption
theorem le (h:iE p w xs a n cap):n<=cap:=by cases h; assumption
theorem max (h:iE p w xs a n cap):cap<=maxLen:=by cases h; assumption
theorem few (h:iE p w xs a n cap):n<=2932031007402:=by cases h; assumption
theorem none' (h:iE p w xs a n cap):a=none->cap=0:=by cases h; assumption
theorem kept (h:iE p w xs a n cap) (hs:w.heap.size<=w'.heap.size) (hk:∀ b o,p b->b<w.heap.size->w'.cell? ⟨b,o,none⟩=w.cell? ⟨b,o,none⟩):iE p w' xs a n cap:=by
 induction h with
 | mk A N C hl hc hm hw hn h hi ih =>
  refine .mk A N C hl hc hm hw hn (λj x hx=>?_) ih;obtain ⟨b,off,e,hB,hlt,c0,c1,c2⟩:=h j x hx;exact ⟨b,off,e,hB,aJ hlt hs,by rw [hk b _ hB hlt,c0],by rw [hk b _ hB hlt,c1],by rw [hk b _ hB hlt,c2]⟩
theorem stays (h:iE p w xs a n cap) (hb:Below w.heap.size w w'):iE p w' xs a n cap:=h.kept hb.size λb o _ hlt=>hb.cell (p:=⟨b,o,none⟩) hlt
theorem to {p':Nat->Prop} (h:iE p w xs a n cap) (hp:∀ b,b<w.heap.size->p b->p' b):iE p' w xs a n cap:=by
 induction h with
 | mk A N C hl hc hm hw hn h hi ih =>
  refine .mk A N C hl hc hm hw hn (λj x hx=>?_) ih;obtain ⟨b,off,e,hb,hlt,r⟩:=h j x hx;exact ⟨b,off,e,hp b hlt hb,hlt,r⟩
theorem at' (h:iE p w xs a n cap) (j:Nat) (hj:j<n):∃ x b off A N C,xs[j]? = some x/\a=some ⟨b,off,none⟩/\b<w.heap.size/\tF w b (off+j*3) x A N C/\iE p w x.xs A N C:=by
 cases h with
 | mk A N C hl hc hm hw hn h hi =>
  have hx:xs[j]? = some (xs[j]'(by omega)):=List.getElem?_eq_getElem (by omega);obtain ⟨b,off,e,_,hlt,hL⟩:=h j _ hx;exact ⟨_,b,off,A j,N j,C j,hx,e,hlt,hL,hi j _ hx⟩
theorem nil (p:Nat->Prop) (w:World):iE p w [] none 0 0:=.mk (λ_=>none) (λ_=>0) (λ_=>0) rfl aH (Nat.zero_le _) (by omega) (λ_=>rfl) (λ_ _ h=>by simp at h) (λ_ _ h=>by simp at h)
theorem alloc (h:iE p w xs a n cap) (o:Obj):iE p (w.alloc o) xs a n cap:=h.stays (aI.alloc aH _)
end iE
namespace bP
variable {B:Nat} {w w':World} {xs:List It} {a:aL} {n cap:Nat}
theorem kept (h:bP B w xs a n cap) (hs:w.heap.size<=w'.heap.size) (hk:∀ b o,B<=b->b<w.heap.size->w'.cell? ⟨b,o,none⟩=w.cell? ⟨b,o,none⟩):bP B w' xs a n cap:=iE.kept h hs hk
theorem weak (h:bP B w xs a n cap) (hB:B'<=B):bP B' w xs a n cap:=iE.to h λ_ _ hb=>Nat.le_trans hB hb
theorem nil (B:Nat) (w:World):bP B w [] none 0 0:=iE.nil _ _
end bP
theorem nY {w:World} {o:Obj} (h:Below (w.heap.size+1) (w.alloc o) wr):Below w.heap.size w wr:=(aI.alloc aH _).trans (h.mono (Nat.le_succ _))
theorem Uf {w:World} {o:Obj} (h:Below (w.heap.size+1) (w.alloc o) wr):w.heap.size+1<=wr.heap.size:=by
 have:=h.size;simpa using this
theorem yt {w:World} {o:Obj} (h:Below (w.alloc o).heap.size (w.alloc o) wr):Below (w.heap.size+1) (w.alloc o) wr:=h.mono (by simp)
theorem yJ {w:World} {o:Obj} (h:Below (w.heap.size+1) (w.alloc o) wr) (h2:Below wr.heap.size wr w2):Below (w.heap.size+1) (w.alloc o) w2:=h.trans (h2.mono (Uf h))
theorem al1 (w:World) (o:Obj):Below w.heap.size w (w.alloc o):=aI.alloc aH _
theorem al2 (w:World) (o o':Obj):Below w.heap.size w ((w.alloc o).alloc o'):=(al1 w o).alloc (by simp) _
theorem tL {B:Nat} {w:World} (h:Below B w w1) (h2:Below w1.heap.size w1 w2) (hB:B<=w.heap.size):Below B w w2:=h.trans (h2.mono (Nat.le_trans hB h.size))
theorem bst {w:World} (h:Below w.heap.size w w1) (h2:Below w1.heap.size w1 w2):Below w.heap.size w w2:=tL h h2 aH
theorem Db:(prog.info? 96).map (·.size)=some 3:=by kernel_rfl
theorem tF.range {w:World} {b o:Nat} {x:It} {A:aL} {N C:Nat} (h:tF w b o x A N C):w.rangeAt b o [.bool x.l,.string x.s,.slice A N C]:=λi v hv=>by
 match i,hv with
 | 0,hv=>cases hv; exact h.1
 | 1,hv=>cases hv; exact h.2.1
 | 2,hv=>cases hv; exact h.2.2
theorem jQ {w:World} {b o:Nat} {x:It} {A:aL} {N:Nat} (h:tF w b o x A N C):(loadVar 96 ⟨b,o,none⟩).run prog w = .ok (itV x A N C) w :=
 run_loadVar_mid w b o 96 _ _ h.range underlying96 rfl Db
theorem oh {fn:Func} {p:Tmp} (hf:fn.results = #[.cell p 96]) (tmps:aO) {w:World} {b o:Nat} {x:It} {A:aL} {N:Nat} (hp:tmps.getD p undef = .pointer (some ⟨b,o,none⟩)) (h:tF w b o x A N C) :
  (results fn tmps).run prog w = .ok (itV x A N C) w:=by
 have hp':tmps[p]?.getD undef = .pointer (some ⟨b,o,none⟩):=by simpa using hp
 simp [results,hf,hp',asAddr,jQ h]
theorem mq {fn:Func} {p u:Tmp} (hf:fn.results = #[.cell p 96,.tmp u]) (tmps:aO) {w:World} {b o:Nat} {x:It} {A:aL} {N:Nat} (hp:tmps.getD p undef = .pointer (some ⟨b,o,none⟩)) (h:tF w b o x A N C) :
  (results fn tmps).run prog w = .ok (.tuple #[itV x A N C,tmps.getD u undef]) w:=by
 have hp':tmps[p]?.getD undef = .pointer (some ⟨b,o,none⟩):=by simpa using hp
 simp [results,hf,hp',asAddr,jQ h]
theorem OG {fn:Func} {p u z:Tmp} (hf:fn.results = #[.cell p 96,.tmp u,.tmp z]) (tmps:aO) {w:World} {b o:Nat} {x:It} {A:aL} {N:Nat} (hp:tmps.getD p undef = .pointer (some ⟨b,o,none⟩)) (h:tF w b o x A N C) :
  (results fn tmps).run prog w = .ok (.tuple #[itV x A N C,tmps.getD u undef,tmps.getD z undef]) w:=by
 have hp':tmps[p]?.getD undef = .pointer (some ⟨b,o,none⟩):=by simpa using hp
 simp [results,hf,hp',asAddr,jQ h]
theorem Fx (w:World) (x:It) (A:aL) (N C:Nat) (t:TypeId):tF (w.alloc (.cells #[.bool x.l,.string x.s,.slice A N C] t)) w.heap.size 0 x A N C :=
 ⟨by rw [World.cell?_alloc_mark]; rfl,by rw [World.cell?_alloc_mark]; rfl,by rw [World.cell?_alloc_mark]; rfl⟩
end
section
open Go.RowKit
namespace Pk
def fT (c:Int):PanicEntry:={ v:=.iface 29 (.int .i64 c),recovered:=false }
theorem jq (c:Int) (w:World):Calls prog 139 #[.int .i64 c] w λe w'=>e = .panicked [fT c]/\w=w':=by
 go_enter func139,ntmps139;go_wp2;simp [bodyPost,fT]
theorem mX (p:Addr) (x c:Int) (older:List PanicEntry) (w:World) (hc:w.cell? p=some (.int .i64 x)) (hz:w.frozen? p=false) :
  CallsD prog 137 #[.pointer (some p)] (.panicking (fT c::older)) w λe u' w' =>
   e = .returned (.tuple #[])/\u' = .panicking ({ fT c with recovered:=true }::older)/\w'=w.setCell p (.int .i64 c):=by
 refine callsD_of_wpS func137 rfl λc₀ cs hu=>?_;apply wpS_seq;apply wpS_region;simp [wpOpsS,go_sem,recoverD,hu,fT,ntmps137,Exit.thenS];apply wpS_seq;apply wpS_region;simp [wpOpsS,go_sem,Exit.thenS];refine wpS_cond (t:=true) (by simp [Act.eval,Array.replicate]) ?_;simp only [if_true];apply wpS_region;have IA:(Instr.typeAssert (.iface 29 (.int .i64 c)) 20 29 false).run prog w = .ok (.int .i64 c) w:=by kernel_rfl
 simp [wpOpsS,go_sem,IA,hc,hz,bodyPostS,results,Tryz.results137]
theorem uI (p:Addr) (w:World) :
  CallsD prog 137 #[.pointer (some p)] .returning w λe u' w'=>e = .returned (.tuple #[])/\u' = .returning/\w'=w:=by
 refine callsD_of_wpS func137 rfl λc₀ cs hu=>?_;apply wpS_seq;apply wpS_region;simp [wpOpsS,go_sem,recoverD,hu,ntmps137,Exit.thenS];apply wpS_seq;apply wpS_region;simp [wpOpsS,go_sem,Exit.thenS];refine wpS_cond (t:=false) (by simp [Act.eval,Array.replicate]) ?_;simp only [Bool.false_eq_true,if_false];refine wpS_of_wp (wp_skip ?_);cases c₀
 simp_all [bodyPostS,results,Tryz.results137]
theorem qb (D:FuncId) (caps:aO) (hD:∀ w,(callFunc D caps).run prog w = .ok (.enter D caps) w) (w:World) (R:World->Prop)
  (h:Calls prog D caps (w.alloc (.cells #[.int .i64 0] 29)) λe w'=>e = .returned (.tuple #[])/\(w'.cell? ⟨w.heap.size,0,none⟩=some (.int .i64 0)/\w'.frozen? ⟨w.heap.size,0,none⟩=false)/\R w') :
  Calls prog 97 #[.func (.func D) #[] caps] w λe w'=>e = .returned (.int .i64 0)/\∃ w1,R w1/\w'=w1.setCell ⟨w.heap.size,0,none⟩ (.int .i64 0):=by
 have eK:∀ (fn:Fn) (first cap:aO) (w:World),(Instr.makeFunc fn first cap).run prog w = .ok (.func fn first cap) w:=λ_ _ _ _=>rfl;have H:=hid h;clear h;go_enter_defers func97,ntmps97
 go_wp2_with fail
 refine H.out.mono ?_;rintro e w1 ⟨rfl,⟨hc,hz⟩,hR⟩;have HR:=hid hR;clear hR H;go_wp2;refine leaves_cons (f:=137) (args:=#[.pointer (some ⟨w.heap.size,0,none⟩)]) (by simp) (by simp [go_sem]) ?_;refine (uI ⟨w.heap.size,0,none⟩ _).mono ?_;rintro e u' w'' ⟨rfl,rfl,rfl⟩;simp [Leaves,settle,results,Tryz.results97,go_sem,hc];exact ⟨w1,HR.out,rfl⟩
theorem qF (D:FuncId) (caps:aO) (hD:∀ w,(callFunc D caps).run prog w = .ok (.enter D caps) w) (w:World) (c:Int) (R:World->Prop)
  (h:Calls prog D caps (w.alloc (.cells #[.int .i64 0] 29)) λe w'=>e = .panicked [fT c]/\(w'.cell? ⟨w.heap.size,0,none⟩=some (.int .i64 0)/\w'.frozen? ⟨w.heap.size,0,none⟩=false)/\R w') :
  Calls prog 97 #[.func (.func D) #[] caps] w λe w'=>e = .returned (.int .i64 c)/\∃ w1,R w1/\w'=w1.setCell ⟨w.heap.size,0,none⟩ (.int .i64 c):=by
 have eK:∀ (fn:Fn) (first cap:aO) (w:World),(Instr.makeFunc fn first cap).run prog w = .ok (.func fn first cap) w:=λ_ _ _ _=>rfl;have H:=hid h;clear h;go_enter_defers func97,ntmps97
 go_wp2_with fail
 refine H.out.mono ?_;rintro e w1 ⟨rfl,⟨hc,hz⟩,hR⟩;have HR:=hid hR;clear hR H;go_wp2;refine leaves_cons (f:=137) (args:=#[.pointer (some ⟨w.heap.size,0,none⟩)]) (by simp) (by simp [go_sem]) ?_;refine (mX ⟨w.heap.size,0,none⟩ 0 c [] _ hc hz).mono ?_;rintro e u' w'' ⟨rfl,rfl,rfl⟩;simp [Leaves,settle,results,Tryz.results97,go_sem,hc];exact ⟨w1,HR.out,rfl⟩
end Pk
end
section
open Go.RowKit
namespace Rl
open Pk
def dS (l:aN):Nat:=l.foldl (λa b=>a*256+b.toNat) 0
theorem iF (l:aN) (c:UInt8):dS (l++[c])=dS l*256+c.toNat:=by simp [dS]
theorem NH (l:aN):∀ a,l.foldl (λa b=>a*256+b.toNat) a<(a+1)*256 ^ l.length:=by
 induction l with
 | nil=>intro a; simp
 | cons c l ih =>
  intro a;rw [List.foldl_cons,List.length_cons,Nat.pow_succ];have h1:=ih (a*256+c.toNat);have h2:=c.toNat_lt;have h3:(a*256+c.toNat+1)*256 ^ l.length<=((a+1)*256)*256 ^ l.length:=Nat.mul_le_mul_right _ (by omega);have h4:(a+1)*(256 ^ l.length*256)=((a+1)*256)*256 ^ l.length:=by
   rw [Nat.mul_comm (256 ^ l.length) 256,Nat.mul_assoc]
  omega
theorem uT (l:aN):dS l<256 ^ l.length:=by
 have:=NH l 0;simpa [dS] using this
def gJ:aN->Except Int (Bool × Nat × Nat)
 | []=>.error 5
 | c::t =>
  if c.toNat<128 then .ok (false,0,1)
  else if c.toNat-(if 192<=c.toNat then 192 else 128)<=55 then .ok (decide (192<=c.toNat),1,c.toNat-(if 192<=c.toNat then 192 else 128))
  else if t.length<c.toNat-(if 192<=c.toNat then 192 else 128)-55 then .error 5
  else if t.headD 0=0\/dS (t.take (c.toNat-(if 192<=c.toNat then 192 else 128)-55))<=55 then .error 6
  else .ok (decide (192<=c.toNat),1+(c.toNat-(if 192<=c.toNat then 192 else 128)-55),dS (t.take (c.toNat-(if 192<=c.toNat then 192 else 128)-55)))
def mI (s:aM):Except Int (Bool × Nat × Nat)->Prop
 | .error c=>∀ w,Calls prog 175 #[.string s] w λe w'=>e = .panicked [fT c]/\w=w'
 | .ok (l,a,v)=>∀ w,Calls prog 175 #[.string s] w λe w'=>e = .returned (.tuple #[.bool l,.int .i64 a,.int .u64 v])/\w=w'
theorem bF (s:aM):s.size=s.data.toList.length:=by rw [Array.length_toList]; rfl
theorem get_at (s:aM) (i:Nat) (h:i<s.size):s[i]=s.data.toList.getD i 0:=by
 have h':i<s.data.toList.length:=by rw [<-bF]; exact h
 rw [List.getD_eq_getElem?_getD,List.getElem?_eq_getElem h'];simp;rfl
theorem TI (s:aM) (h:s.data.toList=[]):mI s (.error 5):=by
 intro w;have hs:s.size=0:=by rw [bF,h]; rfl
 have hnil:(s.toList==[])=true:=by rw [ByteArray.toList_eq,h]; rfl
 go_enter func175,ntmps175;go_wp2_with (go_at_call 139; refine (jq _ _).mono ?_; rintro e w1 ⟨rfl,rfl⟩)
 simp [bodyPost]
theorem Pw (s:aM) (c:UInt8) (t:aN) (h:s.data.toList=c::t) (hc:c.toNat<128):mI s (.ok (false,0,1)):=by
 intro w;have hs:0<s.size:=by rw [bF,h]; simp
 have hnil:(s.toList==[])=false:=by rw [ByteArray.toList_eq,h]; rfl
 have h0:s[0]=c:=by rw [get_at s 0 hs,h]; rfl
 have hlt:s[0].toNat<128:=by rw [h0]; exact hc
 clear h h0 hc;go_enter func175,ntmps175;go_wp2;go_ret3
 exact ⟨rfl,rfl⟩
def Kk (c:UInt8):Nat:=c.toNat-(if 192<=c.toNat then 192 else 128)
theorem Kt (s:aM) (c:UInt8) (t:aN) (h:s.data.toList=c::t) (hc:¬ c.toNat<128) (hn:Kk c<=55):mI s (.ok (decide (192<=c.toNat),1,Kk c)):=by
 intro w;have hs:0<s.size:=by rw [bF,h]; simp
 have hnil:(s.toList==[])=false:=by rw [ByteArray.toList_eq,h]; rfl
 have h0:s[0]=c:=by rw [get_at s 0 hs,h]; rfl
 clear h;unfold Kk at hn ⊢;by_cases g9:192<=c.toNat
 .rw [if_pos g9] at hn ⊢;obtain ⟨m,hm⟩:∃ m:Nat,c.toNat=192+m:=⟨c.toNat-192,by omega⟩
  rw [<-h0] at hm;have hd:Hid (decide (192<=c.toNat)=decide ((192:Int)<=192+(m:Int))):=hid (by rw [<-h0,hm]; apply decide_eq_decide.2; omega);have hv:Hid (((c.toNat-192:Nat):Int)=192+(m:Int)-192):=hid (by rw [<-h0,hm]; omega);have hm2:m<=55:=by rw [<-h0] at hn; omega
  skip
  clear g9 hn h0 hc;go_enter func175,ntmps175;go_wp2;go_ret3
  exact ⟨by rw [hd.out,hv.out]; rfl,rfl⟩
 .rw [if_neg g9] at hn ⊢;obtain ⟨m,hm⟩:∃ m:Nat,c.toNat=128+m:=⟨c.toNat-128,by omega⟩
  rw [<-h0] at hm;have hd:Hid (decide (192<=c.toNat)=decide ((192:Int)<=128+(m:Int))):=hid (by rw [<-h0,hm]; apply decide_eq_decide.2; omega);have hv:Hid (((c.toNat-128:Nat):Int)=128+(m:Int)-128):=hid (by rw [<-h0,hm]; omega);have hm2:m<=55:=by rw [<-h0] at hn; omega
  have hlt:m<64:=by rw [<-h0] at g9; omega
  clear g9 hn h0 hc;go_enter func175,ntmps175;go_wp2;go_ret3
  exact ⟨by rw [hd.out,hv.out]; rfl,rfl⟩
theorem yF (x b:Nat) (hx:x<72057594037927936) (hb:b<256):bits .or .u64 (IntKind.u64.wrap ((x:Int)*256)) (IntKind.u64.wrap (b:Int))=((x*256+b:Nat):Int):=by
 have e1:IntKind.u64.wrap ((x:Int)*256)=((x*256:Nat):Int):=by rw [IntKind.wrap_u64]; omega
 have e2:IntKind.u64.wrap (b:Int)=((b:Nat):Int):=by rw [IntKind.wrap_u64]; omega
 rw [e1,e2,u64_or_nat _ _ (by omega) (by omega),nat_join 8 _ _ (by omega) (by omega)]
theorem mg (l:aN) (q:Nat) (h1:1<=q) (hq:q<l.length):(l.drop 1).take q=(l.drop 1).take (q-1)++[l.getD q 0]:=by
 have h2:q-1<(l.drop 1).length:=by rw [List.length_drop]; omega
 have:=List.take_succ_eq_append_getElem h2;rw [show q-1+1=q by omega] at this;rw [this];congr 2;rw [List.getElem_drop,List.getD_eq_getElem?_getD,List.getElem?_eq_getElem hq];simp [show 1+(q-1)=q by omega]
theorem yQ {n:Nat} (h:n<256 ^ k) (hk:k<=7):n<72057594037927936:=aJ h (Nat.pow_le_pow_right (by omega) hk)
theorem kJ {s:aM} (h:0<s.size):s.data.toList.headD 0=s[0]:=by
 obtain ⟨⟨l⟩⟩:=s;cases l with
 | nil=>simp [ByteArray.size] at h
 | cons c l=>rfl
theorem NK (s:aM) (m:Nat) (hm:s.data.toList.headD 0=UInt8.ofNat (192+m)) (z8:56<=m) (h64:m<=63) (hs:0<s.size) (hcut:s.size<m-54):mI s (.error 5):=by
 intro w;have hnil:(s.toList==[])=false:=by
  rw [beq_eq_false_iff_ne,ByteArray.toList_eq];intro e;rw [bF,e] at hs;simp at hs
 have h0:s[0].toNat=192+m:=by
  rw [<-kJ hs,hm];simp;omega
 clear hm;go_enter func175,ntmps175;go_wp2_with (go_at_call 139; refine (jq _ _).mono ?_; rintro e w1 ⟨rfl,rfl⟩)
 simp [bodyPost]
theorem Mt (s:aM) (m:Nat) (hm:s.data.toList.headD 0=UInt8.ofNat (128+m)) (z8:56<=m) (h64:m<=63) (hs:0<s.size) (hcut:s.size<m-54):mI s (.error 5):=by
 intro w;have hnil:(s.toList==[])=false:=by
  rw [beq_eq_false_iff_ne,ByteArray.toList_eq];intro e;rw [bF,e] at hs;simp at hs
 have h0:s[0].toNat=128+m:=by
  rw [<-kJ hs,hm];simp;omega
 clear hm;go_enter func175,ntmps175;go_wp2_with (go_at_call 139; refine (jq _ _).mono ?_; rintro e w1 ⟨rfl,rfl⟩)
 simp [bodyPost]
theorem IC (s:aM) (m:Nat) (hm:s.data.toList.headD 0=UInt8.ofNat (192+m)) (z8:56<=m) (h64:m<=63) (hcut:m-54<=s.size) (hgood:s.data.toList.getD 1 0≠0/\55<dS ((s.data.toList.drop 1).take (m-55))):mI s (.ok (true,m-54,dS ((s.data.toList.drop 1).take (m-55)))):=by
 intro w;have hs:0<s.size:=by omega
 have hnil:(s.toList==[])=false:=by
  rw [beq_eq_false_iff_ne,ByteArray.toList_eq];intro e;rw [bF,e] at hs;simp at hs
 have h0:s[0].toNat=192+m:=by
  rw [<-kJ hs,hm];simp;omega
 obtain ⟨V,hV⟩:=aA (dS ((s.data.toList.drop 1).take (m-55)))
 rw [hV] at hgood ⊢;have HV:=hid hV;clear hm hV;go_enter func175,ntmps175;go_wp2;go_loop [4,6] (λv i=>∃ q x:Nat,1<=q/\q<=m-54/\i = .int .i64 q/\v = .int .u64 x/\Hid (x=dS ((s.data.toList.drop 1).take (q-1)))) (λ_ i=>m-(intOf i).toNat)
 case atStart=>exact ⟨1,0,by omega,by omega,rfl,rfl,hid rfl⟩
 case round =>
  obtain ⟨q,x,hq1,hq,rfl,rfl,HX⟩:=hrel;by_cases hlt:q<m-54
  .have de:q<s.size:=by omega
   have hx:x<72057594037927936:=by
    rw [HX.out];exact yQ (uT _) (by rw [List.length_take,List.length_drop]; omega)
   have HS:Hid (bits .or .u64 ((x:Int)*256) (IntKind.u64.wrap (s[q].toNat:Int))=((x*256+s[q].toNat:Nat):Int)):=hid (by rw [<-yF _ _ hx s[q].toNat_lt,show IntKind.u64.wrap ((x:Int)*256)=(x:Int)*256 by rw [IntKind.wrap_u64]; omega]);have HN:Hid (x*256+s[q].toNat=dS ((s.data.toList.drop 1).take (q+1-1))):=hid (by
    rw [show q+1-1=q by omega,mg _ q hq1 (by rw [<-bF]; exact de),iF,<-HX.out,get_at s q de])
   go_wp2;go_round
   case rel=>exact ⟨q+1,_,by omega,by omega,by go_num,by rw [HS.out],hid HN.out⟩
   case measure=>simp [intOf]; omega
  .obtain rfl:q=m-54:=by omega
   have hv:x=V:=by rw [HX.out,<-HV.out,show m-54-1=m-55 by omega]
   have hs1:1<s.size:=by omega
   have h1:s[1].toNat≠0:=by
    rw [get_at s 1 hs1];intro e;exact hgood.1 (UInt8.toNat_inj.1 e)
   have hb1:((s[1].toNat:Int)==0)=false:=by simp; omega
   have hV:=hgood.2;subst hv;have hA:Hid (((m-54:Nat):Int)=1+(192+(m:Int)-192)-55):=hid (by omega);clear HX HV hgood hlt h1;go_wp2;go_ret3
   exact ⟨by rw [hA.out]; rfl,rfl⟩
theorem Kc (s:aM) (m:Nat) (hm:s.data.toList.headD 0=UInt8.ofNat (128+m)) (z8:56<=m) (h64:m<=63) (hcut:m-54<=s.size) (hgood:s.data.toList.getD 1 0≠0/\55<dS ((s.data.toList.drop 1).take (m-55))):mI s (.ok (false,m-54,dS ((s.data.toList.drop 1).take (m-55)))):=by
 intro w;have hs:0<s.size:=by omega
 have hnil:(s.toList==[])=false:=by
  rw [beq_eq_false_iff_ne,ByteArray.toList_eq];intro e;rw [bF,e] at hs;simp at hs
 have h0:s[0].toNat=128+m:=by
  rw [<-kJ hs,hm];simp;omega
 obtain ⟨V,hV⟩:=aA (dS ((s.data.toList.drop 1).take (m-55)))
 rw [hV] at hgood ⊢;have HV:=hid hV;clear hm hV;go_enter func175,ntmps175;go_wp2;go_loop [4,6] (λv i=>∃ q x:Nat,1<=q/\q<=m-54/\i = .int .i64 q/\v = .int .u64 x/\Hid (x=dS ((s.data.toList.drop 1).take (q-1)))) (λ_ i=>m-(intOf i).toNat)
 case atStart=>exact ⟨1,0,by omega,by omega,rfl,rfl,hid rfl⟩
 case round =>
  obtain ⟨q,x,hq1,hq,rfl,rfl,HX⟩:=hrel;by_cases hlt:q<m-54
  .have de:q<s.size:=by omega
   have hx:x<72057594037927936:=by
    rw [HX.out];exact yQ (uT _) (by rw [List.length_take,List.length_drop]; omega)
   have HS:Hid (bits .or .u64 ((x:Int)*256) (IntKind.u64.wrap (s[q].toNat:Int))=((x*256+s[q].toNat:Nat):Int)):=hid (by rw [<-yF _ _ hx s[q].toNat_lt,show IntKind.u64.wrap ((x:Int)*256)=(x:Int)*256 by rw [IntKind.wrap_u64]; omega]);have HN:Hid (x*256+s[q].toNat=dS ((s.data.toList.drop 1).take (q+1-1))):=hid (by
    rw [show q+1-1=q by omega,mg _ q hq1 (by rw [<-bF]; exact de),iF,<-HX.out,get_at s q de])
   go_wp2;go_round
   case rel=>exact ⟨q+1,_,by omega,by omega,by go_num,by rw [HS.out],hid HN.out⟩
   case measure=>simp [intOf]; omega
  .obtain rfl:q=m-54:=by omega
   have hv:x=V:=by rw [HX.out,<-HV.out,show m-54-1=m-55 by omega]
   have hs1:1<s.size:=by omega
   have h1:s[1].toNat≠0:=by
    rw [get_at s 1 hs1];intro e;exact hgood.1 (UInt8.toNat_inj.1 e)
   have hb1:((s[1].toNat:Int)==0)=false:=by simp; omega
   have hV:=hgood.2;subst hv;have hF:Hid (decide ((192:Int)<=128+(m:Int))=false):=hid (by simp; omega);have hA:Hid (((m-54:Nat):Int)=1+(128+(m:Int)-128)-55):=hid (by omega);clear HX HV hgood hlt h1;go_wp2;go_ret3
   refine ⟨?_,rfl⟩;rw [hA.out];show Ending.returned (.tuple #[.bool (decide ((192:Int)<=128+(m:Int))),_,_])=_;rw [hF.out];rfl
theorem NT (s:aM) (m:Nat) (hm:s.data.toList.headD 0=UInt8.ofNat (192+m)) (z8:56<=m) (h64:m<=63) (hcut:m-54<=s.size) (hbad:s.data.toList.getD 1 0=0\/dS ((s.data.toList.drop 1).take (m-55))<=55):mI s (.error 6):=by
 intro w;have hs:0<s.size:=by omega
 have hnil:(s.toList==[])=false:=by
  rw [beq_eq_false_iff_ne,ByteArray.toList_eq];intro e;rw [bF,e] at hs;simp at hs
 have h0:s[0].toNat=192+m:=by
  rw [<-kJ hs,hm];simp;omega
 obtain ⟨V,hV⟩:=aA (dS ((s.data.toList.drop 1).take (m-55)))
 rw [hV] at hbad;have HV:=hid hV;clear hm hV;go_enter func175,ntmps175;go_wp2;go_loop [4,6] (λv i=>∃ q x:Nat,1<=q/\q<=m-54/\i = .int .i64 q/\v = .int .u64 x/\Hid (x=dS ((s.data.toList.drop 1).take (q-1)))) (λ_ i=>m-(intOf i).toNat)
 case atStart=>exact ⟨1,0,by omega,by omega,rfl,rfl,hid rfl⟩
 case round =>
  obtain ⟨q,x,hq1,hq,rfl,rfl,HX⟩:=hrel;by_cases hlt:q<m-54
  .have de:q<s.size:=by omega
   have hx:x<72057594037927936:=by
    rw [HX.out];exact yQ (uT _) (by rw [List.length_take,List.length_drop]; omega)
   have HS:Hid (bits .or .u64 ((x:Int)*256) (IntKind.u64.wrap (s[q].toNat:Int))=((x*256+s[q].toNat:Nat):Int)):=hid (by rw [<-yF _ _ hx s[q].toNat_lt,show IntKind.u64.wrap ((x:Int)*256)=(x:Int)*256 by rw [IntKind.wrap_u64]; omega]);have HN:Hid (x*256+s[q].toNat=dS ((s.data.toList.drop 1).take (q+1-1))):=hid (by
    rw [show q+1-1=q by omega,mg _ q hq1 (by rw [<-bF]; exact de),iF,<-HX.out,get_at s q de])
   go_wp2;go_round
   case rel=>exact ⟨q+1,_,by omega,by omega,by go_num,by rw [HS.out],hid HN.out⟩
   case measure=>simp [intOf]; omega
  .obtain rfl:q=m-54:=by omega
   have hv:x=V:=by rw [HX.out,<-HV.out,show m-54-1=m-55 by omega]
   have hs1:1<s.size:=by omega
   have h1:s[1].toNat=0\/x<=55:=by
    rw [get_at s 1 hs1,hv];rcases hbad with h | h
    .exact .inl (by rw [h]; rfl)
    .exact .inr h
   subst hv;clear HX HV hbad hlt;by_cases hz:s[1].toNat=0
   .have hb1:((s[1].toNat:Int)==0)=true:=by simp; omega
    clear hz h1;go_wp2_with (go_at_call 139; refine (jq _ _).mono ?_; rintro e w1 ⟨rfl,rfl⟩)
    simp [bodyPost]
   .have hb1:((s[1].toNat:Int)==0)=false:=by simp; omega
    have ID:x<=55:=by omega
    clear hz h1;go_wp2_with (go_at_call 139; refine (jq _ _).mono ?_; rintro e w1 ⟨rfl,rfl⟩)
    simp [bodyPost]
theorem MP (s:aM) (m:Nat) (hm:s.data.toList.headD 0=UInt8.ofNat (128+m)) (z8:56<=m) (h64:m<=63) (hcut:m-54<=s.size) (hbad:s.data.toList.getD 1 0=0\/dS ((s.data.toList.drop 1).take (m-55))<=55):mI s (.error 6):=by
 intro w;have hs:0<s.size:=by omega
 have hnil:(s.toList==[])=false:=by
  rw [beq_eq_false_iff_ne,ByteArray.toList_eq];intro e;rw [bF,e] at hs;simp at hs
 have h0:s[0].toNat=128+m:=by
  rw [<-kJ hs,hm];simp;omega
 obtain ⟨V,hV⟩:=aA (dS ((s.data.toList.drop 1).take (m-55)))
 rw [hV] at hbad;have HV:=hid hV;clear hm hV;go_enter func175,ntmps175;go_wp2;go_loop [4,6] (λv i=>∃ q x:Nat,1<=q/\q<=m-54/\i = .int .i64 q/\v = .int .u64 x/\Hid (x=dS ((s.data.toList.drop 1).take (q-1)))) (λ_ i=>m-(intOf i).toNat)
 case atStart=>exact ⟨1,0,by omega,by omega,rfl,rfl,hid rfl⟩
 case round =>
  obtain ⟨q,x,hq1,hq,rfl,rfl,HX⟩:=hrel;by_cases hlt:q<m-54
  .have de:q<s.size:=by omega
   have hx:x<72057594037927936:=by
    rw [HX.out];exact yQ (uT _) (by rw [List.length_take,List.length_drop]; omega)
   have HS:Hid (bits .or .u64 ((x:Int)*256) (IntKind.u64.wrap (s[q].toNat:Int))=((x*256+s[q].toNat:Nat):Int)):=hid (by rw [<-yF _ _ hx s[q].toNat_lt,show IntKind.u64.wrap ((x:Int)*256)=(x:Int)*256 by rw [IntKind.wrap_u64]; omega]);have HN:Hid (x*256+s[q].toNat=dS ((s.data.toList.drop 1).take (q+1-1))):=hid (by
    rw [show q+1-1=q by omega,mg _ q hq1 (by rw [<-bF]; exact de),iF,<-HX.out,get_at s q de])
   go_wp2;go_round
   case rel=>exact ⟨q+1,_,by omega,by omega,by go_num,by rw [HS.out],hid HN.out⟩
   case measure=>simp [intOf]; omega
  .obtain rfl:q=m-54:=by omega
   have hv:x=V:=by rw [HX.out,<-HV.out,show m-54-1=m-55 by omega]
   have hs1:1<s.size:=by omega
   have h1:s[1].toNat=0\/x<=55:=by
    rw [get_at s 1 hs1,hv];rcases hbad with h | h
    .exact .inl (by rw [h]; rfl)
    .exact .inr h
   subst hv;clear HX HV hbad hlt;by_cases hz:s[1].toNat=0
   .have hb1:((s[1].toNat:Int)==0)=true:=by simp; omega
    clear hz h1;go_wp2_with (go_at_call 139; refine (jq _ _).mono ?_; rintro e w1 ⟨rfl,rfl⟩)
    simp [bodyPost]
   .have hb1:((s[1].toNat:Int)==0)=false:=by simp; omega
    have ID:x<=55:=by omega
    clear hz h1;go_wp2_with (go_at_call 139; refine (jq _ _).mono ?_; rintro e w1 ⟨rfl,rfl⟩)
    simp [bodyPost]
theorem ku (s:aM):mI s (gJ s.data.toList):=by
 obtain ⟨l,hl⟩:=aA s.data.toList
 cases l with
 | nil=>rw [hl]; exact TI s hl
 | cons c t =>
  have hsz:s.size=t.length+1:=by rw [bF,hl]; rfl
  have hh:s.data.toList.headD 0=c:=by rw [hl]; rfl
  have hd1:s.data.toList.drop 1=t:=by rw [hl]; rfl
  have hg1:s.data.toList.getD 1 0=t.headD 0:=by rw [hl]; cases t <;> rfl
  have hc:=c.toNat_lt;have hof:∀ k,c.toNat=k->c=UInt8.ofNat k:=λk e=>by rw [<-e]; simp
  rw [hl];dsimp only [gJ];by_cases h1:c.toNat<128
  .rw [if_pos h1]; exact Pw s c t hl h1
  .rw [if_neg h1];by_cases h2:c.toNat-(if 192<=c.toNat then 192 else 128)<=55
   .rw [if_pos h2]; exact Kt s c t hl h1 h2
   .rw [if_neg h2];by_cases g9:192<=c.toNat
    .simp only [if_pos g9,aK g9] at h2 ⊢;have hcm:c=UInt8.ofNat (192+(c.toNat-192)):=hof _ (by omega);by_cases h3:t.length<c.toNat-192-55
     .rw [if_pos h3];exact NK s (c.toNat-192) (by rw [hh]; exact hcm) (by omega) (by omega) (by omega) (by omega)
     .rw [if_neg h3];by_cases h4:t.headD 0=0\/dS (t.take (c.toNat-192-55))<=55
      .rw [if_pos h4];exact NT s (c.toNat-192) (by rw [hh]; exact hcm) (by omega) (by omega) (by omega) (by rw [hd1,hg1]; exact h4)
      .rw [if_neg h4];have:=IC s (c.toNat-192) (by rw [hh]; exact hcm) (by omega) (by omega) (by omega) (by
        rw [hd1,hg1];exact ⟨λe=>h4 (.inl e),by omega⟩)
       rw [hd1,show c.toNat-192-54=1+(c.toNat-192-55) by omega] at this;exact this
    .simp only [if_neg g9,decide_eq_false g9] at h2 ⊢;have hcm:c=UInt8.ofNat (128+(c.toNat-128)):=hof _ (by omega);by_cases h3:t.length<c.toNat-128-55
     .rw [if_pos h3];exact Mt s (c.toNat-128) (by rw [hh]; exact hcm) (by omega) (by omega) (by omega) (by omega)
     .rw [if_neg h3];by_cases h4:t.headD 0=0\/dS (t.take (c.toNat-128-55))<=55
      .rw [if_pos h4];exact MP s (c.toNat-128) (by rw [hh]; exact hcm) (by omega) (by omega) (by omega) (by rw [hd1,hg1]; exact h4)
      .rw [if_neg h4];have:=Kc s (c.toNat-128) (by rw [hh]; exact hcm) (by omega) (by omega) (by omega) (by
        rw [hd1,hg1];exact ⟨λe=>h4 (.inl e),by omega⟩)
       rw [hd1,show c.toNat-128-54=1+(c.toNat-128-55) by omega] at this;exact this
end Rl
end
section
open Go.RowKit
namespace Rv
def turned (f:Nat->Value) (n k:Nat):Nat->Value:=λj=>if j<n/\(j<k\/n-1-j<k) then f (n-1-j) else f j
theorem ES (f:Nat->Value) (n:Nat):turned f n 0=f:=by
 funext j;simp [turned]
theorem EO (f:Nat->Value) (n k:Nat) (h:k<n-1-k) (j:Nat) :
  (if j=n-1-k then turned f n k k else if j=k then turned f n k (n-1-k) else turned f n k j)=turned f n (k+1) j:=by
 unfold turned
 repeat' split
 all_goals first | rfl | (congr 1; omega) | omega
theorem zP (f:Nat->Value) (n k:Nat) (hf:∀ j,j<n->∃ z:Int,f j = .int .u8 z) (j:Nat) (hj:j<n):∃ z:Int,turned f n k j = .int .u8 z:=by
 unfold turned;split
 .exact hf _ (by omega)
 .exact hf _ hj
theorem IY (f:Nat->Value) (n k:Nat) (h:¬ k<n-1-k) (j:Nat):turned f n k j=turned f n n j:=by
 unfold turned
 repeat' split
 all_goals first | rfl | (congr 1; omega) | omega
theorem LV {w:World} (h:Rg.Upd w g w1) (i:Nat) (v:Value):Rg.Upd w g (w1.setCell ⟨g,i,none⟩ v) :=
 ⟨h.os,h.tape,h.output,by rw [<-h.size]; simp,λk hk=>(Below.heap_setCell w1 ⟨g,i,none⟩ v k hk).trans (h.block k hk)⟩
theorem TQ {w:World} (h:Rg.Upd w g w1):Rg.Upd w g w1.drew:=⟨h.os,h.tape,h.output,h.size,h.block⟩
theorem step {w:World} {n cap m:Nat} {T:TypeId} {f:Nat->Value} (h:wr.rowIs g T cap (turned f n k)/\Rg.Upd w g wr) (hk:k<m) (hm:m+1+k=n) {x y:Value} (hx:turned f n k k=x) (hy:turned f n k m=y) :
  ((wr.setCell ⟨g,k,none⟩ y).setCell ⟨g,m,none⟩ x).drew.rowIs g T cap (turned f n (k+1))/\Rg.Upd w g ((wr.setCell ⟨g,k,none⟩ y).setCell ⟨g,m,none⟩ x).drew:=by
 refine ⟨(((h.1.set k y).set m x).congr (λj _=>?_)).drew,TQ (LV (LV h.2 k y) m x)⟩;rw [<-EO f n k (by omega) j,hx,show n-1-k=m by omega,hy]
theorem Ia (g n cap:Nat) (T:TypeId) (f:Nat->Value) (h0:0<n) (hn:n<=cap) (hcap:cap<=maxLen) (w:World) (h:w.rowIs g T cap f) (hf:∀ j,j<n->∃ z:Int,f j = .int .u8 z) :
  Calls prog 186 #[.slice (some ⟨g,0,none⟩) n cap] w λe w'=>e = .returned (.tuple #[])/\w'.rowIs g T cap (turned f n n)/\Rg.Upd w g w':=by
 unfold maxLen at hcap;go_enter func186,ntmps186;go_wp2;go_loopw [2,3] (λi j wr=>∃ k m:Nat,2*k<=n/\m+1+k=n/\i = .int .i64 k/\j = .int .i64 m/\Hid (wr.rowIs g T cap (turned f n k)/\Rg.Upd w g wr)) (λi _ _=>n-(intOf i).toNat)
 case atStart=>exact ⟨0,n-1,by omega,by omega,by go_num,by go_num,hid ⟨by rw [ES]; exact h,rfl,rfl,rfl,rfl,λ_ _=>rfl⟩⟩
 case round =>
  obtain ⟨k,m,hk,hm,rfl,rfl,HR⟩:=hrel;clear h;by_cases hlt:k<m
  .obtain ⟨hr,hu⟩:=HR.out;have ci:=hr.cell (i:=k) (by omega);have cj:=hr.cell (i:=m) (by omega);have fi:=hr.frozen k;have fj:=hr.frozen m;clear hr hu;obtain ⟨x,hx⟩:=zP f n k hf k (by omega);obtain ⟨y,hy⟩:=zP f n k hf m (by omega);rw [hx] at ci;rw [hy] at cj;have HX:=hid hx;have HY:=hid hy;clear hx hy hf;go_wp2_with fail
   go_region
   go_wp2;go_roundw
   case rel=>exact ⟨k+1,m-1,by omega,by omega,by go_num,by go_num,hid (step HR.out hlt hm HX.out HY.out)⟩
   case measure=>simp [intOf]; omega
  .obtain ⟨hr,hu⟩:=HR.out;have HE:=hid hr;have HU:=hid hu;clear hr hu HR;go_wp2;go_end0;exact ⟨rfl,HE.out.congr (λj _=>IY f n k (by omega) j),HU.out⟩
end Rv
end
section
open Go.RowKit
namespace Cc
theorem jS:(prog.info? 5).map (λi=>(i.zero,i.size,i.bytes))=some (some (.int .u8 0),1,1):=by kernel_rfl
def rF (w:World) (l:aN) (e:Ending) (w':World):Prop :=
 ∃ v,e = .returned v/\w'.ownsRow w.heap.size 5 1 v l.length (l.map λx=>Value.int .u8 x.toNat)/\Below w.heap.size w w'
theorem Oi (w:World) :
  Calls prog 180 #[.slice none 0 0,.int .i64 0] w (rF w []):=by
 go_enter func180,ntmps180;go_wp2;go_ret;exact ⟨_,rfl,World.ownsRow_nil _ _ _ _,aI⟩
theorem RD (n:Nat) (h0:0<n) (hn:n<=1099511627776) (w:World) :
  Calls prog 180 #[.slice none 0 0,.int .i64 n] w (rF w []):=by
 obtain ⟨i0,hi,hz0,hz1,hz2⟩:=info_parts jS;have hr:=Lib.run_append_nil_zeros (P:=prog) w 35 3 35 5 i0 (.int .u8 0) .i64 .i64 underlying35 underlying3 hi hz0 n h0 (by omega) (by omega) (by rw [hz2]; omega);have hge:=grownCap_ge w n 0 5;have hle:=grownCap_le_maxLen w n 0 5 (by unfold maxLen; omega)
 have HO:Hid ((w.drew.alloc (.cells (Builtin.zeroCells (Value.int IntKind.u8 0).cells n++Builtin.zeroCells (Value.int IntKind.u8 0).cells (grownCap w n 0 5-n)) 5)).ownsRow w.heap.size 5 1 (.slice (some ⟨w.heap.size,0,none⟩) 0 (grownCap w n 0 5)) 0 []):=hid (by
  refine ⟨rfl,.inr ⟨w.heap.size,_,_,rfl,aH,heap_alloc_new w.drew _,Nat.zero_le _,hle,?_,by simp⟩⟩;have hz1:(Value.int IntKind.u8 0).cells.size=1:=rfl;simp only [Array.size_append,size_zeroCells,hz1];omega)
 obtain ⟨c,hc⟩:=aA (grownCap w n 0 5)
 rw [hc] at hr hge hle HO;obtain ⟨o,ho⟩:=aA (Obj.cells (Builtin.zeroCells (Value.int IntKind.u8 0).cells n++Builtin.zeroCells (Value.int IntKind.u8 0).cells (c-n)) 5)
 rw [ho] at hr HO;have HR:=hid hr;clear hr ho hc hi hz0 hz1 hz2;unfold maxLen at hle;go_enter func180,ntmps180;go_wp2_with (at_builtin; refine Lib.wpList_append_run _ rfl _ _ _ _ rfl _ _ rfl rfl _ _ HR.out ?_)
 go_wp2;go_ret;exact ⟨_,rfl,HO.out,(Below.drew aI).alloc aH _⟩
theorem Tw (n:Nat) (hn:n<=1099511627776) (w:World) :
  Calls prog 180 #[.slice none 0 0,.int .i64 n] w (rF w []):=by
 by_cases h0:n=0
 .subst h0; exact Oi w
 .exact RD n (by omega) hn w
def zF (w:World) (a:aL) (n:Nat) (ls:List (aN)):Prop :=
 ls.length=n/\∀ j,j<n->∃ b off,a=some ⟨b,off,none⟩/\b<w.heap.size/\∃ a' n' c',w.cell? ⟨b,off+j,none⟩=some (.slice a' n' c')/\bf w a' n' c' (ls.getD j [])
def kH (ls:List (aN)) (k:Nat):aN:=(ls.take k).flatten
theorem yZ (ls:List (aN)) (k:Nat) (h:k<ls.length):kH ls (k+1)=kH ls k++ls.getD k []:=by
 unfold kH;have e:ls.getD k []=ls[k]:=by simp [List.getD,h]
 rw [List.take_succ_eq_append_getElem h,e,List.flatten_append];congr 1;exact List.append_nil _
theorem zw (ls:List (aN)) (k:Nat):(kH ls k).length<=ls.flatten.length:=by
 unfold kH
 conv=>rhs; rw [<-List.take_append_drop k ls]
 rw [List.flatten_append,List.length_append];exact Nat.le_add_right _ _
theorem Bv {w:World} {a:aL} {n cap:Nat} {l:aN} (h:bf w a n cap l) (ad:Addr) (ha:a=some ad) :
  ∀ j u,(l.map λx=>Value.int .u8 x.toNat)[j]? = some u->w.cell? (ad.add j)=some u:=by
 intro j u hu;have hl:=h.len;have hj:j<n:=by
  rcases Nat.lt_or_ge j n with h' | h'
  .exact h'
  .rw [List.getElem?_eq_none (by simp [hl]; exact h')] at hu; cases hu
 obtain ⟨b,off,h1,_,h3⟩:=h.at' j hj;rw [ha] at h1;injection h1 with h1;subst h1;have e:(⟨b,off,none⟩:Addr).add j=⟨b,off+j,none⟩:=by unfold Addr.add; split <;> simp_all
 rw [e,h3];rw [<-hu];simp [List.getD,hl,hj]
theorem Bp (a:aL) (n cap:Nat) (ls:List (aN)) (hn:n<=1000000) (hL:ls.flatten.length<=1099511627776) (w:World) (h:zF w a n ls) :
  Calls prog 169 #[.slice a n cap] w (rF w ls.flatten):=by
 have H:=hid h;have HN:=hid h.1;have HL:=hid hL;obtain ⟨i0,hi,hz0,hz1,hz2⟩:=info_parts jS;have HI:Hid (_/\_/\_/\_):=hid ⟨hi,hz0,hz1,hz2⟩;clear h hL hi hz0 hz1 hz2;go_enter func169,ntmps169;go_wp2;go_loop [3,11] (λs i=>∃ k:Nat,k<=n/\i = .int .i64 k/\s = .int .i64 ((kH ls k).length:Nat)) (λ_ i=>n-(intOf i).toNat)
 case atStart=>exact ⟨0,Nat.zero_le _,rfl,rfl⟩
 case round =>
  obtain ⟨k,hk,rfl,rfl⟩:=hrel;by_cases hlt:k<n
  .obtain ⟨b,off,rfl,hb,a',n',c',hc,hx⟩:=H.out.2 k hlt;have hj:=yZ ls k (by rw [HN.out]; exact hlt);have hl1:=zw ls (k+1);have hl2:=HL.out;have hxl:=hx.len;have hs:(kH ls (k+1)).length=(kH ls k).length+n':=by rw [hj,List.length_append,hxl]
   obtain ⟨p,hp⟩:=aA ((kH ls k).length)
   have hpn:p+n'<=1099511627776:=by omega
   rw [hp] at hs ⊢;have HS:=hid hs;clear hs hj hl1 hl2 hxl hp hx;go_wp2;go_round
   case rel=>exact ⟨k+1,by omega,by go_num,by rw [HS.out]; go_num⟩
   case measure=>simp [intOf]; omega
  .obtain rfl:k=n:=by omega
   have hlen:(kH ls k).length<=1099511627776:=Nat.le_trans (zw ls k) HL.out;clear hlt hk;obtain ⟨p,hp⟩:=aA ((kH ls k).length)
   rw [hp] at hlen ⊢;clear hp;go_wp2_with fail
   refine (Tw p hlen _).mono ?_;rintro e w1 ⟨v,rfl,hown,hb1⟩;go_wp2;go_loopw [6,27] (λv i wr=>∃ q:Nat,q<=k/\i = .int .i64 q/\Hid (wr.ownsRow w.heap.size 5 1 v (kH ls q).length ((kH ls q).map λx=>Value.int .u8 x.toNat))/\Below w.heap.size w wr) (λ_ i _=>k-(intOf i).toNat)
   case atStart=>exact ⟨0,Nat.zero_le _,rfl,hid hown,hb1⟩
   case round =>
    obtain ⟨q,hq,rfl,HO,hB⟩:=hrel;by_cases z9:q<k
    .obtain ⟨b,off,rfl,hb,a',n',c',hc,hx⟩:=H.out.2 q z9;have hj:=yZ ls q (by rw [HN.out]; exact z9);have hl1:=zw ls (q+1);have hl2:=HL.out;have hxl:=hx.len;have hs:(kH ls (q+1)).length=(kH ls q).length+n':=by rw [hj,List.length_append,hxl]
     have hbd:(kH ls q).length+n'<=1099511627776:=by omega
     have hc2:wr.cell? ⟨b,off+q,none⟩=some (.slice a' n' c'):=by rw [hB.cell (p:=⟨b,off+q,none⟩) hb]; exact hc
     have hx2:=hid (Bv (hx.below hB));have HS:=hid hs;have HJ:=hid hj;have hsz:=hB.size;clear hs hj hl1 hl2 hxl hc;rcases a' with _ | ad
     .obtain ⟨rfl,rfl,hnil⟩:=hx.Ej;have HJ2:Hid (kH ls (q+1)=kH ls q):=hid (by rw [HJ.out,hnil,List.append_nil]);clear hx hnil hbd;go_wp2_with (at_builtin; refine wpList_append_own_none rfl _ _ 35 rfl w.heap.size 5 i0 1 underlying35 HI.out.1 _ _ _ rfl HO.out rfl ?_)
      go_wp2;go_roundw
      case rel=>exact ⟨q+1,by omega,by go_num,by rw [HJ2.out]; exact HO,hB⟩
      case measure=>simp [intOf]; omega
     .have HX:=hid hx.len;clear hx;go_wp2_with (at_builtin; refine wpList_append_own _ rfl _ _ 35 rfl w.heap.size 5 i0 (.int .u8 0) 1 1 underlying35 HI.out.1 HI.out.2.1 HI.out.2.2.1 HI.out.2.2.2 rfl (by decide) _ _ _ rfl HO.out ad n' c' ((ls.getD q []).map λx=>Value.int .u8 x.toNat) rfl ?c0 ?c1 ?c2 ?c3 ?c4 ?c5 ?_)
      case c0=>rw [List.length_map,Nat.mul_one]; exact HX.out
      case c1=>exact hx2.out ad rfl
      case c2=>intro u hu; simp at hu; obtain ⟨_,_,rfl⟩:=hu; rfl
      case c3=>unfold maxLen; omega
      case c4=>omega
      case c5=>exact hsz
      intro v' w2 hown2 hgrow _;have hlt':=HO.out.lt;go_wp2;go_roundw
      case rel =>
       refine ⟨q+1,by omega,by go_num,hid ?_,hB.grown hgrow hsz (λg hg=>(hlt' g hg).1)⟩;rw [HS.out,HJ.out,List.map_append];exact hown2
      case measure=>simp [intOf]; omega
    .obtain rfl:q=k:=by omega
     have HE:Hid (kH ls q=ls.flatten):=hid (by
      unfold kH; rw [List.take_of_length_le (by rw [HN.out]; exact aH)])
     have hO:=HO.out;rw [HE.out] at hO;have HG:=hid hO;clear hO;go_wp2;go_ret;exact ⟨_,rfl,HG.out,hB⟩
end Cc
end
section
open Go.RowKit
namespace Bu
theorem LH:(prog.info? 167).map (·.size)=some 2:=by kernel_rfl
theorem VK:liesAt prog prog.depth 167 (2/prog.cellsOf 167) 0 167 1=true:=by kernel_rfl
theorem wH:(prog.info? 5).map (λi=>(i.zero,i.size,i.bytes))=some (some (.int .u8 0),1,1):=by kernel_rfl
theorem Ko:prog.cellsOf 5=1:=by kernel_rfl
def Is (B b:Nat) (bs:List Value) (w:World):Prop:=Lib.IsBuilder 167 5 B b bs w
theorem fresh {B b:Nat} {w:World} (hB:B<=b) (h:w.heap[b]? = some (.cells #[.pointer none,.slice none 0 0] 167 (0,0))):Is B b [] w :=
 Or.inl ⟨hB,.slice none 0 0,h,World.ownsRow_nil _ _ _ _,by simp [Value.ownBlock]⟩
theorem JN (b:Nat) (w:World) (h0:w.cell? ⟨b,0,none⟩=some (.pointer (some ⟨b,0,none⟩))) :
  Calls prog 165 #[.pointer (some ⟨b,0,none⟩)] w λe w'=>e = .returned (.tuple #[])/\w'=w:=by
 obtain ⟨j,hj,_⟩:=Option.map_eq_some_iff.1 LH;go_enter func165,ntmps165;go_wp2;rw [Lib.run_neq_ptr_same w _ underlying165 hj];go_wp2;go_end0;exact ⟨rfl,rfl⟩
theorem Gj (b:Nat) (w:World) (h0:w.cell? ⟨b,0,none⟩=some (.pointer none)) (hsh:w.shape? b=some (167,2)) (hfz:w.frozen? ⟨b,0,none⟩=false) :
  Calls prog 165 #[.pointer (some ⟨b,0,none⟩)] w λe w'=>e = .returned (.tuple #[])/\w'=w.setCell ⟨b,0,none⟩ (.pointer (some ⟨b,0,none⟩)):=by
 obtain ⟨j,hj,hjs⟩:=Option.map_eq_some_iff.1 LH;have hto:=Lib.run_to_unsafe (P:=prog) w ⟨b,0,none⟩ underlying165 underlying234 hj (by rw [hjs]; decide) hsh (Nat.zero_lt_succ 1);have R1:=Lib.run_from_unsafe (P:=prog) w ⟨b,0,none⟩ underlying234 underlying165 hj hsh VK;have hno:∀ (a:Addr) (wx:World),(callFunc 178 #[.pointer (some a)]).run prog wx = .ok (.value (.pointer (some a))) wx:=λa wx=>by
  rw [run_callFunc_extern func178 (by kernel_rfl) (by kernel_rfl) (by kernel_rfl) (e:=Extern.AbiNoEscape.same) (by kernel_rfl),Lib.run_noEscape];rfl
 clear hj hjs;go_enter func165,ntmps165;go_wp2;go_end0;exact ⟨rfl,rfl⟩
theorem check {B b:Nat} {w:World} (h:Is B b bs w) :
  Calls prog 165 #[.pointer (some ⟨b,0,none⟩)] w λe w'=>e = .returned (.tuple #[])/\(Lib.BuilderAt 167 5 B b (.pointer (some ⟨b,0,none⟩)) bs w'/\Below B w w'/\Lib.OthersKept 5 (some b) w w'):=by
 rcases h with h | h
 .refine (Gj b w h.cell0 h.shape h.frozen0).mono ?_;rintro e w' ⟨rfl,rfl⟩;exact ⟨rfl,h.used _,(Below.refl B w).setCell (p:=⟨b,0,none⟩) h.1 _,(Lib.OthersKept.refl _ _ _).setCell ⟨b,0,none⟩ rfl _⟩
 .refine (JN b w h.cell0).mono ?_;rintro e w' ⟨rfl,rfl⟩;exact ⟨rfl,h,Below.refl B _,Lib.OthersKept.refl _ _ _⟩
theorem Fh {w:World} {B:Nat} {n:Nat} {xs:List Value} (h:w.ownsRow B e 1 v n xs):∀ g,v.ownBlock=some g->∃ c fz,w.heap[g]? = some (.cells c e fz):=by
 intro g hg;rcases h.2 with ⟨rfl,_⟩ | ⟨g',cap,cur,rfl,_,hgg,_⟩
 .simp [Value.ownBlock] at hg
 .simp [Value.ownBlock] at hg;subst hg;exact ⟨cur,_,hgg⟩
theorem Is.Tv {B b:Nat} {w:World} (h:Is B b bs w) {cs:aO} {T:TypeId} {fr:Nat × Nat} (hk:w.heap[k]? = some (.cells cs T fr)) (hT:T≠167):k≠b:=by
 intro e;subst e;rcases h with ⟨_,v,hb,_⟩ | ⟨_,v,hb,_⟩ <;> (rw [hb] at hk; simp at hk; exact hT hk.2.1.symm)
theorem Is.kept {B b:Nat} {bs:List Value} {w w':World} (h:Is B b bs w) (hg:w.grownBy w' none):Is B b bs w':=by
 rcases h with ⟨hB,v,hb,ho,hn⟩ | ⟨hB,v,hb,ho,hn⟩
 .have hlt:b<w.heap.size:=(Array.getElem?_eq_some_iff.1 hb).1;exact Or.inl ⟨hB,v,by rw [hg.block b hlt (by simp)]; exact hb,ho.kept hg (by cases v.ownBlock <;> simp),hn⟩
 .have hlt:b<w.heap.size:=(Array.getElem?_eq_some_iff.1 hb).1;exact Or.inr ⟨hB,v,by rw [hg.block b hlt (by simp)]; exact hb,ho.kept hg (by cases v.ownBlock <;> simp),hn⟩
theorem kG {w w':World} (h:Below w.heap.size w w'):w.grownBy w' none:=⟨h.os,h.tape,h.output,h.size,λk hk _=>h.block k hk⟩
theorem OI (W:World) (q:aL):(Builtin.unsafeString_ #[207,3] 9 #[.pointer q,.int .i64 0]).run prog W = .ok (.string .empty) W :=
 Lib.run_unsafeString_none W _ _ _ q
theorem text {B b:Nat} {l:aN} {w:World} (h:Is B b (Lib.byteCells l) w) (hBw:B<=w.heap.size) :
  Calls prog 101 #[.pointer (some ⟨b,0,none⟩)] w λe w'=>e = .returned (.string ⟨l.toArray⟩)/\Below B w w':=by
 obtain ⟨p,hB,v,hbk,hown,hne⟩:∃ p,Lib.BuilderAt 167 5 B b p (Lib.byteCells l) w:=by
  rcases h with h | h
  .exact ⟨_,h⟩
  .exact ⟨_,h⟩
 rw [Lib.byteCells_length] at hown;have IF:=OI;by_cases h0:l=[]
 .subst h0;rcases hown.2 with ⟨rfl,hz⟩ | ⟨g,cap,cur,rfl,hbg,hg,hnc,hcm,hcs,htake⟩
  .have c1:w.drew.cell? ⟨b,1,none⟩=some (.slice none 0 0):=by
    have:w.drew.heap[b]? = some (.cells #[p,.slice none 0 0] 167 (0,0)):=hbk;rw [Lib.cell_of_heap this]; rfl
   have hSD:(Builtin.unsafeSliceData_ #[35] 207 #[.slice none 0 0]).run prog w.drew = .ok (.pointer none) w.drew:=rfl;clear hown hbk hne hBw;go_enter func101,ntmps101;go_wp2;go_region
   all_goals (go_wp2; go_ret; exact ⟨rfl,Below.drew (Below.refl B w)⟩)
  .have hlt:b<w.heap.size:=by
    rcases Nat.lt_or_ge b w.heap.size with h' | h'
    .exact h'
    .simp [Array.getElem?_eq_none h'] at hbk
   have hg':w.drew.heap[g]? = some (.cells cur 5 (0,0)):=hg;by_cases hc0:cap=0
   .subst hc0;have c1:w.drew.cell? ⟨b,1,none⟩=some (.slice (some ⟨g,0,none⟩) 0 0):=by
     have:w.drew.heap[b]? = some (.cells #[p,.slice (some ⟨g,0,none⟩) 0 0] 167 (0,0)):=hbk;rw [Lib.cell_of_heap this]; rfl
    have hSD:(Builtin.unsafeSliceData_ #[35] 207 #[.slice (some ⟨g,0,none⟩) 0 0]).run prog w.drew = .ok (.pointer (some ⟨w.drew.heap.size,0,none⟩)) (w.drew.alloc (.view ⟨g,0,none⟩ 5)) :=
     Lib.run_unsafeSliceData_zero w.drew _ _ 5 underlying207 ⟨g,0,none⟩ 0 (5,cur.size) (by simp [World.shape?,hg'])
    have c2:(w.drew.alloc (.view ⟨g,0,none⟩ 5)).cell? ⟨b,1,none⟩=some (.slice (some ⟨g,0,none⟩) 0 0):=by
     have:(w.drew.alloc (.view ⟨g,0,none⟩ 5)).heap[b]? = _:=(Lib.alloc_old w.drew _ b hlt).trans hbk;rw [Lib.cell_of_heap this]; rfl
    have c3:(w.alloc (.view ⟨g,0,none⟩ 5)).drew.cell? ⟨b,1,none⟩=some (.slice (some ⟨g,0,none⟩) 0 0):=c2;have c0:w.cell? ⟨b,1,none⟩=some (.slice (some ⟨g,0,none⟩) 0 0):=c1;clear hown hbk hne hnc hcm hcs htake hg hg' hlt;go_enter func101,ntmps101;go_wp2;go_region
    all_goals (go_wp2; go_ret; exact ⟨rfl,(Below.drew (Below.refl B w)).alloc hBw _⟩)
   .have c1:w.drew.cell? ⟨b,1,none⟩=some (.slice (some ⟨g,0,none⟩) 0 cap):=by
     have:w.drew.heap[b]? = some (.cells #[p,.slice (some ⟨g,0,none⟩) 0 cap] 167 (0,0)):=hbk;rw [Lib.cell_of_heap this]; rfl
    have hSD:(Builtin.unsafeSliceData_ #[35] 207 #[.slice (some ⟨g,0,none⟩) 0 cap]).run prog w.drew = .ok (.pointer (some ⟨g,0,none⟩)) w.drew :=
     Lib.run_unsafeSliceData_row _ _ _ _ _ _ hc0
    clear hown hbk hne hnc hcm hcs htake hg hg' hlt hc0 hBw;go_enter func101,ntmps101;go_wp2;go_region
    all_goals (go_wp2; go_ret; exact ⟨rfl,Below.drew (Below.refl B w)⟩)
 .have hl0:l.length≠0:=by simpa using h0
  obtain ⟨g,cap,cur,rfl,hbg,hg,hnc,hcm,hcs,htake⟩:∃ g cap cur,v = .slice (some ⟨g,0,none⟩) l.length cap/\B<=g/\w.heap[g]? = some (.cells cur 5 (0,0))/\l.length<=cap/\cap<=maxLen/\cur.size=cap*1/\cur.toList.take (l.length*1)=Lib.byteCells l:=by
   rcases hown.2 with ⟨_,hz⟩ | ⟨g,cap,cur,hv,r⟩
   .exact absurd hz hl0
   .exact ⟨g,cap,cur,hv,r⟩
  have c1:w.drew.cell? ⟨b,1,none⟩=some (.slice (some ⟨g,0,none⟩) l.length cap):=by
   have:w.drew.heap[b]? = some (.cells #[p,.slice (some ⟨g,0,none⟩) l.length cap] 167 (0,0)):=hbk;rw [Lib.cell_of_heap this]; rfl
  have hg':w.drew.heap[g]? = some (.cells cur 5 (0,0)):=hg;have hSD:(Builtin.unsafeSliceData_ #[35] 207 #[.slice (some ⟨g,0,none⟩) l.length cap]).run prog w.drew = .ok (.pointer (some ⟨g,0,none⟩)) w.drew :=
   Lib.run_unsafeSliceData_row _ _ _ _ _ _ (by omega)
  have hUS:(Builtin.unsafeString_ #[207,3] 9 #[.pointer (some ⟨g,0,none⟩),.int .i64 l.length]).run prog w.drew = .ok (.string ⟨l.toArray⟩) (w.drew.freeze ⟨g,0,none⟩ l.length):=by
   refine Lib.run_unsafeString_row w.drew 207 3 9 5 underlying207 Ko g cur.size (by simp [World.shape?,hg']) l h0 (by omega) (by unfold maxLen at hcm; omega) ?_;intro j x hx;have:=hown.cells (g:=g) rfl j (.int .u8 x.toNat) (by simp [Lib.byteCells,hx]);exact this
  clear hown hbk hne hnc hcm hcs htake hg hg' h0 hl0 hBw IF;go_enter func101,ntmps101;go_wp2;go_region
  all_goals (go_wp2; go_ret; exact ⟨rfl,Lib.below_freeze (Below.drew (Below.refl B w)) (p:=⟨g,0,none⟩) hbg _⟩)
theorem cell_one_new' (w:World) (v:Value) (t:TypeId) (fz:Nat × Nat):∀ j u,[v][j]? = some u->(w.alloc (.cells #[v] t fz)).cell? ((⟨w.heap.size,0,none⟩:Addr).add j)=some u:=by
 intro j u hj
 match j,hj with
 | 0,hj=>simp at hj; subst hj; simp [Addr.add,World.cell?_alloc_mark]
theorem Mi {B b:Nat} {w:World} (c:Int) (h:Is B b bs w) (hlen:bs.length+1<=140737488355328) (hBw:B<=w.heap.size) :
  Calls prog 168 #[.pointer (some ⟨b,0,none⟩),.int .u8 c] w λe w'=>e = .returned .nilIface/\(Is B b (bs++[.int .u8 c]) w'/\Below B w w'/\Lib.OthersKept 5 (some b) w w'):=by
 obtain ⟨i0,hi,hz0,hz1,hz2⟩:=info_parts wH;go_enter func168,ntmps168;go_wp2_with (go_at_call 165; refine (check h).mono ?_)
 rintro e w1 ⟨rfl,h1,hb1,hk1⟩;obtain ⟨hB,v,hbk,hown,hne⟩:=h1;have c0:w1.cell? ⟨b,0,none⟩=some (.pointer (some ⟨b,0,none⟩)):=by rw [Lib.cell_of_heap hbk]; rfl
 have c1:w1.cell? ⟨b,1,none⟩=some v:=by rw [Lib.cell_of_heap hbk]; rfl
 have hlt:b<w1.heap.size:=by
  rcases Nat.lt_or_ge b w1.heap.size with h' | h'
  .exact h'
  .simp [Array.getElem?_eq_none h'] at hbk
 go_wp2_with (at_builtin; refine wpList_append_own _ rfl _ _ 35 rfl B 5 i0 (.int .u8 0) 1 1 underlying35 hi hz0 hz1 hz2 rfl (by decide) _ _ _ rfl (hown.alloc _) ⟨w1.heap.size,0,none⟩ 1 1 [.int .u8 c] rfl rfl ?c1 ?c2 ?c3 ?c4 ?c5 ?_)
 case c1=>exact cell_one_new' _ _ _ _
 case c2=>intro u hu; simp at hu; subst hu; rfl
 case c3=>unfold maxLen; omega
 case c4=>omega
 case c5=>have:=hb1.size; simp; omega
 intro v' w2 hown' hgrow _;have hb2:w2.heap[b]? = some (.cells #[.pointer (some ⟨b,0,none⟩),v] 167 (0,0)):=by
  rw [hgrow.block b (by simp; omega) (λe=>hne e.symm),Lib.alloc_old w1 _ b hlt];exact hbk
 have d1:w2.cell? ⟨b,1,none⟩=some v:=by rw [Lib.cell_of_heap hb2]; rfl
 have f1:w2.frozen? ⟨b,1,none⟩=false:=Lib.frozen_of_heap hb2 1;obtain ⟨ao,n',cap,rfl⟩:∃ ao n' cap,v' = .slice ao n' cap:=by
  rcases hown'.2 with ⟨hv,_⟩ | ⟨g,cap,cur,hv,_⟩
  .exact ⟨_,_,_,hv⟩
  .exact ⟨_,_,_,hv⟩
 go_wp2;go_ret;refine ⟨rfl,Or.inr ?_,?_,?_⟩
 .exact Lib.BuilderAt.put (T:=167) (e:=5) hB hb2 (bs':=bs++[.int .u8 c]) (by simpa using hown') (by decide)
 .exact ((hb1.alloc (by have:=hb1.size; omega) _).grown hgrow (by have:=hb1.size; simp; omega) (λk hk=>(hown.lt k hk).1)).setCell (p:=⟨b,1,none⟩) hB _
 .exact ((hk1.alloc _).grown hgrow (Fh (hown.alloc _))).setCell ⟨b,1,none⟩ rfl _
end Bu
end
section
open Go.RowKit
namespace Rl
def dig (n:Nat):aN:=if n=0 then [] else UInt8.ofNat n::dig (n/256)
termination_by n
decreasing_by omega
theorem uS:dig 0=[]:=by rw [dig]; rfl
theorem yG {n:Nat} (h:0<n):dig n=UInt8.ofNat n::dig (n/256):=by rw [dig,if_neg (by omega)]
theorem zh (k:Nat):∀ n,n<256 ^ k->(dig n).length<=k:=by
 induction k with
 | zero =>
  intro n hn;obtain rfl:n=0:=by simpa using hn
  simp [uS]
 | succ k ih =>
  intro n hn;by_cases h:n=0
  .subst h; simp [uS]
  .rw [yG (by omega)];have:=ih (n/256) (by rw [Nat.pow_succ] at hn; omega);simp; omega
def iI (n:Nat):aN:=(dig n).reverse
theorem mP {n:Nat} (h:n<2 ^ 64):(iI n).length<=8:=by
 unfold iI;rw [List.length_reverse];exact zh 8 n (by simpa using h)
theorem uZ {n:Nat} (h:0<n):iI n=iI (n/256)++[UInt8.ofNat n]:=by
 unfold iI;rw [yG h];simp
theorem rZ:iI 0=[]:=by unfold iI; rw [uS]; rfl
def KA (l:aN):List Value:=l.map λx=>Value.int .u8 x.toNat
theorem MW (l:aN) (n:Nat):KA l++[.int .u8 (IntKind.u8.wrap (n:Int))]=KA (l++[UInt8.ofNat n]):=by
 unfold KA;rw [List.map_append];simp [IntKind.wrap_u8]
theorem rJ {w:World} {B:Nat} {n:Nat} {l:aN} (h:w.ownsRow B t 1 v n (KA l)) (h0:0<n) :
  ∃ g cap f,v = .slice (some ⟨g,0,none⟩) n cap/\B<=g/\n<=cap/\cap<=maxLen/\w.rowIs g t cap f/\∀ j,j<n->f j = .int .u8 ((l.getD j 0).toNat:Int):=by
 have hl:l.length=n:=by simpa [KA] using h.1
 rcases h.2 with ⟨rfl,hz⟩ | ⟨g,cap,cur,rfl,hbg,hg,hnc,hcm,hcs,htake⟩
 .omega
 .refine ⟨g,cap,λj=>cur.getD j undef,rfl,hbg,hnc,hcm,⟨cur,hg,by simpa using hcs,λi hi=>?_⟩,λj hj=>?_⟩
  .have:i<cur.size:=by omega
   simp [this]
  .have:=h.cells (g:=g) rfl j (.int .u8 (l.getD j 0).toNat) (by simp [KA,List.getD,hl,hj]);have e:(⟨g,0,none⟩:Addr).add j=⟨g,0+j,none⟩:=by unfold Addr.add; split <;> simp_all
   rw [e] at this;simp [World.cell?,hg] at this;simp [this]
theorem PG {w:World} {cap:Nat} {f:Nat->Value} {l:aN} (h:w.rowIs g t cap (Rv.turned f l.length l.length)) (hnc:l.length<=cap) (hcm:cap<=maxLen) (hf:∀ j,j<l.length->f j = .int .u8 ((l.getD j 0).toNat:Int)) :
  bf w (some ⟨g,0,none⟩) l.length cap l.reverse:=by
 refine ⟨hnc,hcm,by simp,λe=>(by cases e),λj hj=>⟨g,0,rfl,h.lt,?_⟩⟩;rw [Nat.zero_add,h.cell (by omega)];unfold Rv.turned;rw [if_pos ⟨hj,.inl hj⟩,hf _ (by omega)];simp [List.getD,hj,show l.length-1-j<l.length by omega]
theorem Jv (n:Nat) (h0:0<n) (hn:n<2 ^ 64) (w:World) :
  Calls prog 179 #[.int .u64 n] w λe w'=>e = .returned (.string ⟨(iI n).toArray⟩)/\Below w.heap.size w w':=by
 obtain ⟨i0,hi,hz0,hz1,hz2⟩:=info_parts Cc.jS;have HI:Hid (_/\_/\_/\_):=hid ⟨hi,hz0,hz1,hz2⟩;have HL:Hid ((dig n).length<=8):=hid (zh 8 n (by simpa using hn));have HP:Hid (0<(dig n).length):=hid (by rw [yG h0]; simp);clear hi hz0 hz1 hz2;go_enter func179,ntmps179;go_wp2;go_loopw [0,3] (λi v wr=>∃ (x:Nat) (l:aN),x<2 ^ 64/\i = .int .u64 x/\Hid (l++dig x=dig n)/\Hid (wr.ownsRow w.heap.size 5 1 v l.length (KA l))/\Below w.heap.size w wr) (λi _ _=>(intOf i).toNat)
 case atStart=>exact ⟨n,[],hn,rfl,hid rfl,hid (World.ownsRow_nil _ _ _ _),aI⟩
 case round =>
  obtain ⟨x,l,hx,rfl,HD,HO,hB⟩:=hrel;have hsz:=hB.size;have HB:=hid hB;clear hB;by_cases hlt:0<x
  .have FG:Hid ((l++[UInt8.ofNat x])++dig (x/256)=dig n):=hid (by rw [<-HD.out,yG hlt]; simp);have Zi:l.length<=8:=by
    have:=congrArg List.length HD.out;have h8:=HL.out;rw [List.length_append] at this;omega
   have HE:=hid (MW l x);go_wp2_with (at_builtin; refine wpList_append_own _ rfl _ _ 35 rfl w.heap.size 5 i0 (.int .u8 0) 1 1 underlying35 HI.out.1 HI.out.2.1 HI.out.2.2.1 HI.out.2.2.2 rfl (by decide) _ _ _ rfl (HO.out.alloc _) ⟨wr.heap.size,0,none⟩ 1 1 [.int .u8 (IntKind.u8.wrap (x:Int))] rfl rfl ?c1 ?c2 ?c3 ?c4 ?c5 ?_)
   case c1=>exact Bu.cell_one_new' _ _ _ _
   case c2=>intro u hu; simp at hu; subst hu; rfl
   case c3=>unfold maxLen; omega
   case c4=>omega
   case c5=>simp; omega
   intro v' w2 hown2 hgrow _;have hlt':=HO.out.lt;go_wp2;go_roundw
   case rel => 
    exact ⟨x/256,l++[UInt8.ofNat x],by omega,by go_num,hid FG.out,hid (by rw [List.length_append,<-HE.out]; exact hown2),(HB.out.alloc hsz _).grown hgrow (by simp; omega) (λg hg=>(hlt' g hg).1)⟩
   case measure=>simp [intOf]; omega
  .obtain rfl:x=0:=by omega
   have hd:=HD.out;rw [uS,List.append_nil] at hd;obtain ⟨g,cap,f,rfl,hgB,hnc,hcm,hrow,hf⟩:=rJ HO.out (by rw [hd]; exact HP.out);have X2:=hid (Rv.Ia g l.length cap 5 f (by rw [hd]; exact HP.out) hnc hcm wr hrow (λj hj=>⟨_,hf j hj⟩));have HF:=hid hf;have HN:Hid (l=dig n):=hid hd;clear hf hrow hd;go_wp2_with (go_at_call 186; refine X2.out.mono ?_; rintro e w1 ⟨rfl,hr1,hu1⟩; have hcv:=gY (PG hr1 hnc hcm HF.out); have HU:=hid hu1; clear hr1 hu1)
   go_ret;refine ⟨by rw [HN.out]; rfl,HU.out.below HB.out hgB⟩
theorem LK {a:Act} {w:World} (hw:Region.wanted o (yielded ops a.tmps)=true)
  (ho:∃ x,o.op = .buildSlice 35 1 #[(0,x)]/\a.eval x = .int .u8 z) (hz:0<=z/\z<256)
  (h:∀ w' b,bf w' (some ⟨b,0,none⟩) 1 1 [UInt8.ofNat z.toNat]->Below w.heap.size w w'->K (a.put o.dst (.slice (some ⟨b,0,none⟩) 1 1)) w'):if Region.wanted o (yielded ops a.tmps)=true then Oper.wp prog o a w K Q else K (a.put o.dst undef) w:=by
 obtain ⟨x,ho,hx⟩:=ho;have hb:bf (w.alloc (.cells #[.int .u8 z] 5)) (some ⟨w.heap.size,0,none⟩) 1 1 [UInt8.ofNat z.toNat]:=bf.new w [UInt8.ofNat z.toNat] (by unfold maxLen; simp) _ _ (by
  simp;omega)
 obtain ⟨i0,hi,hz0,hz1,hz2⟩:=info_parts Cc.jS;refine Rg.want hw (wp_buildSlice 35 5 1 _ ho #[.int .u8 z] i0 (.int .u8 0) underlying35 hi hz0 (by rw [hz1]; decide) (by rw [hz1]; decide) ?_ (h _ _ hb (al1 _ _)));simp only [List.map_toArray,List.map_cons,List.map_nil,hx,hz1];kernel_rfl
theorem UM (n:Nat):n<2 ^ 63->∀ w:World,Calls prog 114 #[.int .i64 n] w λe w'=>e = .returned (.string ⟨(iI n).toArray⟩)/\Below w.heap.size w w':=by
 induction n using Nat.strongRecOn with
 | ind n ih =>
  intro hn w;by_cases h0:n=0
  .subst h0;rw [rZ];clear ih;go_enter func114,ntmps114;go_wp2;go_ret;exact ⟨rfl,aI⟩
  .have hi:=ih (n/256) (by omega) (by omega);rw [show ((n/256:Nat):Int)=IntKind.i64.wrap ((n:Int)/256) by rw [IntKind.wrap_i64]; omega] at hi;have HI:=hid hi;have HQ:Hid (0<=IntKind.u8.wrap ((n:Int).tmod 256)/\IntKind.u8.wrap ((n:Int).tmod 256)<256):=hid (by rw [IntKind.wrap_u8]; omega);have HE:Hid (iI n=iI (n/256)++[UInt8.ofNat (IntKind.u8.wrap ((n:Int).tmod 256)).toNat]):=hid (by
    rw [uZ (n:=n) (by omega)];congr 2;rw [IntKind.wrap_u8,Int.tmod_eq_emod_of_nonneg (by omega),show (((n:Int)%256)%256).toNat=n%256 by omega];apply UInt8.toNat_inj.1;simp)
   have hlen:(iI (n/256)).length<=8:=mP (by omega);clear hi;clear ih;go_enter func114,ntmps114;go_wp2_with fail
   refine aD (S:=λw'=>Below w.heap.size w w') (aI.drew) λhld=>?_;refine aj 0 ?_;try simp only [Act.put,au]
   refine aj 1 ?_;try simp only [Act.put,au]
   refine aj 3 ?_;try simp only [Act.put,au]
   refine aj 4 ?_;try simp only [Act.put,au]
   refine aj 5 ?_;try simp only [Act.put,au]
   refine wpAnyH_ready (rs:=[2,6]) (by kernel_rfl) (by simp) ?_;refine Rg.readyC (i:=2) rfl (λK hK=>?_) (Rg.readyL (i:=6) rfl (λK hK=>?_))
   .go_simp;go_at_call 114
    (with_reducible refine (HI.out _).mono ?_)
    rintro e il ⟨rfl,hbx⟩;refine hK.out _ _ (Below.trans hld (hbx.mono hld.size)) λhld=>?_;clear hK K hbx;try simp only [Act.put,au]
    refine ak 6 λK hK=>?_;refine LK (by rfl) ⟨_,rfl,rfl⟩ HQ.out ?_;rintro wv1 b6 h6 hbx;refine hK.out _ _ (Below.trans hld (hbx.mono hld.size)) λhld=>?_;clear hK K hbx;try simp only [Act.put,au]
    refine ak 7 λK hK=>?_;have hcv:=gY h6;go_simp;refine hK.out _ _ (hld) λhld=>?_;clear hK K hcv;try simp only [Act.put,au]
    refine aj 8 ?_ (hy:=by intro wz hSw; have FO:¬ 9223372036854775807<(iI (n/256)).length+1:=(by omega); go_simp <;> with_reducible rfl);try simp only [Act.put,au]
    refine aj 9 ?_;try simp only [Act.put,au]
    refine aC ?_;go_wp2;go_ret;exact ⟨by rw [HE.out]; rfl,hld⟩
   .refine LK (by rfl) ⟨_,rfl,rfl⟩ HQ.out ?_;rintro il b6 h6 hbx;refine hK.out _ _ (Below.trans hld (hbx.mono hld.size)) λhld=>?_;clear hK K hbx;try simp only [Act.put,au]
    refine wpAnyH_ready (rs:=[2,7]) (by kernel_rfl) (by simp) ?_;refine Rg.readyC (i:=2) rfl (λK hK=>?_) (Rg.readyL (i:=7) rfl (λK hK=>?_))
    .go_simp;go_at_call 114
     (with_reducible refine (HI.out _).mono ?_)
     rintro e wv1 ⟨rfl,hbx⟩;replace h6:=h6.below hbx;refine hK.out _ _ (Below.trans hld (hbx.mono hld.size)) λhld=>?_;clear hK K hbx;try simp only [Act.put,au]
     refine ak 7 λK hK=>?_;have hcv:=gY h6;go_simp;refine hK.out _ _ (hld) λhld=>?_;clear hK K hcv;try simp only [Act.put,au]
     refine aj 8 ?_ (hy:=by intro wz hSw; have FO:¬ 9223372036854775807<(iI (n/256)).length+1:=(by omega); go_simp <;> with_reducible rfl);try simp only [Act.put,au]
     refine aj 9 ?_;try simp only [Act.put,au]
     refine aC ?_;go_wp2;go_ret;exact ⟨by rw [HE.out]; rfl,hld⟩
    .have hcv:=gY h6;go_simp;refine hK.out _ _ (hld) λhld=>?_;clear hK K hcv;try simp only [Act.put,au]
     refine ak 2 λK hK=>?_;go_simp;go_at_call 114
     (with_reducible refine (HI.out _).mono ?_)
     rintro e wv1 ⟨rfl,hbx⟩;replace h6:=h6.below hbx;refine hK.out _ _ (Below.trans hld (hbx.mono hld.size)) λhld=>?_;clear hK K hbx;try simp only [Act.put,au]
     refine aj 8 ?_ (hy:=by intro wz hSw; have FO:¬ 9223372036854775807<(iI (n/256)).length+1:=(by omega); go_simp <;> with_reducible rfl);try simp only [Act.put,au]
     refine aj 9 ?_;try simp only [Act.put,au]
     refine aC ?_;go_wp2;go_ret;exact ⟨by rw [HE.out]; rfl,hld⟩
def mark (l:Bool):Nat:=if l then 192 else 128
def jI (n:Nat) (l:Bool):aN:=if n<56 then [UInt8.ofNat (mark l+n)] else UInt8.ofNat (mark l+55+(iI n).length)::iI n
def fF (n:Nat) (l:Bool):aM:=⟨(jI n l).toArray⟩
def qQ (n:Int):Nat:=(min (max n 0) 4294967296).toNat
theorem Mg (n:Int):qQ n<=4294967296:=by unfold qQ; omega
theorem oD {n:Nat} (h:n<56) (l:Bool):fF n l=⟨#[UInt8.ofNat (mark l+n)]⟩:=by unfold fF jI; rw [if_pos h]
theorem sK {n:Nat} (h:¬ n<56) (l:Bool):fF n l=⟨#[UInt8.ofNat (mark l+55+(iI n).length)]⟩++⟨(iI n).toArray⟩:=by
 unfold fF jI;rw [if_neg h];apply ByteArray.ext;simp
theorem mO (w:World) (z:Int) (hz:0<=z/\z<256) (c:UInt8) (hc:c=UInt8.ofNat z.toNat) :
  Sem.run prog (convert 35 9 (Value.slice (some ⟨w.heap.size,0,none⟩) 1 1)) (w.alloc (.cells #[.int .u8 z] 5)) = .ok (.string ⟨#[c]⟩) (w.alloc (.cells #[.int .u8 z] 5)):=by
 subst hc;have hb:bf (w.alloc (.cells #[.int .u8 z] 5)) (some ⟨w.heap.size,0,none⟩) 1 1 [UInt8.ofNat z.toNat]:=bf.new w [UInt8.ofNat z.toNat] (by unfold maxLen; simp) _ _ (by
  simp;omega)
 exact gY hb
theorem Ju (n:Int) (m k:Nat) (hmax:max n 0=m) (hmin:min (m:Int) 4294967296=k) (hk:k<56) (l:Bool) (w:World) :
  Calls prog 166 #[.int .i64 n,.bool l] w λe w'=>e = .returned (.string (fF k l))/\Below w.heap.size w w':=by
 cases l
 .obtain ⟨c,hc⟩:=ay (UInt8.ofNat (128+k))
  have HS:Hid (fF k false=⟨#[c]⟩):=hid (by rw [oD hk,hc]; rfl);have hcv:=mO w (128+k) (by omega) c (hc.trans (congrArg _ (by omega)));clear hc;go_enter func166,ntmps166;go_wp2;go_ret;exact ⟨by rw [HS.out]; rfl,al1 _ _⟩
 .obtain ⟨c,hc⟩:=ay (UInt8.ofNat (192+k))
  have HS:Hid (fF k true=⟨#[c]⟩):=hid (by rw [oD hk,hc]; rfl);have hcv:=mO w (192+k) (by omega) c (hc.trans (congrArg _ (by omega)));clear hc;go_enter func166,ntmps166;go_wp2;go_ret;exact ⟨by rw [HS.out]; rfl,al1 _ _⟩
theorem QU (n:Int) (m k:Nat) (hmax:max n 0=m) (hmin:min (m:Int) 4294967296=k) (hm:m<2 ^ 63) (hk:¬ k<56) (hk2:k<=4294967296) (l:Bool) (w:World) :
  Calls prog 166 #[.int .i64 n,.bool l] w λe w'=>e = .returned (.string (fF k l))/\Below w.heap.size w w':=by
 have HN:=hid (λw=>Jv k (by omega) (by omega) w);have hlen:=mP (n:=k) (by omega);cases l
 .obtain ⟨c,hc⟩:=ay (UInt8.ofNat (183+(iI k).length))
  have hs1:fF k false=⟨#[c]⟩++⟨(iI k).toArray⟩:=by rw [sK hk,hc]; rfl
  have hcv:=λw=>mO w (183+(iI k).length) (by omega) c (hc.trans (congrArg _ (by omega)));obtain ⟨B,hB⟩:=aA (iI k)
  rw [hB] at hs1 HN hlen;simp only [hB] at hcv;clear hB hc;have hsz:(⟨B.toArray⟩:aM).size=B.length:=by rfl
  obtain ⟨s,hs⟩:∃ s:aM,⟨B.toArray⟩=s:=⟨_,rfl⟩
  rw [hs] at hsz hs1 HN;have HS:=hid hs1;clear hs hs1;go_enter func166,ntmps166;go_wp2_with fail
  refine (HN.out _).mono ?_;rintro e w1 ⟨rfl,hb1⟩;have tl:=hcv w1;go_wp2;go_ret;exact ⟨by rw [HS.out]; rfl,bst hb1 (al1 _ _)⟩
 .obtain ⟨c,hc⟩:=ay (UInt8.ofNat (247+(iI k).length))
  have hs1:fF k true=⟨#[c]⟩++⟨(iI k).toArray⟩:=by rw [sK hk,hc]; rfl
  have hcv:=λw=>mO w (247+(iI k).length) (by omega) c (hc.trans (congrArg _ (by omega)));obtain ⟨B,hB⟩:=aA (iI k)
  rw [hB] at hs1 HN hlen;simp only [hB] at hcv;clear hB hc;have hsz:(⟨B.toArray⟩:aM).size=B.length:=by rfl
  obtain ⟨s,hs⟩:∃ s:aM,⟨B.toArray⟩=s:=⟨_,rfl⟩
  rw [hs] at hsz hs1 HN;have HS:=hid hs1;clear hs hs1;go_enter func166,ntmps166;go_wp2_with fail
  refine (HN.out _).mono ?_;rintro e w1 ⟨rfl,hb1⟩;have tl:=hcv w1;go_wp2;go_ret;exact ⟨by rw [HS.out]; rfl,bst hb1 (al1 _ _)⟩
theorem Gh (k:Nat) (hk:k<56) (l:Bool) (w:World) :
  Calls prog 69 #[.int .i64 k,.bool l] w λe w'=>e = .returned (.string (fF k l))/\Below w.heap.size w w':=by
 cases l
 .obtain ⟨c,hc⟩:=ay (UInt8.ofNat (128+k))
  have HS:Hid (fF k false=⟨#[c]⟩):=hid (by rw [oD hk,hc]; rfl);have hcv:=mO w (128+k) (by omega) c (hc.trans (congrArg _ (by omega)));clear hc;go_enter func69,ntmps69;go_wp2;go_ret;exact ⟨by rw [HS.out]; rfl,al1 _ _⟩
 .obtain ⟨c,hc⟩:=ay (UInt8.ofNat (192+k))
  have HS:Hid (fF k true=⟨#[c]⟩):=hid (by rw [oD hk,hc]; rfl);have hcv:=mO w (192+k) (by omega) c (hc.trans (congrArg _ (by omega)));clear hc;go_enter func69,ntmps69;go_wp2;go_ret;exact ⟨by rw [HS.out]; rfl,al1 _ _⟩
theorem OQ (k:Nat) (hk:¬ k<56) (hk2:k<=4294967296) (l:Bool) (w:World) :
  Calls prog 69 #[.int .i64 k,.bool l] w λe w'=>e = .returned (.string (fF k l))/\Below w.heap.size w w':=by
 have HN:=hid (λw=>UM k (by omega) w);have hlen:=mP (n:=k) (by omega);cases l
 .obtain ⟨c,hc⟩:=ay (UInt8.ofNat (183+(iI k).length))
  have hs1:fF k false=⟨#[c]⟩++⟨(iI k).toArray⟩:=by rw [sK hk,hc]; rfl
  have hcv:=λw=>mO w (183+(iI k).length) (by omega) c (hc.trans (congrArg _ (by omega)));obtain ⟨B,hB⟩:=aA (iI k)
  rw [hB] at hs1 HN hlen;simp only [hB] at hcv;clear hB hc;have hsz:(⟨B.toArray⟩:aM).size=B.length:=by rfl
  obtain ⟨s,hs⟩:∃ s:aM,⟨B.toArray⟩=s:=⟨_,rfl⟩
  rw [hs] at hsz hs1 HN;have HS:=hid hs1;clear hs hs1;go_enter func69,ntmps69;go_wp2_with fail
  refine (HN.out _).mono ?_;rintro e w1 ⟨rfl,hb1⟩;have tl:=hcv w1;go_wp2;go_ret;exact ⟨by rw [HS.out]; rfl,bst hb1 (al1 _ _)⟩
 .obtain ⟨c,hc⟩:=ay (UInt8.ofNat (247+(iI k).length))
  have hs1:fF k true=⟨#[c]⟩++⟨(iI k).toArray⟩:=by rw [sK hk,hc]; rfl
  have hcv:=λw=>mO w (247+(iI k).length) (by omega) c (hc.trans (congrArg _ (by omega)));obtain ⟨B,hB⟩:=aA (iI k)
  rw [hB] at hs1 HN hlen;simp only [hB] at hcv;clear hB hc;have hsz:(⟨B.toArray⟩:aM).size=B.length:=by rfl
  obtain ⟨s,hs⟩:∃ s:aM,⟨B.toArray⟩=s:=⟨_,rfl⟩
  rw [hs] at hsz hs1 HN;have HS:=hid hs1;clear hs hs1;go_enter func69,ntmps69;go_wp2_with fail
  refine (HN.out _).mono ?_;rintro e w1 ⟨rfl,hb1⟩;have tl:=hcv w1;go_wp2;go_ret;exact ⟨by rw [HS.out]; rfl,bst hb1 (al1 _ _)⟩
theorem SC (n:Int) (hn:n<2 ^ 63) (l:Bool) (w:World) :
  Calls prog 166 #[.int .i64 n,.bool l] w λe w'=>e = .returned (.string (fF (qQ n) l))/\Below w.heap.size w w':=by
 have h1:max n 0=((max n 0).toNat:Int):=by omega
 have h2:min (((max n 0).toNat:Nat):Int) 4294967296=qQ n:=by unfold qQ; omega
 by_cases hk:qQ n<56
 .exact Ju n _ _ h1 h2 hk l w
 .exact QU n _ _ h1 h2 (by omega) hk (Mg n) l w
theorem pY (k:Nat) (hk2:k<=4294967296) (l:Bool) (w:World) :
  Calls prog 69 #[.int .i64 k,.bool l] w λe w'=>e = .returned (.string (fF k l))/\Below w.heap.size w w':=by
 by_cases hk:k<56
 .exact Gh k hk l w
 .exact OQ k hk hk2 l w
end Rl
end
section
open Go.RowKit
namespace Lh
end Lh
end
section
open Go.RowKit
namespace Rl
theorem kW (s:aM) (w:World) :
  Calls prog 105 #[.string s] w λe w'=>e = .returned (itV (.mk false s []) none 0 0)/\Below w.heap.size w w':=by
 go_enter func105,ntmps105;go_wp2;exact bodyPost_ret (oh rfl _ rfl (Fx w (.mk false s []) none 0 0 _)) rfl ⟨rfl,aI.alloc aH _⟩
end Rl
end
section
open Go.RowKit
namespace It
def size:It->Nat
 | .mk _ _ xs=>1+(xs.map size).sum
termination_by x=>SizeOf.sizeOf x
decreasing_by
 rename_i h;have:=List.sizeOf_lt_of_mem h;simp;omega
theorem size_mk (l:Bool) (s:aM) (xs:List It):(It.mk l s xs).size=1+(xs.map size).sum:=by rw [size]
end It
namespace Rl
theorem FT (xs:List It) (q:Nat) (x:It) (h:xs[q]? = some x):(((xs.take (q+1)).map It.size).sum:Nat)=((xs.take q).map It.size).sum+x.size:=by
 rw [List.take_add_one,h];simp
open Classical in
noncomputable def CJ {α:Type} (x y : α):Bool:=decide (x=y)
theorem Ay {α:Type} {x y : α} (h:x=y):CJ x y=true:=by simp [CJ,h]
theorem xV {α:Type} {x y : α} (h:x≠y):CJ x y=false:=by simp [CJ,h]
theorem ny {s s':aM} (h:s≠s'):(s.toList==s'.toList)=false:=by
 rw [beq_eq_false_iff_ne,ByteArray.toList_eq,ByteArray.toList_eq];exact λe=>h (ByteArray.ext (Array.toList_inj.mp e))
end Rl
end
section
open Go.RowKit
namespace Rl
theorem Uz:(prog.info? 96).map (λi=>(i.size,i.bytes))=some (3,48):=by kernel_rfl
theorem El:((prog.info? 96).bind (·.zero)).isSome=true:=by kernel_rfl
theorem BF:((prog.info? 96).bind (·.zero)).map (·.cells.size)=some 3:=by kernel_rfl
theorem sZ:∃ i z,prog.info? 96=some i/\i.zero=some z/\i.size=3/\i.bytes=48/\z.cells.size=3:=by
 have h1:=Uz;have h2:=El;have h3:=BF;cases hi:prog.info? 96 with
 | none=>rw [hi] at h1; simp at h1
 | some i =>
  rw [hi] at h1 h2 h3;simp at h1 h2 h3;cases hz:i.zero with
  | none=>rw [hz] at h2; simp at h2
  | some z =>
   rw [hz] at h3;simp at h3;exact ⟨i,z,rfl,hz,h1.1,h1.2,h3⟩
def QJ:Value->Prop
 | .bool _ | .string _ | .slice _ _ _=>True
 | _=>False
theorem QJ.one (h:QJ v):v.oneCell'=true:=by
 cases v <;> first | rfl | exact h.elim
theorem Bf {w:World} {xs:List It} {n cap:Nat} (h:gZ w xs (some ad) n cap) (i:Nat) (hi:i<n*3):∃ v,w.cell? (ad.add i)=some v/\QJ v:=by
 obtain ⟨x,b,off,A,N,C,_,e,_,⟨c0,c1,c2⟩,_⟩:=h.at' (i/3) (by omega);obtain rfl:=Option.some.inj e;rw [Addr.add_mid];have h3:i%3=0\/i%3=1\/i%3=2:=by omega
 rcases h3 with h3 | h3 | h3
 .exact ⟨.bool x.l,(by rw [<-c0]; congr 2; omega),True.intro⟩
 .exact ⟨.string x.s,(by rw [<-c1]; congr 2; omega),True.intro⟩
 .exact ⟨.slice A N C,(by rw [<-c2]; congr 2; omega),True.intro⟩
def zS (w:World) (ad:Addr) (n:Nat) (e:Ending) (w':World):Prop :=
 ∃ g cap f,e = .returned (.slice (some ⟨g,0,none⟩) n cap)/\w.heap.size<=g/\n<=cap/\cap<=maxLen/\w'.rowIs g 96 (cap*3) f/\(∀ i,i<n*3->w.cell? (ad.add i)=some (f i))/\Below w.heap.size w w'
theorem Eo (w:World):(binOp .eql 94 (.slice none 0 0) (.slice none 0 0)).run prog w = .ok (.bool true) w:=by kernel_rfl
theorem zG (a:Addr) (n cap:Nat) (w:World):(binOp .eql 94 (.slice (some a) n cap) (.slice none 0 0)).run prog w = .ok (.bool false) w:=by kernel_rfl
theorem OH (w:World):Calls prog 167 #[.slice none 0 0] w λe w'=>e = .returned (.slice none 0 0)/\w=w':=by
 have hnil:=Eo;go_enter func167,ntmps167;go_wp2;go_ret;exact ⟨rfl,rfl⟩
theorem GR {w w':World} {n:Nat} (ho:w'.ownsRow w.heap.size 96 3 v n news) (hne:v ≠ .slice none 0 0) (hc:∀ i u,news[i]? = some u->w.cell? (ad.add i)=some u) (hb:Below w.heap.size w w') :
  zS w ad n (.returned v) w':=by
 rcases ho.2 with ⟨rfl,hz⟩ | ⟨g,cap,cur,rfl,hbg,hg,hnc,hcm,hcs,htake⟩
 .exact absurd rfl hne
 .refine ⟨g,cap,λj=>cur.getD j undef,rfl,hbg,hnc,hcm,⟨cur,hg,hcs,λi hi=>?_⟩,λi hi=>?_,hb⟩
  .have:i<cur.size:=by omega
   simp [this]
  .have hlt:i<cur.size:=by
    have:n*3<=cap*3:=Nat.mul_le_mul_right 3 hnc;omega
   apply hc;rw [<-htake,List.getElem?_take,if_pos hi];simp [hlt]
theorem wN (xs:List It) (ad:Addr) (n cap:Nat) (w:World) (h:gZ w xs (some ad) n cap) :
  Calls prog 167 #[.slice (some ad) n cap] w (zS w ad n):=by
 obtain ⟨i0,z0,hi,hz,hs,hby,hzc⟩:=sZ;have HI:Hid (_/\_/\_/\_/\_):=hid ⟨hi,hz,hs,hby,hzc⟩;obtain ⟨news,hl,hc,h1⟩:∃ news:List Value,news.length=n*3/\(∀ i u,news[i]? = some u->w.cell? (ad.add i)=some u)/\∀ u∈news,u.oneCell'=true:=by
  refine ⟨(List.range (n*3)).map λi=>(w.cell? (ad.add i)).getD undef,by simp,λi u hu=>?_,λu hu=>?_⟩
  .by_cases hi:i<n*3
   .obtain ⟨v,hv,_⟩:=Bf h i hi;simp [hi,hv] at hu;rw [hv,hu]
   .simp [hi] at hu
  .simp at hu;obtain ⟨i,hi,rfl⟩:=hu;obtain ⟨v,hv,ho⟩:=Bf h i hi;rw [hv];exact ho.one
 have ez:=h.few;have HN:Hid (_/\_/\_):=hid ⟨hl,hc,h1⟩;have hlt:∀ j,j<n*3->(ad.add j).block<w.heap.size:=λj hj=>by
  obtain ⟨v,hv,_⟩:=Bf h j hj;exact World.block_lt_of_cell? w _ hv
 have IH:=hid hlt;have hnil:=zG ad n cap;clear hi hz hs hby hzc hl hc h1 h hlt;go_enter func167,ntmps167;have HO:Hid ((w.alloc (.cells #[] 96)).ownsRow w.heap.size 96 3 (.slice (some ⟨w.heap.size,0,none⟩) 0 0) 0 []):=hid (World.ownsRow_made w #[] 0 aH (Nat.zero_le _) (by simp))
 go_wp2_with (at_builtin; refine wpList_append_own _ rfl _ _ 94 rfl w.heap.size 96 i0 z0 3 48 underlying94 HI.out.1 HI.out.2.1 HI.out.2.2.1 HI.out.2.2.2.1 HI.out.2.2.2.2 (by decide) _ _ _ rfl HO.out ad n cap news rfl HN.out.1 ?c2 HN.out.2.2 ?c3 ?c4 ?c5 ?_)
 case c2 =>
  intro j u hu;have hj:j<n*3:=by rw [<-HN.out.1]; exact (List.getElem?_eq_some_iff.1 hu).1
  rw [(al1 w _).cell (p:=ad.add j) (IH.out j hj)];exact HN.out.2.1 j u hu
 case c3=>unfold maxLen; omega
 case c4=>omega
 case c5=>simp
 intro v' w2 hown2 hgrow hnil';have HG:Hid (zS w ad n (.returned v') w2):=hid (GR hown2 hnil' HN.out.2.1 ((al1 w _).grown hgrow (by simp) (λk hk=>by simp [Value.ownBlock] at hk; omega)));clear hown2 hgrow hnil';go_wp2;go_ret;exact HG.out
def Qf (w:World) (xs:List It) (e:Ending) (w':World):Prop :=
 ∃ a n cap,e = .returned (.slice a n cap)/\bP w.heap.size w' xs a n cap/\Below w.heap.size w w'
def Mid (w wr:World) (g cap:Nat) (xs:List It) (q:Nat):Prop :=
 ∃ f,wr.rowIs g 96 (cap*3) f/\∀ (j:Nat) (x:It),xs[j]? = some x->∃ A N C,f (j*3) = .bool x.l/\f (j*3+1) = .string x.s/\f (j*3+2) = .slice A N C/\
  ((j<q/\bP (g+1) wr x.xs A N C)\/(q<=j/\gZ w x.xs A N C))
theorem Mid.start {w w':World} {n cap c:Nat} {xs:List It} (h:gZ w xs (some ad) n c) {f:Nat->Value} (hr:w'.rowIs g 96 (cap*3) f) (hf:∀ i,i<n*3->w.cell? (ad.add i)=some (f i)):Mid w w' g cap xs 0:=by
 refine ⟨f,hr,λj x hx=>?_⟩;have hj:j<n:=by rw [<-h.len]; exact (List.getElem?_eq_some_iff.1 hx).1
 obtain ⟨x',b',off',A,N,C,hx',e,_,⟨c0,c1,c2⟩,hI⟩:=h.at' j hj;obtain rfl:=Option.some.inj e;obtain rfl:=Option.some.inj (hx.symm.trans hx');simp only [Addr.add_mid] at hf;have f0:=hf (j*3) (by omega);have f1:=hf (j*3+1) (by omega);have f2:=hf (j*3+2) (by omega);rw [c0] at f0;rw [<-Nat.add_assoc,c1] at f1;rw [<-Nat.add_assoc,c2] at f2;exact ⟨A,N,C,(Option.some.inj f0).symm,(Option.some.inj f1).symm,(Option.some.inj f2).symm,.inr ⟨Nat.zero_le _,hI⟩⟩
theorem Mid.at' {w:World} {cap n:Nat} {xs:List It} (h:Mid w wr g cap xs q) (hl:xs.length=n) (hc:n<=cap) (hq:q<n) :
  ∃ x A N C,xs[q]? = some x/\wr.cell? ⟨g,q*3+2,none⟩=some (.slice A N C)/\gZ w x.xs A N C:=by
 obtain ⟨f,hr,h⟩:=h;have hx:xs[q]? = some (xs[q]'(by omega)):=List.getElem?_eq_getElem (by omega);obtain ⟨A,N,C,_,_,f2,hh⟩:=h q _ hx;refine ⟨_,A,N,C,hx,by rw [hr.cell (by omega),f2],?_⟩;rcases hh with ⟨h1,_⟩ | ⟨_,h2⟩
 .omega
 .exact h2
theorem Mid.step {w:World} {cap:Nat} {xs:List It} {x:It} (h:Mid w wr g cap xs q) (hx:xs[q]? = some x) {a:aL} {n c:Nat} (hI:bP wr.heap.size w1 x.xs a n c) (hb:Below wr.heap.size wr w1) :
  Mid w (w1.setCell ⟨g,q*3+2,none⟩ (.slice a n c)) g cap xs (q+1):=by
 obtain ⟨f,hr,h⟩:=h;have hlt:=hr.lt;have hr1:w1.rowIs g 96 (cap*3) f:=hr.of_block (hb.block g hlt);have keep:∀ {ys:List It} {A:aL} {N C:Nat},bP (g+1) w1 ys A N C->bP (g+1) (w1.setCell ⟨g,q*3+2,none⟩ (.slice a n c)) ys A N C:=λhh =>
  bP.kept hh (by simp) (λb o hB _=>World.cell?_of_block (Below.heap_setCell w1 _ _ b (by show b≠g; omega)))
 refine ⟨_,hr1.set (q*3+2) (.slice a n c),λj y hy=>?_⟩;obtain ⟨A,N,C,f0,f1,f2,hh⟩:=h j y hy;by_cases hj:j=q
 .subst hj;obtain rfl:=Option.some.inj (hx.symm.trans hy);refine ⟨a,n,c,by rw [if_neg (by omega),f0],by rw [if_neg (by omega),f1],by rw [if_pos rfl],.inl ⟨by omega,keep (bP.weak hI (by omega))⟩⟩
 .refine ⟨A,N,C,by rw [if_neg (by omega),f0],by rw [if_neg (by omega),f1],by rw [if_neg (by omega),f2],?_⟩;rcases hh with ⟨h1,h2⟩ | ⟨h1,h2⟩
  .exact .inl ⟨by omega,keep (h2.stays hb)⟩
  .exact .inr ⟨by omega,h2⟩
theorem Mid.lt {w wr:World} {g cap q:Nat} {xs:List It} (h:Mid w wr g cap xs q):g<wr.heap.size:=by
 obtain ⟨f,hr,_⟩:=h;exact hr.lt
theorem Mid.free {w:World} {cap:Nat} {xs:List It} (h:Mid w wr g cap xs q) (hb:Below wr.heap.size wr w1) (i:Nat):w1.frozen? ⟨g,i,none⟩=false:=by
 obtain ⟨f,hr,_⟩:=h;have hr1:w1.rowIs g 96 (cap*3) f:=hr.of_block (hb.block g hr.lt);exact hr1.frozen i
theorem Mid.done {w:World} {cap n:Nat} {xs:List It} (h:Mid w wr g cap xs n) (hl:xs.length=n) (hc:n<=cap) (hm:cap<=maxLen) (hw:n<=2932031007402) {B:Nat} (hB:B<=g):bP B wr xs (some ⟨g,0,none⟩) n cap:=by
 obtain ⟨f,hr,h⟩:=h;have each:∀ j,j<n->∃ r:aL × Nat × Nat,∀ x,xs[j]? = some x->tF wr g (0+j*3) x r.1 r.2.1 r.2.2/\bP B wr x.xs r.1 r.2.1 r.2.2:=λj hj=>by
  have hx:xs[j]? = some (xs[j]'(by omega)):=List.getElem?_eq_getElem (by omega);obtain ⟨A,N,C,f0,f1,f2,hh⟩:=h j _ hx;refine ⟨(A,N,C),λx hx'=>?_⟩;obtain rfl:=Option.some.inj (hx.symm.trans hx');refine ⟨⟨by rw [Nat.zero_add,hr.cell (by omega),f0],by rw [Nat.zero_add,hr.cell (by omega),f1],by rw [Nat.zero_add,hr.cell (by omega),f2]⟩,?_⟩;rcases hh with ⟨_,h2⟩ | ⟨h1,_⟩
  .exact bP.weak h2 (by omega)
  .omega
 obtain ⟨F,hF⟩:=Go.Deep.choose_lt each;refine iE.mk (λj=>(F j).1) (λj=>(F j).2.1) (λj=>(F j).2.2) hl hc hm hw (λe=>(by cases e)) (λj x hx=>?_) (λj x hx=>?_)
 .exact ⟨g,0,rfl,hB,hr.lt,(hF j (by rw [<-hl]; exact (List.getElem?_eq_some_iff.1 hx).1) x hx).1⟩
 .exact (hF j (by rw [<-hl]; exact (List.getElem?_eq_some_iff.1 hx).1) x hx).2
theorem JZ (x:It):∀ (w:World) (a:aL) (n cap:Nat),gZ w x.xs a n cap->Calls prog 144 #[.slice a n cap] w (Qf w x.xs):=by
 induction x using It.ind with
 | h l s xs ih =>
  intro w a n cap h;replace h:gZ w xs a n cap:=h;show Calls prog 144 #[.slice a n cap] w (Qf w xs);cases a with
  | none =>
   have hc:=h.none' rfl;have hn:=h.le;obtain rfl:cap=0:=hc;obtain rfl:n=0:=by omega
   have HX:Hid (xs=[]):=hid (List.eq_nil_of_length_eq_zero h.len);clear ih h hn;go_enter func144,ntmps144;go_wp2_with (go_at_call 167; refine (OH _).mono ?_; rintro e w1 ⟨rfl,rfl⟩)
   refine wp_loop_rounds 1 ?_;rw [rounds_succ];go_wp2;go_ret;exact ⟨none,0,0,rfl,by rw [HX.out]; exact bP.nil _ _,aI⟩
  | some ad =>
   have gE:=hid ih;have H:=hid h;have ez:=h.few;clear ih h;go_enter func144,ntmps144;go_wp2_with fail
   refine (wN xs ad n cap _ H.out).mono ?_;rintro e w1 ⟨g,c,f,rfl,hg,hnc,hcm,hr,hf,hb1⟩;have HM:=hid (Mid.start H.out hr hf);have X3:=hr.lt;have HB1:=hid hb1;clear hr hf hb1;unfold maxLen at hcm;go_wp2;go_loopw [9] (λi wr=>∃ q:Nat,q<=n/\i = .int .i64 q/\Hid (Mid w wr g c xs q)/\Below w.heap.size w wr) (λi _=>n-(intOf i).toNat)
   case atStart=>exact ⟨0,Nat.zero_le _,rfl,hid HM.out,HB1.out⟩
   case round =>
    obtain ⟨q,hq,rfl,HQ,hB⟩:=hrel;have HB:=hid hB;clear HM hB;by_cases hlt:q<n
    .obtain ⟨x,A,N,C,hx,c2,hI⟩:=HQ.out.at' H.out.len hnc hlt;have HI:=hid (gE.out x (List.mem_of_getElem? hx) wr A N C (hI.stays HB.out));have HX:=hid hx;clear hI hx gE;go_wp2_with fail
     refine HI.out.mono ?_;rintro e w2 ⟨a',n',c',rfl,hI2,hb2⟩;have hc2:w2.cell? ⟨g,q*3+2,none⟩=some (.slice A N C):=(hb2.cell (p:=⟨g,q*3+2,none⟩) HQ.out.lt).trans c2;have hz2:=HQ.out.free hb2 (q*3+2);have HS:=hid (HQ.out.step HX.out hI2 hb2);have HB2:=hid (bst HB.out hb2);clear hI2 hb2 c2;go_wp2;go_roundw
     case rel=>exact ⟨q+1,by omega,by go_num,hid HS.out,HB2.out.setCell hg _⟩
     case measure=>simp [intOf]; omega
    .obtain rfl:q=n:=by omega
     have HD:=hid (HQ.out.done H.out.len hnc (by unfold maxLen; omega) ez hg);clear gE HQ;go_wp2;go_ret;exact ⟨_,_,_,rfl,HD.out,HB.out⟩
def Ab (w:World) (x:It) (e:Ending) (w':World):Prop:=∃ a n cap,e = .returned (itV x a n cap)/\bP w.heap.size w' x.xs a n cap/\Below w.heap.size w w'
def itC (x:It) (a:aL) (n cap:Nat):aO:=#[.bool x.l,.string x.s,.slice a n cap]
theorem gV (x:It) (a:aL) (n cap:Nat):(prog.info? 96).map (·.size)=some (itC x a n cap).size:=Db
theorem jl (x:It) (a:aL) (n cap:Nat):(itC x a n cap).all (·.oneCell')=true:=by
 simp [itC,Value.oneCell']
theorem dB {w:World} {x:It} {a:aL} {n cap:Nat} {fz:Nat × Nat} (h:w.heap[g]? = some (.cells (itC x a n cap) t fz)):tF w g 0 x a n cap:=by
 refine ⟨?_,?_,?_⟩;all_goals
  simp [World.cell?,h];rfl
def it0:It:=.mk false ⟨#[]⟩ []
theorem VD (w:World):(w.alloc (.cells (itC it0 none 0 0) 96)).heap[w.heap.size]? = some (.cells (itC it0 none 0 0) 96 (0,0)):=heap_alloc_new _ _
theorem bI {B:Nat} {w:World} (h:Below B w w1) (hg:B<=g) (cs:aO):Below B w (w1.setRow g cs) :=
 h.trans ⟨rfl,rfl,rfl,by simp,λk hk=>setRow_other w1 g k cs (by omega)⟩
theorem jG {B:Nat} {w:World} {xs:List It} {a:aL} {n cap:Nat} (h:bP B w xs a n cap) (hg:g<B) (cs:aO):bP B (w.setRow g cs) xs a n cap :=
 bP.kept h (by simp) (λb o hB _=>World.cell?_of_block (setRow_other w g b cs (by omega)))
theorem zu (xs:List It) (w:World) (a:aL) (n cap:Nat) (h:gZ w xs a n cap):Calls prog 103 #[.slice a n cap] w (Ab w (.mk true ⟨#[]⟩ xs)):=by
 have HC:=hid (JZ (.mk true ⟨#[]⟩ xs) (w.alloc (.cells (itC it0 none 0 0) 96)) a n cap (h.alloc _));clear h;go_enter func103,ntmps103;go_wp2_with fail
 refine HC.out.mono ?_;rintro e w1 ⟨a',n',c',rfl,hI,hb⟩;have HG:=hid ((hb.block w.heap.size (by simp)).trans (VD w));have HI:=hid hI;have HB:=hid (nY (yt hb));clear hI hb HC;go_wp2_with (refine wpList_store_rowTo rfl 96 _ _ rfl rfl _ (itC (.mk true ⟨#[]⟩ xs) a' n' c') rfl rfl 96 (itC it0 none 0 0) HG.out (gV _ _ _ _) rfl (jl _ _ _ _) ?_)
 exact bodyPost_ret (oh rfl _ rfl (dB (setRow_heap _ _ _ _ _ _ HG.out))) rfl ⟨a',n',c',rfl,bP.weak (jG HI.out (by simp) _) (by simp),bI HB.out aH _⟩
end Rl
end
end Go.Proofs.YtokaiemgjngcoaaGreatDoor
