/-
 The plain answer's Get: two items, a path or a leaf.
-/
import Derived.Test.YtnecijeakeklaaaGreatDoorMp19
import Derived.Deep.DeepCutAuto
import Derived.Test.YtnecijeakeklaaaGreatDoorMp12
import Derived.Test.YtnecijeakeklaaaGreatDoorMp17
import Derived.Test.YtnecijeakeklaaaGreatDoorMp18
import Derived.RangeFuncLeaves
import Derived.RangeFuncRecord
import Derived.RangeFuncBound
import Derived.RangeFuncCalls
import Derived.Shelf.Abstract
import Derived.OrdersIn
import Derived.Deep.RegionHeld
import Derived.Test.YtnecijeakeklaaaGreatDoorMp14
import Derived.Test.YtnecijeakeklaaaGreatDoorMp13
import Derived.Deep.QuietTactic
import Derived.BigQuiet
import Derived.Maps.AppendAt
open Go.Lib (hid)
set_option linter.unusedSimpArgs false
set_option linter.unusedVariables false
set_option maxHeartbeats 40000000
set_option maxRecDepth 100000
namespace Go.Proofs.YtnecijeakeklaaaGreatDoor
section
open Go.RowKit
namespace No
open Rl Ni
end No
end
section
open Go.RowKit
namespace No
open Rl Ni
end No
end
section
open Go.RowKit
namespace No
open Rl Ni
end No
end
section
open Go.RowKit
namespace No
open Rl Ni
end No
end
section
open Go.RowKit
namespace Tm
open Tr Ni Pk Ky No Rf Rl
open Sm (Tab)
theorem kids_len (t:T):(kidsT t).length≤16:=by
 cases t with
 | ext q s=>show 1≤16; omega
 | br ks =>
  show ((kidsOf ks).map ks).length≤16;rw [List.length_map];exact Nat.le_trans (List.length_filter_le _ _) (by simp)
 | _=>exact Nat.zero_le _
namespace Op1
variable {w0:World} {M M':Mp} {w w':World} {bk bt:Nat} {K:List UInt8} {p p':Option Addr} {t t':T}
end Op1
namespace Op2
variable {w0:World} {M M':Mp} {w w':World} {bk bt:Nat} {K:List UInt8} {p:Option Addr} {t:T} {bn:Nat} {N:Nd} {a:Option Addr} {n c:Nat} {ka:Option Addr} {kc':Nat} {ps:List (Option Addr)}
end Op2
end Tm
end
section
namespace Tm
open Tr Rf Rl Ni No
theorem sum_begin:∀ l:List Tr.In,((List.finRange 16).map fun c=>(beginL l c).length).sum≤l.length
 | []=>by
  have e:((List.finRange 16).map fun c=>(beginL [] c).length)=(List.finRange 16).map fun _=>0:=rfl;rw [e];decide
 | x::r=>by
  have ih:=sum_begin r;have key:∀ (cs:List (Fin 16)),cs.Nodup→(cs.map fun c=>(beginL (x::r) c).length).sum≤(cs.map fun c=>(beginL r c).length).sum+if ∃ c∈cs,(x.1.getD 0 0).toNat=c.val then 1 else 0:=by
   intro cs
   induction cs with
   | nil=>intro _; simp
   | cons c cs ih2 =>
    intro hd;obtain ⟨hc,hd'⟩:=List.nodup_cons.1 hd;have i2:=ih2 hd';rw [List.map_cons,List.map_cons,List.sum_cons,List.sum_cons];by_cases h:(x.1.getD 0 0).toNat=c.val
    ·have h1:(beginL (x::r) c).length=(beginL r c).length+1:=by
      unfold beginL;rw [List.filter_cons,if_pos (by simpa using h)];rfl
     have h2:¬ ∃ d∈cs,(x.1.getD 0 0).toNat=d.val:=fun ⟨d,hd,e⟩=>hc (by
      have:c=d:=Fin.ext (by omega);rw [this]; exact hd)
     rw [if_neg h2] at i2;rw [if_pos ⟨c,List.mem_cons_self,h⟩,h1];omega
    ·have h1:(beginL (x::r) c).length=(beginL r c).length:=by
      unfold beginL;rw [List.filter_cons,if_neg (by simpa using h)]
     rw [h1];by_cases h2:∃ d∈cs,(x.1.getD 0 0).toNat=d.val
     ·obtain ⟨d,hd,e⟩:=h2;rw [if_pos ⟨d,hd,e⟩] at i2;rw [if_pos ⟨d,List.mem_cons_of_mem _ hd,e⟩];omega
     ·rw [if_neg h2] at i2;omega
  have:=key (List.finRange 16) (List.nodup_finRange 16);rw [List.length_cons];split at this <;> omega
theorem nodes_few:∀ (L:Nat) (l:List Tr.In),Ok L l→(nodesT (build L l)).length≤(L+1)*l.length:=by
 intro L
 induction L using Nat.strongRecOn with
 | ind L ih =>
  intro l ok
  match l,ok with
  | [],_=>rw [build]; exact Nat.zero_le _
  | [x],_ =>
   rw [build];show 1≤(L+1)*1;omega
  | x::y::r,ok =>
   have hcl:=common_lt ok;rw [build];by_cases h:0<commonL (x::y::r)∧0<L
   ·rw [dif_pos h];have i1:=ih (L-commonL (x::y::r)) (by omega) (restL (x::y::r) (commonL (x::y::r))) (ok_rest ok (by omega) (fun a ha b hb=>by rw [all_begin ha,all_begin hb]));show (nodesT _).length+1≤_;have e:(restL (x::y::r) (commonL (x::y::r))).length=(x::y::r).length:=by unfold restL; rw [List.length_map]
    rw [e] at i1;have h2:(L-commonL (x::y::r)+1)*(x::y::r).length≤L*(x::y::r).length:=Nat.mul_le_mul_right _ (by omega);have h3:2≤(x::y::r).length:=by simp
    have h4:(L+1)*(x::y::r).length=L*(x::y::r).length+(x::y::r).length:=Nat.succ_mul _ _;omega
   ·rw [dif_neg h];by_cases h2:0<L
    ·rw [dif_pos h2];show ((List.finRange 16).map fun i=>nodesT (build (L-1) (restL (beginL (x::y::r) i) 1))).flatten.length+1≤_;have hb:∀ cs:List (Fin 16),(cs.map fun i=>nodesT (build (L-1) (restL (beginL (x::y::r) i) 1))).flatten.length≤L*(cs.map fun c=>(beginL (x::y::r) c).length).sum:=by
      intro cs
      induction cs with
      | nil=>exact Nat.zero_le _
      | cons c cs ih2 =>
       have i1:=ih (L-1) (by omega) (restL (beginL (x::y::r) c) 1) (ok_begin ok h2 c);have e:(restL (beginL (x::y::r) c) 1).length=(beginL (x::y::r) c).length:=by unfold restL; rw [List.length_map]
       rw [e,show L-1+1=L by omega] at i1;rw [List.map_cons,List.map_cons,List.flatten_cons,List.sum_cons,List.length_append,Nat.mul_add];omega
     have h3:=hb (List.finRange 16);have h4:=sum_begin (x::y::r);have h5:L*((List.finRange 16).map fun c=>(beginL (x::y::r) c).length).sum≤L*(x::y::r).length:=Nat.mul_le_mul_left _ h4;have h6:(L+1)*(x::y::r).length=L*(x::y::r).length+(x::y::r).length:=Nat.succ_mul _ _;have h7:2≤(x::y::r).length:=by simp
     omega
    ·rw [dif_neg h2];exact Nat.zero_le _
end Tm
end
section
open Go.RowKit
namespace Tm
open Tr Ni Pk Ky No Rf Rl
open Sm (Tab)
end Tm
end
section
open Go.RowKit
namespace Tm
open Tr Ni Pk Ky No Rf Rl
open Sm (Tab)
structure FrK (M:Mp) (K:Nat→Prop) (w w':World):Prop where
 os:w'.os=w.os
 tape:w'.tape=w.tape
 output:w'.output=w.output
 size:w.heap.size≤w'.heap.size
 block:∀ k,k<w.heap.size→M.at_ k=none → ¬ K k→w'.heap[k]? = w.heap[k]?
theorem FrK.refl (M:Mp) (K:Nat→Prop) (w:World):FrK M K w w:=⟨rfl,rfl,rfl,Nat.le_refl _,fun _ _ _ _=>rfl⟩
theorem FrK.trans {M:Mp} {K K1:Nat→Prop} {w w1 w2:World} (h:FrK M K w w1) (g:FrK M K1 w1 w2) (hk:∀ k,K1 k→K k∨w.heap.size≤k):FrK M K w w2 :=
 ⟨g.os.trans h.os,g.tape.trans h.tape,g.output.trans h.output,Nat.le_trans h.size g.size,fun k hl hm hn=>(g.block k (Nat.lt_of_lt_of_le hl h.size) hm fun h1=>(hk k h1).elim hn (by omega)).trans (h.block k hl hm hn)⟩
theorem FrK.of {M:Mp} {K:Nat→Prop} {w w':World} (f:Fr M M w w'):FrK M K w w':=⟨f.os,f.tape,f.output,f.size,fun k hl hm _=>f.block k hl hm⟩
theorem FrK.below {M:Mp} {K:Nat→Prop} {w w1 w2:World} (h:FrK M K w w1) {B:Nat} (hb:Below B w1 w2) (hB:w.heap.size≤B):FrK M K w w2 :=
 ⟨hb.os.trans h.os,hb.tape.trans h.tape,hb.output.trans h.output,Nat.le_trans h.size hb.size,fun k hl hm hn=>(hb.block k (by omega)).trans (h.block k hl hm hn)⟩
theorem Inv.keep {M:Mp} {w w':World} (h:Inv M w) (hs:w.heap.size≤w'.heap.size) (hk:∀ k,M.ft k→w'.heap[k]? = w.heap[k]?):Inv M w':=by
 refine ⟨fun k hk=>Nat.lt_of_lt_of_le (h.lt_ k hk) hs,fun b t hm=>?_⟩;obtain ⟨h1,h2,h3⟩:=h.part_ b t hm;refine ⟨h1,h2,?_⟩;obtain ⟨a,n,c,ka,kn,kc,d,r,hb,hB,hK,hd⟩:=h3;refine ⟨a,n,c,ka,kn,kc,d,r,(hk b h2).trans hb,⟨⟨hB.1.1,hB.1.2.1,hB.1.2.2.1,hB.1.2.2.2.1,fun j hj=>?_⟩,hB.2⟩,⟨hK.1,hK.2.1,hK.2.2.1,hK.2.2.2.1,fun j hj=>?_⟩,hd⟩
 ·obtain ⟨b',off,e,hlt,hc⟩:=hB.1.2.2.2.2 j hj;exact ⟨b',off,e,Nat.lt_of_lt_of_le hlt hs,by rw [World.cell?_of_block (hk b' (hB.2 _ e (by omega)))]; exact hc⟩
 ·obtain ⟨b',off,p,e,hlt,hf,hc,ht⟩:=hK.at' j hj;exact ⟨b',off,p,e,Nat.lt_of_lt_of_le hlt hs,hf,by rw [World.cell?_of_block (hk b' hf)]; exact hc,ht⟩
theorem owns_same {B sz n:Nat} {w w':World} {e:TypeId} {v:Value} {xs:List Value} (h:w.ownsRow B e sz v n xs) (hk:∀ k,v.ownBlock=some k→w'.heap[k]? = w.heap[k]?):w'.ownsRow B e sz v n xs:=by
 obtain ⟨h1,h2⟩:=h;refine ⟨h1,?_⟩;rcases h2 with h2 | ⟨g,cap,cur,rfl,hg,hh,hr⟩
 ·exact .inl h2
 ·exact .inr ⟨g,cap,cur,rfl,hg,(hk g rfl).trans hh,hr⟩
theorem owns_slice {B sz n:Nat} {w:World} {e:TypeId} {v:Value} {xs:List Value} (h:w.ownsRow B e sz v n xs):∃ a c,v = .slice a n c:=by
 rcases h.2 with ⟨rfl,rfl⟩ | ⟨g,cap,cur,rfl,_⟩
 ·exact ⟨_,_,rfl⟩
 ·exact ⟨_,_,rfl⟩
def treeP (M:Mp):Option Addr→T
 | none=>.nil
 | some ad=>(M.at_ ad.block).getD .nil
theorem IsT.treeP {M:Mp} {p:Option Addr} {t:T} (h:IsT M p t):Tm.treeP M p=t:=by
 cases p with
 | none=>exact Eq.symm h
 | some ad =>
  obtain ⟨b,rfl,hm,_⟩:=h;show (M.at_ b).getD .nil=t;rw [hm]; rfl
section
variable {M:Mp} {J:List T→(Nat→Prop)→World→Prop} {K0:Nat→Prop} {w0 w:World} {t:T} {v:Value} {V S:List T} {ps:List (Option Addr)} {K:Nat→Prop}
end
end Tm
end
section
open Go.RowKit
namespace Rf2
abbrev FW (r:Option Nat):Fence:={ Fence.wide with round:=r }
def noDefer (o:Oper):Bool:=match o.op with
 | .defer _=>false
 | _=>true
theorem noDefer_spec {o:Oper} (h:noDefer o=true):∀ c,o.op ≠ .defer c:=fun c e=>by
 unfold noDefer at h;rw [e] at h;cases h
theorem operIn {P:Program} {r:Option Nat} {n:Nat} {o:Oper} {a:Act} {w:World} {K K':Act→World→Prop} {Q Q':Exit→Act→World→Prop} (hd:noDefer o=true) (hK:∀ a w,K a w→K' a w) (hQ:∀ c a w,Q (.panic c) a w→Q' (.panic c) a w) (hL:¬ LetsOut Q)
  (h:o.wp P a w K Q):o.wpIn (FW r) n P a w K' Q':=by
 refine ⟨fun _ _=>trivial,?_⟩;have e:o.semAt (FW r).round a.eval=execOp a.eval o:=Oper.semAt_eq _ _ _ (noDefer_spec hd);rw [e];unfold Oper.wp at h;revert h;generalize (execOp a.eval o).run P w=res;intro h;cases res with
 | ok nx w' =>
  cases nx with
  | value v=>exact hK _ _ h
  | skip=>exact hK _ _ h
  | defer d=>exact hK _ _ h
  | enter f args =>
   refine ⟨fun hh=>(by cases hh),callsIn_wide.2 (Calls.mono h fun e w2 he=>?_)⟩;cases e with
   | returned v=>exact hK _ _ he
   | panicked c=>exact hQ _ _ _ he
   | outgrown=>exact absurd he hL
  | row row args =>
   refine ⟨fun hh=>(by cases hh),fun c cs _=>?_⟩;obtain ⟨v,w2,hr,hs⟩:=h c cs;exact ⟨v,w2,hK _ _ hr,stepsIn_wide.2 hs⟩
  | _=>exact h.elim
 | halt x w' =>
  cases x with
  | panic v=>exact hQ _ _ _ h
  | _=>exact h.elim
theorem listIn_app {P:Program} {r:Option Nat} {n:Nat} {ops:Array Oper} {Q Q1:Exit→Act→World→Prop} (hQ:∀ c a w,Q1 (.panic c) a w→Q (.panic c) a w) (hL:¬ LetsOut Q1) (l2:List Oper) (hK:∀ a w,Q1 .normal a w→wpListIn (FW r) n P ops Q l2 a w) :
  ∀ (l1:List Oper) (a:Act) (w:World),l1.all noDefer=true→wpList P ops Q1 l1 a w→wpListIn (FW r) n P ops Q (l1++l2) a w
 | [],a,w,_,h=>hK a w h
 | o::l1,a,w,hd,h=>by
  rw [List.all_cons,Bool.and_eq_true] at hd;unfold wpList at h;show wpListIn (FW r) n P ops Q (o::(l1++l2)) a w;unfold wpListIn;by_cases hw:Region.wanted o (yielded ops a.tmps)=true
  ·rw [if_pos hw] at h ⊢;rcases h with h | h
   ·exact operIn hd.1 (fun a w g=>listIn_app hQ hL l2 hK l1 a w hd.2 g) hQ hL h
   ·exact absurd h.2 hL
  ·rw [if_neg hw] at h ⊢;exact ⟨fun _ _=>trivial,listIn_app hQ hL l2 hK l1 _ w hd.2 h⟩
theorem lets_then {K:Act→World→Prop} {Q:Exit→Act→World→Prop} (h:¬ LetsOut Q):¬ LetsOut (Exit.then K Q):=h
theorem regionIn {P:Program} {r:Option Nat} {n id:Nat} {Q:Exit→Act→World→Prop} {a:Act} {w:World} {l:List Oper} (hd:l.all noDefer=true) (hL:¬ LetsOut Q) (h:wpList P l.toArray Q l a w):(Code.region id l.toArray false).wpIn (FW r) n P Q a w:=by
 have:=listIn_app (P:=P) (r:=r) (n:=n) (ops:=l.toArray) (fun _ _ _ h=>h) hL [] (fun _ _ h=>h) l a w hd h;rw [List.append_nil] at this;exact wpIn_region_lit this
theorem listRest {P:Program} {r:Option Nat} {n:Nat} {ops:Array Oper} {Q:Exit→Act→World→Prop} {a:Act} {w:World} {l:List Oper} (hd:l.all noDefer=true) (hL:¬ LetsOut Q) (h:wpList P ops Q l a w):wpListIn (FW r) n P ops Q l a w:=by
 have:=listIn_app (P:=P) (r:=r) (n:=n) (ops:=ops) (fun _ _ _ h=>h) hL [] (fun _ _ h=>h) l a w hd h;rw [List.append_nil] at this;exact this
theorem opIn {P:Program} {r:Option Nat} {n:Nat} {ops:Array Oper} {Q:Exit→Act→World→Prop} {K:Act→World→Prop} {i:Nat} {a:Act} {w:World} (hd:∀ o∈ops,noDefer o=true) (hL:¬ LetsOut Q) (h:wpOp P ops Q i K a w):wpOpIn (FW r) n P ops Q i K a w:=by
 unfold wpOp at h;unfold wpOpIn;cases ho:ops[i]? with
 | none=>rw [ho] at h; exact h
 | some o =>
  rw [ho] at h;dsimp only at h ⊢;by_cases hw:Region.wanted o (yielded ops a.tmps)=true
  ·rw [if_pos hw] at h ⊢;rcases h with h | h
   ·exact operIn (hd o (Array.mem_of_getElem? ho)) (fun _ _ g=>g) (fun _ _ _ g=>g) hL h
   ·exact absurd h.2 hL
  ·rw [if_neg hw] at h ⊢;exact ⟨fun _ _=>trivial,h⟩
theorem anyIn {P:Program} {r:Option Nat} {n:Nat} {md:Region.Mode} {ops:Array Oper} {Q:Exit→Act→World→Prop} (hd:∀ o∈ops,noDefer o=true) (hL:¬ LetsOut Q):∀ (fuel:Nat) (listed:Array Bool) (a:Act) (w:World),wpAny P md ops Q fuel listed a w→wpAnyIn (FW r) n P md ops Q fuel listed a w
 | 0,_,_,_,h=>h
 | fuel+1,_,_,_,h=>⟨h.1,fun i hi=>wpOpIn_mono (fun a w g=>anyIn hd hL fuel _ a w g) (opIn hd hL (h.2 i hi))⟩
theorem drawIn {P:Program} {r:Option Nat} {n id:Nat} {ops:Array Oper} {Q:Exit→Act→World→Prop} {S:World→Prop} {a:Act} {w:World} (hm:P.follows .mixedOrders=true) (hd:ops.toList.all noDefer=true) (hL:¬ LetsOut Q) (hS:S w.drew)
  (h:S w.drew→wpAnyH P .any ops Q S ops.size (Array.replicate ops.size false) a w.drew):(Code.region id ops true).wpIn (FW r) n P Q a w :=
 wpIn_region_any hm (anyIn (fun o ho=>List.all_eq_true.1 hd o (by simpa using ho)) hL _ _ _ _ (wpAny_of_held _ _ _ _ (h hS)))
theorem yieldIn {P:Program} {r:Option Nat} {n:Nat} {ops:Array Oper} {Q:Exit→Act→World→Prop} {o:Oper} {rest:List Oper} {a:Act} {w:World} {l:Nat} {args:Array Value} {R:Ending→World→Prop} (hw:Region.wanted o (yielded ops a.tmps)=true) (hd:noDefer o=true)
  (ho:(execOp a.eval o).run P w=(Instr.yield l args).run P w) (hY:YieldAt Fence.wide 0 P l args w R)
  (h:∀ e w',R e w'→∃ v,e = .returned v∧wpListIn (FW r) 0 P ops Q rest (a.put o.dst v) w'):wpListIn (FW r) 0 P ops Q (o::rest) a w:=by
 unfold wpListIn;rw [if_pos hw];refine ⟨fun _ _=>trivial,?_⟩;have e:o.semAt (FW r).round a.eval=execOp a.eval o:=Oper.semAt_eq _ _ _ (noDefer_spec hd);rw [e,ho];obtain ⟨fn,tmps,assign,body,hy,hR⟩:=hY;rw [hy];refine ⟨fun hh=>(by cases hh),RoundIn.mono hR fun e w' hr=>?_⟩;obtain ⟨v,rfl,g⟩:=h e w' hr;exact g
theorem calls_marks {P:Program} {f:FuncId} {fn:Func} {c:Code} {args:Array Value} {w:World} {R:Ending→World→Prop} (hf:P.funcs[f]? = some fn) (hb:fn.body=some c)
  (h:c.wp P (bodyPostM Fence.wide 0 P fn R) { tmps:=args++Array.replicate (fn.ntmps-args.size) undef,defers:=[] } w):Calls P f args w R :=
 callsIn_wide.1 (callsIn_of_wp_marks (n:=0) hf hb trivial (wpIn_wide.2 h))
def marks (Ds:List Nat):List Deferred:=Ds.map fun D=>{ target:=.collected D,args:=#[] }
def shut (w:World):List Nat→World
 | []=>w
 | D::Ds=>shut (w.putObj D (.deferred none)) Ds
theorem shut_size:∀ (Ds:List Nat) (w:World),(shut w Ds).heap.size=w.heap.size
 | [],_=>rfl
 | D::Ds,w=>by
  show (shut (w.putObj D (.deferred none)) Ds).heap.size=_;rw [shut_size,World.putObj_size]
theorem shut_block:∀ (Ds:List Nat) (w:World) (k:Nat),k ∉ Ds→(shut w Ds).heap[k]? = w.heap[k]?
 | [],_,_,_=>rfl
 | D::Ds,w,k,h=>by
  show (shut (w.putObj D (.deferred none)) Ds).heap[k]? = _;rw [shut_block Ds _ k (fun g=>h (List.mem_cons_of_mem _ g)),World.putObj_heap_other (fun e=>h (by rw [e]; exact List.mem_cons_self))]
theorem shut_same:∀ (Ds:List Nat) (w:World),(shut w Ds).os=w.os∧(shut w Ds).tape=w.tape∧(shut w Ds).output=w.output
 | [],_=>⟨rfl,rfl,rfl⟩
 | D::Ds,w=>shut_same Ds (w.putObj D (.deferred none))
theorem leaves_marks {P:Program} {fn:Func} {tmps:Array Value} {R:Ending→World→Prop}:∀ (Ds:List Nat) (w:World),Ds.Nodup→(∀ D∈Ds,w.heap[D]? = some (.deferred (some [])))→LeavesIn Fence.wide 0 P fn tmps R [] .returning (shut w Ds)→LeavesInM Fence.wide 0 P fn tmps R (marks Ds) .returning w
 | [],_,_,_,h=>h
 | D::Ds,w,hn,hD,h=>by
  obtain ⟨h1,h2⟩:=List.nodup_cons.1 hn;refine ⟨by simp,.inl ⟨_,_,rfl,run_takeDeferred (hD D List.mem_cons_self),leaves_marks Ds _ h2 (fun E hE=>?_) h⟩⟩;rw [World.putObj_heap_other (fun e=>h1 (by rw [← e]; exact hE))];exact hD E (List.mem_cons_of_mem _ hE)
end Rf2
namespace Tm
open Tr Ni Pk Ky No Rf Rl Rf2
open Sm (Tab)
structure Sta {α:Type} (M:Mp) (J:List α→(Nat→Prop)→World→Prop):Prop where
 st:∀ V K w w',J V K w→w.heap.size≤w'.heap.size→(∀ k,K k→w'.heap[k]? = w.heap[k]?)→J V K w'
 lt:∀ V K w,J V K w→∀ k,K k→k<w.heap.size∧M.at_ k=none ∧ ¬ M.ft k
structure Rnd {α:Type} (M:Mp) (J:List α→(Nat→Prop)→World→Prop) (V:List α) (K:Nat→Prop) (n:Nat) (x : α) (w w':World) (K':Nat→Prop):Prop where
 j:J (V++[x]) K' w'
 sub:∀ k,K' k→K k∨n≤k
 f:FrK M K w w'
 i:Inv M w'
 t:Tab w'
def SeqC {α:Type} (M:Mp) (gf:Nat) (lb:Array Value) (A : α→World→Array Value→Prop) (G:List α) (Pre:World→(Nat→Prop)→Prop):Prop :=
 ∀ (l:Nat) (J Js:List α→(Nat→Prop)→World→Prop) (K0:Nat→Prop) (w:World),Sta M J→Sta M Js→Pre w K0→Inv M w→Tab w→J [] K0 w →
  (∀ V K x args wx,J V K wx→FrK M K0 w wx→Inv M wx→Tab wx→V++[x]<+:G→A x wx args→YieldAt Fence.wide 0 Tryz.prog l args wx fun e w'=>∃ K',(e = .returned (.bool true)∧Rnd M J V K wx.heap.size x wx w' K')∨(e = .returned (.bool false)∧Rnd M Js V K wx.heap.size x wx w' K')) →
  Calls Tryz.prog gf (#[.func (.yield l) #[] #[]]++lb) w fun e w'=>(∃ v,e = .returned v)∧∃ V K,(V=G∧J V K w'∨V<+:G∧Js V K w')∧FrK M K0 w w'∧Inv M w'∧Tab w'∧∀ k,K k→K0 k∨w.heap.size≤k
structure Turn (l:Nat) (w w':World):Prop where
 u:Rg.Upd w l w'
 r:∃ r,w.heap[l]? = some (.loop r)
theorem Turn.cell {l:Nat} {w w':World} (h:Turn l w w') {p:Addr} {v:Value} (hc:w.cell? p=some v):w'.cell? p=some v:=by
 obtain ⟨r,hr⟩:=h.r;have hne:p.block≠l:=fun e=>by
  unfold World.cell? at hc;rw [e,hr] at hc;cases hc
 rw [World.cell?_of_block (h.u.block p.block hne)];exact hc
theorem Turn.own {l:Nat} {w w':World} (h:Turn l w w') {b:Nat} {cs:Array Value} {T:TypeId} (ho:Rg.Own w b cs T):Rg.Own w' b cs T:=by
 obtain ⟨r,hr⟩:=h.r;refine ho.upd h.u (fun e=>?_);have h1:=ho.2;rw [e,hr] at h1;cases h1
theorem Turn.bs {l:Nat} {w w':World} (h:Turn l w w') {a:Option Addr} {n c:Nat} {b:List UInt8} (hb:IsBs w a n c b):IsBs w' a n c b:=by
 refine ⟨hb.1,hb.2.1,hb.2.2.1,hb.2.2.2.1,fun j hj=>?_⟩;obtain ⟨k,off,h1,h2,h3⟩:=hb.2.2.2.2 j hj;exact ⟨k,off,h1,by rw [h.u.size]; exact h2,h.cell h3⟩
def RndPost {α:Type} (M:Mp) (I:List α→(Nat→Prop)→World→Prop) (Ix:Code→List α→(Nat→Prop)→World→Prop) (V:List α) (K:Nat→Prop) (n:Nat) (x : α) (w:World):Exit→Go.Act→World→Prop
 | .normal,_,w3=>∃ K',Rnd M I V K n x w w3 K'
 | .ret,_,w3=>∃ K',Rnd M (Ix .ret) V K n x w w3 K'
 | .exit id,_,w3=>∃ K',Rnd M (Ix (.exit id)) V K n x w w3 K'
 | .goto t,_,w3=>∃ K',Rnd M (Ix (.goto t)) V K n x w w3 K'
 | .panic _,_,_=>False
 | .outgrown,_,_=>False
theorem wp_range {α:Type} {M:Mp} {g:Operand} {ps:Array Tmp} {assign body:Code} {Q:Exit→Go.Act→World→Prop} {a:Go.Act} {w:World} {gf:Nat} {lb:Array Value} (hg:a.eval g = .func (.func gf) #[] lb) (eg:∀ args w,(callFunc gf args).run Tryz.prog w = .ok (.enter gf args) w)
  {A : α→World→Array Value→Prop} {G:List α} {Pre:World→(Nat→Prop)→Prop} (hseq:SeqC M gf lb A G Pre) (hps:∀ x W args,A x W args→args.size=ps.size) {K0:Nat→Prop} (hpre:∀ W1 K1,Below w.heap.size w W1→(∀ k,K1 k→K0 k∨w.heap.size≤k)→Pre W1 K1) (hi:Inv M w) (hT:Tab w)
  {I:List α→(Nat→Prop)→World→Prop} (hI:Sta M I) {Ix:Code→List α→(Nat→Prop)→World→Prop} (hIx:∀ c,Sta M (Ix c)) (h0:I [] K0 w)
  (hround:∀ (l:Nat) (V:List α) (K:Nat→Prop) (x : α) (args:Array Value) (W:World) (S:Go.Act→World→Prop),w.heap.size≤l→l<W.heap.size → ¬ K l→I V K W→FrK M K0 w W→(∀ k,K k→K0 k∨w.heap.size≤k)→Inv M W→Tab W→V++[x]<+:G→A x W args →
   (∀ a' W',Below W.heap.size W W'→(∀ W2,Turn l W' W2→body.wpIn (FW (some l)) 0 Tryz.prog (RndPost M I Ix V K W.heap.size x W2) a' W2)→S a' W') →
   assign.wpIn (FW (some l)) 0 Tryz.prog (Exit.then S (fun _ _ _=>False)) { tmps:=(ps.zip args).foldl (fun t (p,v)=>t.setIfInBounds p v) a.tmps,defers:=[] } W)
  (hdone:∀ K W,I G K W→FrK M K0 w W→Inv M W→Tab W→(∀ k,K k→K0 k∨w.heap.size≤k)→W.heap[w.heap.size]? = some (.deferred (some [])) → ¬ K w.heap.size→Q .normal { a with defers:={ target:=.collected w.heap.size,args:=#[] }::a.defers } W)
  (hstop:∀ c V K W,V<+:G→Ix c V K W→FrK M K0 w W→Inv M W→Tab W→(∀ k,K k→K0 k∨w.heap.size≤k)→W.heap[w.heap.size]? = some (.deferred (some [])) → ¬ K w.heap.size→c.wp Tryz.prog Q { a with defers:={ target:=.collected w.heap.size,args:=#[] }::a.defers } W) :
  (Code.rangeFunc g ps assign body).wp Tryz.prog Q a w:=by
 refine (wpIn_wide (n:=0)).1 (wpIn_rangeFunc fun fn hfn=>?_);obtain ⟨rec,hrec⟩:∃ rec:LoopState→Option Code→Loop,rec=fun st pe=>{ state:=st,pending:=pe,fn,tmps:=a.tmps,params:=ps,assign,body,defers:=w.heap.size }:=⟨_,rfl⟩
 obtain ⟨W1,hW1⟩:∃ W1,(w.alloc (.deferred (some []))).alloc (.loop (rec .ready none))=W1:=⟨_,rfl⟩
 have hL1:W1.heap[w.heap.size+1]? = some (.loop (rec .ready none)):=by
  rw [← hW1]; have:=World.alloc_heap_new (w.alloc (.deferred (some []))) (.loop (rec .ready none)); rwa [World.size_alloc] at this
 have hK1:W1.heap[w.heap.size]? = some (.deferred (some [])):=by
  rw [← hW1]; exact (Below.heap_alloc _ _ _ (by simp)).trans (World.alloc_heap_new w _)
 have hb1:Below w.heap.size w W1:=by rw [← hW1]; exact ((Below.refl _ w).alloc (Nat.le_refl _) _).alloc (by simp) _
 have hs1:W1.heap.size=w.heap.size+2:=by rw [← hW1]; simp
 obtain ⟨D,hD⟩:∃ D,w.heap.size=D:=⟨_,rfl⟩
 have hout:∀ k,D≤k→M.at_ k=none ∧ ¬ M.ft k:=fun k hk=>⟨hi.out (by omega),hi.free (by omega)⟩
 have hz:1<D:=by rw [← hD]; exact hT.pos
 have hK0:=hI.lt _ _ _ h0;refine ⟨w.heap.size+1,[{ target:=.collected w.heap.size,args:=#[] }],W1,{ target:=.fn (.func gf) lb,args:=#[.func (.yield (w.heap.size+1)) #[] #[]] },W1,gf,
  #[.func (.yield (w.heap.size+1)) #[] #[]]++lb,W1,?_,?_,fun _ _=>trivial,?_,fun hh=>(by cases hh),?_⟩
 ·rw [← hW1,hrec]; exact run_enterLoop_outer _ _ _ _ _
 ·simp only [resolve,hg];simp [go_sem]
 ·simp [invoke,go_sem,eg]
 ·rw [hD] at hL1 hK1 hb1 hs1 ⊢;simp only [hD] at hround hdone hstop hpre hrec hT;have hBk:∀ (I:List α→(Nat→Prop)→World→Prop) (st:LoopState) (pe:Option Code),Sta M I→Sta M (fun V K' W=>∃ K,I V K W∧(∀ k,K' k↔K k∨k=D∨k=D+1) ∧ ¬ K D ∧ ¬ K (D+1)∧(∀ k,K k→K0 k∨D≤k)∧W.heap[D+1]? = some (.loop (rec st pe))∧W.heap[D]? = some (.deferred (some []))):=fun I st pe hI=>by
   refine ⟨fun V K' W W' ⟨K,h1,h2,h3,h4,h5,h6,h7⟩ hs hk=>⟨K,hI.st _ _ _ _ h1 hs fun k hk'=>hk k ((h2 k).2 (.inl hk')),h2,h3,h4,h5,(hk _ ((h2 _).2 (.inr (.inr rfl)))).trans h6,(hk _ ((h2 _).2 (.inr (.inl rfl)))).trans h7⟩,fun V K' W ⟨K,h1,h2,h3,h4,h5,h6,h7⟩ k hk=>?_⟩;rcases (h2 k).1 hk with h | rfl | rfl
   ·exact hI.lt _ _ _ h1 k h
   ·exact ⟨(Array.getElem?_eq_some_iff.1 h7).1,hout _ (Nat.le_refl _)⟩
   ·exact ⟨(Array.getElem?_eq_some_iff.1 h6).1,hout _ (Nat.le_succ _)⟩
  have hSx:Sta M (fun V K' W=>∃ c K,Ix c V K W∧(∀ k,K' k↔K k∨k=D∨k=D+1) ∧ ¬ K D ∧ ¬ K (D+1)∧(∀ k,K k→K0 k∨D≤k)∧W.heap[D+1]? = some (.loop (rec .done (some c)))∧W.heap[D]? = some (.deferred (some []))) :=
   ⟨fun V K' W W' ⟨c,h⟩ hs hk=>⟨c,(hBk (Ix c) .done (some c) (hIx c)).st V K' W W' h hs hk⟩,fun V K' W ⟨c,h⟩=>(hBk (Ix c) .done (some c) (hIx c)).lt V K' W h⟩
  have hi1:Inv M W1:=hi.keep hb1.size fun k hk=>hb1.block k (by rw [← hD]; exact hi.lt_ k hk);have hT1:Tab W1:=hT.below hb1 hz;refine callsIn_wide.2 ((hseq (D+1) _ _ (fun k=>K0 k∨k=D∨k=D+1) W1 (hBk I .ready none hI) hSx (hpre W1 _ hb1 fun k hk=>hk.elim Or.inl fun h=>.inr (by omega)) hi1 hT1
   ⟨K0,hI.st _ _ _ _ h0 hb1.size fun k hk=>hb1.block k (by have:=(hK0 k hk).1; omega),fun k=>Iff.rfl,fun h=>by have:=(hK0 _ h).1; omega,fun h=>by have:=(hK0 _ h).1; omega,fun k hk=>.inl hk,hL1,hK1⟩ ?_).mono ?_)
  ·-- one round
   rintro V K' x args W ⟨K,hj,hKK,hKD,hKL,hKs,hl,hd⟩ hfW hiW hTW hpf hA;have hf0:FrK M K0 w W:=⟨hfW.os.trans hb1.os,hfW.tape.trans hb1.tape,hfW.output.trans hb1.output,by have:=hfW.size; omega,fun k hk hm hn=>by
    have hkD:k<D:=by omega
    rw [hfW.block k (by omega) hm (fun g=>g.elim hn (by omega)),hb1.block k (by omega)]⟩
   have hlt:D+1<W.heap.size:=(Array.getElem?_eq_some_iff.1 hl).1;have hy:=run_yield (P:=Tryz.prog) (args:=args) hl (by rw [hrec]; exact hps x W args hA);rw [hrec] at hy;refine ⟨fn,_,assign,body,hy,roundIn_of_wpIn trivial (hround (D+1) V K x args W _ (Nat.le_succ _) hlt hKL hj hf0 hKs hiW hTW hpf hA fun a' W' hb' hbody=>?_)⟩;have hl':W'.heap[D+1]? = some (.loop (rec .ready none)):=(hb'.block _ hlt).trans hl;have hd':W'.heap[D]? = some (.deferred (some [])):=(hb'.block _ (by omega)).trans hd;refine ⟨_,run_beginRound hl' (by rw [hrec]),?_⟩
   have hu2:Rg.Upd W' (D+1) (W'.putObj (D+1) (.loop { rec .ready none with state:=.busy })):=⟨rfl,rfl,rfl,World.putObj_size,fun k hk=>World.putObj_heap_other hk⟩
   have hl2:(W'.putObj (D+1) (.loop { rec .ready none with state:=.busy })).heap[D+1]? = some (.loop { rec .ready none with state:=.busy }):=World.putObj_heap_same (Array.getElem?_eq_some_iff.1 hl').1;have hd2:=(hu2.block D (by omega)).trans hd';refine wpIn_mono (hbody _ ⟨hu2,_,hl'⟩) ?_;generalize hW2:W'.putObj (D+1) (.loop { rec .ready none with state:=.busy })=W2 at hu2 hl2 hd2;have fin:∀ (c:Option Code) (I':List α→(Nat→Prop)→World→Prop) (W3:World) (K3:Nat→Prop),Sta M I'→Rnd M I' V K W.heap.size x W2 W3 K3 →
     (Instr.endRound (D+1) c).run Tryz.prog W3 = .ok (.bool c.isNone) (W3.putObj (D+1) (.loop (rec (if c.isNone then .ready else .done) c))) ∧
     Rnd M (fun V K' W=>∃ K,I' V K W∧(∀ k,K' k↔K k∨k=D∨k=D+1) ∧ ¬ K D ∧ ¬ K (D+1)∧(∀ k,K k→K0 k∨D≤k)∧W.heap[D+1]? = some (.loop (rec (if c.isNone then .ready else .done) c))∧W.heap[D]? = some (.deferred (some []))) V K' W.heap.size x W (W3.putObj (D+1) (.loop (rec (if c.isNone then .ready else .done) c))) (fun k=>K3 k∨k=D∨k=D+1):=fun c I' W3 K3 hI' h=>by
    have hs2:W2.heap.size=W'.heap.size:=hu2.size;have hs':=hb'.size;have hl3:W3.heap[D+1]? = some (.loop { rec .ready none with state:=.busy }):=(h.f.block _ (by omega) (hout _ (by omega)).1 hKL).trans hl2;have hd3:W3.heap[D]? = some (.deferred (some [])):=(h.f.block _ (by omega) (hout _ (by omega)).1 hKD).trans hd2;have hr:=run_endRound (P:=Tryz.prog) c hl3;rw [hrec] at hr ⊢
    have hu3:Rg.Upd W3 (D+1) (W3.putObj (D+1) (.loop { state:=(if c.isNone then .ready else .done),pending:=c,fn,tmps:=a.tmps,params:=ps,assign,body,defers:=D })):=⟨rfl,rfl,rfl,World.putObj_size,fun k hk=>World.putObj_heap_other hk⟩
    have hnD:¬ K3 D:=fun hk=>(h.sub _ hk).elim hKD (by omega);have hnL:¬ K3 (D+1):=fun hk=>(h.sub _ hk).elim hKL (by omega);refine ⟨hr,⟨⟨K3,hI'.st _ _ _ _ h.j (by rw [hu3.size]; exact Nat.le_refl _) fun k hk=>hu3.block k fun e=>hnL (by rw [← e]; exact hk),fun k=>Iff.rfl,hnD,hnL,fun k hk=>(h.sub k hk).elim (hKs k) (by omega),World.putObj_heap_same (Array.getElem?_eq_some_iff.1 hl3).1,(hu3.block D (by omega)).trans hd3⟩,fun k hk=>?_,?_,h.i.upd hu3 (hout _ (by omega)).2,fun j hj=>?_⟩⟩
    ·rcases hk with hk | hk
     ·exact (h.sub k hk).elim (fun g=>.inl ((hKK k).2 (.inl g))) .inr
     ·exact .inl ((hKK k).2 (.inr hk))
    ·refine ⟨hu3.os.trans (h.f.os.trans (hu2.os.trans hb'.os)),hu3.tape.trans (h.f.tape.trans (hu2.tape.trans hb'.tape)),hu3.output.trans (h.f.output.trans (hu2.output.trans hb'.output)),by rw [hu3.size]; exact Nat.le_trans (by omega) h.f.size,fun k hk hm hn=>?_⟩;have hne:k≠D+1:=fun e=>hn ((hKK k).2 (.inr (.inr e)));rw [hu3.block k hne,h.f.block k (by omega) hm (fun g=>hn ((hKK k).2 (.inl g))),hu2.block k hne,hb'.block k hk]
    ·rw [World.cell?_of_block (hu3.block 1 (by omega))];exact h.t j hj
   rintro e a3 W3 hp;cases e with
   | normal =>
    obtain ⟨K3,hp⟩:=hp;obtain ⟨h1,h2⟩:=fin none I W3 K3 hI hp;exact ⟨_,_,h1,_,.inl ⟨rfl,h2⟩⟩
   | ret =>
    obtain ⟨K3,hp⟩:=hp;obtain ⟨h1,h2⟩:=fin (some .ret) (Ix .ret) W3 K3 (hIx _) hp;exact ⟨_,_,h1,_,.inr ⟨rfl,⟨_,h2.j⟩,h2.sub,h2.f,h2.i,h2.t⟩⟩
   | exit id =>
    obtain ⟨K3,hp⟩:=hp;obtain ⟨h1,h2⟩:=fin (some (.exit id)) (Ix (.exit id)) W3 K3 (hIx _) hp;exact ⟨_,_,h1,_,.inr ⟨rfl,⟨_,h2.j⟩,h2.sub,h2.f,h2.i,h2.t⟩⟩
   | goto t =>
    obtain ⟨K3,hp⟩:=hp;obtain ⟨h1,h2⟩:=fin (some (.goto t)) (Ix (.goto t)) W3 K3 (hIx _) hp;exact ⟨_,_,h1,_,.inr ⟨rfl,⟨_,h2.j⟩,h2.sub,h2.f,h2.i,h2.t⟩⟩
   | panic ch=>exact hp.elim
   | outgrown=>exact hp.elim
  ·-- behind the iterator
   rintro e W2 ⟨⟨v,rfl⟩,V,K',hV,f2,i2,t2,hsub⟩;have key:∀ (c:Option Code) (st:LoopState) (I':List α→(Nat→Prop)→World→Prop),Sta M I'→st ≠ .busy→(∃ K,I' V K W2∧(∀ k,K' k↔K k∨k=D∨k=D+1) ∧ ¬ K D ∧ ¬ K (D+1)∧(∀ k,K k→K0 k∨D≤k)∧W2.heap[D+1]? = some (.loop (rec st c))∧W2.heap[D]? = some (.deferred (some []))) →
     ∃ W4 K,(Instr.endLoop (D+1)).run Tryz.prog W2 = .ok c W4∧I' V K W4∧FrK M K0 w W4∧Inv M W4∧Tab W4∧(∀ k,K k→K0 k∨D≤k)∧W4.heap[D]? = some (.deferred (some [])) ∧ ¬ K D:=fun c st I' hI' hst ⟨K,hj,hKK,hKD,hKL,hKs,hl,hd⟩=>by
    have hr:=run_endLoop (P:=Tryz.prog) hl (by rw [hrec]; exact hst);rw [hrec] at hr;have hu3:Rg.Upd W2 (D+1) (W2.putObj (D+1) (.loop { state:=.exhausted,pending:=c,fn,tmps:=a.tmps,params:=ps,assign,body,defers:=D })):=⟨rfl,rfl,rfl,World.putObj_size,fun k hk=>World.putObj_heap_other hk⟩
    refine ⟨_,K,hr,hI'.st _ _ _ _ hj (by rw [hu3.size]; exact Nat.le_refl _) (fun k hk=>hu3.block k fun e=>hKL (by rw [← e]; exact hk)),?_,i2.upd hu3 (hout _ (by omega)).2,fun j hj=>?_,hKs,(hu3.block D (by omega)).trans hd,hKD⟩
    ·have hs2:=f2.size;refine ⟨hu3.os.trans (f2.os.trans hb1.os),hu3.tape.trans (f2.tape.trans hb1.tape),hu3.output.trans (f2.output.trans hb1.output),by rw [hu3.size]; omega,fun k hk hm hn=>?_⟩;have hkD:k<D:=by omega
     rw [hu3.block k (by omega),f2.block k (by omega) hm (fun g=>g.elim hn (by omega)),hb1.block k (by omega)]
    ·rw [World.cell?_of_block (hu3.block 1 (by omega))];exact t2 j hj
   rcases hV with ⟨rfl,h⟩ | ⟨hpf,c,h⟩
   ·obtain ⟨W4,K,hr,g1,g2,g3,g4,g5,g6,g7⟩:=key none .ready I hI (by simp) h;exact ⟨none,W4,hr,hdone K W4 g1 g2 g3 g4 g5 g6 g7⟩
   ·obtain ⟨W4,K,hr,g1,g2,g3,g4,g5,g6,g7⟩:=key (some c) .done (Ix c) (hIx c) (by simp) h;exact ⟨some c,W4,hr,(wpIn_wide (n:=0)).2 (hstop c V K W4 hpf g1 g2 g3 g4 g5 g6 g7)⟩
end Tm
end
section
namespace Tr
open Rf Rl Ni No
def depthT:T→Nat
 | .nil=>0
 | .leaf _ _=>1
 | .ext _ t=>1+depthT t
 | .br ks=>1+((List.finRange 16).map fun i=>depthT (ks i)).foldl max 0
 | .stub _=>0
def stubsN:T→Nat
 | .nil=>0
 | .leaf _ _=>0
 | .ext _ t=>stubsN t
 | .br ks=>((List.finRange 16).map fun i=>stubsN (ks i)).sum
 | .stub _=>1
def nodesAt:T→Pa→List Nd
 | .nil,_=>[]
 | .leaf p v,_=>[nodeT (.leaf p v)]
 | .ext q t,w=>nodeT (.ext q t)::if q<+:w then nodesAt t (w.drop q.length) else []
 | .br ks,[]=>[nodeT (.br ks)]
 | .br ks,c::w=>nodeT (.br ks)::nodesAt (ks (nb c)) w
 | .stub _,_=>[]
theorem depth_le:∀ (t:T) (L:Nat),Good t L→depthT t≤L+1
 | .nil,_,_=>Nat.zero_le _
 | .leaf _ _,L,_=>by show 1≤L+1; omega
 | .ext q t,L,g=>by
  have h:=depth_le t _ g.2.2.2.2;have hq:0<q.length:=List.length_pos_iff.2 g.1;have hl:=g.2.2.1;show 1+depthT t≤L+1;omega
 | .br ks,L,g=>by
  have h:∀ i,depthT (ks i)≤L:=fun i=>by
   have:=depth_le (ks i) _ (g.2.2 i);have:=g.1;omega
  have key:∀ (l:List (Fin 16)) (m:Nat),m≤L→(l.map fun i=>depthT (ks i)).foldl max m≤L:=by
   intro l
   induction l with
   | nil=>intro m hm; exact hm
   | cons i l ih=>intro m hm; exact ih _ (Nat.max_le.2 ⟨hm,h i⟩)
  have:=key (List.finRange 16) 0 (Nat.zero_le _);show 1+_≤L+1;omega
 | .stub _,_,_=>Nat.zero_le _
theorem stubs_full:∀ t:T,Full t→stubsN t=0
 | .nil,_=>rfl
 | .leaf _ _,_=>rfl
 | .ext _ t,f=>stubs_full t f
 | .br ks,f=>by
  have e:((List.finRange 16).map fun i=>stubsN (ks i))=(List.finRange 16).map fun _=>0:=List.map_congr_left fun i _=>stubs_full (ks i) (f i);show ((List.finRange 16).map fun i=>stubsN (ks i)).sum=0;rw [e];decide
 | .stub _,f=>f.elim
end Tr
end
section
namespace Tr
open Rf Rl Ni No
theorem cp_prefix:∀ {q p:Pa},q<+:p↔cp q p=q.length
 | [],_=>by simp [cp]
 | _::_,[]=>by simp [cp]
 | a::q,b::p=>by
  rw [List.cons_prefix_cons,cp_prefix (q:=q) (p:=p)];by_cases e:a=b
  ·simp [cp,e]
  ·simp [cp,e]
theorem built_nil (L:Nat):build L [] = .nil:=by rw [build]
theorem built_one (L:Nat) (x:In):build L [x] = .leaf x.1 x.2:=by rw [build]
theorem built_ext {L:Nat} {x y:In} {r:List In} (ok:Ok L (x::y::r)) (h:0<commonL (x::y::r)):commonL (x::y::r)<L∧build L (x::y::r) = .ext (x.1.take (commonL (x::y::r))) (build (L-commonL (x::y::r)) (restL (x::y::r) (commonL (x::y::r))))∧Ok (L-commonL (x::y::r)) (restL (x::y::r) (commonL (x::y::r))):=by
 have hcl:=common_lt ok;refine ⟨hcl,?_,ok_rest ok (by omega) (fun z hz z' hz'=>by rw [all_begin hz,all_begin hz'])⟩;rw [build,dif_pos ⟨h,by omega⟩]
theorem built_br {L:Nat} {x y:In} {r:List In} (ok:Ok L (x::y::r)) (h:¬ 0<commonL (x::y::r)):0<L∧build L (x::y::r) = .br (fun c=>build (L-1) (restL (beginL (x::y::r) c) 1)):=by
 have hcl:=common_lt ok;refine ⟨by omega,?_⟩;rw [build,dif_neg (fun g=>h g.1),dif_pos (by omega)]
theorem at_kinds {L:Nat} {l:List In} (ok:Ok L l) (hne:l≠[]) (w:Pa) :
  ((nodeT (build L l)).kd=1∧nodesAt (build L l) w=[nodeT (build L l)]) ∨
  ((nodeT (build L l)).kd=2∧∃ K,0<K∧K≤L∧(nodeT (build L l)).p.length=K∧Ok (L-K) (restL l K)∧nodesAt (build L l) w=nodeT (build L l)::if cp (nodeT (build L l)).p w=K then nodesAt (build (L-K) (restL l K)) (w.drop K) else []) ∨
  ((nodeT (build L l)).kd=3∧0<L∧(w=[]→nodesAt (build L l) w=[nodeT (build L l)])∧∀ c r,w=c::r→nodesAt (build L l) w=nodeT (build L l)::nodesAt (build (L-1) (restL (beginL l (nb c)) 1)) r):=by
 match l,hne with
 | [x],_=>rw [built_one]; exact .inl ⟨rfl,rfl⟩
 | x::y::r,_ =>
  have hxl:=(ok.1 x List.mem_cons_self).1;by_cases h:0<commonL (x::y::r)
  ·obtain ⟨h1,h3,h4⟩:=built_ext ok h;have hlen:(x.1.take (commonL (x::y::r))).length=commonL (x::y::r):=by rw [List.length_take]; omega
   rw [h3];refine .inr (.inl ⟨rfl,_,h,by omega,hlen,h4,?_⟩);show (_::if _ then _ else _)=_::if cp (x.1.take (commonL (x::y::r))) w=_ then _ else _
   congr 1;by_cases hp:x.1.take (commonL (x::y::r))<+:w
   ·rw [if_pos hp,if_pos (by rw [cp_prefix.1 hp,hlen]),hlen]
   ·rw [if_neg hp,if_neg (fun e=>hp (cp_prefix.2 (by rw [e,hlen])))]
  ·obtain ⟨h1,h3⟩:=built_br ok h;rw [h3];refine .inr (.inr ⟨rfl,h1,fun e=>by rw [e]; rfl,fun c r' e=>by rw [e]; rfl⟩)
end Tr
end
section
namespace Tr
open Rf Rl Ni No
def hiN (b:UInt8):UInt8:=UInt8.ofNat (b.toNat/16)
def loN (b:UInt8):UInt8:=UInt8.ofNat (b.toNat%16)
theorem hiN_toNat (b:UInt8):(hiN b).toNat=b.toNat/16:=by
 have:=b.toNat_lt;unfold hiN;rw [UInt8.toNat_ofNat'];omega
theorem loN_toNat (b:UInt8):(loN b).toNat=b.toNat%16:=by
 unfold loN;rw [UInt8.toNat_ofNat'];omega
theorem path_cons (b:UInt8) (k:Key):path (b::k)=hiN b::loN b::path k:=by
 have hs:∀ l:Key,(⟨l.toArray⟩:ByteArray).size=l.length:=fun l=>by show l.toArray.size=_; simp
 apply List.ext_getElem
 ·rw [List.length_cons,List.length_cons,path_length,path_length,List.length_cons];omega
 ·intro i h1 h2;rw [path_length,List.length_cons] at h1;have e:∀ (l:Key) (j:Nat) (hj:j<(path l).length),((path l)[j]).toNat=nibAt ⟨l.toArray⟩ j:=fun l j hj=>by
   have h3:j<2*(⟨l.toArray⟩:ByteArray).size:=by rw [hs]; rw [path_length] at hj; exact hj
   have:=nibsL_getD ⟨l.toArray⟩ j h3;unfold path;rw [← this,List.getD_eq_getElem?_getD,List.getElem?_eq_getElem (by rw [nibsL_length]; exact h3)];rfl
  apply UInt8.toNat_inj.1;rw [e]
  match i with
  | 0 =>
   show _=(hiN b).toNat;rw [hiN_toNat];unfold nibAt;simp
  | 1 =>
   show _=(loN b).toNat;rw [loN_toNat];unfold nibAt;simp
  | j+2 =>
   show _=((path k)[j]'(by rw [path_length]; omega)).toNat;rw [e];unfold nibAt;have h3:(j+2)%2=j%2:=by omega
   have h4:(j+2)/2=j/2+1:=by omega
   rw [h3,h4];simp
theorem path_lt:∀ {k k':Key},ltP (path k) (path k')=ltP k k'
 | [],[]=>rfl
 | [],_::_=>rfl
 | b::k,[]=>by rw [path_cons]; rfl
 | a::k,b::k'=>by
  rw [path_cons,path_cons];have ih:=path_lt (k:=k) (k':=k');have h1:=hiN_toNat a;have h2:=hiN_toNat b;have h3:=loN_toNat a;have h4:=loN_toNat b;by_cases e:a=b
  ·subst e;simp [ltP,ih]
  ·have hn:a.toNat≠b.toNat:=fun k=>e (UInt8.toNat_inj.1 k);unfold ltP;rw [if_neg e];by_cases e1:hiN a=hiN b
   ·rw [if_pos e1];unfold ltP;have e5:(hiN a).toNat=(hiN b).toNat:=by rw [e1]
    have e2:loN a≠loN b:=fun k=>by
     have:(loN a).toNat=(loN b).toNat:=by rw [k]
     omega
    rw [if_neg e2,Bool.eq_iff_iff,decide_eq_true_eq,decide_eq_true_eq];omega
   ·rw [if_neg e1,Bool.eq_iff_iff,decide_eq_true_eq,decide_eq_true_eq];have:(hiN a).toNat≠(hiN b).toNat:=fun k=>e1 (UInt8.toNat_inj.1 k);omega
def insP:List Pair→Pair→List Pair
 | [],x=>[x]
 | y::r,x=>if ltP y.1 x.1=true then y::insP r x else if y.1=x.1 then x::r else x::y::r
def sortL (l:List Pair):List Pair:=l.foldl insP []
theorem mem_insP:∀ {l:List Pair},Rising l→(∀ y∈l,y.1.length=32)→∀ {x:Pair},x.1.length=32→∀ z:Pair,z∈insP l x↔z=x∨z∈l∧z.1≠x.1
 | [],_,_,x,_,z=>by simp [insP]
 | y::r,h,hk,x,hx,z=>by
  obtain ⟨h1,h2⟩:=List.pairwise_cons.1 h;unfold insP;by_cases hl:ltP y.1 x.1=true
  ·rw [if_pos hl,List.mem_cons,mem_insP h2 (fun w hw=>hk w (List.mem_cons_of_mem _ hw)) hx z,List.mem_cons];have hne:y.1≠x.1:=fun e=>by rw [e,ltP_irrefl] at hl; cases hl
   constructor
   ·rintro (rfl | rfl | ⟨g1,g2⟩)
    ·exact .inr ⟨.inl rfl,hne⟩
    ·exact .inl rfl
    ·exact .inr ⟨.inr g1,g2⟩
   ·rintro (rfl | ⟨rfl | g1,g2⟩)
    ·exact .inr (.inl rfl)
    ·exact .inl rfl
    ·exact .inr (.inr ⟨g1,g2⟩)
  ·rw [if_neg hl];by_cases he:y.1=x.1
   ·rw [if_pos he,List.mem_cons,List.mem_cons];constructor
    ·rintro (rfl | g)
     ·exact .inl rfl
     ·refine .inr ⟨.inr g,fun e=>?_⟩;have:=h1 z g;rw [he,e,ltP_irrefl] at this;cases this
    ·rintro (rfl | ⟨rfl | g1,g2⟩)
     ·exact .inl rfl
     ·exact absurd he g2
     ·exact .inr g1
   ·rw [if_neg he,List.mem_cons];have hxy:ltP x.1 y.1=true:=by
     rcases ltP_total (p:=x.1) (q:=y.1) (by rw [hx,hk y List.mem_cons_self]) (fun e=>he e.symm) with g | g
     ·exact g
     ·exact absurd g hl
    constructor
    ·rintro (rfl | g)
     ·exact .inl rfl
     ·refine .inr ⟨g,fun e=>?_⟩;rcases List.mem_cons.1 g with rfl | g
      ·exact he e
      ·have:=ltP_trans hxy (h1 z g);rw [e,ltP_irrefl] at this;cases this
    ·rintro (rfl | ⟨g1,g2⟩)
     ·exact .inl rfl
     ·exact .inr g1
theorem rising_insP:∀ {l:List Pair},Rising l→(∀ y∈l,y.1.length=32)→∀ {x:Pair},x.1.length=32→Rising (insP l x)
 | [],_,_,x,_=>List.pairwise_singleton _ _
 | y::r,h,hk,x,hx=>by
  obtain ⟨h1,h2⟩:=List.pairwise_cons.1 h;have hk':∀ w∈r,w.1.length=32:=fun w hw=>hk w (List.mem_cons_of_mem _ hw);unfold insP;by_cases hl:ltP y.1 x.1=true
  ·rw [if_pos hl];refine List.pairwise_cons.2 ⟨fun z hz=>?_,rising_insP h2 hk' hx⟩;rcases (mem_insP h2 hk' hx z).1 hz with rfl | ⟨g,_⟩
   ·exact hl
   ·exact h1 z g
  ·rw [if_neg hl];by_cases he:y.1=x.1
   ·rw [if_pos he];exact List.pairwise_cons.2 ⟨fun z hz=>by rw [← he]; exact h1 z hz,h2⟩
   ·rw [if_neg he];have hxy:ltP x.1 y.1=true:=by
     rcases ltP_total (p:=x.1) (q:=y.1) (by rw [hx,hk y List.mem_cons_self]) (fun e=>he e.symm) with g | g
     ·exact g
     ·exact absurd g hl
    refine List.pairwise_cons.2 ⟨fun z hz=>?_,h⟩;rcases List.mem_cons.1 hz with rfl | hz
    ·exact hxy
    ·exact ltP_trans hxy (h1 z hz)
theorem sortL_snoc (l:List Pair) (x:Pair):sortL (l++[x])=insP (sortL l) x:=by
 unfold sortL;rw [List.foldl_append];rfl
theorem sorted:∀ (n:Nat) (l:List Pair),l.length=n→(∀ x∈l,x.1.length=32)→Rising (sortL l)∧∀ z:Pair,z∈sortL l↔lastL l z.1=some z.2
 | 0,l,hl,_=>by
  obtain rfl:=List.eq_nil_of_length_eq_zero hl;exact ⟨List.Pairwise.nil,fun z=>by simp [sortL,lastL]⟩
 | n+1,l,hl,h=>by
  have hne:l≠[]:=fun e=>by rw [e] at hl; cases hl
  obtain ⟨r,x,rfl⟩:∃ r x,l=r++[x]:=⟨l.dropLast,l.getLast hne,(List.dropLast_concat_getLast hne).symm⟩
  rw [List.length_append,List.length_singleton] at hl;obtain ⟨h1,h2⟩:=sorted n r (by omega) (fun y hy=>h y (List.mem_append_left _ hy));have hx:=h x (by simp);have hk:∀ y∈sortL r,y.1.length=32:=fun y hy=>by
   have:=(h2 y).1 hy;rcases Classical.em (∀ z∈r,z.1≠y.1) with g | g
   ·rw [last_none.2 g] at this; cases this
   ·rw [Classical.not_forall] at g;obtain ⟨z,g⟩:=g;rw [Classical.not_imp] at g;have e:z.1=y.1:=Classical.byContradiction g.2;rw [← e];exact h z (List.mem_append_left _ g.1)
  rw [sortL_snoc];refine ⟨rising_insP h1 hk hx,fun z=>?_⟩;rw [mem_insP h1 hk hx z,last_snoc,h2 z];by_cases e:z.1=x.1
  ·rw [if_pos e];constructor
   ·rintro (rfl | ⟨_,g⟩)
    ·rfl
    ·exact absurd e g
   ·intro g;exact .inl (Prod.ext e (Option.some.inj g).symm)
  ·rw [if_neg e];constructor
   ·rintro (rfl | ⟨g,_⟩)
    ·exact absurd rfl e
    ·exact g
   ·intro g;exact .inr ⟨g,e⟩
theorem Has.sorted {t:T} {l:List Pair} (h:Has t (lastL l)) (hk:∀ x∈l,x.1.length=32):pathsT t []=(sortL l).map fun x=>(path x.1,x.2):=by
 obtain ⟨h1,h2⟩:=Tr.sorted l.length l rfl hk;have hlen:∀ y∈sortL l,y.1.length=32:=fun y hy=>by
  have:=(h2 y).1 hy;rcases Classical.em (∀ z∈l,z.1≠y.1) with g | g
  ·rw [last_none.2 g] at this; cases this
  ·rw [Classical.not_forall] at g;obtain ⟨z,g⟩:=g;rw [Classical.not_imp] at g;have e:z.1=y.1:=Classical.byContradiction g.2;rw [← e];exact hk z g.1
 refine rising_one (paths_rising t 64 [] h.good h.full) ?_ (fun x=>?_)
 ·unfold Rising at h1 ⊢;rw [List.pairwise_map];exact h1.imp (fun {a b} g=>by rw [path_lt]; exact g)
 ·obtain ⟨p,v⟩:=x;rw [mem_paths t 64 [] h.good h.full p v];constructor
  ·rintro ⟨r,e1,e2,e3,e4⟩;obtain ⟨k,hk1,rfl⟩:=path_key e2 e3;rw [h.get k hk1] at e4;exact List.mem_map.2 ⟨(k,v),(h2 (k,v)).2 (Option.some.inj e4),by rw [e1]; rfl⟩
  ·intro g;obtain ⟨y,hy,e⟩:=List.mem_map.1 g;obtain ⟨e1,e2⟩:=Prod.mk.inj e;have hyl:=hlen y hy;refine ⟨path y.1,by rw [← e1]; rfl,by rw [path_length]; omega,path_nib _,?_⟩;rw [h.get y.1 hyl,(h2 y).1 hy,e2]
end Tr
end
section
namespace Tr
open Rf Rl Ni No
abbrev Pl:=T × Nat × Pa
def kidsPl:Pl→List Pl
 | (.ext q s,o,a)=>[(s,o+1,a++q)]
 | (.br ks,o,a)=>(kidsOf ks).map fun i=>(ks i,o+1,a++[nibOf i])
 | _=>[]
def goL (I:Pa→Bool):T→Nat→Pa→List Pl
 | .nil,o,a=>if I a then [(.nil,o,a)] else []
 | .leaf p v,o,a=>if I a then [(.leaf p v,o,a)] else []
 | .stub r,o,a=>if I a then [(.stub r,o,a)] else []
 | .ext q s,o,a=>if I a then (.ext q s,o,a)::goL I s (o+1) (a++q) else []
 | .br ks,o,a=>if I a then (.br ks,o,a)::((kidsOf ks).map fun i=>goL I (ks i) (o+1) (a++[nibOf i])).flatten else []
def goP (I:Pa→Bool) (x:Pl):List Pl:=goL I x.1 x.2.1 x.2.2
theorem goP_step (I:Pa→Bool) (x:Pl):goP I x=if I x.2.2 then x::((kidsPl x).map (goP I)).flatten else []:=by
 obtain ⟨t,o,a⟩:=x;cases t with
 | nil=>rfl
 | leaf p v=>rfl
 | stub r=>rfl
 | ext q s =>
  show (if I a then _::goL I s (o+1) (a++q) else [])=if I a then _::([(s,o+1,a++q)].map (goP I)).flatten else []
  simp [goP]
 | br ks =>
  show (if I a then _::((kidsOf ks).map fun i=>goL I (ks i) (o+1) (a++[nibOf i])).flatten else [])=if I a then _::(((kidsOf ks).map fun i=>(ks i,o+1,a++[nibOf i])).map (goP I)).flatten else []
  rw [List.map_map];rfl
theorem kidsPl_fst (x:Pl):(kidsPl x).map (·.1)=kidsT x.1:=by
 obtain ⟨t,o,a⟩:=x;cases t with
 | br ks =>
  show ((kidsOf ks).map fun i=>(ks i,o+1,a++[nibOf i])).map (·.1)=(kidsOf ks).map ks;rw [List.map_map];rfl
 | _=>rfl
theorem kidsPl_over (x:Pl):∀ y∈kidsPl x,y.2.1=x.2.1+1:=fun y hy=>by
 obtain ⟨t,o,a⟩:=x;cases t with
 | nil=>cases hy
 | leaf p v=>cases hy
 | stub r=>cases hy
 | ext q s=>rw [List.mem_singleton.1 hy]
 | br ks =>
  obtain ⟨i,_,rfl⟩:=List.mem_map.1 hy;rfl
def stackP (I:Pa→Bool) (S:List Pl):List Pl:=(S.reverse.map (goP I)).flatten
theorem stackP_one (I:Pa→Bool) (x:Pl):stackP I [x]=goP I x:=by simp [stackP]
theorem stackP_in {I:Pa→Bool} (S:List Pl) {x:Pl} (h:I x.2.2=true):stackP I (S++[x])=x::stackP I (S++(kidsPl x).reverse):=by
 unfold stackP;rw [List.reverse_append,List.reverse_append,List.reverse_reverse,List.map_append,List.map_append,List.flatten_append,List.flatten_append];rw [List.reverse_singleton,List.map_singleton,List.flatten_singleton,goP_step,if_pos h];rfl
theorem stackP_out {I:Pa→Bool} (S:List Pl) {x:Pl} (h:I x.2.2=false):stackP I (S++[x])=stackP I S:=by
 unfold stackP;rw [List.reverse_append,List.map_append,List.flatten_append,List.reverse_singleton,List.map_singleton,List.flatten_singleton,goP_step,if_neg (by rw [h]; decide)];rfl
def cntT:T→Nat
 | .nil=>1
 | .leaf _ _=>1
 | .stub _=>1
 | .ext _ s=>1+cntT s
 | .br ks=>1+((kidsOf ks).map fun i=>cntT (ks i)).sum
theorem cnt_pos (t:T):1≤cntT t:=by
 cases t with
 | nil=>exact Nat.le_refl _
 | leaf p v=>exact Nat.le_refl _
 | stub r=>exact Nat.le_refl _
 | ext q s=>exact Nat.le_add_right _ _
 | br ks=>exact Nat.le_add_right _ _
theorem cnt_step (t:T):cntT t=1+((kidsT t).map cntT).sum:=by
 cases t with
 | nil=>rfl
 | leaf p v=>rfl
 | stub r=>rfl
 | ext q s=>show 1+cntT s=1+([s].map cntT).sum; simp
 | br ks =>
  show 1+((kidsOf ks).map fun i=>cntT (ks i)).sum=1+(((kidsOf ks).map ks).map cntT).sum;rw [List.map_map];rfl
def rankP (S:List Pl):Nat:=(S.map fun x=>cntT x.1).sum
theorem rankP_snoc (S:List Pl) (x:Pl):rankP (S++[x])=rankP S+cntT x.1:=by simp [rankP]
theorem rankP_out (S:List Pl) (x:Pl):rankP S<rankP (S++[x]):=by
 have:=cnt_pos x.1;rw [rankP_snoc];omega
theorem rankP_in (S:List Pl) (x:Pl):rankP (S++(kidsPl x).reverse)<rankP (S++[x]):=by
 rw [rankP_snoc,cnt_step,← kidsPl_fst];unfold rankP;rw [List.map_append,List.sum_append,List.map_reverse,List.sum_reverse,List.map_map];show _<_+(1+((kidsPl x).map fun y=>cntT y.1).sum)
 omega
theorem rankP_len (S:List Pl):S.length≤rankP S:=by
 unfold rankP
 induction S with
 | nil=>exact Nat.le_refl _
 | cons x r ih =>
  have:=cnt_pos x.1;rw [List.map_cons,List.sum_cons,List.length_cons];omega
theorem kids_flat {α:Type} {ks:Fin 16→T} {f:Fin 16→List α} (h:∀ i,ks i = .nil→f i=[]):((kidsOf ks).map f).flatten=((List.finRange 16).map f).flatten:=by
 unfold kidsOf;generalize List.finRange 16=l
 induction l with
 | nil=>rfl
 | cons i r ih =>
  rw [List.map_cons,List.flatten_cons,← ih];by_cases hn:ks i = .nil
  ·rw [List.filter_cons_of_neg (by rw [isNil_iff.2 hn]; decide),h i hn,List.nil_append]
  ·rw [List.filter_cons_of_pos (by
    cases e:isNil (ks i) with
    | true=>exact absurd (isNil_iff.1 e) hn
    | false=>rfl),List.map_cons,List.flatten_cons]
theorem kids_sum {ks:Fin 16→T} {f:Fin 16→Nat} (h:∀ i,ks i = .nil→f i=0):((kidsOf ks).map f).sum=((List.finRange 16).map f).sum:=by
 unfold kidsOf;generalize List.finRange 16=l
 induction l with
 | nil=>rfl
 | cons i r ih =>
  rw [List.map_cons,List.sum_cons,← ih];by_cases hn:ks i = .nil
  ·rw [List.filter_cons_of_neg (by rw [isNil_iff.2 hn]; decide),h i hn,Nat.zero_add]
  ·rw [List.filter_cons_of_pos (by
    cases e:isNil (ks i) with
    | true=>exact absurd (isNil_iff.1 e) hn
    | false=>rfl),List.map_cons,List.sum_cons]
theorem cnt_nodes:∀ (t:T) (L:Nat),Good t L→Full t→t ≠ .nil→cntT t=(nodesT t).length
 | .nil,_,_,_,h=>absurd rfl h
 | .leaf _ _,_,_,_,_=>rfl
 | .ext q s,L,g,f,_=>by
  have:=cnt_nodes s _ g.2.2.2.2 f (isBr_ne g.2.2.2.1);show 1+cntT s=(_::nodesT s).length;rw [List.length_cons];omega
 | .br ks,L,g,f,_=>by
  have e:((List.finRange 16).map fun i=>(nodesT (ks i))).flatten=((kidsOf ks).map fun i=>nodesT (ks i)).flatten:=(kids_flat fun i hi=>by rw [hi]; rfl).symm;show 1+((kidsOf ks).map fun i=>cntT (ks i)).sum=(_::((List.finRange 16).map fun i=>nodesT (ks i)).flatten).length;rw [e,List.length_cons,List.length_flatten,List.map_map];have e2:((kidsOf ks).map fun i=>cntT (ks i))=(kidsOf ks).map (List.length ∘ fun i=>nodesT (ks i)):=List.map_congr_left fun i hi=>cnt_nodes (ks i) _ (g.2.2 i) (f i) (mem_kidsOf.1 hi);rw [e2];omega
 | .stub _,_,_,f,_=>f.elim
theorem sum_le {f g:Fin 16→Nat}:∀ l:List (Fin 16),(∀ i∈l,f i≤g i)→(l.map f).sum≤(l.map g).sum
 | [],_=>Nat.le_refl _
 | i::l,h=>by
  have h1:=h i List.mem_cons_self;have h2:=sum_le l fun j hj=>h j (List.mem_cons_of_mem _ hj);rw [List.map_cons,List.map_cons,List.sum_cons,List.sum_cons];omega
def PlOk (x:Pl):Prop:=∃ L,x.2.2.length+L=64∧Good x.1 L∧Fine x.1∧Nib x.2.2∧x.2.1≤x.2.2.length
theorem PlOk.root {t:T} (g:Good t 64) (f:Fine t):PlOk (t,0,[]):=⟨64,rfl,g,f,Nib.nil,Nat.le_refl _⟩
theorem PlOk.kids {x:Pl} (h:PlOk x):∀ y∈kidsPl x,PlOk y∧y.1 ≠ .nil:=fun y hy=>by
 obtain ⟨t,o,a⟩:=x;obtain ⟨L,hl,g,f,hn,ho⟩:=h;cases t with
 | nil=>cases hy
 | leaf p v=>cases hy
 | stub r=>cases hy
 | ext q s =>
  rw [List.mem_singleton.1 hy];obtain ⟨h1,h2,h3,h4,h5⟩:=g;have hq:0<q.length:=List.length_pos_iff.2 h1;refine ⟨⟨L-q.length,?_,h5,f,hn.append h2,?_⟩,isBr_ne h4⟩
  ·show (a++q).length+_=64;rw [List.length_append];have:a.length+L=64:=hl;omega
  ·show o+1≤(a++q).length;rw [List.length_append];have:o≤a.length:=ho;omega
 | br ks =>
  obtain ⟨i,hi,rfl⟩:=List.mem_map.1 hy;obtain ⟨h1,_,h3⟩:=g;refine ⟨⟨L-1,?_,h3 i,f i,hn.append (.cons (nibOf_lt i) .nil),?_⟩,mem_kidsOf.1 hi⟩
  ·show (a++[nibOf i]).length+_=64;rw [List.length_append];have:a.length+L=64:=hl;show a.length+1+_=64;omega
  ·show o+1≤(a++[nibOf i]).length;rw [List.length_append];have:o≤a.length:=ho;show _≤a.length+1;omega
def leafL (x:Pl):List (Pa × ByteArray):=match x.1 with
 | .leaf p v=>[(x.2.2++p,v)]
 | _=>[]
theorem paths_pre:∀ (t:T) (L:Nat) (a:Pa),Good t L→∀ x∈pathsT t a,a<+:x.1∧x.1.length=a.length+L
 | .nil,_,_,_,_,h=>by cases h
 | .leaf p v,L,a,g,x,h=>by
  have e:x=(a++p,v):=List.mem_singleton.1 h;rw [e];exact ⟨List.prefix_append _ _,by show (a++p).length=_; rw [List.length_append,g.1]⟩
 | .ext q s,L,a,g,x,h=>by
  obtain ⟨h1,h2⟩:=paths_pre s _ (a++q) g.2.2.2.2 x h;have hq:=g.2.2.1;refine ⟨(List.prefix_append a q).trans h1,?_⟩;rw [h2,List.length_append];omega
 | .br ks,L,a,g,x,h=>by
  obtain ⟨l,hl,hx⟩:=List.mem_flatten.1 h;obtain ⟨i,_,rfl⟩:=List.mem_map.1 hl;obtain ⟨h1,h2⟩:=paths_pre (ks i) _ (a++[nibOf i]) (g.2.2 i) x hx;have:=g.1;refine ⟨(List.prefix_append a _).trans h1,?_⟩;rw [h2,List.length_append];show a.length+1+_=_;omega
 | .stub _,_,_,_,_,h=>by cases h
theorem go_paths (I Q:Pa→Bool) (hQ:∀ a p:Pa,I a=false→a<+:p→p.length=64→Q p=false):∀ (t:T) (L:Nat) (o:Nat) (a:Pa),Good t L→a.length+L=64 →
  (((goL I t o a).map leafL).flatten).filter (fun x=>Q x.1)=(pathsT t a).filter fun x=>Q x.1
 | .nil,_,_,_,_,_=>by unfold goL; split <;> rfl
 | .stub _,_,_,_,_,_=>by unfold goL; split <;> rfl
 | .leaf p v,L,o,a,g,hl=>by
  unfold goL;cases h:I a with
  | true=>rfl
  | false =>
   show []=List.filter _ [(a++p,v)];rw [List.filter_cons_of_neg]
   ·rfl
   ·rw [hQ a (a++p) h (List.prefix_append _ _) (by rw [List.length_append,g.1]; exact hl)];decide
 | .ext q s,L,o,a,g,hl=>by
  unfold goL;cases h:I a with
  | true =>
   have hq:=g.2.2.1;exact go_paths I Q hQ s _ (o+1) (a++q) g.2.2.2.2 (by rw [List.length_append]; omega)
  | false =>
   refine (List.filter_eq_nil_iff.2 fun x hx=>?_).symm;obtain ⟨h1,h2⟩:=paths_pre (.ext q s) L a g x hx;rw [hQ a x.1 h h1 (by omega)];decide
 | .br ks,L,o,a,g,hl=>by
  unfold goL;cases h:I a with
  | true =>
   have h0:=g.1;show (((((kidsOf ks).map fun i=>goL I (ks i) (o+1) (a++[nibOf i])).flatten).map leafL).flatten).filter (fun x=>Q x.1)=(((List.finRange 16).map fun i=>pathsT (ks i) (a++[nibOf i])).flatten).filter fun x=>Q x.1;rw [← kids_flat (ks:=ks) (f:=fun i=>pathsT (ks i) (a++[nibOf i])) (fun i hi=>by rw [hi]; rfl)];have key:∀ l:List (Fin 16),((((l.map fun i=>goL I (ks i) (o+1) (a++[nibOf i])).flatten).map leafL).flatten).filter (fun x=>Q x.1)=((l.map fun i=>pathsT (ks i) (a++[nibOf i])).flatten).filter fun x=>Q x.1:=by
    intro l
    induction l with
    | nil=>rfl
    | cons i l ih =>
     rw [List.map_cons,List.map_cons,List.flatten_cons,List.flatten_cons,List.map_append,List.flatten_append,List.filter_append,List.filter_append,ih];rw [go_paths I Q hQ (ks i) _ (o+1) (a++[nibOf i]) (g.2.2 i) (by rw [List.length_append]; show a.length+1+_=64; omega)]
   exact key _
  | false =>
   refine (List.filter_eq_nil_iff.2 fun x hx=>?_).symm;obtain ⟨h1,h2⟩:=paths_pre (.br ks) L a g x hx;rw [hQ a x.1 h h1 (by omega)];decide
def yes:Pa→Bool:=fun _=>true
theorem go_all (t:T) (o:Nat) (a:Pa) (L:Nat) (g:Good t L) (hl:a.length+L=64):((goL yes t o a).map leafL).flatten=pathsT t a:=by
 have:=go_paths yes yes (fun _ _ h=>by cases h) t L o a g hl;have e:∀ l:List (Pa × ByteArray),(l.filter fun x=>yes x.1)=l:=fun l=>List.filter_eq_self.2 fun _ _=>rfl;rw [e,e] at this;exact this
def isStub:T→Bool
 | .stub _=>true
 | _=>false
theorem go_stubs:∀ (t:T) (o:Nat) (a:Pa),((goL yes t o a).filter fun x=>isStub x.1).length=stubsN t
 | .nil,_,_=>rfl
 | .leaf _ _,_,_=>rfl
 | .stub _,_,_=>rfl
 | .ext q s,o,a=>go_stubs s (o+1) (a++q)
 | .br ks,o,a=>by
  show ((((kidsOf ks).map fun i=>goL yes (ks i) (o+1) (a++[nibOf i])).flatten).filter fun x=>isStub x.1).length=((List.finRange 16).map fun i=>stubsN (ks i)).sum;rw [← kids_sum (ks:=ks) (f:=fun i=>stubsN (ks i)) (fun i hi=>by rw [hi]; rfl)];generalize kidsOf ks=l
  induction l with
  | nil=>rfl
  | cons i l ih =>
   rw [List.map_cons,List.map_cons,List.flatten_cons,List.filter_append,List.length_append,ih,List.sum_cons,go_stubs (ks i) (o+1) (a++[nibOf i])]
def isNode:T→Bool
 | .nil=>false
 | .stub _=>false
 | _=>true
def deepP (m:Nat) (x:Pl):Nat:=if isNode x.1 then max m (x.2.1+1) else m
theorem go_deep:∀ (t:T) (o:Nat) (a:Pa) (m:Nat),(goL yes t o a).foldl deepP m=if depthT t=0 then m else max m (o+depthT t)
 | .nil,_,_,_=>rfl
 | .leaf _ _,_,_,_=>rfl
 | .stub _,_,_,_=>rfl
 | .ext q s,o,a,m=>by
  show (goL yes s (o+1) (a++q)).foldl deepP (max m (o+1))=if 1+depthT s=0 then m else max m (o+(1+depthT s))
  rw [go_deep s (o+1) (a++q),if_neg (show ¬ (1+depthT s=0) by omega)];split <;> omega
 | .br ks,o,a,m=>by
  show (((kidsOf ks).map fun i=>goL yes (ks i) (o+1) (a++[nibOf i])).flatten).foldl deepP (max m (o+1))=if 1+((List.finRange 16).map fun i=>depthT (ks i)).foldl max 0=0 then m else max m (o+(1+((List.finRange 16).map fun i=>depthT (ks i)).foldl max 0))
  rw [if_neg (fun h=>by rw [Nat.add_comm] at h; exact absurd h (Nat.succ_ne_zero _))];have e:∀ (l:List (Fin 16)) (m:Nat),((l.filter fun i=>!isNil (ks i)).map fun i=>depthT (ks i)).foldl max m=(l.map fun i=>depthT (ks i)).foldl max m:=by
   intro l
   induction l with
   | nil=>intro m; rfl
   | cons i l ih =>
    intro m;by_cases hn:ks i = .nil
    ·rw [List.filter_cons_of_neg (by rw [isNil_iff.2 hn]; decide),List.map_cons,List.foldl_cons,hn,ih];show List.foldl max m _=List.foldl max (max m 0) _;rw [Nat.max_zero]
    ·rw [List.filter_cons_of_pos (by
      cases e:isNil (ks i) with
      | true=>exact absurd (isNil_iff.1 e) hn
      | false=>rfl),List.map_cons,List.map_cons,List.foldl_cons,List.foldl_cons,ih]
  rw [← e];show (((kidsOf ks).map fun i=>goL yes (ks i) (o+1) (a++[nibOf i])).flatten).foldl deepP (max m (o+1))=max m (o+(1+((kidsOf ks).map fun i=>depthT (ks i)).foldl max 0));have key:∀ (l:List (Fin 16)) (m n:Nat),((l.map fun i=>goL yes (ks i) (o+1) (a++[nibOf i])).flatten).foldl deepP (max m (o+1+n))=max m (o+1+(l.map fun i=>depthT (ks i)).foldl max n):=by
   intro l
   induction l with
   | nil=>intro m n; rfl
   | cons i l ih =>
    intro m n;rw [List.map_cons,List.map_cons,List.flatten_cons,List.foldl_append,List.foldl_cons,go_deep (ks i) (o+1) (a++[nibOf i])];have e2:(if depthT (ks i)=0 then max m (o+1+n) else max (max m (o+1+n)) (o+1+depthT (ks i)))=max m (o+1+max n (depthT (ks i))):=by
     split <;> omega
    rw [e2,ih]
  have:=key (kidsOf ks) m 0;rw [show o+1+0=o+1 by omega] at this;rw [this];omega
theorem go_depth (t:T):(goL yes t 0 []).foldl deepP 0=depthT t:=by
 rw [go_deep];split <;> omega
def leads (P:Pa):Pa→Bool:=fun a=>decide (a<+:P)
theorem go_off {P:Pa}:∀ (t:T) (o:Nat) (a:Pa),¬ a<+:P→goL (leads P) t o a=[]
 | .nil,_,a,h=>by unfold goL; rw [if_neg]; unfold leads; simpa using h
 | .leaf _ _,_,a,h=>by unfold goL; rw [if_neg]; unfold leads; simpa using h
 | .stub _,_,a,h=>by unfold goL; rw [if_neg]; unfold leads; simpa using h
 | .ext _ _,_,a,h=>by unfold goL; rw [if_neg]; unfold leads; simpa using h
 | .br _,_,a,h=>by unfold goL; rw [if_neg]; unfold leads; simpa using h
theorem go_path:∀ (t:T) (o:Nat) (a w:Pa),Nib w→((goL (leads (a++w)) t o a).filter fun x=>isNode x.1).map (fun x=>nodeT x.1)=nodesAt t w:=by
 have hI:∀ a w:Pa,leads (a++w) a=true:=fun a w=>decide_eq_true (List.prefix_append a w);intro t
 induction t with
 | nil=>intro o a w _; unfold goL; rw [if_pos (hI a w)]; rfl
 | leaf p v=>intro o a w _; unfold goL; rw [if_pos (hI a w)]; rfl
 | stub r=>intro o a w _; unfold goL; rw [if_pos (hI a w)]; rfl
 | ext q s ih =>
  intro o a w hw;unfold goL;rw [if_pos (hI a w)];show nodeT (.ext q s)::((goL (leads (a++w)) s (o+1) (a++q)).filter fun x=>isNode x.1).map (fun x=>nodeT x.1)=nodeT (.ext q s)::if q<+:w then nodesAt s (w.drop q.length) else []
  congr 1;by_cases h:q<+:w
  ·rw [if_pos h];have e:=pre_drop h;have:=ih (o+1) (a++q) (w.drop q.length) (hw.drop _);rw [List.append_assoc,← e] at this;exact this
  ·rw [if_neg h,go_off s (o+1) (a++q) (fun g=>h ((List.prefix_append_right_inj a).1 g))];rfl
 | br ks ih =>
  intro o a w hw;unfold goL;rw [if_pos (hI a w)];show nodeT (.br ks)::((((kidsOf ks).map fun i=>goL (leads (a++w)) (ks i) (o+1) (a++[nibOf i])).flatten).filter fun x=>isNode x.1).map (fun x=>nodeT x.1)=nodesAt (.br ks) w;cases w with
  | nil =>
   have e:((kidsOf ks).map fun i=>goL (leads (a++[])) (ks i) (o+1) (a++[nibOf i]))=(kidsOf ks).map fun _=>[]:=List.map_congr_left fun i _=>go_off _ _ _ fun h=>by
    have:=h.length_le;rw [List.append_nil,List.length_append] at this;exact absurd this (Nat.not_succ_le_self _)
   rw [e];have:∀ l:List (Fin 16),(l.map fun _=>([]:List Pl)).flatten=[]:=fun l=>by simp
   rw [this];rfl
  | cons c r =>
   show _=nodeT (.br ks)::nodesAt (ks (nb c)) r;congr 1;have hc:c.toNat<16:=hw.head;have h1:=ih (nb c) (o+1) (a++[c]) r hw.tail;have e0:a++[c]++r=a++c::r:=by simp
   rw [e0] at h1;have hoff:∀ i,i≠nb c→goL (leads (a++c::r)) (ks i) (o+1) (a++[nibOf i])=[]:=fun i hi=>go_off _ _ _ fun h=>by
    have h2:=(List.prefix_append_right_inj a).1 h;have h3:=(List.cons_prefix_cons.1 h2).1;exact hi (by rw [← h3,nb_of])
   have hon:goL (leads (a++c::r)) (ks (nb c)) (o+1) (a++[nibOf (nb c)])=goL (leads (a++c::r)) (ks (nb c)) (o+1) (a++[c]):=by rw [of_nb hc]
   by_cases hn:ks (nb c) = .nil
   ·have e:((kidsOf ks).map fun i=>goL (leads (a++c::r)) (ks i) (o+1) (a++[nibOf i]))=(kidsOf ks).map fun _=>[]:=List.map_congr_left fun i hi=>hoff i fun e=>mem_kidsOf.1 hi (by rw [e]; exact hn);have h2:∀ l:List (Fin 16),(l.map fun _=>([]:List Pl)).flatten=[]:=fun l=>by simp
    rw [e,h2,hn];rfl
   ·have key:∀ l:List (Fin 16),l.Nodup→(l.map fun i=>goL (leads (a++c::r)) (ks i) (o+1) (a++[nibOf i])).flatten=if nb c∈l then goL (leads (a++c::r)) (ks (nb c)) (o+1) (a++[c]) else []:=by
     intro l
     induction l with
     | nil=>intro _; rfl
     | cons i l ih2 =>
      intro hd;obtain ⟨hi,hd'⟩:=List.nodup_cons.1 hd;rw [List.map_cons,List.flatten_cons,ih2 hd'];by_cases e:i=nb c
      ·subst e;rw [hon,if_neg hi,if_pos List.mem_cons_self,List.append_nil]
      ·rw [hoff i e,List.nil_append];by_cases e2:nb c∈l
       ·rw [if_pos e2,if_pos (List.mem_cons_of_mem _ e2)]
       ·rw [if_neg e2,if_neg (fun h=>(List.mem_cons.1 h).elim (fun e3=>e e3.symm) e2)]
    rw [key (kidsOf ks) ((List.nodup_finRange 16).filter _),if_pos (mem_kidsOf.2 hn)];exact h1
def reach (P:Pa):Pa→Bool:=fun a=>!ltP a (P.take a.length)
theorem ltP_pre:∀ {a b p:Pa},a.length=b.length→ltP a b=true→∀ {c:Pa},a<+:c→b<+:p→ltP c p=true
 | [],[],_,_,h,_,_,_=>by cases h
 | [],_::_,_,hl,_,_,_,_=>by simp at hl
 | _::_,[],_,hl,_,_,_,_=>by simp at hl
 | x::a,y::b,[],_,_,_,_,hb=>by have:=hb.length_le; simp at this
 | x::a,y::b,z::p,_,_,[],ha,_=>by have:=ha.length_le; simp at this
 | x::a,y::b,z::p,hl,h,u::c,ha,hb=>by
  obtain ⟨e1,ha'⟩:=List.cons_prefix_cons.1 ha;obtain ⟨e2,hb'⟩:=List.cons_prefix_cons.1 hb;subst e1 e2;unfold ltP at h ⊢;by_cases e:x=y
  ·rw [if_pos e] at h ⊢;exact ltP_pre (by simpa using hl) h ha' hb'
  ·rw [if_neg e] at h ⊢;exact h
theorem reach_all {P:Pa} (hP:P.length=64) (a p:Pa) (h:reach P a=false) (ha:a<+:p) (hp:p.length=64):(!ltP p P)=false:=by
 have hl:=ha.length_le;unfold reach at h;have h1:ltP a (P.take a.length)=true:=by simpa using h
 rw [ltP_pre (by rw [List.length_take]; omega) h1 ha (List.take_prefix _ _)];rfl
theorem go_from {P:Pa} (hP:P.length=64) (t:T) (o:Nat) (a:Pa) (L:Nat) (g:Good t L) (hl:a.length+L=64) :
  (((goL (reach P) t o a).map leafL).flatten).filter (fun x=>!ltP x.1 P)=(pathsT t a).filter fun x=>!ltP x.1 P :=
 go_paths (reach P) (fun p=>!ltP p P) (fun a p h1 h2 h3=>reach_all hP a p h1 h2 h3) t L o a g hl
end Tr
end
section
open Go.RowKit
namespace Tm
open Tr Ni Pk Ky No Rf Rl Rf2
open Sm (Tab)
def plC (p:Option Addr) (o:Nat) (h:Hdl):List Value:=[.pointer p,.int .i64 o,.slice h.1 h.2.1 h.2.2]
def plA (p:Option Addr) (o:Nat) (h:Hdl):Array Value:=#[.pointer p,.int .i64 o,.slice h.1 h.2.1 h.2.2]
theorem info_pl:(Tryz.prog.info? 75).map (fun i=>(i.zero,i.size,i.bytes))=some (some (.agg #[.pointer none,.int .i64 0,.slice none 0 0]),3,40):=by kernel_rfl
theorem info_pl_parts:∃ i z,Tryz.prog.info? 75=some i∧i.zero=some z∧i.size=3∧i.bytes=40∧z.cells.size=3:=by
 obtain ⟨i0,hi,hz,hs,hby⟩:=info_parts info_pl;exact ⟨i0,_,hi,hz,hs,hby,rfl⟩
theorem info_pl_size:(Tryz.prog.info? 75).map (·.size)=some 3:=by kernel_rfl
def PlAt (w:World) (b o:Nat) (p:Option Addr) (n:Nat) (h:Hdl):Prop:=w.cell? ⟨b,o,none⟩=some (.pointer p)∧w.cell? ⟨b,o+1,none⟩=some (.int .i64 n)∧w.cell? ⟨b,o+2,none⟩=some (.slice h.1 h.2.1 h.2.2)
theorem PlAt.own {w:World} {b:Nat} {p:Option Addr} {n:Nat} {h:Hdl} {t:TypeId} (g:Rg.Own w b (plA p n h) t):PlAt w b 0 p n h:=⟨own_cell (j:=0) g rfl,own_cell (j:=1) g rfl,own_cell (j:=2) g rfl⟩
theorem op_load_pl {ev:Operand→Value} {o:Oper} {w:World} {b off:Nat} {p:Option Addr} {n:Nat} {h:Hdl} (g:PlAt w b off p n h) (ho:∃ y,o.op = .load 75 y∧ev y = .pointer (some ⟨b,off,none⟩)) :
  (execOp ev o).run Tryz.prog w = .ok (.value (.agg (plA p n h))) w:=by
 obtain ⟨y,ho,hx⟩:=ho;have hl:=run_loadAt_mid (P:=Tryz.prog) w b off 75 (plC p n h) _ (fun j u hu=>by
  match j,hu with
  | 0,hu=>cases hu; exact g.1
  | 1,hu=>cases hu; exact g.2.1
  | 2,hu=>cases hu; exact g.2.2) Tryz.underlying75 rfl (by
  rw [info_pl_size]; rfl)
 unfold execOp;simp only [ho,hx,Sem.run_bind,Sem.run_pure,Result.andThen_ok,hl];rfl
theorem run_alloc_pl (ev:Operand→Value) (o:Oper) (w:World) (b:Nat) (hb:b=w.heap.size) (ho:o.op = .alloc 75) :
  (execOp ev o).run Tryz.prog w = .ok (.value (.pointer (some ⟨b,0,none⟩))) (w.alloc (.cells (plA none 0 (none,0,0)) 75)):=by
 subst hb;unfold execOp;rw [ho];kernel_rfl
theorem wpl_store_pl {ops:Array Oper} {rest:List Oper} {o:Oper} {act:Go.Act} {w:World} {Q:Exit→Go.Act→World→Prop} {b:Nat} {p:Option Addr} {n:Nat} {h:Hdl} (g:Rg.Own w b (plA p n h) 75) (p':Option Addr) (n':Nat) (h':Hdl)
  (hgd:o.guard=none) (x y:Operand) (ho:o.op = .store 75 x y) (hx:act.eval x = .pointer (some ⟨b,0,none⟩)) (hy:act.eval y = .agg (plA p' n' h')) (hd:o.dst=none)
  (hQ:∀ w',Rg.Own w' b (plA p' n' h') 75→Rg.Upd w b w'→wpList Tryz.prog ops Q rest act w'):wpList Tryz.prog ops Q (o::rest) act w :=
 wpList_store_rowTo hgd 75 x y ho hd b _ hx hy 75 _ g.2 info_pl_size rfl (by simp [plA,Value.oneCell']) (hQ _ ⟨by simp; exact g.1,setRow_heap _ _ _ _ _ _ g.2⟩ (Rg.Upd.set _ _ _))
theorem built_pl1 (p:Option Addr):Tryz.prog.built 75 [(0,tv p)]=some (plA p 0 (none,0,0)):=by kernel_rfl
theorem built_pl (p:Option Addr) (n:Nat) (h:Hdl):Tryz.prog.built 75 [(0,tv p),(1,.int .i64 n),(2,.slice h.1 h.2.1 h.2.2)]=some (plA p n h):=by kernel_rfl
theorem op_lit_pl {ev:Operand→Value} {o:Oper} {w:World} {p:Option Addr} {n:Nat} {h:Hdl} (b:Nat) (hb:b=w.heap.size) (ho:∃ y,o.op = .buildSlice 122 1 #[(0,y)]∧ev y = .agg (plA p n h)) :
  (execOp ev o).run Tryz.prog w = .ok (.value (.slice (some ⟨b,0,none⟩) 1 1)) (w.alloc (.cells (plA p n h) 75)):=by
 obtain ⟨y,ho,hx⟩:=ho;subst hb;unfold execOp;simp only [ho,List.map_toArray,List.map_cons,List.map_nil,hx];kernel_rfl
theorem op_index_pl {ev:Operand→Value} {o:Oper} {w:World} {g n c i:Nat} (hi:i<n) (h:∃ x y,o.op = .indexAddr 122 x y∧ev x = .slice (some ⟨g,0,none⟩) n c∧ev y = .int .i64 i) :
  (execOp ev o).run Tryz.prog w = .ok (.value (.pointer (some ⟨g,i*3,none⟩))) w:=by
 obtain ⟨x,y,ho,hx,hy⟩:=h;have h1:(i:Int)<(n:Int):=by omega
 unfold execOp;simp [ho,hx,hy,go_sem,h1]
structure Pc where
 p:Option Addr
 h:Hdl
 x:Pl
def Pc.cs (y:Pc):List Value:=plC y.p y.x.2.1 y.h
def rowPl (l:List Pc):List Value:=l.flatMap Pc.cs
theorem rowPl_snoc (l:List Pc) (y:Pc):rowPl (l++[y])=rowPl l++y.cs:=by simp [rowPl]
theorem rowPl_len:∀ l:List Pc,(rowPl l).length=l.length*3
 | []=>rfl
 | y::l=>by
  show (y.cs++rowPl l).length=_;rw [List.length_append,rowPl_len l,List.length_cons];show 3+_=_;omega
def RowPl (B:Nat) (w:World) (v:Value) (l:List Pc):Prop:=w.ownsRow B 75 3 v l.length (rowPl l)
theorem RowPl.last {B:Nat} {w:World} {v:Value} {l:List Pc} {y:Pc} (h:RowPl B w v (l++[y])):∃ g cap,v = .slice (some ⟨g,0,none⟩) (l.length+1) cap∧B≤g∧g<w.heap.size∧l.length+1≤cap∧cap≤maxLen∧PlAt w g (l.length*3) y.p y.x.2.1 y.h:=by
 obtain ⟨h1,h2⟩:=h;rcases h2 with ⟨_,h2⟩ | ⟨g,cap,cur,rfl,hg,hh,hnc,hcm,hsz,htk⟩
 ·simp at h2
 ·rw [List.length_append] at hnc;have hc:∀ i,i<3→w.cell? ⟨g,l.length*3+i,none⟩=y.cs[i]? := fun i hi=>by
   rw [cell_of_row w g _ _ _ _ hh,← Array.getElem?_toList];have hlt:l.length*3+i<(rowPl (l++[y])).length:=by rw [rowPl_len,List.length_append]; show _<(l.length+1)*3; omega
   have h3:cur.toList[l.length*3+i]? = (rowPl (l++[y]))[l.length*3+i]? := by
    rw [← htk,List.getElem?_take_of_lt (by rw [rowPl_len] at hlt; exact hlt)]
   rw [h3,rowPl_snoc,List.getElem?_append_right (by rw [rowPl_len]; omega),rowPl_len,show l.length*3+i-l.length*3=i by omega]
  exact ⟨g,cap,by simp,hg,(Array.getElem?_eq_some_iff.1 hh).1,hnc,hcm,hc 0 (by omega),hc 1 (by omega),hc 2 (by omega)⟩
theorem RowPl.init {B g cap:Nat} {w:World} {l:List Pc} {y:Pc} (h:RowPl B w (.slice (some ⟨g,0,none⟩) (l.length+1) cap) (l++[y])):RowPl B w (.slice (some ⟨g,0,none⟩) l.length cap) l:=by
 obtain ⟨h1,h2⟩:=h;rcases h2 with ⟨h2,_⟩ | ⟨g',cap',cur,e,hg,hh,hnc,hcm,hsz,htk⟩
 ·cases h2
 ·injection e with e1 e2 e3;injection e1 with e1;injection e1 with e1;subst e1 e3;rw [List.length_append] at hnc;refine ⟨rowPl_len l,.inr ⟨g,cap,cur,rfl,hg,hh,by omega,hcm,hsz,?_⟩⟩;have h3:=congrArg (List.take (l.length*3)) htk;rw [List.take_take,List.length_append,rowPl_snoc,List.take_left' (rowPl_len l)] at h3;rw [show l.length*3=min (l.length*3) ((l.length+[y].length)*3) by simp];exact h3
theorem run_push_pl {w:World} {ty:TypeId} {B b2:Nat} {v:Value} {l:List Pc} {y:Pc} (hR:RowPl B w v l) (h2:Rg.Own w b2 (plA y.p y.x.2.1 y.h) 75) (hn:l.length≤1000000) (hB:B≤w.heap.size) :
  ∃ v' w',(Builtin.append_ #[122,122] ty #[v,.slice (some ⟨b2,0,none⟩) 1 1]).run Tryz.prog w = .ok v' w'∧RowPl B w' v' (l++[y])∧w.grownBy w' v.ownBlock∧(v'.ownBlock=v.ownBlock∨v'.ownBlock=some w.heap.size):=by
 obtain ⟨i0,z0,hi,hz,hsz,hby,hzc⟩:=info_pl_parts;obtain ⟨v',w',hr,h3,h4,_,h5⟩:=run_append_own_at (P:=Tryz.prog) w B 122 ty 75 i0 z0 3 40 Tryz.underlying122 hi hz hsz hby hzc (by decide) v l.length _ hR ⟨b2,0,none⟩ 1 1 y.cs rfl
  (fun j u hu=>by
   rw [Addr.add_mid,Nat.zero_add,cell_of_row w b2 _ _ _ _ h2.2];unfold plA;simpa [Pc.cs,plC] using hu)
  (fun u hu=>by unfold Pc.cs plC at hu; simp at hu; rcases hu with rfl | rfl | rfl <;> rfl) (by unfold maxLen; omega) (by omega) hB
 exact ⟨v',w',hr,by unfold RowPl; rw [List.length_append,rowPl_snoc]; exact h3,h4,h5⟩
end Tm
end
section
open Go.RowKit
namespace Tm
open Tr Ni Pk Ky
end Tm
end
section
open Go.RowKit
namespace Tm
open Tr Ni Pk Ky No Rf Rl Rf2
open Sm (Tab)
theorem bytes_lt:∀ {x y:List UInt8},x.length=y.length→Op.bytesLess x y=ltP x y
 | [],[],_=>rfl
 | [],_::_,h=>by simp at h
 | _::_,[],h=>by simp at h
 | a::x,b::y,h=>by
  have ih:=bytes_lt (x:=x) (y:=y) (by simpa using h);unfold Op.bytesLess ltP;by_cases e:a=b
  ·subst e;rw [if_pos rfl,← ih];simp
  ·have h2:a.toNat≠b.toNat:=fun k=>e (UInt8.toNat_inj.1 k);rw [if_neg e];rcases Nat.lt_or_ge a.toNat b.toNat with h3 | h3
   ·simp [UInt8.lt_iff_toNat_lt,h3]
   ·have h4:b.toNat<a.toNat:=by omega
    simp [UInt8.lt_iff_toNat_lt,Nat.not_lt.2 h3,e]
theorem isBs_key (w:World) (k:List UInt8) (hk:k.length=32):IsBs (w.alloc (.cells (kc k) 24)) (some ⟨w.heap.size,0,none⟩) 32 32 k:=by
 have h:=IsBs.new w k (by unfold maxLen; omega) (kc k) 24 rfl;rw [hk] at h;exact h
theorem wless_any (x y:List UInt8) (hx:x.length=32) (hy:y.length=32) (w:World) :
  Calls Tryz.prog 20 #[.agg (kc x),.agg (kc y)] w fun e w'=>e = .returned (.bool (ltP x y))∧Below w.heap.size w w':=by
 have h1:=(isBs_key w x hx).alloc (.cells (kc y) 24);have h2:=isBs_key (w.alloc (.cells (kc x) 24)) y hy;rw [show (w.alloc (.cells (kc x) 24)).heap.size=w.heap.size+1 by simp] at h2
 have HC:Hid (∀ q,Calls Tryz.prog 41 #[.slice (some ⟨w.heap.size,0,none⟩) 32 32,.slice (some ⟨w.heap.size+1,0,none⟩) 32 32] ((((w.alloc (.cells (kc x) 24)).alloc (.cells (kc y) 24))).drewN q) fun e w'=>e = .returned (.int .i64 (Lib.compareBytes x y))∧w'=((w.alloc (.cells (kc x) 24)).alloc (.cells (kc y) 24)).drewN q) :=
  hid (fun q=>(Ni.compare_any _ _ _ _ _ _ x y _ (h1.drewN q) (h2.drewN q)).mono (fun _ _ h=>⟨h.1,h.2.symm⟩))
 have he:=hid (Ni.cmp_less x y);have hlt:=hid (bytes_lt (x:=x) (y:=y) (by omega));obtain ⟨A,hA⟩:∃ C,kc x=C:=⟨_,rfl⟩
 obtain ⟨B,hB⟩:∃ C,kc y=C:=⟨_,rfl⟩
 rw [hA,hB] at HC;rw [hA,hB];obtain ⟨v,hv⟩:∃ v,Lib.compareBytes x y=v:=⟨_,rfl⟩
 rw [hv] at HC he;clear hA hB hx hy h1 h2 hv;go_enter Tryz.func20,Tryz.ntmps20;go_wp2_with fail
 go_quiet ((go_at_call 41; exact Calls.quiet_of_same (HC.out _)))
 go_wp2;go_ret;refine ⟨by rw [← hlt.out,← he.out]; rfl,below_drewN (((Below.refl _ _).alloc (Nat.le_refl _) _).alloc (by simp) _) _⟩
def reachB (P:Pa) (a:Pa):Bool:=decide (a.length≤P.length) && !Op.bytesLess a (P.take a.length)
theorem reachB_eq {P a:Pa} (h:a.length≤P.length):reachB P a=reach P a:=by
 unfold reachB reach;rw [decide_eq_true h,Bool.true_and,bytes_lt (by rw [List.length_take]; omega)]
theorem reaches_any (a b:Option Addr) (n m c d:Nat) (x y:List UInt8) (hn:n≤m) (hm:m≤1000000) (w:World) (ha:IsBs w a n c x) (hb:IsBs w b m d y) :
  Calls Tryz.prog 74 #[.slice a n c,.slice b m d] w fun e w'=>e = .returned (.bool (reach y x))∧w=w':=by
 have HL:=hid (Ni.less_any a b n n c d x (y.take n) w ha (bs_upto hb n hn));have hR:=reachB_eq (P:=y) (a:=x) (by rw [ha.len,hb.len]; exact hn);unfold reachB at hR;rw [ha.len,decide_eq_true (show n≤y.length by rw [hb.len]; exact hn),Bool.true_and] at hR;have HR:=hid hR;have hmd:=hb.1;have hi:(n:Int)≤(m:Int):=by omega
 have hc:n≤d:=by omega
 clear ha hb hR;go_enter Tryz.func74,Tryz.ntmps74;go_wp2_with (first
  | (refine Rg.runW (by rfl) _ _ (op_upto (j:=n) under_u8 size_u8 hc ⟨_,_,rfl,rfl,rfl⟩) ?_))
 refine HL.out.mono ?_;rintro e w1 ⟨rfl,rfl⟩;go_wp2;go_ret;exact ⟨by rw [← HR.out]; rfl,rfl⟩
theorem bequal_any (a b:Option Addr) (n m c d:Nat) (x y:List UInt8) (w:World) (ha:IsBs w a n c x) (hb:IsBs w b m d y) :
  Calls Tryz.prog 79 #[.slice a n c,.slice b m d] w fun e w'=>e = .returned (.bool (decide (x=y)))∧w=w':=by
 have h1:=conv_bs ha;have h2:=conv_bs hb;have HE:Hid (((⟨x.toArray⟩:ByteArray).toList==(⟨y.toArray⟩:ByteArray).toList)=decide (x=y)):=hid (by
  rw [str_eq];by_cases e:x=y
  ·subst e; simp
  ·rw [decide_eq_false e,decide_eq_false (fun g=>e (by
    have:=congrArg (fun b:ByteArray=>b.data.toList) g;simpa using this))])
 clear ha hb;generalize hX:(⟨x.toArray⟩:ByteArray)=X at *
 generalize hY:(⟨y.toArray⟩:ByteArray)=Y at *
 go_enter Tryz.func79,Tryz.ntmps79;go_wp2;go_ret;exact ⟨by rw [← HE.out]; rfl,rfl⟩
theorem prefix_any (a b:Option Addr) (n m c d:Nat) (x y:List UInt8) (hn:n≤m) (hm:m≤1000000) (w:World) (ha:IsBs w a n c x) (hb:IsBs w b m d y) :
  Calls Tryz.prog 45 #[.slice b m d,.slice a n c] w fun e w'=>e = .returned (.bool (leads y x))∧w=w':=by
 have HL:=hid (bequal_any b a n n d c (y.take n) x w (bs_upto hb n hn) ha);have HR:Hid (decide (y.take n=x)=leads y x):=hid (by
  unfold leads;have:=ha.len;by_cases e:x<+:y
  ·rw [decide_eq_true e,decide_eq_true];rw [← this];exact (List.prefix_iff_eq_take.1 e).symm
  ·rw [decide_eq_false e,decide_eq_false];intro g;exact e (by rw [← g]; exact List.take_prefix _ _))
 have hmd:=hb.1;have hi:(n:Int)≤(m:Int):=by omega
 have hc:n≤d:=by omega
 clear ha hb;go_enter Tryz.func45,Tryz.ntmps45;go_wp2_with (first
  | (refine Rg.runW (by rfl) _ _ (op_upto (j:=n) under_u8 size_u8 hc ⟨_,_,rfl,rfl,rfl⟩) ?_))
 refine HL.out.mono ?_;rintro e w1 ⟨rfl,rfl⟩;go_wp2;go_ret;exact ⟨by rw [← HR.out]; rfl,rfl⟩
theorem box_pl (w:World) (p:Option Addr) (o:Nat) (h:Hdl):(w.alloc (.cells (plA p o h) 75)).cell? ⟨w.heap.size,2,none⟩=some (.slice h.1 h.2.1 h.2.2):=own_cell (j:=2) (Rg.Own.new w (plA p o h) _) rfl
theorem all_any (p:Option Addr) (o:Nat) (h:Hdl) (w:World):Calls Tryz.prog 32 #[.agg (plA p o h)] w fun e w'=>e = .returned (.bool true)∧Below w.heap.size w w':=by
 obtain ⟨A,hA⟩:∃ A,plA p o h=A:=⟨_,rfl⟩
 rw [hA];have HB:=hid (al1 w (.cells A 75));go_enter Tryz.func32,Tryz.ntmps32;go_wp2;go_ret;exact ⟨rfl,HB.out⟩
theorem into_pairs (bx:Nat) (q:Hdl) (P:Pa) (hP:P.length=64) (w:World) (hc:w.cell? ⟨bx,0,none⟩=some (.slice q.1 q.2.1 q.2.2)) (hq:IsBs w q.1 q.2.1 q.2.2 P) (p:Option Addr) (o:Nat) (h:Hdl) (a:Pa) (ha:IsBs w h.1 h.2.1 h.2.2 a) (hl:a.length≤64) :
  Calls Tryz.prog 73 #[.agg (plA p o h),.pointer (some ⟨bx,0,none⟩)] w fun e w'=>e = .returned (.bool (reach P a))∧Below w.heap.size w w':=by
 have hA1:=al1 w (.cells (plA p o h) 75);have c0:=box_pl w p o h;have c1:=cell_on hA1 hc;have HR:=hid (reaches_any h.1 q.1 h.2.1 q.2.1 h.2.2 q.2.2 a P (by rw [← ha.len,← hq.len]; omega) (by rw [← hq.len]; omega) _ (ha.below hA1) (hq.below hA1));have HB:=hid hA1;obtain ⟨A,hA⟩:∃ A,plA p o h=A:=⟨_,rfl⟩
 rw [hA] at c0 c1 HR HB ⊢;clear hA1 hc hq ha hA;go_enter Tryz.func73,Tryz.ntmps73;go_wp2_with fail
 refine HR.out.mono ?_;rintro e w2 ⟨rfl,rfl⟩;go_wp2;go_ret;exact ⟨rfl,HB.out⟩
theorem into_path (bx:Nat) (q:Hdl) (P:Pa) (hP:P.length=64) (w:World) (hc:w.cell? ⟨bx,0,none⟩=some (.slice q.1 q.2.1 q.2.2)) (hq:IsBs w q.1 q.2.1 q.2.2 P) (p:Option Addr) (o:Nat) (h:Hdl) (a:Pa) (ha:IsBs w h.1 h.2.1 h.2.2 a) (hl:a.length≤64) :
  Calls Tryz.prog 44 #[.agg (plA p o h),.pointer (some ⟨bx,0,none⟩)] w fun e w'=>e = .returned (.bool (leads P a))∧Below w.heap.size w w':=by
 have hA1:=al1 w (.cells (plA p o h) 75);have c0:=box_pl w p o h;have c1:=cell_on hA1 hc;have HR:=hid (prefix_any h.1 q.1 h.2.1 q.2.1 h.2.2 q.2.2 a P (by rw [← ha.len,← hq.len]; omega) (by rw [← hq.len]; omega) _ (ha.below hA1) (hq.below hA1));have HB:=hid hA1;obtain ⟨A,hA⟩:∃ A,plA p o h=A:=⟨_,rfl⟩
 rw [hA] at c0 c1 HR HB ⊢;clear hA1 hc hq ha hA;go_enter Tryz.func44,Tryz.ntmps44;go_wp2_with fail
 refine HR.out.mono ?_;rintro e w2 ⟨rfl,rfl⟩;go_wp2;go_ret;exact ⟨rfl,HB.out⟩
end Tm
end
section
open Go.RowKit
namespace Tm
open Tr Ni Pk Ky No Rf Rl Rf2
open Sm (Tab)
theorem rows_two {w:World} {a1 a2:Option Addr} {n1 c1 n2 c2:Nat} {l1 l2:List UInt8} (h1:IsBs w a1 n1 c1 l1) (h2:IsBs w a2 n2 c2 l2) :
  Cc.IsRows (w.alloc (.cells #[.slice a1 n1 c1,.slice a2 n2 c2] 51)) (some ⟨w.heap.size,0,none⟩) 2 [l1,l2]:=by
 refine ⟨rfl,fun j hj=>⟨w.heap.size,0,rfl,by simp,?_⟩⟩
 match j,hj with
 | 0,_=>exact ⟨a1,n1,c1,by simp,h1.alloc _⟩
 | 1,_=>exact ⟨a2,n2,c2,by simp,h2.alloc _⟩
def NewB (w:World) (l:List UInt8) (e:Ending) (w':World):Prop:=∃ r:Hdl,e = .returned (.slice r.1 r.2.1 r.2.2)∧BsP (fun b=>w.heap.size≤b) w' r l∧Below w.heap.size w w'
theorem join_new (a:Option Addr) (n cap:Nat) (ls:List (List UInt8)) (hn:n≤1000000) (hL:ls.flatten.length≤1099511627776) (w:World) (h:Cc.IsRows w a n ls) :
  Calls Tryz.prog 71 #[.slice a n cap] w (NewB w ls.flatten):=by
 have hc:=Cc.concat_any a n cap ls hn hL w h;obtain ⟨r,hr⟩:∃ r,ls.flatten=r:=⟨_,rfl⟩
 rw [hr] at hc ⊢;have HC:=hid hc;clear hc hr hL h;go_enter Tryz.func71,Tryz.ntmps71;go_wp2_with fail
 refine HC.out.mono ?_;rintro e w1 ⟨v,rfl,hown,hb⟩;have hlt:=hown.lt;obtain ⟨a',cap',rfl,hx⟩:=IsBs.ofOwn hown;clear hown;go_wp2;go_ret;exact ⟨(a',r.length,cap'),rfl,⟨hx,fun ad e hn=>(hlt ad.block (by have e3:a'=some ad:=e; obtain ⟨b,off,e2,_⟩:=hx.at' 0 hn; rw [e3] at e2 ⊢; cases e2; rfl)).1⟩,hb⟩
theorem wbehind_any (p:Option Addr) (o:Nat) (h m:Hdl) (a l:Pa) (w:World) (ha:IsBs w h.1 h.2.1 h.2.2 a) (hm:IsBs w m.1 m.2.1 m.2.2 l) (hl:a.length+l.length≤64) :
  Calls Tryz.prog 100 #[.agg (plA p o h),.slice m.1 m.2.1 m.2.2] w (NewB w (a++l)):=by
 obtain ⟨w1,hw1⟩:∃ w1,w1=w.alloc (.cells (plA p o h) 75):=⟨_,rfl⟩
 have hb1:Below w.heap.size w w1:=by rw [hw1]; exact al1 _ _
 have c0:w1.cell? ⟨w.heap.size,2,none⟩=some (.slice h.1 h.2.1 h.2.2):=by rw [hw1]; exact box_pl w p o h
 have hb2:=al1 w1 (.cells #[.slice h.1 h.2.1 h.2.2,.slice m.1 m.2.1 m.2.2] 51);have HJ:=hid (join_new _ 2 2 _ (by omega) (by simp; omega) _ (rows_two (ha.below hb1) (hm.below hb1)));rw [show [a,l].flatten=a++l by simp] at HJ;have hlen:(a++l).length≤64:=by rw [List.length_append]; exact hl
 have HB:Hid (∀ w2,Below (w1.alloc (.cells #[.slice h.1 h.2.1 h.2.2,.slice m.1 m.2.1 m.2.2] 51)).heap.size (w1.alloc (.cells #[.slice h.1 h.2.1 h.2.2,.slice m.1 m.2.1 m.2.2] 51)) w2→Below w.heap.size w w2):=hid (fun w2 hb=>bst (bst hb1 hb2) hb);have hs:w.heap.size≤(w1.alloc (.cells #[.slice h.1 h.2.1 h.2.2,.slice m.1 m.2.1 m.2.2] 51)).heap.size:=Nat.le_trans hb1.size hb2.size;obtain ⟨L,hL⟩:∃ L,a++l=L:=⟨_,rfl⟩
 rw [hL] at HJ hlen ⊢;clear ha hm hl hb1 hb2 hL;obtain ⟨A,hA⟩:∃ A,plA p o h=A:=⟨_,rfl⟩
 rw [hA] at hw1 ⊢;clear hA;subst hw1;rw [show (w.alloc (.cells A 75)).heap.size=w.heap.size+1 by simp] at HJ;go_enter Tryz.func100,Tryz.ntmps100;go_wp2_with fail
 refine HJ.out.mono ?_;rintro e w2 ⟨r,rfl,hr,hb⟩;have hrl:=hr.1.len;have hrn:r.2.1≤64:=by omega
 have hrc:=hr.1.1;have hmin:min (r.2.1:Int) 65=(r.2.1:Int):=by omega
 have hR:BsP (fun b=>w.heap.size≤b) w2 r L:=hr.to fun b _ hb=>Nat.le_trans hs hb;have HR:=hid hR;have HB2:=hid (HB.out w2 hb);clear hr hb HJ HB hR c0 hs;go_wp2_with (first
  | (refine Rg.run rfl _ _ (op_upto (j:=r.2.1) under_u8 size_u8 hrc ⟨_,_,rfl,rfl,rfl⟩) ?_))
 go_ret;exact ⟨r,rfl,HR.out,HB2.out⟩
theorem wgoer_any (p:Option Addr) (w:World):Calls Tryz.prog 31 #[tv p] w fun e w'=>e = .returned (.func (Fn.func 66) #[] #[.pointer (some ⟨w.heap.size,0,none⟩)])∧Rg.Own w' w.heap.size #[.pointer p] 28∧Below w.heap.size w w':=by
 have hmf:∀ (fn:Fn) (first cap:Array Value) (w:World),(Instr.makeFunc fn first cap).run Tryz.prog w = .ok (.func fn first cap) w:=fun _ _ _ _=>rfl;have hO:=Rg.Own.new w #[.pointer p] 28;have hb:=al1 w (.cells #[.pointer p] 28);go_enter Tryz.func31,Tryz.ntmps31;go_wp2;go_ret;exact ⟨rfl,hO,hb⟩
theorem wgoer1_any (into:Value) (g:Nat) (w:World) (hin:into.oneCell'=true):Calls Tryz.prog 66 #[into,.pointer (some ⟨g,0,none⟩)] w fun e w'=>e = .returned (.func (Fn.func 67) #[] #[.pointer (some ⟨g,0,none⟩),.pointer (some ⟨w.heap.size,0,none⟩)])∧Rg.Own w' w.heap.size #[into] 73∧Below w.heap.size w w':=by
 have hmf:∀ (fn:Fn) (first cap:Array Value) (w:World),(Instr.makeFunc fn first cap).run Tryz.prog w = .ok (.func fn first cap) w:=fun _ _ _ _=>rfl;have hO:=Rg.Own.new w #[into] 73;have hb:=al1 w (.cells #[into] 73);go_enter Tryz.func66,Tryz.ntmps66;go_wp2;go_ret;exact ⟨rfl,hO,hb⟩
end Tm
end
section
open Go.RowKit
namespace Tm
open Tr Ni Pk Ky No Rf Rl Rf2
open Sm (Tab)
def hv (h:Hdl):Value:=.slice h.1 h.2.1 h.2.2
def hd0:Hdl:=(none,0,0)
theorem info_bs:(Tryz.prog.info? 51).map (fun i=>(i.zero,i.size,i.bytes))=some (some (.slice none 0 0),1,24):=by kernel_rfl
theorem info_bs_parts:∃ i,Tryz.prog.info? 51=some i∧i.zero=some (.slice none 0 0)∧i.size=1∧i.bytes=24:=by
 obtain ⟨i0,hi,hz,hs,hby⟩:=info_parts info_bs;exact ⟨i0,hi,hz,hs,hby⟩
structure Ways (B:Nat) (w:World) (v:Value) (hs:List Hdl) (l:List Pa):Prop where
 row:w.ownsRow B 51 1 v hs.length (hs.map hv)
 len:hs.length=l.length
 bs:∀ j,j<hs.length→BsP (fun b=>B≤b∧v.ownBlock≠some b) w (hs.getD j hd0) (l.getD j [])
theorem Ways.nil (B:Nat) (w:World):Ways B w (.slice none 0 0) [] []:=⟨World.ownsRow_nil _ _ _ _,rfl,fun j hj=>absurd hj (Nat.not_lt_zero _)⟩
theorem Ways.keep {B:Nat} {w w':World} {v:Value} {hs:List Hdl} {l:List Pa} (h:Ways B w v hs l) (hz:w.heap.size≤w'.heap.size) (hk:∀ b,B≤b→b<w.heap.size→w'.heap[b]? = w.heap[b]?):Ways B w' v hs l :=
 ⟨owns_same h.row fun k e=>hk k (h.row.lt k e).1 (h.row.lt k e).2,h.len,fun j hj=>(h.bs j hj).kept hz fun b hb hlt=>hk b hb.1 hlt⟩
theorem Ways.push {B:Nat} {w w2 w3:World} {v v':Value} {hs:List Hdl} {l:List Pa} {r:Hdl} {a:Pa} (h:Ways B w v hs l) (hB:B≤w.heap.size) (hb:Below w.heap.size w w2) (hr:BsP (fun b=>w.heap.size≤b) w2 r a)
  (hown:w3.ownsRow B 51 1 v' (hs.length+1) (hs.map hv++[hv r])) (hg:w2.grownBy w3 v.ownBlock) (hloc:v'.ownBlock=v.ownBlock∨v'.ownBlock=some w2.heap.size):Ways B w3 v' (hs++[r]) (l++[a]):=by
 have hs2:=hb.size;have hv':∀ b,b<w2.heap.size→v.ownBlock≠some b→v'.ownBlock≠some b:=fun b hlt hn=>by
  rcases hloc with e | e
  ·rw [e]; exact hn
  ·rw [e]; intro g; have:=Option.some.inj g; omega
 refine ⟨by rw [List.length_append,List.map_append]; exact hown,by rw [List.length_append,List.length_append,h.len]; rfl,fun j hj=>?_⟩;by_cases hlt:j<hs.length
 ·have e1:(hs++[r]).getD j hd0=hs.getD j hd0:=by simp [List.getD,List.getElem?_append_left hlt]
  have e2:(l++[a]).getD j []=l.getD j []:=by simp [List.getD,List.getElem?_append_left (show j<l.length by rw [← h.len]; exact hlt)]
  rw [e1,e2];have h1:=(h.bs j hlt).kept hs2 fun b _ hl=>hb.block b hl;have h2:BsP (fun b=>(B≤b∧v.ownBlock≠some b)∧b<w2.heap.size) w2 (hs.getD j hd0) (l.getD j []):=h1.to fun b hl hp=>⟨hp,hl⟩
  exact (h2.kept hg.size fun b hp hl=>hg.block b hl fun e=>hp.1.2 e.symm).to fun b _ hp=>⟨hp.1.1,hv' b hp.2 hp.1.2⟩
 ·have hj':j=hs.length:=by rw [List.length_append] at hj; simp at hj; omega
  subst hj';have e1:(hs++[r]).getD hs.length hd0=r:=by simp [List.getD]
  have e2:(l++[a]).getD hs.length []=a:=by rw [h.len]; simp [List.getD]
  rw [e1,e2];have hvo:∀ b,w.heap.size≤b→v.ownBlock≠some b:=fun b hb e=>by have:=(h.row.lt b e).2; omega
  have h2:BsP (fun b=>w.heap.size≤b∧b<w2.heap.size) w2 r a:=hr.to fun b hl hp=>⟨hp,hl⟩
  exact (h2.kept hg.size fun b hp hl=>hg.block b hl fun e=>hvo b hp.1 e.symm).to fun b _ hp=>⟨by omega,hv' b hp.2 (hvo b hp.1)⟩
def wayL (N:Nd) (a:Pa) (i:Nat):List Pa:=if (N.ks.getD i eB).size=0 then [] else [a++if N.kd=3 then [UInt8.ofNat i] else N.p]
def waysK (N:Nd) (a:Pa) (j:Nat):List Pa:=((List.range j).map (wayL N a)).flatten
theorem waysK_snoc (N:Nd) (a:Pa) (j:Nat):waysK N a (j+1)=waysK N a j++wayL N a j:=by
 unfold waysK;rw [List.range_succ];simp
theorem waysK_len (N:Nd) (a:Pa):∀ j,(waysK N a j).length≤j
 | 0=>Nat.le_refl _
 | j+1=>by
  rw [waysK_snoc,List.length_append];have:=waysK_len N a j;have:(wayL N a j).length≤1:=by unfold wayL; split <;> simp
  omega
theorem range_fin:List.range 16=(List.finRange 16).map (·.val):=by decide
theorem rep_getD (n i:Nat):(List.replicate n eB).getD i eB=eB:=by
 rw [List.getD_eq_getElem?_getD,List.getElem?_replicate];split <;> rfl
theorem ways_tree {x:Pl} (h:PlOk x):waysK (nodeT x.1) x.2.2 16=(kidsPl x).map (·.2.2):=by
 obtain ⟨t,o,a⟩:=x;obtain ⟨L,hl,g,f,hn,ho⟩:=h;have hL:L≤64:=by omega
 unfold waysK;rw [range_fin,List.map_map];have hz:∀ N:Nd,N.ks=zks→((List.finRange 16).map (wayL N a ∘ fun i=>i.val)).flatten=[]:=fun N hN=>by
  have:(List.finRange 16).map (wayL N a ∘ fun i=>i.val)=(List.finRange 16).map fun _=>[]:=List.map_congr_left fun i _=>by
   have hi:(N.ks.getD i.val eB).size=0:=by
    rw [hN];have:zks.getD i.val eB=eB:=rep_getD 16 _;rw [this]; rfl
   show wayL N a i.val=[]
   unfold wayL;rw [if_pos hi]
  rw [this];simp
 cases t with
 | nil=>exact hz _ rfl
 | leaf p v=>exact hz _ rfl
 | stub r=>exact hz _ rfl
 | ext q s =>
  have hs:(ref s).size≠0:=(ref_size g.2.2.2.2 (by omega) f).2 (isBr_ne g.2.2.2.1);have e:(List.finRange 16).map (wayL (nodeT (.ext q s)) a ∘ fun i=>i.val)=(List.finRange 16).map fun i=>if i.val=0 then [a++q] else []:=List.map_congr_left fun i _=>by
   show wayL _ a i.val=_;unfold wayL;have hk:(nodeT (.ext q s)).ks.getD i.val eB=if i.val=0 then ref s else eB:=by
    show (ref s::List.replicate 15 eB).getD i.val eB=_;by_cases h0:i.val=0
    ·rw [h0]; rfl
    ·obtain ⟨j,hj⟩:∃ j,i.val=j+1:=⟨i.val-1,by omega⟩
     rw [hj,if_neg (by omega)];exact rep_getD 15 j
   rw [hk];by_cases h0:i.val=0
   ·rw [if_pos h0,if_pos h0,if_neg hs];rfl
   ·rw [if_neg h0,if_neg h0];rfl
  rw [e];rfl
 | br ks =>
  have hr:∀ i,(ref (ks i)).size≠0↔ks i ≠ .nil:=fun i=>ref_size (g.2.2 i) (by omega) (f i);show _=((kidsOf ks).map fun i=>(ks i,o+1,a++[nibOf i])).map (·.2.2);rw [List.map_map];have e:(List.finRange 16).map (wayL (nodeT (.br ks)) a ∘ fun i=>i.val)=(List.finRange 16).map fun i=>if isNil (ks i) then [] else [a++[nibOf i]]:=List.map_congr_left fun i _=>by
   show wayL _ a i.val=_;unfold wayL;have hk:(nodeT (.br ks)).ks.getD i.val eB=ref (ks i):=kids16_getD (fun i=>ref (ks i)) i;rw [hk];by_cases h0:ks i = .nil
   ·rw [if_pos (isNil_iff.2 h0),if_pos (by rw [h0]; rfl)]
   ·rw [if_neg (fun k=>h0 (isNil_iff.1 k)),if_neg ((hr i).2 h0)];rfl
  rw [e];unfold kidsOf;generalize List.finRange 16=l
  induction l with
  | nil=>rfl
  | cons i r ih =>
   rw [List.map_cons,List.flatten_cons,ih];by_cases h0:ks i = .nil
   ·rw [if_pos (isNil_iff.2 h0),List.filter_cons_of_neg (by rw [isNil_iff.2 h0]; decide)];rfl
   ·rw [if_neg (fun k=>h0 (isNil_iff.1 k)),List.filter_cons_of_pos (by
     cases e:isNil (ks i) with
     | true=>exact absurd (isNil_iff.1 e) h0
     | false=>rfl)]
    rfl
end Tm
end
section
open Go.RowKit
namespace Tm
open Tr Ni Pk Ky No Rf Rl Rf2
open Sm (Tab)
theorem owns_weak {B B' sz n:Nat} {w:World} {e:TypeId} {v:Value} {xs:List Value} (h:w.ownsRow B e sz v n xs) (hB:B'≤B):w.ownsRow B' e sz v n xs :=
 ⟨h.1,h.2.imp id fun ⟨g,cap,cur,e,hg,r⟩=>⟨g,cap,cur,e,Nat.le_trans hB hg,r⟩⟩
theorem ways_any (p:Option Addr) (o:Nat) (h:Hdl) (a:Pa) (N:Nd) (na:Option Addr) (nn nc:Nat) (hl:N.ks.length=16) (w:World) (ha:IsBs w h.1 h.2.1 h.2.2 a) (hN:IsBs w na nn nc N.p) (h3:a.length<64∨N.kd≠3) (hp:a.length+N.p.length≤64) :
  Calls Tryz.prog 69 #[.agg (plA p o h),.agg (ndC N na nn nc)] w fun e w'=>∃ v hs,e = .returned v∧Ways w.heap.size w' v hs (waysK N a 16)∧Below w.heap.size w w':=by
 obtain ⟨i0,hi,hz0,hz1,hz2⟩:=info_bs_parts;have HI:Hid (_∧_∧_∧_):=hid ⟨hi,hz0,hz1,hz2⟩;obtain ⟨w1,hw1⟩:∃ w1,w1=w.alloc (.cells (plA p o h) 75):=⟨_,rfl⟩
 have hb1:Below w.heap.size w w1:=by rw [hw1]; exact al1 _ _
 have hs1:w1.heap.size=w.heap.size+1:=by rw [hw1]; simp
 have hO1:Rg.Own w1 w.heap.size (plA p o h) 75:=by rw [hw1]; exact Rg.Own.new _ _ _
 obtain ⟨w2,hw2⟩:∃ w2,w2=w1.alloc (.cells (ndC N na nn nc) 56):=⟨_,rfl⟩
 have hb2':=al1 w1 (.cells (ndC N na nn nc) 56);have hO2:OwnN w2 (w.heap.size+1) N na nn nc:=by rw [hw2,← hs1]; exact Rg.Own.new _ _ _
 rw [← hw2] at hb2';have hb2:Below w.heap.size w w2:=bst hb1 hb2';have hs2:w2.heap.size=w.heap.size+2:=by rw [hw2]; simp; omega
 have HO1:=hid (hO1.below hb2');have HO2:=hid hO2;have HL:=hid hl;have HA:=hid (ha.below hb2);have HNp:=hid (hN.below hb2);have HB2:=hid hb2;have HS2:Hid (_=_):=hid hs2;have HBh:Hid (∀ (wr:World) (m:Hdl) (l:Pa),Below w2.heap.size w2 wr→IsBs wr m.1 m.2.1 m.2.2 l→a.length+l.length≤64→Calls Tryz.prog 100 #[.agg (plA p o h),.slice m.1 m.2.1 m.2.2] wr (NewB wr (a++l))):=hid (fun wr m l hb hm hl=>wbehind_any p o h m a l wr (HA.out.below hb) hm hl);clear hi hz0 hz1 hz2 hb1 hs1 hO1 hb2' hO2 hb2 hs2 ha hN hl
 go_enter Tryz.func69,Tryz.ntmps69;go_wp2_with (first
  | (rw [← hw1,← hw2]; refine Rg.run rfl _ _ (op_load_ks HO2.out HL.out ⟨_,rfl,rfl⟩) ?_))
 go_loopw [5,10] (fun v i wr=>∃ (j:Nat) (hs:List Hdl),j≤16∧i = .int .i64 j∧Hid (Ways (w.heap.size+2) wr v hs (waysK N a j))∧Hid (Below w2.heap.size w2 wr)) (fun _ i _=>16-(intOf i).toNat)
 case atStart=>exact ⟨0,[],Nat.zero_le _,rfl,hid (Ways.nil _ _),hid (by rw [hw2,hw1]; exact Below.refl _ _)⟩
 case round =>
  obtain ⟨j,hs,hj,rfl,HW,HB⟩:=hrel;clear hw1 hw2;have hsz:w.heap.size+2≤wr.heap.size:=by have:=HB.out.size; have:=HS2.out; omega
  by_cases hlt:j<16
  ·have hsl:hs.length≤16:=by have:=HW.out.len; have:=waysK_len N a j; omega
   by_cases hk:(N.ks.getD j eB).size=0
   ·have HS':Hid (waysK N a (j+1)=waysK N a j):=hid (by rw [waysK_snoc]; unfold wayL; rw [if_pos hk,List.append_nil]);have HE:Hid (N.ks.getD j eB=eB):=hid (size_zero hk);clear hk;go_wp2_with (refine Rg.run rfl (.string (N.ks.getD j eB)) _ (op_index_ks HL.out hlt ⟨_,_,rfl,rfl,rfl⟩) ?_; rw [HE.out])
    go_roundw
    case rel=>exact ⟨j+1,hs,by omega,by go_num,hid (by rw [HS'.out]; exact HW.out),HB⟩
    case measure=>simp [intOf]; omega
   ·have hne:=Ni.not_empty (s:=N.ks.getD j eB) (by omega);obtain ⟨K,hK⟩:∃ K,N.ks.getD j eB=K:=⟨_,rfl⟩
    have HK:=hid hK;have hne2:(K.toList==[])=false:=by
     rw [hK] at hne;cases e:K.toList with
     | nil=>rw [e] at hne; cases hne
     | cons x r=>rfl
    rw [hK] at hne;have c0:=own_cell (j:=0) (HO2.out.below HB.out) (v:=.int .i64 N.kd) rfl;have HP1:=hid (PlAt.own (HO1.out.below HB.out));by_cases h3':N.kd=3
    ·have HS':Hid (waysK N a (j+1)=waysK N a j++[a++[UInt8.ofNat j]]):=hid (by rw [waysK_snoc]; unfold wayL; rw [if_neg hk,if_pos h3']);rw [h3'] at c0;have hwrap:IntKind.u8.wrap (j:Int)=(j:Int):=by rw [IntKind.wrap_u8]; omega
     have hlen:a.length+[UInt8.ofNat j].length≤64:=by
      rcases h3 with h3 | h3
      ·show a.length+1≤64;omega
      ·exact absurd h3' h3
     have HLit:Hid (IsBs (wr.alloc (.cells #[.int .u8 j] 5)) (some ⟨wr.heap.size,0,none⟩) 1 1 [UInt8.ofNat j]):=hid (IsBs.new wr [UInt8.ofNat j] (by show 1≤maxLen; unfold maxLen; decide) _ _ (by
      have:(UInt8.ofNat j).toNat=j:=by rw [UInt8.toNat_ofNat']; omega
      simp [this]))
     have hal:=al1 wr (.cells #[.int .u8 j] 5);have HBh2:=hid (HBh.out (wr.alloc (.cells #[.int .u8 j] 5)) (some ⟨wr.heap.size,0,none⟩,1,1) [UInt8.ofNat j] (bst HB.out hal) HLit.out hlen);have HAl:=hid hal;obtain ⟨A,hA⟩:∃ A,a++[UInt8.ofNat j]=A:=⟨_,rfl⟩
     rw [hA] at HS' HBh2;clear hk hal h3' hK hlen hA;go_wp2_with (first
      | (refine Rg.run rfl (.string (N.ks.getD j eB)) _ (op_index_ks HL.out hlt ⟨_,_,rfl,rfl,rfl⟩) ?_; rw [HK.out])
      | (refine Rg.run rfl _ _ (op_load_pl HP1.out ⟨_,rfl,rfl⟩) ?_))
     refine HBh2.out.mono ?_;rintro e w4 ⟨r,rfl,hr,hb4⟩;have hs4:=hb4.size;have hs4':=HAl.out.size;have HR:Hid (BsP (fun b=>wr.heap.size≤b) w4 r A):=hid (hr.to fun b _ hb=>Nat.le_trans hs4' hb);have HB4:Hid (Below wr.heap.size wr w4):=hid (bst HAl.out hb4);have HRow:Hid (w4.ownsRow (w.heap.size+2) 51 1 u5 hs.length (hs.map hv)):=hid (HW.out.keep HB4.out.size (fun b _ hl=>HB4.out.block b hl)).row;have hz4:w.heap.size+2≤w4.heap.size:=by omega
     clear hr hb4 HBh2 HP1 c0 hs4 hs4';go_wp2_with (first
      | (at_builtin; refine wpList_append_own_at _ rfl _ _ 126 rfl (w.heap.size+2) 51 i0 (.slice none 0 0) 1 24 Tryz.underlying126 HI.out.1 HI.out.2.1 HI.out.2.2.1 HI.out.2.2.2 rfl (by decide) _ _ _ rfl (HRow.out.alloc _) ⟨w4.heap.size,0,none⟩ 1 1 [hv r] rfl rfl ?d1 ?d2 ?d3 ?d4 ?d5 ?_))
     case d1=>exact Bu.cell_one_new' _ _ _ _
     case d2=>intro u hu; simp at hu; subst hu; rfl
     case d3=>unfold maxLen; omega
     case d4=>omega
     case d5=>simp; omega
     intro v' w5 hown5 hgrow5 _ hloc5;have hal4:=al1 w4 (.cells #[hv r] 51);have HN:Hid (Ways (w.heap.size+2) w5 v' (hs++[r]) (waysK N a (j+1))):=hid (by
      rw [HS'.out];exact Ways.push HW.out hsz (bst HB4.out hal4) (HR.out.kept hal4.size fun b _ hl=>hal4.block b hl) hown5 hgrow5 (by simpa using hloc5))
     have hlt':=HW.out.row.lt;have HBn:Hid (Below w2.heap.size w2 w5):=hid ((bst (bst HB.out HB4.out) hal4).grown hgrow5 (by have:=HB4.out.size; have:=HB.out.size; simp; omega) (fun g hg=>by have:=(hlt' g hg).1; have:=HS2.out; omega));clear hgrow5 hown5 hloc5 HR HB4 HRow;go_wp2;go_roundw
     case rel=>exact ⟨j+1,hs++[r],by omega,by go_num,HN,HBn⟩
     case measure=>simp [intOf]; omega
    ·have HS':Hid (waysK N a (j+1)=waysK N a j++[a++N.p]):=hid (by rw [waysK_snoc]; unfold wayL; rw [if_neg hk,if_neg h3']);have hk3:(N.kd==3)=false:=by simp [h3']
     have c1:=own_cell (j:=1) (HO2.out.below HB.out) (v:=.slice na nn nc) rfl;have HBh2:=hid (HBh.out wr (na,nn,nc) N.p HB.out (HNp.out.below HB.out) hp);have HAl:=hid (Below.refl wr.heap.size wr);obtain ⟨A,hA⟩:∃ A,a++N.p=A:=⟨_,rfl⟩
     rw [hA] at HS' HBh2;clear hk hK hA;go_wp2_with (first
      | (refine Rg.run rfl (.string (N.ks.getD j eB)) _ (op_index_ks HL.out hlt ⟨_,_,rfl,rfl,rfl⟩) ?_; rw [HK.out])
      | (refine Rg.run rfl _ _ (op_load_pl HP1.out ⟨_,rfl,rfl⟩) ?_))
     refine HBh2.out.mono ?_;rintro e w4 ⟨r,rfl,hr,hb4⟩;have hs4:=hb4.size;have hs4':=HAl.out.size;have HR:Hid (BsP (fun b=>wr.heap.size≤b) w4 r A):=hid (hr.to fun b _ hb=>Nat.le_trans hs4' hb);have HB4:Hid (Below wr.heap.size wr w4):=hid (bst HAl.out hb4);have HRow:Hid (w4.ownsRow (w.heap.size+2) 51 1 u5 hs.length (hs.map hv)):=hid (HW.out.keep HB4.out.size (fun b _ hl=>HB4.out.block b hl)).row;have hz4:w.heap.size+2≤w4.heap.size:=by omega
     clear hr hb4 HBh2 HP1 c0 hs4 hs4';go_wp2_with (first
      | (at_builtin; refine wpList_append_own_at _ rfl _ _ 126 rfl (w.heap.size+2) 51 i0 (.slice none 0 0) 1 24 Tryz.underlying126 HI.out.1 HI.out.2.1 HI.out.2.2.1 HI.out.2.2.2 rfl (by decide) _ _ _ rfl (HRow.out.alloc _) ⟨w4.heap.size,0,none⟩ 1 1 [hv r] rfl rfl ?d1 ?d2 ?d3 ?d4 ?d5 ?_))
     case d1=>exact Bu.cell_one_new' _ _ _ _
     case d2=>intro u hu; simp at hu; subst hu; rfl
     case d3=>unfold maxLen; omega
     case d4=>omega
     case d5=>simp; omega
     intro v' w5 hown5 hgrow5 _ hloc5;have hal4:=al1 w4 (.cells #[hv r] 51);have HN:Hid (Ways (w.heap.size+2) w5 v' (hs++[r]) (waysK N a (j+1))):=hid (by
      rw [HS'.out];exact Ways.push HW.out hsz (bst HB4.out hal4) (HR.out.kept hal4.size fun b _ hl=>hal4.block b hl) hown5 hgrow5 (by simpa using hloc5))
     have hlt':=HW.out.row.lt;have HBn:Hid (Below w2.heap.size w2 w5):=hid ((bst (bst HB.out HB4.out) hal4).grown hgrow5 (by have:=HB4.out.size; have:=HB.out.size; simp; omega) (fun g hg=>by have:=(hlt' g hg).1; have:=HS2.out; omega));clear hgrow5 hown5 hloc5 HR HB4 HRow;go_wp2;go_roundw
     case rel=>exact ⟨j+1,hs++[r],by omega,by go_num,HN,HBn⟩
     case measure=>simp [intOf]; omega
  ·obtain rfl:j=16:=by omega
   have HEnd:Hid (Ways w.heap.size wr u5 hs (waysK N a 16)∧Below w.heap.size w wr):=hid ⟨⟨owns_weak HW.out.row (by omega),HW.out.len,fun j hj=>(HW.out.bs j hj).to fun b _ h=>⟨by omega,h.2⟩⟩,bst HB2.out HB.out⟩;clear HW HB hlt;go_wp2;go_ret;exact ⟨_,_,rfl,HEnd.out⟩
end Tm
end
end Go.Proofs.YtnecijeakeklaaaGreatDoor
