/-
 Contracts of leaf, branch, behind: parts made.
-/
import Derived.Test.YtnecijeakeklaaaGreatDoorMp12
import Derived.Test.YtnecijeakeklaaaGreatDoorMp1
import Derived.Test.YtnecijeakeklaaaGreatDoorMp4
import Derived.Laws.MakeOwn
import Derived.Test.YtnecijeakeklaaaGreatDoorMp5
import Derived.Test.YtnecijeakeklaaaGreatDoorMp8
import Derived.Laws.Cover3
import Derived.Laws.Rows
import Derived.Laws.ResultCell
import Derived.Laws.Tables
import Derived.Laws.Slices
import Derived.Lib.ConvBytes
import Derived.Great.BuildSlice
import Derived.Test.YtnecijeakeklaaaGreatDoorMp6
import Derived.Laws.StructEq
import Derived.ChangeKeysEq
import Derived.Maps.AppendAt
open Go.Lib (hid)
set_option linter.unusedSimpArgs false
set_option linter.unusedVariables false
set_option maxHeartbeats 40000000
set_option maxRecDepth 100000
namespace Go.Proofs.YtnecijeakeklaaaGreatDoor
section
open Go.RowKit
namespace Tm
open Tr
theorem heap_of {w w':World} {b g:Nat} {cs:Array Value} {t:TypeId} (h:Rg.Own w b cs t) (hu:Rg.Upd w g w') (hne:b≠g):w'.heap[b]? = some (.cells cs t (0,0)):=(h.upd hu hne).2
theorem leaf_any (M:Mp) (a:Option Addr) (n c:Nat) (q:Pa) (v:ByteArray) (w:World) (hi:Inv M w) (hB:Bs M w a n c q) :
  Calls Tryz.prog 98 #[.slice a n c,.string v] w (GotT M w (.leaf q v)):=by
 obtain ⟨w1,hw1⟩:∃ w1,w1=w.alloc (.cells #[.pointer none] 28):=⟨_,rfl⟩
 have hR:Rg.Own w1 w.heap.size #[.pointer none] 28:=by rw [hw1]; exact Rg.Own.new _ _ _
 have hb1:Below w.heap.size w w1:=by rw [hw1]; exact al1 _ _
 have hs1:w1.heap.size=w.heap.size+1:=by rw [hw1]; simp
 obtain ⟨w2,hw2⟩:∃ w2,w2=w1.alloc (.cells (partC (.leaf q v) a n c none 0 0 0 eB) 106):=⟨_,rfl⟩
 have hP:Rg.Own w2 w1.heap.size (partC (.leaf q v) a n c none 0 0 0 eB) 106:=by rw [hw2]; exact Rg.Own.new _ _ _
 have hb2:Below w1.heap.size w1 w2:=by rw [hw2]; exact al1 _ _
 have HR:=hid (hR.below hb2);have HE:Hid (∀ w3,Rg.Upd w2 w.heap.size w3→GotT M w (.leaf q v) (.returned (tv (some ⟨w1.heap.size,0,none⟩))) w3):=hid (fun w3 hu =>
  have hb:=hu.below (hb1.trans (hb2.mono hb1.size)) (Nat.le_refl _)
  got_part hi hb hb1.size (fun e=>by cases e) (heap_of hP hu (by omega)) (hB.1.below hb) (fun ad e hn=>Or.inl (hB.2 ad e hn)) (Ks.nil _ _).weak)
 clear hR hb1 hb2 hP hi hB;subst hw2;subst hw1;go_enter Tryz.func98,Tryz.ntmps98;go_wp2_with (first
  | (refine Rg.run rfl _ _ (run_alloc_tree _ _ _ _ rfl rfl) ?_)
  | (refine Rg.run rfl _ _ (op_build (built_leaf a n c q v) ⟨_,rfl,rfl⟩) ?_)
  | (refine Rg.run rfl _ _ (op_box_part ⟨_,rfl,rfl⟩) ?_)
  | (refine wpl_store_tree HR.out (by decide) (some ⟨w.heap.size+1,0,none⟩) rfl _ _ rfl rfl rfl ?_; intro w3 hO3 hu3; have HO3:=hid hO3; have HU3:=hid hu3; clear hO3 hu3))
 have:=HE.out w3 HU3.out;rw [hs1] at this;exact bodyPost_ret (res_tree rfl _ rfl HO3.out) rfl this
theorem op_lit1 {ev:Operand→Value} {o:Oper} {w:World} {p:Option Addr} (b:Nat) (hb:b=w.heap.size) (ho:∃ x,o.op = .buildSlice 57 1 #[(0,x)]∧ev x=tv p) :
  (execOp ev o).run Tryz.prog w = .ok (.value (.slice (some ⟨b,0,none⟩) 1 1)) (w.alloc (.cells (rowT [p]) 28)):=by
 obtain ⟨x,ho,hx⟩:=ho;subst hb;unfold execOp;simp only [ho,List.map_toArray,List.map_cons,List.map_nil,hx];kernel_rfl
theorem enter2 (w:World) (p:Option Addr):∃ w2,w2=(w.alloc (.cells #[.pointer p] 28)).alloc (.cells #[.pointer none] 28)∧Rg.Own w2 w.heap.size #[.pointer p] 28∧Rg.Own w2 (w.heap.size+1) #[.pointer none] 28∧Below w.heap.size w w2∧w2.heap.size=w.heap.size+2:=by
 refine ⟨_,rfl,(Rg.Own.new _ _ _).below (al1 _ _),?_,al2 _ _ _,by simp⟩;have:=Rg.Own.new (w.alloc (.cells #[.pointer p] 28)) #[.pointer none] 28;simpa using this
theorem branch_any (M:Mp) (ka:Option Addr) (kn kc:Nat) (ks:Fin 16→T) (w:World) (hi:Inv M w) (hK:Ks M w ka kn kc (partsT (.br ks))) :
  Calls Tryz.prog 120 #[.slice ka kn kc] w (GotT M w (.br ks)):=by
 obtain ⟨w1,hw1⟩:∃ w1,w1=w.alloc (.cells #[.pointer none] 28):=⟨_,rfl⟩
 have hR:Rg.Own w1 w.heap.size #[.pointer none] 28:=by rw [hw1]; exact Rg.Own.new _ _ _
 have hb1:Below w.heap.size w w1:=by rw [hw1]; exact al1 _ _
 have hs1:w1.heap.size=w.heap.size+1:=by rw [hw1]; simp
 obtain ⟨w2,hw2⟩:∃ w2,w2=w1.alloc (.cells (partC (.br ks) none 0 0 ka kn kc 0 eB) 106):=⟨_,rfl⟩
 have hP:Rg.Own w2 w1.heap.size (partC (.br ks) none 0 0 ka kn kc 0 eB) 106:=by rw [hw2]; exact Rg.Own.new _ _ _
 have hb2:Below w1.heap.size w1 w2:=by rw [hw2]; exact al1 _ _
 have HR:=hid (hR.below hb2);have HE:Hid (∀ w3,Rg.Upd w2 w.heap.size w3→GotT M w (.br ks) (.returned (tv (some ⟨w1.heap.size,0,none⟩))) w3):=hid (fun w3 hu =>
  have hb:=hu.below (hb1.trans (hb2.mono hb1.size)) (Nat.le_refl _)
  got_part hi hb hb1.size (fun e=>by cases e) (heap_of hP hu (by omega)) (IsBs.nil _) (fun _ e=>by cases e) (hK.fr hi (Fr.below M hb)).weak)
 clear hR hb1 hb2 hP hi hK;subst hw2;subst hw1;go_enter Tryz.func120,Tryz.ntmps120;go_wp2_with (first
  | (refine Rg.run rfl _ _ (run_alloc_tree _ _ _ _ rfl rfl) ?_)
  | (refine Rg.run rfl _ _ (op_build (built_br ka kn kc ks) ⟨_,rfl,rfl⟩) ?_)
  | (refine Rg.run rfl _ _ (op_box_part ⟨_,rfl,rfl⟩) ?_)
  | (refine wpl_store_tree HR.out (by decide) (some ⟨w.heap.size+1,0,none⟩) rfl _ _ rfl rfl rfl ?_; intro w3 hO3 hu3; have HO3:=hid hO3; have HU3:=hid hu3; clear hO3 hu3))
 have:=HE.out w3 HU3.out;rw [hs1] at this;exact bodyPost_ret (res_tree rfl _ rfl HO3.out) rfl this
theorem behind_any (M:Mp) (a:Option Addr) (n c:Nat) (q:Pa) (p:Option Addr) (t:T) (w:World) (hi:Inv M w) (hB:Bs M w a n c q) (ht:IsT M p t) :
  Calls Tryz.prog 123 #[.slice a n c,.agg #[.pointer p]] w (GotT M w (wrap q t)):=by
 obtain ⟨w2,hw2,hO0,hO1,hb2,hs2⟩:=enter2 w p;have hl:=hB.1.len;have hlc:=hB.1.1;have hmx:=hB.1.2.1;unfold maxLen at hmx;have H0:=hid hO0;by_cases hn:n=0
 ·subst hn;obtain rfl:q=[]:=List.eq_nil_of_length_eq_zero hl;have H1:=hid hO1;have HE:Hid (∀ w3,Rg.Upd w2 (w.heap.size+1) w3→GotT M w (wrap [] t) (.returned (tv p)) w3):=hid (fun w3 hu=>got_old hi ht (hu.below hb2 (by omega)));clear hO0 hO1 hb2 hs2 hB hi ht hl;subst hw2;go_enter Tryz.func123,Tryz.ntmps123;go_wp2_with (first
   | (refine Rg.run rfl _ _ (run_alloc_tree _ _ _ (w.heap.size+1) (by simp) rfl) ?_)
   | (refine Rg.run rfl _ _ (op_load_tree (own_cell (j:=0) H0.out rfl) ⟨_,rfl,rfl⟩) ?_)
   | (refine wpl_store_tree H1.out (by decide) p rfl _ _ rfl rfl rfl ?_; intro w3 hO3 hu3; have HO3:=hid hO3; have HU3:=hid hu3; clear hO3 hu3))
  exact bodyPost_ret (res_tree rfl _ rfl HO3.out) rfl (HE.out w3 HU3.out)
 ·have hq:q≠[]:=fun e=>hn (by rw [← hl,e]; rfl);have hwr:wrap q t = .ext q t:=if_neg hq;rw [hwr];have hnz:((n:Int)==0)=false:=by simp; omega
  obtain ⟨w3,hw3⟩:∃ w3,w3=w2.alloc (.cells (rowT [p]) 28):=⟨_,rfl⟩
  have hK:Rg.Own w3 w2.heap.size (rowT [p]) 28:=by rw [hw3]; exact Rg.Own.new _ _ _
  have hb3:Below w2.heap.size w2 w3:=by rw [hw3]; exact al1 _ _
  have hs3:w3.heap.size=w.heap.size+3:=by rw [hw3]; simp [hs2]
  obtain ⟨w4,hw4⟩:∃ w4,w4=w3.alloc (.cells (partC (.ext q t) a n c (some ⟨w2.heap.size,0,none⟩) 1 1 0 eB) 106):=⟨_,rfl⟩
  have hP:Rg.Own w4 w3.heap.size (partC (.ext q t) a n c (some ⟨w2.heap.size,0,none⟩) 1 1 0 eB) 106:=by rw [hw4]; exact Rg.Own.new _ _ _
  have hb4:Below w3.heap.size w3 w4:=by rw [hw4]; exact al1 _ _
  have hb24:Below w2.heap.size w2 w4:=hb3.trans (hb4.mono hb3.size);have H1:=hid (hO1.below hb24);have H2:=hid (hO1);have HE:Hid (∀ w5,Rg.Upd w4 (w.heap.size+1) w5→GotT M w (.ext q t) (.returned (tv (some ⟨w3.heap.size,0,none⟩))) w5):=hid (fun w5 hu=>by
   have hb:=hu.below (hb2.trans (hb24.mono hb2.size)) (show w.heap.size≤w.heap.size+1 by omega);refine got_part hi hb (by omega) (fun e=>by cases e) (heap_of hP hu (by omega)) (hB.1.below hb) (fun ad e hn=>Or.inl (hB.2 ad e hn)) ?_;exact Ks0.row (ps:=[p]) (b:=w2.heap.size) (by omega) ((hK.below hb4).upd hu (by omega)) rfl (by unfold maxLen; simp) (fun j hj=>by
    obtain rfl:j=0:=by simp at hj; exact hj
    exact ht))
  rw [hs3] at HE;rw [hs2] at hw4;clear hO0 hO1 hb2 hb3 hb4 hb24 hP hK hB hi ht hwr hs3;subst hw4;subst hw3;subst hw2;clear hs2;go_enter Tryz.func123,Tryz.ntmps123;go_wp2_with (first
   | (refine Rg.run rfl _ _ (run_alloc_tree _ _ _ (w.heap.size+1) (by simp) rfl) ?_)
   | (refine Rg.run rfl _ _ (op_load_tree (own_cell (j:=0) H0.out rfl) ⟨_,rfl,rfl⟩) ?_)
   | (refine Rg.run rfl _ _ (op_lit1 (p:=p) (w.heap.size+2) (by simp) ⟨_,rfl,rfl⟩) ?_)
   | (refine Rg.run rfl _ _ (op_build (built_ext a n c (some ⟨w.heap.size+2,0,none⟩) 1 1 q t) ⟨_,rfl,rfl⟩) ?_)
   | (refine Rg.run rfl _ _ (op_box_part ⟨_,rfl,rfl⟩) ?_)
   | (refine wpl_store_tree H1.out (by decide) (some ⟨w.heap.size+3,0,none⟩) rfl _ _ rfl rfl rfl ?_; intro w5 hO5 hu5; have HO5:=hid hO5; have HU5:=hid hu5; clear hO5 hu5))
  exact bodyPost_ret (res_tree rfl _ rfl HO5.out) rfl (HE.out w5 HU5.out)
end Tm
end
section
open Go.RowKit
namespace Tm
open Tr
def Ptrs (w:World) (a:Option Addr) (n c:Nat) (ps:List (Option Addr)):Prop :=
 n≤c∧c≤maxLen∧ps.length=n∧(a=none→c=0)∧∀ j,j<n→∃ b off,a=some ⟨b,off,none⟩∧b<w.heap.size∧w.cell? ⟨b,off+j,none⟩=some (.pointer (ps.getD j none))
def Are (M:Mp) (ps:List (Option Addr)) (l:List T):Prop:=ps.length=l.length∧∀ j,j<ps.length→IsT M (ps.getD j none) (l.getD j .nil)
theorem Ks.ptrs {M:Mp} {w:World} {a:Option Addr} {n c:Nat} {l:List T} (h:Ks M w a n c l):∃ ps,Ptrs w a n c ps∧Are M ps l:=by
 have hp:∀ j,∃ p,j<n→∃ b off,a=some ⟨b,off,none⟩∧b<w.heap.size∧w.cell? ⟨b,off+j,none⟩=some (.pointer p)∧IsT M p (l.getD j .nil):=fun j=>by
  by_cases hj:j<n
  ·obtain ⟨b,off,p,e,hlt,_,hc,ht⟩:=h.at' j hj;exact ⟨p,fun _=>⟨b,off,e,hlt,hc,ht⟩⟩
  ·exact ⟨none,fun h=>absurd h hj⟩
 obtain ⟨F,hF⟩:∃ F:Nat→Option Addr,∀ j,j<n→∃ b off,a=some ⟨b,off,none⟩∧b<w.heap.size∧w.cell? ⟨b,off+j,none⟩=some (.pointer (F j))∧IsT M (F j) (l.getD j .nil):=⟨fun j=>Classical.choose (hp j),fun j=>Classical.choose_spec (hp j)⟩
 have e:∀ j,j<n→((List.range n).map F).getD j none=F j:=fun j hj=>by simp [List.getD,hj]
 refine ⟨(List.range n).map F,⟨h.1,h.2.1,by simp,h.2.2.2.1,fun j hj=>?_⟩,by simp [h.len],fun j hj=>?_⟩
 ·obtain ⟨b,off,e1,hlt,hc,_⟩:=hF j hj;exact ⟨b,off,e1,hlt,by rw [e j hj]; exact hc⟩
 ·have hj':j<n:=by simpa using hj
  obtain ⟨_,_,_,_,_,ht⟩:=hF j hj';rw [e j hj']; exact ht
theorem Ptrs.ks {M:Mp} {w:World} {a:Option Addr} {n c:Nat} {ps:List (Option Addr)} {l:List T} (h:Ptrs w a n c ps) (ha:Are M ps l) (hf:∀ ad,a=some ad→0<n→M.ft ad.block):Ks M w a n c l:=by
 have hl:=h.2.2.1;refine ⟨h.1,h.2.1,by rw [← ha.1]; exact hl,h.2.2.2.1,fun j hj=>?_⟩;obtain ⟨b,off,e,hlt,hc⟩:=h.2.2.2.2 j hj;exact ⟨b,off,_,e,hlt,hf _ e (by omega),hc,ha.2 j (by omega)⟩
theorem Are.mono {M M':Mp} {ps:List (Option Addr)} {l:List T} (h:Are M ps l) (hm:∀ k t,M.at_ k=some t→M'.at_ k=some t):Are M' ps l:=⟨h.1,fun j hj=>(h.2 j hj).mono hm⟩
theorem Are.set {M:Mp} {ps:List (Option Addr)} {l:List T} (h:Are M ps l) (i:Nat) {p:Option Addr} {t:T} (ht:IsT M p t):Are M (ps.set i p) (l.set i t):=by
 refine ⟨by simp [h.1],fun j hj=>?_⟩;have hj':j<ps.length:=by simpa using hj
 have hjl:j<l.length:=by rw [← h.1]; exact hj'
 by_cases e:i=j
 ·subst e;rw [List.getD_eq_getElem?_getD,List.getD_eq_getElem?_getD,List.getElem?_set_self hj',List.getElem?_set_self hjl];exact ht
 ·rw [List.getD_eq_getElem?_getD,List.getD_eq_getElem?_getD,List.getElem?_set_ne e,List.getElem?_set_ne e,← List.getD_eq_getElem?_getD,← List.getD_eq_getElem?_getD];exact h.2 j hj'
def RowK (w:World) (g cap:Nat) (ps:List (Option Addr)):Prop :=
 ∃ cur,Rg.Own w g cur 28∧cur.size=cap∧ps.length≤cap∧cap≤maxLen∧∀ j,j<ps.length→cur[j]? = some (.pointer (ps.getD j none))
theorem RowK.lt {w:World} {g cap:Nat} {ps:List (Option Addr)} (h:RowK w g cap ps):g<w.heap.size:=by
 obtain ⟨cur,hO,_⟩:=h;exact hO.1
theorem RowK.below {w w':World} {g cap:Nat} {ps:List (Option Addr)} (h:RowK w g cap ps) (hb:Below w.heap.size w w'):RowK w' g cap ps:=by
 obtain ⟨cur,hO,h1⟩:=h;exact ⟨cur,hO.below hb,h1⟩
theorem RowK.upd {w w':World} {g b cap:Nat} {ps:List (Option Addr)} (h:RowK w g cap ps) (hu:Rg.Upd w b w') (hne:g≠b):RowK w' g cap ps:=by
 obtain ⟨cur,hO,h1⟩:=h;exact ⟨cur,hO.upd hu hne,h1⟩
theorem RowK.ptrs {w:World} {g cap:Nat} {ps:List (Option Addr)} (h:RowK w g cap ps):Ptrs w (some ⟨g,0,none⟩) ps.length cap ps:=by
 obtain ⟨cur,hO,hs,hl,hm,hc⟩:=h;exact ⟨hl,hm,rfl,fun e=>(by cases e),fun j hj=>⟨g,0,rfl,hO.1,by rw [Nat.zero_add,cell_of_row w g _ _ _ _ hO.2]; exact hc j hj⟩⟩
theorem set_cells {cur:Array Value} {ps:List (Option Addr)} (hc:∀ j,j<ps.length→cur[j]? = some (.pointer (ps.getD j none))) (i:Nat) (p:Option Addr) (hi:i<cur.size):∀ j,j<(ps.set i p).length→(cur.setIfInBounds i (.pointer p))[j]? = some (.pointer ((ps.set i p).getD j none)):=fun j hj=>by
 have hj':j<ps.length:=by simpa using hj
 by_cases e:i=j
 ·subst e;rw [List.getD_eq_getElem?_getD,List.getElem?_set_self hj'];simp [hi]
 ·rw [List.getD_eq_getElem?_getD,List.getElem?_set_ne e,← List.getD_eq_getElem?_getD,Array.getElem?_setIfInBounds_ne e];exact hc j hj'
theorem wpl_store_row {ops:Array Oper} {rest:List Oper} {o:Oper} {act:Act} {w:World} {Q:Exit→Act→World→Prop} {g cap i:Nat} {ps:List (Option Addr)} (h:RowK w g cap ps) (hof:i<ps.length) (p:Option Addr)
  (hgd:o.guard=none) (x y:Operand) (ho:o.op = .store 28 x y) (hx:act.eval x = .pointer (some ⟨g,i,none⟩)) (hy:act.eval y=tv p)
  (hQ:∀ w',RowK w' g cap (ps.set i p)→Rg.Upd w g w'→wpList Tryz.prog ops Q rest (act.put o.dst undef) w'):wpList Tryz.prog ops Q (o::rest) act w:=by
 obtain ⟨cur,hO,hs,hl,hm,hc⟩:=h;refine wpl_store_tree hO (off:=i) (by omega) p hgd x y ho hx hy (fun w' hO' hu=>hQ w' ⟨_,hO',by simp [hs],by simpa using hl,hm,set_cells hc i p (by omega)⟩ hu)
theorem info_tree':(Tryz.prog.info? 28).map (fun i=>(i.size,i.bytes))=some (1,8):=by kernel_rfl
theorem info_tree_zero:((Tryz.prog.info? 28).bind (·.zero)).map (·.cells)=some #[.pointer none]:=by kernel_rfl
theorem info_tree_parts:∃ i z,Tryz.prog.info? 28=some i∧i.zero=some z∧i.size=1∧i.bytes=8∧z.cells.size=1:=by
 have h1:=info_tree';have h2:=info_tree_zero;cases hi:Tryz.prog.info? 28 with
 | none=>rw [hi] at h1; simp at h1
 | some i =>
  rw [hi] at h1 h2;simp at h1 h2;cases hz:i.zero with
  | none=>rw [hz] at h2; simp at h2
  | some z =>
   rw [hz] at h2;simp at h2;exact ⟨i,z,rfl,hz,h1.1,h1.2,by rw [h2]; rfl⟩
theorem nil_nil (w:World):(binOp .eql 57 (.slice none 0 0) (.slice none 0 0)).run Tryz.prog w = .ok (.bool true) w:=by kernel_rfl
theorem some_nil (a:Addr) (n cap:Nat) (w:World):(binOp .eql 57 (.slice (some a) n cap) (.slice none 0 0)).run Tryz.prog w = .ok (.bool false) w:=by kernel_rfl
theorem clone_none (w:World):Calls Tryz.prog 50 #[.slice none 0 0] w fun e w'=>e = .returned (.slice none 0 0)∧w=w':=by
 have hnil:=nil_nil;go_enter Tryz.func50,Tryz.ntmps50;go_wp2;go_ret;exact ⟨rfl,rfl⟩
def GotRow (w:World) (ps:List (Option Addr)) (e:Ending) (w':World):Prop:=∃ g cap,e = .returned (.slice (some ⟨g,0,none⟩) ps.length cap)∧w.heap.size≤g∧RowK w' g cap ps∧Below w.heap.size w w'
theorem row_of_owns {w w':World} {ps:List (Option Addr)} {v:Value} {n:Nat} (ho:w'.ownsRow w.heap.size 28 1 v n (ps.map Value.pointer)) (hl:ps.length=n) (hne:v ≠ .slice none 0 0) (hb:Below w.heap.size w w'):GotRow w ps (.returned v) w':=by
 rcases ho.2 with ⟨rfl,hz⟩ | ⟨g,cap,cur,rfl,hbg,hg,hnc,hcm,hcs,htake⟩
 ·exact absurd rfl hne
 ·subst hl;refine ⟨g,cap,rfl,hbg,⟨cur,⟨(Array.getElem?_eq_some_iff.1 hg).1,hg⟩,by omega,hnc,hcm,fun j hj=>?_⟩,hb⟩;have h1:(ps.map Value.pointer)[j]? = some (.pointer (ps.getD j none)):=by simp [List.getD,hj]
  rw [← htake,List.getElem?_take,if_pos (by omega)] at h1;simpa using h1
theorem clone_some (ad:Addr) (n cap:Nat) (ps:List (Option Addr)) (w:World) (h:Ptrs w (some ad) n cap ps) (hn:n≤1000000) :
  Calls Tryz.prog 50 #[.slice (some ad) n cap] w (GotRow w ps):=by
 obtain ⟨i0,z0,hi,hz,hs,hby,hzc⟩:=info_tree_parts;have HI:Hid (_∧_∧_∧_∧_):=hid ⟨hi,hz,hs,hby,hzc⟩;have hl:=h.2.2.1;have hcell:∀ j u,(ps.map Value.pointer)[j]? = some u→(ad.add j).block<w.heap.size∧w.cell? (ad.add j)=some u:=fun j u hu=>by
  have hj:j<n:=by rw [← hl]; have:=(List.getElem?_eq_some_iff.1 hu).1; simpa using this
  obtain ⟨b,off,e,hlt,hc⟩:=h.2.2.2.2 j hj;obtain rfl:=Option.some.inj e;have hx:u = .pointer (ps.getD j none):=by
   have hj':j<ps.length:=by omega
   simp [hj'] at hu;simp [List.getD,hj',hu]
  rw [Addr.add_mid,hx];exact ⟨hlt,hc⟩
 have HC:=hid hcell;have HL:=hid hl;have hnil:=some_nil ad n cap;clear hi hz hs hby hzc h hcell hl;go_enter Tryz.func50,Tryz.ntmps50;have HO:Hid ((w.alloc (.cells #[] 28)).ownsRow w.heap.size 28 1 (.slice (some ⟨w.heap.size,0,none⟩) 0 0) 0 []):=hid (World.ownsRow_made w #[] 0 (Nat.le_refl _) (Nat.zero_le _) (by simp))
 go_wp2_with (at_builtin; refine wpList_append_own _ rfl _ _ 57 rfl w.heap.size 28 i0 z0 1 8 Tryz.underlying57 HI.out.1 HI.out.2.1 HI.out.2.2.1 HI.out.2.2.2.1 HI.out.2.2.2.2 (by decide) _ _ _ rfl HO.out ad n cap (ps.map Value.pointer) rfl (by simp [HL.out]) ?c2 ?c6 ?c3 ?c4 ?c5 ?_)
 case c2 =>
  intro j u hu;rw [(al1 w _).cell (HC.out j u hu).1];exact (HC.out j u hu).2
 case c6 =>
  intro u hu;simp at hu;obtain ⟨x,_,rfl⟩:=hu;rfl
 case c3=>unfold maxLen; omega
 case c4=>omega
 case c5=>simp
 intro v' w2 hown2 hgrow hnil';have HG:Hid (GotRow w ps (.returned v') w2):=hid (row_of_owns (by simpa using hown2) HL.out hnil' ((al1 w _).grown hgrow (by simp) (fun k hk=>by simp [Value.ownBlock] at hk; omega)));clear hown2 hgrow hnil';go_wp2;go_ret;exact HG.out
end Tm
end
section
open Go.RowKit
namespace Tm
open Tr Ni Pk
theorem cp_common:∀ x y:List UInt8,commonN x y=cp x y
 | [],_=>rfl
 | _::_,[]=>rfl
 | a::xs,b::ys=>by
  unfold commonN cp;rw [cp_common xs ys]
theorem cp_pre:∀ {q p:Pa},q<+:p→cp q p=q.length
 | [],_,_=>rfl
 | a::q,[],h=>by simp at h
 | a::q,b::p,h=>by
  obtain ⟨rfl,h2⟩:=List.cons_prefix_cons.1 h;unfold cp;rw [if_pos rfl,cp_pre h2]; rfl
theorem cp_not:∀ {q p:Pa},¬ q<+:p→cp q p<q.length
 | [],_,h=>absurd List.nil_prefix h
 | a::q,[],_=>by simp [cp]
 | a::q,b::p,h=>by
  unfold cp;by_cases e:a=b
  ·subst e;rw [if_pos rfl];have:=cp_not (q:=q) (p:=p) (fun g=>h (List.cons_prefix_cons.2 ⟨rfl,g⟩));simp; omega
  ·rw [if_neg e]; simp
theorem drewN_below (w:World) (q:Nat):Below w.heap.size w (w.drewN q):=below_drewN (Below.refl _ _) q
theorem along_any (a b:Option Addr) (n m c d:Nat) (x y:Pa) (hn:n≤1000000) (hm:m≤1000000) (hle:n≤m) (w:World) (ha:IsBs w a n c x) (hb:IsBs w b m d y) :
  Calls Tryz.prog 121 #[.slice a n c,.slice b m d] w fun e w'=>e = .returned (.int .i64 (cp x y:Nat))∧Below w.heap.size w w':=by
 have HC:=hid (common_any a b n m c d x y hn hm w ha hb);have hx:=ha.len;have hl:cp x y≤n:=by rw [← hx]; exact cp_le x y
 rw [cp_common] at HC;obtain ⟨k,hk⟩:∃ k,cp x y=k:=⟨_,rfl⟩
 rw [hk] at HC hl ⊢;clear hk ha hb hx;by_cases h:k=m
 ·subst h;have h2:decide ((k:Int)<(n:Int))=false:=by simp; omega
  have h1:((k:Int)==(k:Int))=true:=by simp
  go_enter Tryz.func121,Tryz.ntmps121;go_wp2_with fail
  refine HC.out.mono ?_;rintro e w1 ⟨rfl,q,rfl⟩;go_wp2;go_ret;exact ⟨rfl,drewN_below _ _⟩
 ·have h1:((k:Int)==(m:Int))=false:=by simp; omega
  go_enter Tryz.func121,Tryz.ntmps121;go_wp2_with fail
  refine HC.out.mono ?_;rintro e w1 ⟨rfl,q,rfl⟩;go_wp2;go_ret;exact ⟨rfl,drewN_below _ _⟩
theorem Inv.path {M:Mp} {w:World} (hi:Inv M w) {b:Nat} {t:T} (hm:M.at_ b=some t):∃ a n c,w.cell? ⟨b,1,none⟩=some (.slice a n c)∧Bs M w a n c (pathT t):=by
 obtain ⟨a,n,c,ka,kn,kc,d,r,hb,hB,_⟩:=hi.part hm;exact ⟨a,n,c,(part_cells hb).1.2.1,hB⟩
theorem Inv.val {M:Mp} {w:World} (hi:Inv M w) {b:Nat} {t:T} (hm:M.at_ b=some t):w.cell? ⟨b,2,none⟩=some (.string (valT t)):=by
 obtain ⟨a,n,c,ka,kn,kc,d,r,hb,_⟩:=hi.part hm;exact (part_cells hb).1.2.2.1
theorem Inv.kids {M:Mp} {w:World} (hi:Inv M w) {b:Nat} {t:T} (hm:M.at_ b=some t):∃ a n c,w.cell? ⟨b,3,none⟩=some (.slice a n c)∧Ks M w a n c (partsT t):=by
 obtain ⟨a,n,c,ka,kn,kc,d,r,hb,_,hk,_⟩:=hi.part hm;exact ⟨ka,kn,kc,(part_cells hb).1.2.2.2,hk⟩
end Tm
end
section
open Go.RowKit
namespace Tm
open Tr Ni Pk
theorem turn_any (a:Option Addr) (n c:Nat) (way:Pa) (hn:1≤n) (w:World) (hB:IsBs w a n c way) :
  Calls Tryz.prog 95 #[.slice a n c] w fun e w'=>e = .returned (.tuple #[.int .u8 (way.getD 0 0).toNat,.slice (fromA a c 1) (n-1) (c-1)])∧Below w.heap.size w w':=by
 obtain ⟨b,off,rfl,hlt,hc⟩:=hB.at' 0 (by omega);rw [Nat.add_zero] at hc;have hcap:=hB.1;have hmx:=hB.2.1;unfold maxLen at hmx;obtain ⟨x,hx⟩:∃ x,(way.getD 0 0).toNat=x:=⟨_,rfl⟩
 rw [hx] at hc ⊢;have hnz:((n:Int)==0)=false:=by simp; omega
 have hn0:0<n:=hn;clear hB hx;go_enter Tryz.func95,Tryz.ntmps95;go_wp2_with fail
 refine wp_region_noPanic ?_;refine wp_region_held_drew (S:=fun w'=>Below w.heap.size w w') (by kernel_rfl) ((Below.refl _ _).drew) (fun hld=>?_);refine Rg.tk (i:=0) rfl ?_;try simp only [Act.put,Rg.s]
 refine Rg.tk (i:=1) rfl ?_;try simp only [Act.put,Rg.s]
 refine Rg.tk (i:=2) rfl ?_ (hy:=by intro wz hSw; have hcc:=(hSw.cell (p:=⟨b,off,none⟩) hlt).trans hc; (try dsimp only at hSw); go_simp <;> with_reducible rfl);try simp only [Act.put,Rg.s]
 refine Rg.tk (i:=3) rfl ?_;try simp only [Act.put,Rg.s]
 refine Rg.tk (i:=4) rfl ?_ (hy:=by intro wz hSw; (refine op_from (a:=some ⟨b,off,none⟩) (n:=n) (c:=c) (i:=1) under_u8 size_u8 hn ?_; exact ⟨_,_,rfl,rfl,rfl⟩));try simp only [Act.put,Rg.s]
 refine Rg.tk (i:=5) rfl ?_;try simp only [Act.put,Rg.s]
 refine Rg.tk (i:=6) rfl ?_;try simp only [Act.put,Rg.s]
 refine wpAnyH_done (by kernel_rfl) ?_ _;refine NoPanic.normal ?_;go_wp2;exact bodyPost_ret (results_tmp2 rfl _ _ _) rfl ⟨rfl,hld⟩
end Tm
end
section
open Go.RowKit
namespace Tm
open Tr Ni Pk
theorem Fr.upd {M M':Mp} {w w1 w':World} {g:Nat} (f:Fr M M' w w1) (hu:Rg.Upd w1 g w') (hg:w.heap.size≤g):Fr M M' w w' :=
 ⟨hu.os.trans f.os,hu.tape.trans f.tape,hu.output.trans f.output,by rw [hu.size]; exact f.size,fun k hk hm=>(hu.block k (by omega)).trans (f.block k hk hm),f.mono,f.fresh,f.grow,f.foot⟩
theorem finish {M M1:Mp} {w w3 w4:World} {t:T} {e:Ending} {g:Nat} {cs:Array Value} {ty:TypeId} (hi:Inv M w) (f3:Fr M M1 w w3) (b3:Below w.heap.size w w3) (hG:GotT M1 w3 t e w4)
  (hO3:Rg.Own w3 g cs ty) (hne:∀ (j:Nat) (x:Int),cs[j]? ≠ some (Value.int .u8 x)) (hg:w.heap.size≤g) (hg1:¬ M1.ft g) :
  ∃ p,e = .returned (tv p)∧Rg.Own w4 g cs ty∧∀ w5,Rg.Upd w4 g w5→GotT M w t (.returned (tv p)) w5:=by
 obtain ⟨p,M',he,ht,f,i,b⟩:=hG;have hbw:=b3.trans (b.mono b3.size);exact ⟨p,he,hO3.below b,fun w5 hu=>⟨p,M',rfl,ht,(f3.trans hi f).upd hu hg,i.upd hu (f.box hg1 hO3.1 (no_byte hO3 hne)),hu.below hbw hg⟩⟩
theorem isT_at {M:Mp} {b:Nat} {t:T} {w:World} (hi:Inv M w) (hm:M.at_ b=some t):IsT M (some ⟨b,0,none⟩) t:=⟨b,rfl,hm,(hi.part_ b t hm).1⟩
theorem cut_leaf (M:Mp) (b:Nat) (q:Pa) (u:ByteArray) (hm:M.at_ b=some (.leaf q u)) (k:Nat) (hk:k≤q.length) (w:World) (hi:Inv M w) :
  Calls Tryz.prog 151 #[.agg #[.pointer (some ⟨b,0,none⟩)],.int .i64 k] w (GotT M w (.leaf (q.drop k) u)):=by
 obtain ⟨w2,hw2,hO0,hO1,hb2,hs2⟩:=enter2 w (some ⟨b,0,none⟩);have hi2:=hi.below hb2;obtain ⟨pa,pn,pc,c1,hP⟩:=hi2.path hm;have c2:=hi2.val hm;have hl:q.length=pn:=hP.1.len;have hcap:=hP.1.1;have hmx:=hP.1.2.1;unfold maxLen at hmx;rw [hl] at hk;have HK:=hid (kind_any M _ _ w2 hi2 (isT_at hi2 hm));have HL:Hid (∀ w3,Below w2.heap.size w2 w3→Calls Tryz.prog 98 #[.slice (fromA pa pc k) (pn-k) (pc-k),.string u] w3 (GotT M w3 (.leaf (q.drop k) u))):=hid (fun w3 hb3 =>
  leaf_any M _ _ _ _ _ w3 (hi2.below hb3) ((hP.fr hi2 (Fr.below M hb3)).from' k hk))
 have H0:=hid hO0;have HF:Hid (∀ w3,Below w2.heap.size w2 w3→∀ e w4,GotT M w3 (.leaf (q.drop k) u) e w4→∃ p,e = .returned (tv p)∧Rg.Own w4 (w.heap.size+1) #[.pointer none] 28∧∀ w5,Rg.Upd w4 (w.heap.size+1) w5→GotT M w (.leaf (q.drop k) u) (.returned (tv p)) w5):=hid (fun w3 hb3 e w4 hG =>
  finish hi (Fr.below M (bst hb2 hb3)) (bst hb2 hb3) hG (hO1.below hb3) (one_no _) (by omega) (hi.free (by omega)))
 have c2':w2.cell? ⟨b,2,none⟩=some (.string u):=c2;have h0:=own_cell (j:=0) hO0 rfl;have HC:Hid (∀ w3,Below w2.heap.size w2 w3→w3.cell? ⟨w.heap.size,0,none⟩=some (.pointer (some ⟨b,0,none⟩))∧w3.cell? ⟨b,2,none⟩=some (.string u)):=hid (fun w3 hb3=>⟨cell_on hb3 h0,cell_on hb3 c2'⟩);clear hO0 hO1 hb2 hs2 hi hi2 hP c2 c2' hl;subst hw2;go_enter Tryz.func151,Tryz.ntmps151;go_wp2_with (first
  | (refine Rg.run rfl _ _ (run_alloc_tree _ _ _ (w.heap.size+1) (by simp) rfl) ?_)
  | (refine Rg.run rfl _ _ (op_from under_u8 size_u8 hk ⟨_,_,rfl,rfl,rfl⟩) ?_)
  | (refine Rg.run rfl _ _ (op_load_tree (own_cell (j:=0) H0.out rfl) ⟨_,rfl,rfl⟩) ?_))
 refine HK.out.mono ?_;rintro e w3 ⟨rfl,hb3⟩;obtain ⟨d0,d2⟩:=HC.out w3 hb3;have HL3:=hid (HL.out w3 hb3);have HF3:=hid (HF.out w3 hb3);clear hb3 HC HL HF h0 c1;unfold kindT;go_wp2_with fail
 refine HL3.out.mono ?_;intro e w4 hG;obtain ⟨p,rfl,hO4,hE⟩:=HF3.out e w4 hG;have HO4:=hid hO4;have HE:=hid hE;clear hG hO4 hE HF3 HL3;go_wp2_with (refine wpl_store_tree HO4.out (by decide) p rfl _ _ rfl rfl rfl ?_; intro w5 hO5 hu5; have HO5:=hid hO5; have HU5:=hid hu5; clear hO5 hu5)
 exact bodyPost_ret (res_tree rfl _ rfl HO5.out) rfl (HE.out w5 HU5.out)
theorem cut_ext (M:Mp) (b:Nat) (q:Pa) (s:T) (hm:M.at_ b=some (.ext q s)) (k:Nat) (hk:k≤q.length) (w:World) (hi:Inv M w) :
  Calls Tryz.prog 151 #[.agg #[.pointer (some ⟨b,0,none⟩)],.int .i64 k] w (GotT M w (wrap (q.drop k) s)):=by
 obtain ⟨w2,hw2,hO0,hO1,hb2,hs2⟩:=enter2 w (some ⟨b,0,none⟩);have hi2:=hi.below hb2;obtain ⟨pa,pn,pc,c1,hP⟩:=hi2.path hm;obtain ⟨ka,kn,kc,c3,hK⟩:=hi2.kids hm;obtain ⟨kb,ko,p0,rfl,hklt,hkf,hk0,hT0⟩:=hK.at' 0 (by rw [← hK.len]; exact Nat.one_pos);have hkn:kn=1:=hK.len.symm;have hkc:=hK.1;have hkm:=hK.2.1;unfold maxLen at hkm;rw [Nat.add_zero] at hk0;have hT0':IsT M p0 s:=hT0;have hl:q.length=pn:=hP.1.len;have hcap:=hP.1.1;have hmx:=hP.1.2.1;unfold maxLen at hmx;rw [hl] at hk;have HK:=hid (kind_any M _ _ w2 hi2 (isT_at hi2 hm))
 have h0:=own_cell (j:=0) hO0 rfl;have H3:Hid (∀ w3,Below w2.heap.size w2 w3→Calls Tryz.prog 123 #[.slice (fromA pa pc k) (pn-k) (pc-k),.agg #[.pointer p0]] w3 (GotT M w3 (wrap (q.drop k) s))∧(∀ e w9,GotT M w3 (wrap (q.drop k) s) e w9→∃ p,e = .returned (tv p)∧Rg.Own w9 (w.heap.size+1) #[.pointer none] 28∧∀ w10,Rg.Upd w9 (w.heap.size+1) w10→GotT M w (wrap (q.drop k) s) (.returned (tv p)) w10) ∧
   w3.cell? ⟨w.heap.size,0,none⟩=some (.pointer (some ⟨b,0,none⟩))∧w3.cell? ⟨b,3,none⟩=some (.slice (some ⟨kb,ko,none⟩) kn kc)∧w3.cell? ⟨kb,ko,none⟩=some (.pointer p0)):=hid (fun w3 hb3 =>
  ⟨behind_any M _ _ _ _ _ _ w3 (hi2.below hb3) ((hP.fr hi2 (Fr.below M hb3)).from' k hk) hT0',
   fun e w9 hG=>finish hi (Fr.below M (bst hb2 hb3)) (bst hb2 hb3) hG (hO1.below hb3) (one_no _) (by omega) (hi.free (by omega)),
   cell_on hb3 h0,cell_on hb3 c3,cell_on hb3 hk0⟩)
 have H0:=hid hO0;clear hO0 hO1 hb2 hs2 hi hi2 hP hl hK hT0 hT0' c3 hk0 h0;subst hw2;go_enter Tryz.func151,Tryz.ntmps151;go_wp2_with (first
  | (refine Rg.run rfl _ _ (run_alloc_tree _ _ _ (w.heap.size+1) (by simp) rfl) ?_)
  | (refine Rg.run rfl _ _ (op_from under_u8 size_u8 hk ⟨_,_,rfl,rfl,rfl⟩) ?_)
  | (refine Rg.run rfl _ _ (op_load_tree (own_cell (j:=0) H0.out rfl) ⟨_,rfl,rfl⟩) ?_))
 refine HK.out.mono ?_;rintro e w3 ⟨rfl,hb3⟩;obtain ⟨HB,HF,d0,d3,e0⟩:=H3.out w3 hb3;replace HB:=hid HB;replace HF:=hid HF;clear hb3 H3 c1;unfold kindT;go_wp2_with (refine Rg.run rfl _ _ (op_load_tree e0 ⟨_,rfl,rfl⟩) ?_)
 refine HB.out.mono ?_;intro e w9 hG;obtain ⟨p9,rfl,hO9,hE⟩:=HF.out e w9 hG;have HO9:=hid hO9;have HE:=hid hE;clear hG hO9 hE;go_wp2_with (refine wpl_store_tree HO9.out (by decide) p9 rfl _ _ rfl rfl rfl ?_; intro w10 hO10 hu10; have HO10:=hid hO10; have HU10:=hid hu10; clear hO10 hu10)
 exact bodyPost_ret (res_tree rfl _ rfl HO10.out) rfl (HE.out w10 HU10.out)
end Tm
end
section
open Go.RowKit
namespace Tm
open Tr Ni Pk
theorem parts_br_len (ks:Fin 16→T):(partsT (.br ks)).length=16:=by simp [partsT]
theorem parts_br_at (ks:Fin 16→T) (i:Fin 16):(partsT (.br ks)).getD i.val .nil=ks i:=by
 have hi:=i.isLt;show ((List.finRange 16).map ks).getD i.val .nil=ks i;rw [List.getD_eq_getElem?_getD,List.getElem?_map,List.getElem?_eq_getElem (by simp)];simp
theorem parts_set (ks:Fin 16→T) (i:Fin 16) (t:T):(partsT (.br ks)).set i.val t=partsT (.br fun j=>if j=i then t else ks j):=by
 apply List.ext_getElem?;intro j;by_cases hj:j<16
 ·have h1:=parts_br_at (fun j=>if j=i then t else ks j) ⟨j,hj⟩;have h2:=parts_br_at ks ⟨j,hj⟩;have hl1:j<(partsT (.br ks)).length:=by rw [parts_br_len]; exact hj
  have hl2:j<(partsT (.br fun j=>if j=i then t else ks j)).length:=by rw [parts_br_len]; exact hj
  rw [List.getD_eq_getElem?_getD,List.getElem?_eq_getElem hl2] at h1;rw [List.getD_eq_getElem?_getD,List.getElem?_eq_getElem hl1] at h2;rw [List.getElem?_eq_getElem hl2];by_cases e:i.val=j
  ·subst e;rw [List.getElem?_set_self hl1];simp only [Option.getD_some] at h1;rw [h1]; simp
  ·rw [List.getElem?_set_ne e,List.getElem?_eq_getElem hl1];have:(⟨j,hj⟩:Fin 16)≠i:=fun h=>e (by rw [← h]);simp only [Option.getD_some] at h1 h2;rw [h1,h2,if_neg this]
 ·rw [List.getElem?_eq_none (by rw [List.length_set,parts_br_len]; omega),List.getElem?_eq_none (by rw [parts_br_len]; omega)]
theorem enter3 (w:World) (p q:Option Addr):∃ w2,w2=((w.alloc (.cells #[.pointer p] 28)).alloc (.cells #[.pointer q] 28)).alloc (.cells #[.pointer none] 28)∧Rg.Own w2 w.heap.size #[.pointer p] 28∧Rg.Own w2 (w.heap.size+1) #[.pointer q] 28∧Rg.Own w2 (w.heap.size+2) #[.pointer none] 28∧Below w.heap.size w w2∧w2.heap.size=w.heap.size+3:=by
 have h2:=Rg.Own.new (w.alloc (.cells #[.pointer p] 28)) #[.pointer q] 28;have h3:=Rg.Own.new ((w.alloc (.cells #[.pointer p] 28)).alloc (.cells #[.pointer q] 28)) #[.pointer none] 28;rw [show (w.alloc (.cells #[.pointer p] 28)).heap.size=w.heap.size+1 by simp] at h2;rw [show ((w.alloc (.cells #[.pointer p] 28)).alloc (.cells #[.pointer q] 28)).heap.size=w.heap.size+2 by simp] at h3
 exact ⟨_,rfl,((Rg.Own.new _ _ _).below (al1 _ _)).below (al1 _ _),h2.below (al1 _ _),h3,(al2 _ _ _).alloc (by simp; omega) _,by simp⟩
theorem turned_any (M:Mp) (b:Nat) (ks:Fin 16→T) (hm:M.at_ b=some (.br ks)) (i:Fin 16) (p:Option Addr) (t:T) (ht:IsT M p t) (w:World) (hi:Inv M w) :
  Calls Tryz.prog 96 #[.agg #[.pointer (some ⟨b,0,none⟩)],.int .u8 i.val,.agg #[.pointer p]] w (GotT M w (.br fun j=>if j=i then t else ks j)):=by
 obtain ⟨w2,hw2,hO0,hO1,hO2,hb2,hs2⟩:=enter3 w (some ⟨b,0,none⟩) p;have hi2:=hi.below hb2;obtain ⟨ka,kn,kc,c3,hK⟩:=hi2.kids hm;have hkn:kn=16:=by rw [← hK.len]; exact parts_br_len ks
 subst hkn;obtain ⟨ps,hPs,hAre⟩:=hK.ptrs;obtain ⟨kb,ko,p0,rfl,_⟩:=hK.at' 0 (by omega);have hpl:ps.length=16:=hPs.2.2.1;have HC:Hid (Calls Tryz.prog 50 #[.slice (some ⟨kb,ko,none⟩) 16 kc] w2 fun e w'=>∃ g cap,e = .returned (.slice (some ⟨g,0,none⟩) 16 cap)∧w2.heap.size≤g∧RowK w' g cap ps∧Below w2.heap.size w2 w'):=hid (by
  have:=clone_some ⟨kb,ko,none⟩ 16 kc ps w2 hPs (by omega);refine this.mono ?_;rintro e w' ⟨g,cap,rfl,h1,h2,h3⟩;exact ⟨g,cap,by rw [hpl],h1,h2,h3⟩)
 have hlt:=i.isLt;have hiv:((nibOf i).toNat:Nat)=i.val:=nibOf_toNat i;obtain ⟨k,hk⟩:∃ k,i.val=k:=⟨_,rfl⟩
 have H3:Hid (∀ g cap w4,w2.heap.size≤g→RowK w4 g cap ps→Below w2.heap.size w2 w4→Rg.Own w4 (w.heap.size+1) #[.pointer p] 28∧16≤cap∧cap≤maxLen∧∀ w5,RowK w5 g cap (ps.set k p)→Rg.Upd w4 g w5→∃ M5,
   Calls Tryz.prog 120 #[.slice (some ⟨g,0,none⟩) 16 cap] w5 (GotT M5 w5 (.br fun j=>if j=i then t else ks j)) ∧
   ∀ e w9,GotT M5 w5 (.br fun j=>if j=i then t else ks j) e w9→∃ p,e = .returned (tv p)∧Rg.Own w9 (w.heap.size+2) #[.pointer none] 28∧∀ w10,Rg.Upd w9 (w.heap.size+2) w10→GotT M w (.br fun j=>if j=i then t else ks j) (.returned (tv p)) w10):=hid (fun g cap w4 hg hR hb4=>by
  refine ⟨hO1.below hb4,by have:=hR.ptrs.1; omega,hR.ptrs.2.1,fun w5 hR5 hu=>?_⟩;have hbw:=hu.below (bst hb2 hb4) (show w.heap.size≤g by omega);have hi5:Inv (plus M (fun k=>k=g)) w5:=(hi.below hbw).plus (fun k hk=>by rw [hk]; exact hR5.lt);have hK5:Ks (plus M (fun k=>k=g)) w5 (some ⟨g,0,none⟩) 16 cap (partsT (.br fun j=>if j=i then t else ks j)):=by
   have h1:=hR5.ptrs;rw [List.length_set,hpl] at h1;rw [← parts_set,hk];exact h1.ks ((hAre.set k ht).mono fun _ _ h=>h) (fun ad e _=>by
    obtain rfl:=Option.some.inj e;exact Or.inr rfl)
  have hO5:=(hO2.below hb4).upd hu (by omega);exact ⟨plus M (fun k=>k=g),branch_any _ _ _ _ _ w5 hi5 hK5,fun e w9 hG=>finish hi ((Fr.below M hbw).plus (fun k hk=>Or.inl (by omega))) hbw hG hO5 (one_no _) (by omega) (fun h=>h.elim (hi.free (by omega)) (fun h=>by omega))⟩)
 rw [hk] at hlt ⊢;have h0:=own_cell (j:=0) hO0 rfl;have HPl:=hid hpl;clear hO0 hO1 hO2 hb2 hs2 hi hi2 hK hPs hAre ht hpl hiv hk hm;obtain ⟨R,hRr⟩:∃ R,(T.br fun j=>if j=i then t else ks j)=R:=⟨_,rfl⟩
 rw [hRr] at H3 ⊢;clear hRr;subst hw2;go_enter Tryz.func96,Tryz.ntmps96;go_wp2_with (refine Rg.run rfl _ _ (run_alloc_tree _ _ _ (w.heap.size+2) (by simp) rfl) ?_)
 refine HC.out.mono ?_;rintro e w4 ⟨g,cap,rfl,hg,hR,hb4⟩;obtain ⟨hO4,hcap,hcm,H5⟩:=H3.out g cap w4 hg hR hb4;unfold maxLen at hcm;replace H5:=hid H5;have HO4:=hid hO4;have HR4:=hid hR;clear H3 HC hg hR hb4 hO4 c3 h0;go_wp2_with (first
  | (refine Rg.run rfl _ _ (op_load_tree (own_cell (j:=0) HO4.out rfl) ⟨_,rfl,rfl⟩) ?_)
  | (refine wpl_store_row HR4.out (i:=k) (by rw [HPl.out]; exact hlt) p rfl _ _ rfl rfl rfl ?_; intro w5 hR5 hu5; have HR5:=hid hR5; have HU5:=hid hu5; clear hR5 hu5))
 obtain ⟨M5,HB,HF⟩:=H5.out w5 HR5.out HU5.out;replace HB:=hid HB;replace HF:=hid HF;clear H5 HO4 HR4 HR5 HU5;refine HB.out.mono ?_;intro e w9 hG;obtain ⟨p9,rfl,hO9,hE⟩:=HF.out e w9 hG;have HO9:=hid hO9;have HE:=hid hE;clear hG hO9 hE;go_wp2_with (refine wpl_store_tree HO9.out (by decide) p9 rfl _ _ rfl rfl rfl ?_; intro w10 hO10 hu10; have HO10:=hid hO10; have HU10:=hid hu10; clear hO10 hu10)
 exact bodyPost_ret (res_tree rfl _ rfl HO10.out) rfl (HE.out w10 HU10.out)
end Tm
end
section
open Go.RowKit
namespace Tm
open Tr Ni Pk
structure St (M:Mp) (w:World) (M':Mp) (w':World):Prop where
 f:Fr M M' w w'
 i:Inv M' w'
 b:Below w.heap.size w w'
 i0:Inv M w
theorem St.refl {M:Mp} {w:World} (hi:Inv M w):St M w M w:=⟨Fr.refl _ _,hi,Below.refl _ _,hi⟩
theorem St.below {M M1:Mp} {w w1 w2:World} (s:St M w M1 w1) (h:Below w1.heap.size w1 w2):St M w M1 w2:=⟨s.f.trans s.i0 (Fr.below M1 h),s.i.below h,bst s.b h,s.i0⟩
theorem St.got {M M1:Mp} {w w1 w2:World} {t:T} {e:Ending} (s:St M w M1 w1) (h:GotT M1 w1 t e w2):∃ p M2,e = .returned (tv p)∧IsT M2 p t∧St M w M2 w2∧Fr M1 M2 w1 w2∧Below w1.heap.size w1 w2:=by
 obtain ⟨p,M2,he,ht,f,i,b⟩:=h;exact ⟨p,M2,he,ht,⟨s.f.trans s.i0 f,i,bst s.b b,s.i0⟩,f,b⟩
theorem St.upd {M M1:Mp} {w w1 w2:World} {g:Nat} (s:St M w M1 w1) (hu:Rg.Upd w1 g w2) (hg:w.heap.size≤g) (hf:¬ M1.ft g):St M w M1 w2:=⟨s.f.upd hu hg,s.i.upd hu hf,hu.below s.b hg,s.i0⟩
theorem St.plus {M M1:Mp} {w w1:World} (s:St M w M1 w1) {S:Nat→Prop} (hS:∀ k,S k→(w.heap.size≤k∨HasByte w k)∧k<w1.heap.size):St M w (Tm.plus M1 S) w1:=⟨s.f.plus fun k hk=>(hS k hk).1,s.i.plus fun k hk=>(hS k hk).2,s.b,s.i0⟩
theorem St.bytes {M M1:Mp} {w w1:World} (s:St M w M1 w1) {a:Option Addr} {n c:Nat} {l:List UInt8} (h:IsBs w1 a n c l):St M w (Tm.plus M1 (inS a n)) w1:=s.plus fun k hk=>⟨by
  obtain ⟨⟨j,x,hc⟩,_⟩:=inS_byte h hk;exact HasByte.below ⟨j,x,hc⟩ s.b,(inS_byte h hk).2⟩
structure Bx (M:Mp) (w:World) (g:Nat) (cs:Array Value) (t:TypeId):Prop where
 o:Rg.Own w g cs t
 n:¬ M.ft g
 h:∀ (j:Nat) (x:Int),cs[j]? ≠ some (Value.int .u8 x)
theorem Bx.got {M M':Mp} {w w':World} {g:Nat} {cs:Array Value} {t:TypeId} (h:Bx M w g cs t) (f:Fr M M' w w') (b:Below w.heap.size w w'):Bx M' w' g cs t:=⟨h.o.below b,f.box h.n h.o.1 (no_byte h.o h.h),h.h⟩
theorem Bx.upd {M:Mp} {w w':World} {g b:Nat} {cs:Array Value} {t:TypeId} (h:Bx M w g cs t) (hu:Rg.Upd w b w') (hne:g≠b):Bx M w' g cs t:=⟨h.o.upd hu hne,h.n,h.h⟩
theorem Bx.below {M:Mp} {w w':World} {g:Nat} {cs:Array Value} {t:TypeId} (h:Bx M w g cs t) (b:Below w.heap.size w w'):Bx M w' g cs t:=⟨h.o.below b,h.n,h.h⟩
theorem Bx.plus {M:Mp} {w:World} {g:Nat} {cs:Array Value} {t:TypeId} (h:Bx M w g cs t) {S:Nat→Prop} (hS:¬ S g):Bx (Tm.plus M S) w g cs t:=⟨h.o,fun e=>e.elim h.n hS,h.h⟩
structure Rx (M:Mp) (w:World) (g:Nat) (ps:List (Option Addr)):Prop where
 o:Rg.Own w g (rowT ps) 28
 n:¬ M.ft g
 m:ps.length≤maxLen
theorem row_no (ps:List (Option Addr)):∀ (j:Nat) (x:Int),(rowT ps)[j]? ≠ some (Value.int .u8 x):=fun j x h=>by
 simp [rowT] at h
theorem Rx.got {M M':Mp} {w w':World} {g:Nat} {ps:List (Option Addr)} (h:Rx M w g ps) (f:Fr M M' w w') (b:Below w.heap.size w w'):Rx M' w' g ps:=⟨h.o.below b,f.box h.n h.o.1 (no_byte h.o (row_no ps)),h.m⟩
theorem Rx.below {M:Mp} {w w':World} {g:Nat} {ps:List (Option Addr)} (h:Rx M w g ps) (b:Below w.heap.size w w'):Rx M w' g ps:=⟨h.o.below b,h.n,h.m⟩
theorem rowT_set (ps:List (Option Addr)) (i:Nat) (p:Option Addr):(rowT ps).setIfInBounds i (.pointer p)=rowT (ps.set i p):=by
 unfold rowT;rw [List.map_set];simp
theorem Rx.ks {M:Mp} {w:World} {g:Nat} {ps:List (Option Addr)} {l:List T} (h:Rx M w g ps) (ha:Are M ps l):Ks (Tm.plus M (fun k=>k=g)) w (some ⟨g,0,none⟩) ps.length ps.length l:=by
 refine ⟨Nat.le_refl _,h.m,ha.1.symm,fun e=>(by cases e),fun j hj=>⟨g,0,_,rfl,h.o.1,Or.inr rfl,?_,isT_plus (ha.2 j hj)⟩⟩;rw [Nat.zero_add,cell_of_row w g _ _ _ _ h.o.2];simp [rowT,List.getD,hj]
theorem meet_store_rx {o:Oper} {a:Act} {M:Mp} {w:World} {K:Act→World→Prop} {Q:Exit→Act→World→Prop} {ops:Array Oper} (hw:Region.wanted o (yielded ops a.tmps)=true) {g i:Nat} {ps:List (Option Addr)} (h:Rx M w g ps) (hof:i<ps.length) (p:Option Addr)
  (ho:∃ x y,o.op = .store 28 x y∧a.eval x = .pointer (some ⟨g,i,none⟩)∧a.eval y=tv p)
  (hQ:∀ w',Rx M w' g (ps.set i p)→Rg.Upd w g w'→K (a.put o.dst undef) w'):if Region.wanted o (yielded ops a.tmps)=true then Oper.wp Tryz.prog o a w K Q else K (a.put o.dst undef) w :=
 meet_store_tree hw h.o (off:=i) (by simpa [rowT] using hof) p ho (fun w' hO' hu=>hQ w' ⟨by rw [← rowT_set]; exact hO',h.n,by simpa using h.m⟩ hu)
def nils:List (Option Addr):=List.replicate 16 none
theorem nils_length:nils.length=16:=rfl
theorem op_make16 {ev:Operand→Value} {o:Oper} {w:World} (b:Nat) (hb:b=w.heap.size) (ho:∃ x y,o.op = .makeSlice 57 x y∧ev x = .int .i64 16∧ev y = .int .i64 16) :
  (execOp ev o).run Tryz.prog w = .ok (.value (.slice (some ⟨b,0,none⟩) 16 16)) (w.alloc (.cells (rowT nils) 28)):=by
 obtain ⟨x,y,ho,hx,hy⟩:=ho;subst hb;unfold execOp;rw [ho];dsimp only;rw [hx,hy];kernel_rfl
theorem nils_getD (j:Nat):nils.getD j none=none:=by
 unfold nils;rw [List.getD_eq_getElem?_getD,List.getElem?_replicate];split <;> rfl
theorem nilsT_getD (j:Nat):(List.replicate 16 T.nil).getD j T.nil=T.nil:=by
 rw [List.getD_eq_getElem?_getD,List.getElem?_replicate];split <;> rfl
theorem are_nils (M:Mp):Are M nils (List.replicate 16 .nil):=⟨rfl,fun j hj=>by rw [nils_getD,nilsT_getD]; exact rfl⟩
theorem two_set (i j:Fin 16) (a b:T) (hij:i≠j):((List.replicate 16 T.nil).set i.val a).set j.val b=partsT (two i j a b):=by
 have e:List.replicate 16 T.nil=partsT (.br fun _=>.nil):=by
  show List.replicate 16 T.nil=(List.finRange 16).map (fun _=>T.nil);rfl
 rw [e,parts_set,parts_set];unfold two;congr 2;funext k;by_cases h1:k=j
 ·subst h1;rw [if_pos rfl,if_neg (fun e=>hij e.symm),if_pos rfl]
 ·rw [if_neg h1,if_neg h1]
structure Bo (g:Nat) (w w':World):Prop where
 size:w.heap.size≤w'.heap.size
 block:∀ k,k<w.heap.size→k≠g→w'.heap[k]? = w.heap[k]?
 os:w'.os=w.os
 tape:w'.tape=w.tape
 output:w'.output=w.output
theorem Bo.of {g:Nat} {w w':World} (h:Below w.heap.size w w'):Bo g w w':=⟨h.size,fun k hk _=>h.block k hk,h.os,h.tape,h.output⟩
theorem Bo.then {g:Nat} {w w1 w2:World} (h:Bo g w w1) (hb:Below w1.heap.size w1 w2):Bo g w w2:=⟨Nat.le_trans h.size hb.size,fun k hk hg=>(hb.block k (Nat.lt_of_lt_of_le hk h.size)).trans (h.block k hk hg),hb.os.trans h.os,hb.tape.trans h.tape,hb.output.trans h.output⟩
theorem Bo.upd {g:Nat} {w w1 w2:World} (h:Bo g w w1) (hu:Rg.Upd w1 g w2):Bo g w w2:=⟨by rw [hu.size]; exact h.size,fun k hk hg=>(hu.block k hg).trans (h.block k hk hg),hu.os.trans h.os,hu.tape.trans h.tape,hu.output.trans h.output⟩
theorem Bo.below {g B:Nat} {w0 w w':World} (h:Bo g w w') (hb:Below B w0 w) (hB:B≤w.heap.size) (hg:B≤g):Below B w0 w':=⟨h.os.trans hb.os,h.tape.trans hb.tape,h.output.trans hb.output,Nat.le_trans hb.size h.size,fun k hk=>(h.block k (by omega) (by omega)).trans (hb.block k hk)⟩
theorem cell_bo {g:Nat} {w w':World} (h:Bo g w w') {b o:Nat} {v:Value} (hne:b≠g) (hc:w.cell? ⟨b,o,none⟩=some v):w'.cell? ⟨b,o,none⟩=some v:=by
 rw [← hc];exact World.cell?_of_block (w:=w) (h.block b (World.block_lt_of_cell? w _ hc) hne)
end Tm
end
section
open Go.RowKit
namespace Ky
open Ni
def kc (k:List UInt8):Array Value:=(k.map fun b=>Value.int .u8 b.toNat).toArray
theorem kc_size (k:List UInt8):(kc k).size=k.length:=by simp [kc]
theorem kc_one (k:List UInt8):(kc k).all (·.oneCell')=true:=by
 rw [Array.all_eq_true];intro i hi;simp [kc];rfl
theorem info_key:(Tryz.prog.info? 24).map (·.size)=some 32:=by kernel_rfl
theorem info_kc (k:List UInt8) (h:k.length=32):(Tryz.prog.info? 24).map (·.size)=some (kc k).size:=by rw [kc_size,h]; exact info_key
def pathK (k:List UInt8):List UInt8:=Ni.nibsL ⟨k.toArray⟩
theorem path_any (k:List UInt8) (hk:k.length=32) (w:World) :
  Calls Tryz.prog 43 #[.agg (kc k)] w (GotBs w (pathK k)):=by
 have h0:IsBs (w.alloc (.cells (kc k) 24)) (some ⟨w.heap.size,0,none⟩) k.length k.length k:=IsBs.new w k (by unfold maxLen; omega) _ _ rfl;rw [hk] at h0;have hcv:=conv_bs h0;obtain ⟨s,hs⟩:∃ s,(⟨k.toArray⟩:ByteArray)=s:=⟨_,rfl⟩
 have hsz:s.size=32:=by rw [← hs]; show k.toArray.size=32; simp [hk]
 have HP:Hid (pathK k=Ni.nibsL s):=hid (by unfold pathK; rw [hs]);have HSp:=hid (fun wx=>Ni.spread_any s (by omega) wx);rw [hs] at hcv;obtain ⟨C,hC⟩:∃ C,kc k=C:=⟨_,rfl⟩
 rw [hC] at hcv ⊢;clear h0 hs hC hsz hk;go_enter Tryz.func43,Tryz.ntmps43;go_wp2_with fail
 refine (HSp.out _).mono ?_;rintro e w1 ⟨a,n,cap,rfl,hx,hb⟩;go_wp2;go_ret;exact ⟨a,n,cap,rfl,by rw [HP.out]; exact hx,((Below.refl w.heap.size w).alloc (Nat.le_refl _) _).trans (hb.mono (by simp))⟩
theorem below_row {B:Nat} {w w1:World} (h:Below B w w1) {g:Nat} (hg:B≤g) (cs:Array Value):Below B w (w1.setRow g cs) :=
 h.trans ⟨rfl,rfl,rfl,by simp,fun k hk=>setRow_other w1 g k cs (by omega)⟩
theorem res_key (tmps:Array Value) (w:World) (g:Nat) (cs:Array Value) (e:Int) (hp:tmps.getD 2 undef = .pointer (some ⟨g,0,none⟩)) (he:tmps.getD 3 undef = .int .i64 e)
  (hg:w.heap[g]? = some (.cells cs 24 (0,0))) (hs:cs.size=32):(results Tryz.f70 tmps).run Tryz.prog w = .ok (.tuple #[.agg cs,.int .i64 e]) w:=by
 rw [results_cell_tmp (fn:=Tryz.f70) (p:=2) (u:=3) (ty:=24) rfl,hp,he];have:=run_loadVar_row (P:=Tryz.prog) w g 24 24 cs (0,0) _ hg Tryz.underlying24 rfl (by rw [hs]; exact info_key);simp [asAddr,this]
def zk:List UInt8:=List.replicate 32 0
theorem wpList_run {P:Program} {w:World} {ops:Array Oper} {rest:List Oper} {o:Oper} {a:Act} {Q:Exit→Act→World→Prop} (hgd:o.guard=none) (v:Value) (w':World)
  (hr:(execOp a.eval o).run P w = .ok (.value v) w') (h:wpList P ops Q rest (a.put o.dst v) w'):wpList P ops Q (o::rest) a w :=
 wpList_plain hgd fun K hK=>by
  unfold Oper.wp;rw [hr];exact hK _ _ h
theorem run_alloc_key (ev:Operand→Value) (o:Oper) (ho:o.op = .alloc 24) (w:World) :
  (execOp ev o).run Tryz.prog w = .ok (.value (.pointer (some ⟨w.heap.size,0,none⟩))) (w.alloc (.cells (kc zk) 24)):=by
 unfold execOp;rw [ho];kernel_rfl
theorem zk_size:(kc zk).size=32:=by rw [kc_size]; rfl
end Ky
end
section
open Go.RowKit
namespace Ky
open Ni
theorem run_load_key (w:World) (g:Nat) (l:List UInt8) (hl:l.length=32) (hc:∀ j,j<32→w.cell? ⟨g,j,none⟩=some (.int .u8 (l.getD j 0).toNat)) :
  (loadVar 24 ⟨g,0,none⟩).run Tryz.prog w = .ok (.agg (kc l)) w:=by
 have hs:(kc l).size=32:=by rw [kc_size,hl]
 have hll:(kc l).toList.length=32:=by simpa using hs
 have hrun:(loadCells ⟨g,0,none⟩ (kc l).toList.length).run Tryz.prog w = .ok (kc l).toList.toArray w :=
  run_loadCells_list (P:=Tryz.prog) w ⟨g,0,none⟩ (kc l).toList (fun j v hv=>by
   have hadd:(⟨g,0,none⟩:Addr).add j=⟨g,j,none⟩:=by unfold Addr.add; split <;> simp_all
   have hj:j<32:=by
    have:=(List.getElem?_eq_some_iff.1 hv).1;omega
   rw [hadd,hc j hj,← hv];simp [kc,List.getD,hl,hj])
 cases hq:Tryz.prog.info? 24 with
 | none=>have:=info_key; simp [hq] at this
 | some i =>
  have hsz:i.size=32:=by have:=info_key; simpa [hq] using this
  have hagg:(isAgg 24).run Tryz.prog w = .ok true w:=by
   unfold isAgg;rw [Sem.run_bind,run_underlying Tryz.underlying24 w];simp
  rw [hll] at hrun;simp only [Array.toArray_toList] at hrun;simp [loadVar,Sem.run_bind,hagg,sizeOf,typeInfo,hq,hsz,hrun]
theorem wpList_load_key {ops:Array Oper} {rest:List Oper} {o:Oper} {a:Act} {w:World} {Q:Exit→Act→World→Prop} (hgd:o.guard=none) (x:Operand) (ho:o.op = .load 24 x)
  (g:Nat) (hx:a.eval x = .pointer (some ⟨g,0,none⟩)) (l:List UInt8) (hr:(loadVar 24 ⟨g,0,none⟩).run Tryz.prog w = .ok (.agg (kc l)) w)
  (h:wpList Tryz.prog ops Q rest (a.put o.dst (.agg (kc l))) w):wpList Tryz.prog ops Q (o::rest) a w :=
 wpList_run hgd _ _ (by
  unfold execOp;simp only [ho,hx,Instr.loadAt,Instr.sureAddr,Sem.run_bind,Sem.run_pure,Result.andThen_ok,hr]) h
theorem below_bytes {B:Nat} {w w1:World} (h:Below B w w1) (hB:B≤w1.heap.size) (e:TypeId) (s:ByteArray):Below B w (Lib.bytesWorld w1 e s):=by
 have h1:(Lib.bytesWorld w1 e s).os=w1.os∧(Lib.bytesWorld w1 e s).tape=w1.tape∧(Lib.bytesWorld w1 e s).output=w1.output:=by
  unfold Lib.bytesWorld World.freeze;split <;> exact ⟨rfl,rfl,rfl⟩
 refine h.trans ⟨h1.1,h1.2.1,h1.2.2,by rw [Lib.bytesWorld_size]; omega,fun k hk=>Lib.bytesWorld_at_old w1 e s k (by omega)⟩
def keyL (l:List UInt8):List UInt8:=pairsK l 32
theorem keyL_length (l:List UInt8):(keyL l).length=32:=pairsK_length l 32
theorem key_ok (a:Option Addr) (cap:Nat) (l:List UInt8) (hr:rightB l=true) (w:World) (h:IsBs w a 64 cap l) :
  Calls Tryz.prog 70 #[.slice a 64 cap] w fun e w'=>e = .returned (.tuple #[.agg (kc (keyL l)),.int .i64 0])∧Below w.heap.size w w':=by
 have hR:=right_any a 64 cap l (w.alloc (.cells (kc zk) 24)) (h.alloc _);rw [hr] at hR;have HR:=hid hR;have HP:=hid (pairs_any a 64 cap l hr (by omega) (by omega) (w.alloc (.cells (kc zk) 24)) (h.alloc _));clear hR hr h;have HG:Hid ((w.alloc (.cells (kc zk) 24)).heap[w.heap.size]? = some (.cells (kc zk) 24 (0,0))):=hid (heap_alloc_new _ _);obtain ⟨s,hs⟩:∃ s,(⟨(pairsK l (64/2)).toArray⟩:ByteArray)=s:=⟨_,rfl⟩
 have HS:Hid (s.size=32∧s.data.toList=keyL l):=hid (by
  rw [← hs];refine ⟨?_,rfl⟩;show (pairsK l 32).toArray.size=32;simp [pairsK])
 rw [hs] at HP;clear hs;go_enter Tryz.func70,Tryz.ntmps70;go_wp2_with (first | (refine wpList_run rfl _ _ (run_alloc_key _ _ rfl _) ?_))
 refine HR.out.mono ?_;rintro e w1 ⟨rfl,rfl⟩;go_wp2_with fail
 refine HP.out.mono ?_;rintro e w2 ⟨rfl,hb2⟩;have hsz2:w.heap.size<w2.heap.size:=by have:=hb2.size; simp at this; omega
 have hcv:=Lib.run_convert_string_bytes (P:=Tryz.prog) w2 9 51 5 s Tryz.underlying9 Tryz.underlying51 Tryz.underlying5;rw [HS.out.1] at hcv;obtain ⟨c,hc⟩:∃ c,grownCap w2 32 0 5=c:=⟨_,rfl⟩
 rw [hc] at hcv;have HL:=hid (run_load_key (Lib.bytesWorld w2 5 s) w2.heap.size (keyL l) (keyL_length l) (fun j hj=>by
  rw [Lib.bytesWorld_cell w2 5 s j (by rw [HS.out.1]; exact hj),HS.out.2]))
 have HG2:Hid ((Lib.bytesWorld w2 5 s).heap[w.heap.size]? = some (.cells (kc zk) 24 (0,0))):=hid (by
  rw [Lib.bytesWorld_at_old w2 5 s _ hsz2,hb2.block _ (by simp)];exact HG.out)
 have HB:Hid (Below w.heap.size w (Lib.bytesWorld w2 5 s)):=hid (below_bytes (((Below.refl w.heap.size w).alloc (Nat.le_refl _) _).trans (hb2.mono (by simp))) (by omega) _ _);obtain ⟨W,hW⟩:∃ W,Lib.bytesWorld w2 5 s=W:=⟨_,rfl⟩
 rw [hW] at hcv HL HG2 HB;have hat:=run_arrayAt (P:=Tryz.prog) W 24 _ 32 (some ⟨w2.heap.size,0,none⟩) 32 c Tryz.underlying24 (Nat.le_refl _);clear hc hW hb2 hsz2 HP HR;go_wp2_with (first | (refine wpList_load_key rfl _ rfl w2.heap.size rfl (keyL l) HL.out ?_) | (refine wpList_store_rowTo rfl 24 _ _ rfl rfl _ (kc (keyL l)) rfl rfl 24 (kc zk) HG2.out (info_kc _ (keyL_length l)) (by rw [zk_size,kc_size,keyL_length]) (kc_one _) ?_))
 exact bodyPost_ret (res_key _ _ _ _ _ rfl rfl (setRow_heap _ _ _ _ _ _ HG2.out) (by rw [kc_size,keyL_length])) rfl ⟨rfl,below_row HB.out (Nat.le_refl _) _⟩
end Ky
end
section
open Go.RowKit
namespace Ky
open Ni
theorem pathK_length (k:List UInt8) (hk:k.length=32):(pathK k).length=64:=by
 unfold pathK;rw [nibsL_length];show 2*k.toArray.size=64;simp [hk]
def pc (k:List UInt8) (j:Nat):List Value:=((pathK k).take j).map fun x=>Value.int .u8 x.toNat
theorem pc_snoc (k:List UInt8) (hk:k.length=32) (j:Nat) (hj:j<64) (V:Int) (hV:V=(nibAt ⟨k.toArray⟩ j:Nat)):pc k (j+1)=pc k j++[.int .u8 V]:=by
 unfold pc;rw [take_snoc_getD _ _ (by rw [pathK_length k hk]; exact hj),List.map_append,List.map_cons,List.map_nil];have:((pathK k).getD j 0).toNat=nibAt ⟨k.toArray⟩ j:=nibsL_getD _ _ (by show j<2*k.toArray.size; simp [hk]; omega);rw [this,hV]
theorem nib_even (k:List UInt8) (j:Nat) (h:j%2=0):nibAt ⟨k.toArray⟩ j=(k.getD (j/2) 0).toNat/16:=by unfold nibAt; rw [if_pos h]
theorem nib_odd (k:List UInt8) (j:Nat) (h:¬ j%2=0):nibAt ⟨k.toArray⟩ j=(k.getD (j/2) 0).toNat%16:=by unfold nibAt; rw [if_neg h]
end Ky
end
section
open Go.RowKit
namespace Ky
open Ni
theorem part_byte (k:List UInt8) (i:Nat) (hi:i<k.length) (w:World):(part 5 (kc k) i).run Tryz.prog w = .ok (.int .u8 (k.getD i 0).toNat) w:=by
 have hagg:(isAgg 5).run Tryz.prog w = .ok false w:=by
  unfold isAgg;rw [Sem.run_bind,run_underlying Tryz.underlying5 w];simp
 have hg:(kc k)[i]? = some (.int .u8 (k.getD i 0).toNat):=by simp [kc,List.getD,hi]
 unfold part;rw [Sem.run_bind,hagg];simp [hg]
theorem cells_u8:Tryz.prog.cellsOf 5=1:=by kernel_rfl
theorem guard_key:Tryz.prog.eqGuardType Tryz.prog.depth 24=false:=by kernel_rfl
theorem key_path (k:List UInt8) (hk:k.length=32):keyL (pathK k)=k:=by
 unfold keyL pathK;have h:=pairs_nibs ⟨k.toArray⟩;have e:(⟨k.toArray⟩:ByteArray).size=32:=by show k.toArray.size=32; simp [hk]
 rw [e] at h;exact h
theorem path_key (l:List UInt8) (hr:rightB l=true) (hl:l.length=64):pathK (keyL l)=l:=nibs_pairs l hr 32 hl
theorem path_right (k:List UInt8):rightB (pathK k)=true:=nibsL_right _
theorem run_load_op (ev:Operand→Value) (o:Oper) (x:Operand) (w:World) (g:Nat) (l:List UInt8) (ho:o.op = .load 24 x) (hx:ev x = .pointer (some ⟨g,0,none⟩)) (hr:(loadVar 24 ⟨g,0,none⟩).run Tryz.prog w = .ok (.agg (kc l)) w) :
  (execOp ev o).run Tryz.prog w = .ok (.value (.agg (kc l))) w:=by
 unfold execOp;simp only [ho,hx,Instr.loadAt,Instr.sureAddr,Sem.run_bind,Sem.run_pure,Result.andThen_ok,hr]
theorem load_block (w:World) (g:Nat) (l:List UInt8) (hl:l.length=32) (hg:w.heap[g]? = some (.cells (kc l) 24 (0,0))):(loadVar 24 ⟨g,0,none⟩).run Tryz.prog w = .ok (.agg (kc l)) w :=
 run_loadVar_row (P:=Tryz.prog) w g 24 24 (kc l) (0,0) _ hg Tryz.underlying24 rfl (info_kc l hl)
end Ky
end
section
open Go.RowKit
namespace Tm
open Tr Ni Pk
theorem load_str {w:World} {b:Nat} {o:Nat} {x:ByteArray} (h:w.cell? ⟨b,o,none⟩=some (.string x)):(Instr.loadAt 9 (.pointer (some ⟨b,o,none⟩))).run Tryz.prog w = .ok (.string x) w:=by
 simp [go_sem,h]
theorem op_load_str {ev:Operand→Value} {o:Oper} {w:World} {b off:Nat} {s:ByteArray} (hc:w.cell? ⟨b,off,none⟩=some (.string s)) (ho:∃ x,o.op = .load 9 x∧ev x = .pointer (some ⟨b,off,none⟩)) :
  (execOp ev o).run Tryz.prog w = .ok (.value (.string s)) w:=by
 obtain ⟨x,ho,hx⟩:=ho;unfold execOp;simp only [ho,hx,Sem.run_bind,Sem.run_pure,Result.andThen_ok,load_str hc]
theorem op_load_key {ev:Operand→Value} {o:Oper} {w:World} {g:Nat} {k:List UInt8} (hk:k.length=32) (hg:w.heap[g]? = some (.cells (Ky.kc k) 24 (0,0))) (ho:∃ x,o.op = .load 24 x∧ev x = .pointer (some ⟨g,0,none⟩)) :
  (execOp ev o).run Tryz.prog w = .ok (.value (.agg (Ky.kc k))) w:=by
 obtain ⟨x,ho,hx⟩:=ho;exact Ky.run_load_op ev o x w g k ho hx (Ky.load_block w g k hk hg)
theorem own_bo {g b:Nat} {w w':World} {cs:Array Value} {t:TypeId} (h:Bo g w w') (hO:Rg.Own w b cs t) (hne:b≠g):Rg.Own w' b cs t:=⟨Nat.lt_of_lt_of_le hO.1 h.size,(h.block b hO.1 hne).trans hO.2⟩
end Tm
end
section
open Go.RowKit
namespace Tm
open Tr Ni Pk Ky
def pairC (x:Tr.Pair):List Value:=(x.1.map fun b=>Value.int .u8 b.toNat)++[.string x.2]
def pairA (x:Tr.Pair):Array Value:=(pairC x).toArray
theorem pairC_len {x:Tr.Pair} (h:x.1.length=32):(pairC x).length=33:=by simp [pairC,h]
theorem pairC_one (x:Tr.Pair):∀ u∈pairC x,u.oneCell'=true:=fun u hu=>by
 unfold pairC at hu;rw [List.mem_append] at hu;rcases hu with hu | hu
 ·obtain ⟨b,_,rfl⟩:=List.mem_map.1 hu;rfl
 ·obtain rfl:=List.mem_singleton.1 hu;rfl
theorem info_pair:(Tryz.prog.info? 33).map (fun i=>(i.size,i.bytes))=some (33,48):=by kernel_rfl
theorem info_pair_zero:((Tryz.prog.info? 33).bind (·.zero)).isSome=true:=by kernel_rfl
theorem info_pair_cells:((Tryz.prog.info? 33).bind (·.zero)).map (·.cells.size)=some 33:=by kernel_rfl
theorem info_pair_parts:∃ i z,Tryz.prog.info? 33=some i∧i.zero=some z∧i.size=33∧i.bytes=48∧z.cells.size=33:=by
 have h1:=info_pair;have h2:=info_pair_zero;have h3:=info_pair_cells;cases hi:Tryz.prog.info? 33 with
 | none=>rw [hi] at h1; simp at h1
 | some i =>
  rw [hi] at h1 h2 h3;simp at h1 h2 h3;cases hz:i.zero with
  | none=>rw [hz] at h2; simp at h2
  | some z =>
   rw [hz] at h3;simp at h3;exact ⟨i,z,rfl,hz,h1.1,h1.2,h3⟩
def PairAt (w:World) (b o:Nat) (x:Tr.Pair):Prop:=w.rangeAt b o (pairC x)
theorem PairAt.below {w w':World} {b o:Nat} {x:Tr.Pair} (h:PairAt w b o x) (hb:Below w.heap.size w w'):PairAt w' b o x:=fun j v hv=>cell_on hb (h j v hv)
theorem PairAt.key {w:World} {b o:Nat} {x:Tr.Pair} (h:PairAt w b o x):w.rangeAt b o (x.1.map fun b=>Value.int .u8 b.toNat):=fun j v hv=>h j v (by
 unfold pairC;have:=(List.getElem?_eq_some_iff.1 hv).1;rw [List.getElem?_append_left this]; exact hv)
theorem PairAt.val {w:World} {b o:Nat} {x:Tr.Pair} (h:PairAt w b o x) (hk:x.1.length=32):w.cell? ⟨b,o+32,none⟩=some (.string x.2):=h 32 _ (by
 unfold pairC;rw [List.getElem?_append_right (by simp [hk])];simp [hk])
theorem PairAt.own {w:World} {b:Nat} {x:Tr.Pair} {t:TypeId} (h:Rg.Own w b (pairA x) t):PairAt w b 0 x:=fun j v hv=>by
 rw [Nat.zero_add];exact own_cell h (by unfold pairA; simpa using hv)
theorem op_load_pair {ev:Operand→Value} {o:Oper} {w:World} {b off:Nat} {x:Tr.Pair} (hk:x.1.length=32) (h:PairAt w b off x) (ho:∃ y,o.op = .load 33 y∧ev y = .pointer (some ⟨b,off,none⟩)) :
  (execOp ev o).run Tryz.prog w = .ok (.value (.agg (pairA x))) w:=by
 obtain ⟨y,ho,hx⟩:=ho;have hl:=run_loadAt_mid (P:=Tryz.prog) w b off 33 (pairC x) _ h Tryz.underlying33 rfl (by
  have:=info_pair;rw [pairC_len hk];cases hi:Tryz.prog.info? 33 with
  | none=>rw [hi] at this; simp at this
  | some i=>rw [hi] at this; simp at this; simp [this.1])
 unfold execOp;simp only [ho,hx,Sem.run_bind,Sem.run_pure,Result.andThen_ok,hl];rfl
theorem op_load_key_mid {ev:Operand→Value} {o:Oper} {w:World} {b off:Nat} {k:List UInt8} (hk:k.length=32) (h:w.rangeAt b off (k.map fun b=>Value.int .u8 b.toNat)) (ho:∃ y,o.op = .load 24 y∧ev y = .pointer (some ⟨b,off,none⟩)) :
  (execOp ev o).run Tryz.prog w = .ok (.value (.agg (kc k))) w:=by
 obtain ⟨y,ho,hx⟩:=ho;have hl:=run_loadAt_mid (P:=Tryz.prog) w b off 24 (k.map fun b=>Value.int .u8 b.toNat) _ h Tryz.underlying24 rfl (by rw [info_key]; simp [hk]);unfold execOp;simp only [ho,hx,Sem.run_bind,Sem.run_pure,Result.andThen_ok,hl];rfl
theorem thirtytwo {α:Type} (l:List α) (h:l.length=32):∃ a0 a1 a2 a3 a4 a5 a6 a7 b0 b1 b2 b3 b4 b5 b6 b7 c0 c1 c2 c3 c4 c5 c6 c7 d0 d1 d2 d3 d4 d5 d6 d7,l=[a0,a1,a2,a3,a4,a5,a6,a7,b0,b1,b2,b3,b4,b5,b6,b7,c0,c1,c2,c3,c4,c5,c6,c7,d0,d1,d2,d3,d4,d5,d6,d7]:=by
 match l,h with
 | [a0,a1,a2,a3,a4,a5,a6,a7,b0,b1,b2,b3,b4,b5,b6,b7,c0,c1,c2,c3,c4,c5,c6,c7,d0,d1,d2,d3,d4,d5,d6,d7],_=>exact ⟨_,_,_,_,_,_,_,_,_,_,_,_,_,_,_,_,_,_,_,_,_,_,_,_,_,_,_,_,_,_,_,_,rfl⟩
theorem built_pair (k:List UInt8) (v:ByteArray) (h:k.length=32):Tryz.prog.built 33 [(0,.agg (kc k)),(1,.string v)]=some (pairA (k,v)):=by
 obtain ⟨a0,a1,a2,a3,a4,a5,a6,a7,b0,b1,b2,b3,b4,b5,b6,b7,c0,c1,c2,c3,c4,c5,c6,c7,d0,d1,d2,d3,d4,d5,d6,d7,rfl⟩:=thirtytwo k h;kernel_rfl
theorem op_lit_pair {ev:Operand→Value} {o:Oper} {w:World} {x:Tr.Pair} (hk:x.1.length=32) (b:Nat) (hb:b=w.heap.size) (ho:∃ y,o.op = .buildSlice 22 1 #[(0,y)]∧ev y = .agg (pairA x)) :
  (execOp ev o).run Tryz.prog w = .ok (.value (.slice (some ⟨b,0,none⟩) 1 1)) (w.alloc (.cells (pairA x) 33)):=by
 obtain ⟨y,ho,hx⟩:=ho;obtain ⟨k,v⟩:=x;subst hb;unfold execOp;simp only [ho,List.map_toArray,List.map_cons,List.map_nil,hx];obtain ⟨a0,a1,a2,a3,a4,a5,a6,a7,b0,b1,b2,b3,b4,b5,b6,b7,c0,c1,c2,c3,c4,c5,c6,c7,d0,d1,d2,d3,d4,d5,d6,d7,rfl⟩:=thirtytwo k hk;kernel_rfl
def IsPs (w:World) (a:Option Addr) (n c:Nat) (l:List Tr.Pair):Prop :=
 n≤c∧c≤maxLen∧l.length=n∧(a=none→c=0)∧(∀ x∈l,x.1.length=32)∧∀ j,j<n→∃ b off,a=some ⟨b,off,none⟩∧b<w.heap.size∧PairAt w b (off+j*33) (l.getD j ([],eB))
theorem IsPs.len {w:World} {a:Option Addr} {n c:Nat} {l:List Tr.Pair} (h:IsPs w a n c l):l.length=n:=h.2.2.1
theorem IsPs.keys {w:World} {a:Option Addr} {n c:Nat} {l:List Tr.Pair} (h:IsPs w a n c l):∀ x∈l,x.1.length=32:=h.2.2.2.2.1
theorem IsPs.at' {w:World} {a:Option Addr} {n c:Nat} {l:List Tr.Pair} (h:IsPs w a n c l) (j:Nat) (hj:j<n):∃ b off,a=some ⟨b,off,none⟩∧b<w.heap.size∧PairAt w b (off+j*33) (l.getD j ([],eB))∧(l.getD j ([],eB)).1.length=32:=by
 obtain ⟨b,off,e,hlt,hp⟩:=h.2.2.2.2.2 j hj;refine ⟨b,off,e,hlt,hp,h.keys _ ?_⟩;have hl:=h.len;rw [List.getD_eq_getElem?_getD,List.getElem?_eq_getElem (by omega)];exact List.getElem_mem _
theorem IsPs.below {w w':World} {a:Option Addr} {n c:Nat} {l:List Tr.Pair} (h:IsPs w a n c l) (hb:Below w.heap.size w w'):IsPs w' a n c l :=
 ⟨h.1,h.2.1,h.2.2.1,h.2.2.2.1,h.2.2.2.2.1,fun j hj=>by
  obtain ⟨b,off,e,hlt,hp⟩:=h.2.2.2.2.2 j hj;exact ⟨b,off,e,Nat.lt_of_lt_of_le hlt hb.size,hp.below hb⟩⟩
theorem IsPs.nil (w:World):IsPs w none 0 0 []:=⟨Nat.le_refl _,Nat.zero_le _,rfl,fun _=>rfl,fun _ h=>(by cases h),fun _ h=>absurd h (Nat.not_lt_zero _)⟩
def rowP (l:List Tr.Pair):List Value:=l.flatMap pairC
theorem rowP_snoc (l:List Tr.Pair) (x:Tr.Pair):rowP (l++[x])=rowP l++pairC x:=by simp [rowP]
theorem rowP_at:∀ (l:List Tr.Pair),(∀ x∈l,x.1.length=32)→∀ j i,j<l.length→i<33→(rowP l)[j*33+i]? = (pairC (l.getD j ([],eB)))[i]?
 | [],_,_,_,h,_=>absurd h (Nat.not_lt_zero _)
 | x::l,h,0,i,_,hi=>by
  show (pairC x++rowP l)[0*33+i]? = _;rw [Nat.zero_mul,Nat.zero_add,List.getElem?_append_left (by rw [pairC_len (h x List.mem_cons_self)]; exact hi)];rfl
 | x::l,h,j+1,i,hj,hi=>by
  show (pairC x++rowP l)[(j+1)*33+i]? = _;have hx:=pairC_len (h x List.mem_cons_self);rw [List.getElem?_append_right (by omega),hx,show (j+1)*33+i-33=j*33+i by omega,rowP_at l (fun y hy=>h y (List.mem_cons_of_mem _ hy)) j i (by simpa using hj) hi];rfl
theorem IsPs.ofOwn {w:World} {B:Nat} {v:Value} {n:Nat} {l:List Tr.Pair} (hk:∀ x∈l,x.1.length=32) (hl:l.length=n) (h:w.ownsRow B 33 33 v n (rowP l)):∃ a cap,v = .slice a n cap∧IsPs w a n cap l:=by
 rcases h.2 with ⟨rfl,hz⟩ | ⟨g,cap,cur,rfl,hbg,hg,hnc,hcm,hcs,htake⟩
 ·subst hz;obtain rfl:l=[]:=List.eq_nil_of_length_eq_zero hl;exact ⟨none,0,rfl,IsPs.nil w⟩
 ·refine ⟨_,_,rfl,hnc,hcm,hl,fun e=>(by cases e),hk,fun j hj=>⟨g,0,rfl,(Array.getElem?_eq_some_iff.1 hg).1,fun i u hu=>?_⟩⟩;have hkj:(l.getD j ([],eB)).1.length=32:=hk _ (by
   rw [List.getD_eq_getElem?_getD,List.getElem?_eq_getElem (by omega)];exact List.getElem_mem _)
  have hi:i<33:=by
   have:=(List.getElem?_eq_some_iff.1 hu).1;rwa [pairC_len hkj] at this
  have:=h.cells (g:=g) rfl (j*33+i) u (by rw [rowP_at l hk j i (by omega) hi]; exact hu);rw [Addr.add_mid] at this;rw [Nat.add_assoc];exact this
def GotPs (w:World) (l:List Tr.Pair) (e:Ending) (w':World):Prop:=∃ a n c,e = .returned (.slice a n c)∧IsPs w' a n c l∧Below w.heap.size w w'
theorem run_alloc_pair (ev:Operand→Value) (o:Oper) (w:World) (b:Nat) (hb:b=w.heap.size) (ho:o.op = .alloc 33) :
  (execOp ev o).run Tryz.prog w = .ok (.value (.pointer (some ⟨b,0,none⟩))) (w.alloc (.cells (pairA (List.replicate 32 0,eB)) 33)):=by
 subst hb;unfold execOp;rw [ho];kernel_rfl
theorem pairA_size {x:Tr.Pair} (h:x.1.length=32):(pairA x).size=33:=by simp [pairA,pairC_len h]
theorem pairA_one (x:Tr.Pair):(pairA x).all (·.oneCell')=true:=by
 unfold pairA;exact all_oneCell_toArray (pairC_one x)
theorem info_pairA {x:Tr.Pair} (h:x.1.length=32):(Tryz.prog.info? 33).map (·.size)=some (pairA x).size:=by
 rw [pairA_size h];have:=info_pair;cases hi:Tryz.prog.info? 33 with
 | none=>rw [hi] at this; simp at this
 | some i=>rw [hi] at this; simp at this; simp [this.1]
theorem wpl_store_pair {ops:Array Oper} {rest:List Oper} {o:Oper} {act:Act} {w:World} {Q:Exit→Act→World→Prop} {b:Nat} {x:Tr.Pair} (h:Rg.Own w b (pairA x) 33) (hx:x.1.length=32) (y:Tr.Pair) (hy:y.1.length=32)
  (hgd:o.guard=none) (p q:Operand) (ho:o.op = .store 33 p q) (hp:act.eval p = .pointer (some ⟨b,0,none⟩)) (hq:act.eval q = .agg (pairA y)) (hd:o.dst=none)
  (hQ:∀ w',Rg.Own w' b (pairA y) 33→Rg.Upd w b w'→wpList Tryz.prog ops Q rest act w'):wpList Tryz.prog ops Q (o::rest) act w :=
 wpList_store_rowTo hgd 33 p q ho hd b _ hp hq 33 _ h.2 (info_pairA hy) (by rw [pairA_size hx,pairA_size hy]) (pairA_one _) (hQ _ ⟨by simp; exact h.1,setRow_heap _ _ _ _ _ _ h.2⟩ (Rg.Upd.set _ _ _))
theorem items_two (k l:List UInt8) (w:World) (d:Nat):∀ is:List Nat,(∀ i∈is,i<k.length∧i<l.length)→(Op.eqItems (d+1) 5 1 (kc k) (kc l) is).run Tryz.prog w = .ok (is.all fun i=>decide (k.getD i 0=l.getD i 0)) w
 | [],_=>by simp [Op.eqItems]
 | i::is,h=>by
  have ih:=items_two k l w d is (fun j hj=>h j (List.mem_cons_of_mem _ hj));have hp:=part_byte k i (h i (List.mem_cons_self ..)).1 w;have hq:=part_byte l i (h i (List.mem_cons_self ..)).2 w;unfold Op.eqItems;rw [Nat.mul_one];simp only [Sem.run_bind,hp,hq,Result.andThen_ok,run_equalIn_int w d 5 .u8 .u8 _ _ Tryz.underlying5];by_cases e:k.getD i 0=l.getD i 0
  ·rw [List.all_cons,decide_eq_true e,Bool.true_and,e];simp only [beq_self_eq_true,Bool.not_true,Bool.false_eq_true,if_false];exact ih
  ·have hne:(((k.getD i 0).toNat:Int)==((l.getD i 0).toNat:Int))=false:=by
    simp only [beq_eq_false_iff_ne,ne_eq];intro h;exact e (UInt8.toNat_inj.1 (by omega))
   rw [List.all_cons,decide_eq_false e,Bool.false_and,hne];simp
theorem keys_all {k l:List UInt8} (hk:k.length=32) (hl:l.length=32):((List.range 32).all fun i=>decide (k.getD i 0=l.getD i 0))=decide (k=l):=by
 rw [Bool.eq_iff_iff,List.all_eq_true,decide_eq_true_iff];constructor
 ·intro h;apply List.ext_getElem (by omega);intro i h1 h2;have:=of_decide_eq_true (h i (List.mem_range.2 (by omega)));simpa [List.getD,h1,h2] using this
 ·rintro rfl i _;exact decide_eq_true rfl
theorem equal_keys {k l:List UInt8} (hk:k.length=32) (hl:l.length=32) (w:World):(Op.equalIn 10000 24 (.agg (kc k)) (.agg (kc l))).run Tryz.prog w = .ok (decide (k=l)) w:=by
 obtain ⟨i0,hi,_⟩:=info_parts Cc.info_u8;rw [show (10000:Nat)=9999+1 from rfl,run_equalIn_array w 9999 (kc k) (kc l) Tryz.underlying24 hi,cells_u8,items_two k l w 9998 (List.range 32) (fun i h=>by rw [hk,hl]; have:=List.mem_range.1 h; omega),keys_all hk hl]
theorem neq_keys {k l:List UInt8} (hk:k.length=32) (hl:l.length=32) (w:World):(binOp .neq 24 (.agg (kc k)) (.agg (kc l))).run Tryz.prog w = .ok (.bool (!decide (k=l))) w:=by
 rw [run_neq_struct,equal_keys hk hl w];rfl
theorem op_neq_keys {ev:Operand→Value} {o:Oper} {w:World} {k l:List UInt8} (hk:k.length=32) (hl:l.length=32) (ho:∃ x y tt,o.op = .binOp .neq 24 x y tt∧ev x = .agg (kc k)∧ev y = .agg (kc l)) :
  (execOp ev o).run Tryz.prog w = .ok (.value (.bool (!decide (k=l)))) w:=by
 obtain ⟨x,y,tt,ho,hx,hy⟩:=ho;unfold execOp;have hg:=guard_key;simp [ho,hx,hy,run_eqGuard_agg,hg,neq_keys hk hl,Result.andThen]
end Tm
end
section
open Go.RowKit
namespace Tm
open Tr Ni Pk
end Tm
end
section
open Go.RowKit
namespace Tm
open Tr Ni Pk
end Tm
end
section
open Go.RowKit
namespace Tm
open Tr Ni Pk Ky
theorem getD_mem {l:List Tr.Pair} {j:Nat} (h:j<l.length):l.getD j ([],eB)∈l:=by
 rw [List.getD_eq_getElem?_getD,List.getElem?_eq_getElem h];exact List.getElem_mem _
theorem drop_at {l:List Tr.Pair} {j:Nat} (h:j<l.length):l.drop j=l.getD j ([],eB)::l.drop (j+1):=by
 have e:l.getD j ([],eB)=l[j]:=by simp [List.getD,h]
 rw [e];exact (List.getElem_cons_drop h).symm
theorem take_at {l:List Tr.Pair} {j:Nat} (h:j<l.length):l.take (j+1)=l.take j++[l.getD j ([],eB)]:=by
 have e:l.getD j ([],eB)=l[j]:=by simp [List.getD,h]
 rw [e,List.take_succ_eq_append_getElem h]
def GotOwnP (w:World) (l:List Tr.Pair) (e:Ending) (w':World):Prop:=∃ v,e = .returned v∧w'.ownsRow w.heap.size 33 33 v l.length (rowP l)∧Below w.heap.size w w'
theorem GotOwnP.ps {w w':World} {l:List Tr.Pair} {e:Ending} (hk:∀ x∈l,x.1.length=32) (h:GotOwnP w l e w'):GotPs w l e w':=by
 obtain ⟨v,rfl,ho,hb⟩:=h;obtain ⟨a,cap,rfl,hp⟩:=IsPs.ofOwn hk rfl ho;exact ⟨a,_,cap,rfl,hp,hb⟩
theorem own_keepN {B n sz:Nat} {w w':World} {e:TypeId} {v:Value} {xs:List Value} (h:w.ownsRow B e sz v n xs) (hb:Below w.heap.size w w'):w'.ownsRow B e sz v n xs:=h.kept (Bu.grown_below hb) (by cases v.ownBlock <;> simp)
end Tm
end
section
open Go.RowKit
namespace Tm
open Tr Ni Pk Ky
abbrev Hdl:Type:=Option Addr × Nat × Nat
def inC (x:Tr.In) (h:Hdl):List Value:=[.slice h.1 h.2.1 h.2.2,.string x.2]
def inA (x:Tr.In) (h:Hdl):Array Value:=#[.slice h.1 h.2.1 h.2.2,.string x.2]
theorem info_in:(Tryz.prog.info? 84).map (fun i=>(i.zero,i.size,i.bytes))=some (some (.agg #[.slice none 0 0,.string ⟨#[]⟩]),2,40):=by kernel_rfl
theorem info_in_parts:∃ i z,Tryz.prog.info? 84=some i∧i.zero=some z∧i.size=2∧i.bytes=40∧z.cells.size=2:=by
 obtain ⟨i0,hi,hz,hs,hby⟩:=info_parts info_in;exact ⟨i0,_,hi,hz,hs,hby,rfl⟩
def BsP (p:Nat→Prop) (w:World) (h:Hdl) (l:List UInt8):Prop:=IsBs w h.1 h.2.1 h.2.2 l∧∀ ad,h.1=some ad→0<h.2.1→p ad.block
theorem BsP.kept {p:Nat→Prop} {w w':World} {h:Hdl} {l:List UInt8} (g:BsP p w h l) (hs:w.heap.size≤w'.heap.size) (hk:∀ b,p b→b<w.heap.size→w'.heap[b]? = w.heap[b]?):BsP p w' h l:=by
 refine ⟨⟨g.1.1,g.1.2.1,g.1.2.2.1,g.1.2.2.2.1,fun j hj=>?_⟩,g.2⟩;obtain ⟨b,off,e,hlt,hc⟩:=g.1.at' j hj;exact ⟨b,off,e,Nat.lt_of_lt_of_le hlt hs,by rw [World.cell?_of_block (a:=⟨b,off+j,none⟩) (hk b (g.2 _ e (by omega)) hlt)]; exact hc⟩
theorem BsP.to {p q:Nat→Prop} {w:World} {h:Hdl} {l:List UInt8} (g:BsP p w h l) (hp:∀ b,b<w.heap.size→p b→q b):BsP q w h l:=by
 refine ⟨g.1,fun ad e hn=>hp _ ?_ (g.2 ad e hn)⟩;obtain ⟨b,off,e2,hlt,_⟩:=g.1.at' 0 hn;rw [e] at e2;cases e2;exact hlt
theorem BsP.old {w:World} {h:Hdl} {l:List UInt8} (g:IsBs w h.1 h.2.1 h.2.2 l):BsP (fun b=>b<w.heap.size) w h l:=by
 refine ⟨g,fun ad e hn=>?_⟩;obtain ⟨b,off,e2,hlt,_⟩:=g.at' 0 hn;rw [e] at e2;cases e2;exact hlt
def InAt (w:World) (b o:Nat) (x:Tr.In) (h:Hdl):Prop:=w.cell? ⟨b,o,none⟩=some (.slice h.1 h.2.1 h.2.2)∧w.cell? ⟨b,o+1,none⟩=some (.string x.2)
theorem InAt.below {w w':World} {b o:Nat} {x:Tr.In} {h:Hdl} (g:InAt w b o x h) (hb:Below w.heap.size w w'):InAt w' b o x h:=⟨cell_on hb g.1,cell_on hb g.2⟩
def IsIns (w:World) (a:Option Addr) (n c:Nat) (l:List Tr.In):Prop :=
 n≤c∧c≤maxLen∧l.length=n∧(a=none→c=0)∧∀ j,j<n→∃ b off h,a=some ⟨b,off,none⟩∧b<w.heap.size∧InAt w b (off+j*2) (l.getD j ([],eB)) h∧IsBs w h.1 h.2.1 h.2.2 (l.getD j ([],eB)).1
theorem IsIns.len {w:World} {a:Option Addr} {n c:Nat} {l:List Tr.In} (h:IsIns w a n c l):l.length=n:=h.2.2.1
theorem IsIns.at' {w:World} {a:Option Addr} {n c:Nat} {l:List Tr.In} (h:IsIns w a n c l) (j:Nat) (hj:j<n):∃ b off h,a=some ⟨b,off,none⟩∧b<w.heap.size∧InAt w b (off+j*2) (l.getD j ([],eB)) h∧IsBs w h.1 h.2.1 h.2.2 (l.getD j ([],eB)).1:=h.2.2.2.2 j hj
theorem IsIns.below {w w':World} {a:Option Addr} {n c:Nat} {l:List Tr.In} (h:IsIns w a n c l) (hb:Below w.heap.size w w'):IsIns w' a n c l :=
 ⟨h.1,h.2.1,h.2.2.1,h.2.2.2.1,fun j hj=>by
  obtain ⟨b,off,g,e,hlt,hp,hi⟩:=h.2.2.2.2 j hj;exact ⟨b,off,g,e,Nat.lt_of_lt_of_le hlt hb.size,hp.below hb,hi.below hb⟩⟩
theorem IsIns.nil (w:World):IsIns w none 0 0 []:=⟨Nat.le_refl _,Nat.zero_le _,rfl,fun _=>rfl,fun _ h=>absurd h (Nat.not_lt_zero _)⟩
def flatIn:List Tr.In→List Hdl→List Value
 | x::xs,h::hs=>.slice h.1 h.2.1 h.2.2 :: .string x.2::flatIn xs hs
 | _,_=>[]
theorem flatIn_snoc:∀ (xs:List Tr.In) (hs:List Hdl) (x:Tr.In) (h:Hdl),hs.length=xs.length→flatIn (xs++[x]) (hs++[h])=flatIn xs hs++inC x h
 | [],[],_,_,_=>rfl
 | y::xs,g::hs,x,h,e=>by
  have:=flatIn_snoc xs hs x h (by simpa using e);simp [flatIn,this]
theorem flatIn_at:∀ (xs:List Tr.In) (hs:List Hdl) (j:Nat) (x:Tr.In) (h:Hdl),xs[j]? = some x→hs[j]? = some h →
  (flatIn xs hs)[j*2]? = some (.slice h.1 h.2.1 h.2.2)∧(flatIn xs hs)[j*2+1]? = some (.string x.2)
 | [],_,_,_,_,hx,_=>by simp at hx
 | _::_,[],_,_,_,_,hh=>by simp at hh
 | y::xs,g::hs,0,x,h,hx,hh=>by
  simp at hx hh;subst hx hh;simp [flatIn]
 | y::xs,g::hs,j+1,x,h,hx,hh=>by
  have:=flatIn_at xs hs j x h (by simpa using hx) (by simpa using hh);rw [show (j+1)*2=j*2+2 by omega];simp only [flatIn,List.getElem?_cons_succ];exact this
def RowN (B:Nat) (w:World) (v:Value) (xs:List Tr.In):Prop :=
 ∃ hs:List Hdl,hs.length=xs.length∧w.ownsRow B 84 2 v xs.length (flatIn xs hs)∧∀ (j:Nat) (x:Tr.In) (h:Hdl),xs[j]? = some x→hs[j]? = some h→BsP (fun b=>v.ownBlock≠some b) w h x.1
theorem RowN.nil (B:Nat) (w:World):RowN B w (.slice none 0 0) []:=⟨[],rfl,World.ownsRow_nil _ _ _ _,fun _ _ _ hx _=>by simp at hx⟩
theorem RowN.lt {B:Nat} {w:World} {v:Value} {xs:List Tr.In} (h:RowN B w v xs):∀ k,v.ownBlock=some k→B≤k∧k<w.heap.size:=by
 obtain ⟨hs,_,ho,_⟩:=h;exact ho.lt
theorem RowN.below {B:Nat} {w w':World} {v:Value} {xs:List Tr.In} (h:RowN B w v xs) (hb:Below w.heap.size w w'):RowN B w' v xs:=by
 obtain ⟨hs,hlen,ho,hi⟩:=h;exact ⟨hs,hlen,ho.kept (Bu.grown_below hb) (by cases v.ownBlock <;> simp),fun j x h hx hh=>(hi j x h hx hh).kept hb.size fun b _ hlt=>hb.block b hlt⟩
theorem RowN.push {B:Nat} {w w':World} {v v':Value} {xs:List Tr.In} {x:Tr.In} {h:Hdl} {hs:List Hdl} (hlen:hs.length=xs.length) (hi:∀ (j:Nat) (x:Tr.In) (h:Hdl),xs[j]? = some x→hs[j]? = some h→BsP (fun b=>v.ownBlock≠some b) w h x.1)
  (hI:BsP (fun b=>v.ownBlock≠some b) w h x.1) (ho:w'.ownsRow B 84 2 v' (xs.length+1) (flatIn xs hs++inC x h))
  (hg:w.grownBy w' v.ownBlock) (hat:v'.ownBlock=v.ownBlock∨v'.ownBlock=some w.heap.size):RowN B w' v' (xs++[x]):=by
 have keep:∀ {l:List UInt8} {h:Hdl},BsP (fun b=>v.ownBlock≠some b) w h l→BsP (fun b=>v'.ownBlock≠some b) w' h l:=fun {l h} hh=>by
  have h1:=hh.to (q:=fun b=>v'.ownBlock≠some b∧v.ownBlock≠some b) fun b hlt hb=>⟨fun e=>by
   rcases hat with h2 | h2
   ·exact hb (h2 ▸ e)
   ·rw [h2] at e;have:=Option.some.inj e;omega,hb⟩
  have h2:=h1.kept (w':=w') hg.size fun b hb hlt=>hg.block b hlt (fun e=>hb.2 e.symm);exact h2.to fun b _ hb=>hb.1
 refine ⟨hs++[h],by simp [hlen],?_,fun j y g hy hh=>?_⟩
 ·rw [List.length_append,flatIn_snoc xs hs x h hlen];exact ho
 ·by_cases hj:j<xs.length
  ·rw [List.getElem?_append_left hj] at hy;rw [List.getElem?_append_left (by omega)] at hh;exact keep (hi j y g hy hh)
  ·have hj2:j=xs.length:=by
    have:=(List.getElem?_eq_some_iff.1 hy).1;simp at this;omega
   subst hj2;rw [List.getElem?_append_right (Nat.le_refl _),Nat.sub_self] at hy;rw [List.getElem?_append_right (by omega),hlen,Nat.sub_self] at hh;simp at hy hh;subst hy hh;exact keep hI
theorem RowN.done {B:Nat} {w:World} {v:Value} {xs:List Tr.In} (h:RowN B w v xs):∃ a n cap,v = .slice a n cap∧IsIns w a n cap xs:=by
 obtain ⟨hs,hlen,ho,hi⟩:=h;rcases ho.2 with ⟨rfl,hz⟩ | ⟨g,cap,cur,rfl,hbg,hg,hnc,hcm,hcs,htake⟩
 ·have:xs=[]:=List.eq_nil_of_length_eq_zero hz;subst this;exact ⟨none,0,0,rfl,IsIns.nil _⟩
 ·refine ⟨_,_,_,rfl,hnc,hcm,rfl,fun e=>(by cases e),fun j hj=>?_⟩;have hx:xs[j]? = some (xs.getD j ([],eB)):=by simp [hj]
  have hh:hs[j]? = some (hs.getD j (none,0,0)):=by simp [show j<hs.length by omega]
  obtain ⟨f0,f1⟩:=flatIn_at xs hs j _ _ hx hh;have e:∀ i,(⟨g,0,none⟩:Addr).add i=⟨g,0+i,none⟩:=fun i=>Addr.add_mid g 0 i;refine ⟨g,0,hs.getD j (none,0,0),rfl,(Array.getElem?_eq_some_iff.1 hg).1,⟨?_,?_⟩,(hi j _ _ hx hh).1⟩
  ·have:=ho.cells (g:=g) rfl _ _ f0;rw [e] at this;exact this
  ·have:=ho.cells (g:=g) rfl _ _ f1;rw [e,← Nat.add_assoc] at this;exact this
def GotIns (w:World) (l:List Tr.In) (e:Ending) (w':World):Prop:=∃ a n c,e = .returned (.slice a n c)∧IsIns w' a n c l∧Below w.heap.size w w'
theorem meet_lit_in {o:Oper} {a:Act} {w:World} {K:Act→World→Prop} {Q:Exit→Act→World→Prop} {ops:Array Oper} {x:Tr.In} {h:Hdl} (hw:Region.wanted o (yielded ops a.tmps)=true)
  (ho:∃ y,o.op = .buildSlice 43 1 #[(0,y)]∧a.eval y = .agg (inA x h))
  (H:∀ w' b,b=w.heap.size→Rg.Own w' b (inA x h) 84→Below w.heap.size w w'→K (a.put o.dst (.slice (some ⟨b,0,none⟩) 1 1)) w'):if Region.wanted o (yielded ops a.tmps)=true then Oper.wp Tryz.prog o a w K Q else K (a.put o.dst undef) w:=by
 obtain ⟨y,ho,hy⟩:=ho;obtain ⟨i0,hi,hz,hs,hby⟩:=info_parts info_in;refine Rg.want hw (wp_buildSlice 43 84 1 _ ho (inA x h) i0 _ Tryz.underlying43 hi hz (by rw [hs]; decide) (by rw [hs]; decide) ?_ (H _ _ rfl (Rg.Own.new _ _ _) (al1 _ _)));simp only [List.map_toArray,List.map_cons,List.map_nil,hy,hs];kernel_rfl
theorem run_push_in {w:World} {ty:TypeId} {B b2:Nat} {v:Value} {xs:List Tr.In} {x:Tr.In} {h:Hdl} (hR:RowN B w v xs) (h2:Rg.Own w b2 (inA x h) 84) (hI:BsP (fun b=>v.ownBlock≠some b) w h x.1) (hn:xs.length≤1000000) (hB:B≤w.heap.size) :
  ∃ v' w',(Builtin.append_ #[43,43] ty #[v,.slice (some ⟨b2,0,none⟩) 1 1]).run Tryz.prog w = .ok v' w'∧RowN B w' v' (xs++[x])∧w.grownBy w' v.ownBlock:=by
 obtain ⟨i0,z0,hi,hz,hsz,hby,hzc⟩:=info_in_parts;obtain ⟨hs',hlen,hown,hi'⟩:=hR;obtain ⟨v',w',hr,h3,h4,_,h5⟩:=run_append_own_at (P:=Tryz.prog) w B 43 ty 84 i0 z0 2 40 Tryz.underlying43 hi hz hsz hby hzc (by decide) v xs.length _ hown ⟨b2,0,none⟩ 1 1 (inC x h) rfl
  (fun j u hu=>by
   rw [Addr.add_mid,Nat.zero_add,cell_of_row w b2 _ _ _ _ h2.2];unfold inA;simpa [inC] using hu)
  (fun u hu=>by unfold inC at hu; simp at hu; rcases hu with rfl | rfl <;> rfl) (by unfold maxLen; omega) (by omega) hB
 exact ⟨v',w',hr,RowN.push hlen hi' hI h3 h4 h5,h4⟩
theorem meet_push_in {o:Oper} {a:Act} {w:World} {K:Act→World→Prop} {Q:Exit→Act→World→Prop} {ops:Array Oper} {B b2:Nat} {v:Value} {xs:List Tr.In} {x:Tr.In} {h:Hdl} (hw:Region.wanted o (yielded ops a.tmps)=true)
  (ho:∃ s y,o.op = .call { callee:=.builtin .append,args:=#[s,y],argTypes:=#[43,43] }∧a.eval s=v∧a.eval y = .slice (some ⟨b2,0,none⟩) 1 1)
  (hR:RowN B w v xs) (h2:Rg.Own w b2 (inA x h) 84) (hI:BsP (fun b=>v.ownBlock≠some b) w h x.1) (hn:xs.length≤1000000) (hB:B≤w.heap.size)
  (H:∀ v' w',RowN B w' v' (xs++[x])→w.grownBy w' v.ownBlock→K (a.put o.dst v') w'):if Region.wanted o (yielded ops a.tmps)=true then Oper.wp Tryz.prog o a w K Q else K (a.put o.dst undef) w:=by
 obtain ⟨s,y,ho,hs,hy⟩:=ho;obtain ⟨v',w',hr,h3,h4⟩:=run_push_in (ty:=o.type) hR h2 hI hn hB;refine Rg.want hw ?_;unfold Oper.wp execOp;simp only [ho,resolve,invoke,builtin,Sem.run_bind,Sem.run_pure,Result.andThen_ok,List.map_toArray,List.map_cons,List.map_nil,hs,hy,hr];exact H v' w' h3 h4
theorem wpl_push_in {ops:Array Oper} {rest:List Oper} {o:Oper} {a:Act} {w:World} {Q:Exit→Act→World→Prop} {B b2:Nat} {v:Value} {xs:List Tr.In} {x:Tr.In} {h:Hdl} (hgd:o.guard=none)
  (ho:∃ s y,o.op = .call { callee:=.builtin .append,args:=#[s,y],argTypes:=#[43,43] }∧a.eval s=v∧a.eval y = .slice (some ⟨b2,0,none⟩) 1 1)
  (hR:RowN B w v xs) (h2:Rg.Own w b2 (inA x h) 84) (hI:BsP (fun b=>v.ownBlock≠some b) w h x.1) (hn:xs.length≤1000000) (hB:B≤w.heap.size)
  (H:∀ v' w',RowN B w' v' (xs++[x])→w.grownBy w' v.ownBlock→wpList Tryz.prog ops Q rest (a.put o.dst v') w'):wpList Tryz.prog ops Q (o::rest) a w:=by
 obtain ⟨s,y,ho,hs,hy⟩:=ho;refine wpList_plain hgd fun K hK=>?_;obtain ⟨v',w',hr,h3,h4⟩:=run_push_in (ty:=o.type) hR h2 hI hn hB;unfold Oper.wp execOp;simp only [ho,resolve,invoke,builtin,Sem.run_bind,Sem.run_pure,Result.andThen_ok,List.map_toArray,List.map_cons,List.map_nil,hs,hy,hr];exact hK _ _ (H v' w' h3 h4)
theorem below_pushN {B:Nat} {w0 w w':World} {v:Value} {xs:List Tr.In} (hR:RowN B w v xs) (hb:Below B w0 w) (hB:B≤w.heap.size) (hg:w.grownBy w' v.ownBlock):Below B w0 w':=hb.grown hg hB (fun g hg=>(hR.lt g hg).1)
theorem BsP.apart {B:Nat} {w0 w:World} {v:Value} {xs:List Tr.In} {h:Hdl} {l:List UInt8} (hR:RowN B w v xs) (g:IsBs w0 h.1 h.2.1 h.2.2 l) (hb:Below w0.heap.size w0 w) (hB:w0.heap.size≤B):BsP (fun b=>v.ownBlock≠some b) w h l:=by
 have h1:=(BsP.old g).kept hb.size fun b hlt _=>hb.block b hlt;exact h1.to fun b _ hlt e=>by have:=(hR.lt b e).1; omega
theorem op_load_in {ev:Operand→Value} {o:Oper} {w:World} {b off:Nat} {x:Tr.In} {h:Hdl} (g:InAt w b off x h) (ho:∃ y,o.op = .load 84 y∧ev y = .pointer (some ⟨b,off,none⟩)) :
  (execOp ev o).run Tryz.prog w = .ok (.value (.agg (inA x h))) w:=by
 obtain ⟨y,ho,hx⟩:=ho;have hl:=run_loadAt_mid (P:=Tryz.prog) w b off 84 (inC x h) _ (fun j u hu=>by
  match j,hu with
  | 0,hu=>cases hu; exact g.1
  | 1,hu=>cases hu; exact g.2) Tryz.underlying84 rfl (by
  obtain ⟨i0,hi,hz,hs,hby⟩:=info_parts info_in;rw [hi];simp [hs,inC])
 unfold execOp;simp only [ho,hx,Sem.run_bind,Sem.run_pure,Result.andThen_ok,hl];rfl
end Tm
end
end Go.Proofs.YtnecijeakeklaaaGreatDoor
