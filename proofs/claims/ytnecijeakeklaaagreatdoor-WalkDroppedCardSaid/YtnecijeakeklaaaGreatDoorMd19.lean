/-
 The contract of refs.All: a node, and those within it.
-/
import Derived.Test.YtnecijeakeklaaaGreatDoorMd6
import Derived.Test.YtnecijeakeklaaaGreatDoorMd12
import Derived.Maps.AppendAt
import Derived.Laws.AppendOwnNone
import Derived.Test.YtnecijeakeklaaaGreatDoorMd18
import Derived.Test.YtnecijeakeklaaaGreatDoorMd13
import Derived.Test.YtnecijeakeklaaaGreatDoorMd17
import Derived.Test.YtnecijeakeklaaaGreatDoorMd1
import Derived.ChangeSlices
import Derived.Lib.HexFns2
import Derived.Deep.Slices
import Derived.Deep.DeepCutAuto
import Derived.Test.YtnecijeakeklaaaGreatDoorMd16
import Derived.Test.YtnecijeakeklaaaGreatDoorMd10
import Derived.Test.YtnecijeakeklaaaGreatDoorMd5
open Go.Lib (hid)
set_option linter.unusedSimpArgs false
set_option linter.unusedVariables false
set_option maxHeartbeats 40000000
set_option maxRecDepth 100000
namespace Go.Proofs.YtnecijeakeklaaaGreatDoor
section
open Go.RowKit
namespace Rf
open Rl Ni No
theorem kids_new (N:Nd) (a:Option Addr) (n c:Nat) (hl:N.ks.length=16) (w:World):Calls Tryz.prog 57 #[.agg (ndC N a n c)] w (fun e w'=>∃ (a':Option Addr) (n' cap':Nat),e = .returned (.slice a' n' cap')∧IsSt w' a' n' cap' (kidsL N.ks)∧(∀ b off,a'=some ⟨b,off,none⟩→w.heap.size≤b)∧Below w.heap.size w w'):=by
 obtain ⟨i0,hi,hz0,hz1,hz2⟩:=info_st_parts;have HI:Hid (_∧_∧_∧_):=hid ⟨hi,hz0,hz1,hz2⟩;have HO:Hid (OwnN (w.alloc (.cells (ndC N a n c) 56)) w.heap.size N a n c):=hid (Rg.Own.new _ _ _);have HL:=hid hl;clear hi hz0 hz1 hz2 hl;go_enter Tryz.func57,Tryz.ntmps57;go_wp2_with (refine Rg.run rfl _ _ (op_load_ks HO.out HL.out ⟨_,rfl,rfl⟩) ?_)
 go_loopw [3,8] (fun v i wr=>∃ j:Nat,j≤16∧i = .int .i64 j∧Hid (wr.ownsRow (w.heap.size+1) 9 1 v (kidsL (N.ks.take j)).length ((kidsL (N.ks.take j)).map Value.string))∧Below (w.heap.size+1) (w.alloc (.cells (ndC N a n c) 56)) wr) (fun _ i _=>16-(intOf i).toNat)
 case atStart=>exact ⟨0,Nat.zero_le _,rfl,hid (World.ownsRow_nil _ _ _ _),Below.refl _ _⟩
 case round =>
  obtain ⟨j,hj,rfl,HR,hB⟩:=hrel;have hsz:w.heap.size+1≤wr.heap.size:=by have:=hB.size; simp at this; omega
  by_cases hlt:j<16
  ·have HS:=hid (kidsL_snoc N.ks j (by rw [HL.out]; exact hlt));have hkl:=kidsL_len N.ks j;obtain ⟨L,hL⟩:∃ L,kidsL (N.ks.take j)=L:=⟨_,rfl⟩
   rw [hL] at HS hkl HR;clear hL;by_cases hk:(N.ks.getD j eB).size=0
   ·have HS':Hid (kidsL (N.ks.take (j+1))=L):=hid (by rw [HS.out,if_neg (by simpa using hk),List.append_nil]);have HE:Hid (N.ks.getD j eB=eB):=hid (size_zero hk);clear hk;go_wp2_with (refine Rg.run rfl (.string (N.ks.getD j eB)) _ (op_index_ks HL.out hlt ⟨_,_,rfl,rfl,rfl⟩) ?_; rw [HE.out])
    go_roundw
    case rel=>exact ⟨j+1,by omega,by go_num,by rw [HS'.out]; exact HR,hB⟩
    case measure=>simp [intOf]; omega
   ·have HS':Hid (kidsL (N.ks.take (j+1))=L++[N.ks.getD j eB]):=hid (by rw [HS.out,if_pos hk]);have hne:=Ni.not_empty (s:=N.ks.getD j eB) (by omega);obtain ⟨K,hK⟩:∃ K,N.ks.getD j eB=K:=⟨_,rfl⟩
    have HK:=hid hK;rw [hK] at hne HS';clear hK hk HS;go_wp2_with (first
     | (refine Rg.run rfl (.string (N.ks.getD j eB)) _ (op_index_ks HL.out hlt ⟨_,_,rfl,rfl,rfl⟩) ?_; rw [HK.out])
     | (at_builtin; refine wpList_append_own _ rfl _ _ 112 rfl (w.heap.size+1) 9 i0 (.string ⟨#[]⟩) 1 16 Tryz.underlying112 HI.out.1 HI.out.2.1 HI.out.2.2.1 HI.out.2.2.2 rfl (by decide) _ _ _ rfl (HR.out.alloc _) ⟨wr.heap.size,0,none⟩ 1 1 [.string K] rfl rfl ?d1 ?d2 ?d3 ?d4 ?d5 ?_))
    case d1=>exact Bu.cell_one_new' _ _ _ _
    case d2=>intro u hu; simp at hu; subst hu; rfl
    case d3=>unfold maxLen; omega
    case d4=>omega
    case d5=>simp; omega
    intro v' w2 hown2 hgrow _;have hlt':=HR.out.lt;go_wp2;go_roundw
    case rel=>exact ⟨j+1,by omega,by go_num,hid (by rw [HS'.out,List.length_append,List.map_append]; exact hown2),(hB.alloc hsz _).grown hgrow (by simp; omega) (fun g hg=>(hlt' g hg).1)⟩
    case measure=>simp [intOf]; omega
  ·obtain rfl:j=16:=by omega
   have hO:=HR.out;rw [List.take_of_length_le (by rw [HL.out]; exact Nat.le_refl _)] at hO;obtain ⟨a',cap',rfl,hb⟩:=IsSt.ofOwn hO;have hlt2:=hO.lt;have HF:Hid (∀ b off,a'=some ⟨b,off,none⟩→w.heap.size≤b):=hid (fun b off e=>by
    subst e;have:=(hlt2 b rfl).1;omega)
   have HB:=hid hb;have HBe:Hid (Below w.heap.size w wr):=hid (of_al hB);clear hO hb hlt2;go_wp2;go_ret;exact ⟨a',_,cap',rfl,HB.out,HF.out,HBe.out⟩
end Rf
end
section
open Go.RowKit
namespace Tm
open Tr Ni Pk Ky No Rf Rl
open Sm (Tab)
def YesP (M:Mp) (w:World) (e:Ending) (w':World):Prop:=e = .returned (.bool true)∧Fr M M w w'∧Inv M w'∧Tab w'
theorem make1_any (M:Mp) (p:Option Addr) (t:T) (L:Nat) (g:Tr.Good t L) (hL:L≤64) (f:Fine t) (w:World) (hi:Inv M w) (ht:IsT M p t) (hT:Tab w) :
  Calls Tryz.prog 60 #[tv p,.string (ref t)] w (YesP M w):=by
 obtain ⟨w1,hw1⟩:∃ w1,w1=w.alloc (.cells #[.pointer p] 28):=⟨_,rfl⟩
 have hO1:Rg.Own w1 w.heap.size #[.pointer p] 28:=by rw [hw1]; exact Rg.Own.new _ _ _
 have hb1:Below w.heap.size w w1:=by rw [hw1]; exact al1 _ _
 have HO:=hid hO1;have HC:=hid (tree_ref M p t L g hL f w1 (hi.below hb1) ht (hT.below hb1 hT.pos));have HI:=hid hi;have HF:Hid (Fr M M w w1):=hid (Fr.below M hb1);obtain ⟨s,hs⟩:∃ s,ref t=s:=⟨_,rfl⟩
 rw [hs] at HC ⊢;clear hO1 hb1 hi ht hT f g hs;subst hw1;go_enter Tryz.func60,Tryz.ntmps60;go_wp2_with (refine Rg.run rfl _ _ (op_load_tree (own_cell (j:=0) HO.out rfl) ⟨_,rfl,rfl⟩) ?_)
 refine HC.out.mono ?_;rintro e w2 ⟨rfl,hf,hi2,hT2⟩;have HY:Hid (Fr M M w w2∧Inv M w2∧Tab w2):=hid ⟨HF.out.trans HI.out hf,hi2,hT2⟩;clear hf hi2 hT2 HC HF;go_wp2_with (refine Rg.run rfl _ _ (op_eql_st s ⟨_,_,rfl,rfl,rfl⟩) ?_)
 go_ret;exact ⟨rfl,HY.out.1,HY.out.2.1,HY.out.2.2⟩
theorem IsSt.frm {M M':Mp} {w w':World} {a:Option Addr} {n c:Nat} {xs:List ByteArray} (h:IsSt w a n c xs) (f:Fr M M' w w') (hm:∀ b off,a=some ⟨b,off,none⟩→M.at_ b=none):IsSt w' a n c xs:=by
 refine ⟨h.1,h.2.1,h.2.2.1,fun j hj=>?_⟩;obtain ⟨b,off,h1,h2,h3⟩:=h.2.2.2 j hj;exact ⟨b,off,h1,Nat.lt_of_lt_of_le h2 f.size,by rw [World.cell?_of_block (w:=w) (a:=⟨b,off+j,none⟩) (f.block b h2 (hm b off h1))]; exact h3⟩
theorem equal_any (M:Mp) (ps:List (Option Addr)) (ts:List T) (a:Option Addr) (n c:Nat) (b:Option Addr) (m d:Nat) (w:World) (hP:Ptrs w a n c ps) (hA:Are M ps ts) (hts:∀ s∈ts,∃ L,Tr.Good s L∧L≤64∧Fine s)
  (hS:IsSt w b m d (ts.map ref)) (hnew:∀ g off,b=some ⟨g,off,none⟩→M.at_ g=none) (hn:n≤1000000) (hi:Inv M w) (hT:Tab w) :
  Calls Tryz.prog 59 #[.slice a n c,.slice b m d,.func (Fn.func 60) #[] #[]] w (YesP M w):=by
 have hm:=hP.2.1;have hnc:=hP.1;have hl:=hP.2.2.1;have hmn:m=n:=by rw [← hS.2.2.1,List.length_map,← hA.1,hl]
 subst hmn;unfold maxLen at hm;have H:=hid hP;have HA:=hid hA;have HTs:=hid hts;have HS:=hid hS;have HN:=hid hnew;have HI:=hid hi;have HL:=hid hl;have HT:=hid hT;clear hP hA hts hS hnew hi hT hl;go_enter Tryz.func59,Tryz.ntmps59;go_wp2_with fail
 go_loopw [17] (fun i wr=>∃ j:Nat,j≤m∧i = .int .i64 j∧Hid (Fr M M w wr∧Inv M wr∧Tab wr)) (fun i _=>m-(intOf i).toNat)
 case atStart=>exact ⟨0,Nat.zero_le _,rfl,hid ⟨Fr.refl _ _,HI.out,HT.out⟩⟩
 case round =>
  obtain ⟨j,hj,rfl,HF⟩:=hrel;by_cases hlt:j<m
  ·have hji:(j:Int)<m:=by omega
   obtain ⟨g1,off1,rfl,hblt,hc⟩:=(H.out.frm HI.out HF.out.1).2.2.2.2 j hlt;obtain ⟨g2,off2,rfl,hblt2,hc2⟩:=(IsSt.frm HS.out HF.out.1 HN.out).2.2.2 j hlt;have hjt:j<ts.length:=by rw [← HA.out.1,HL.out]; exact hlt
   have ht:=HA.out.2 j (by rw [HL.out]; exact hlt);have he:(ts.map ref).getD j eB=ref (ts.getD j .nil):=by
    simp [List.getD,hjt]
   have hmem:ts.getD j .nil∈ts:=by
    rw [List.getD_eq_getElem?_getD,List.getElem?_eq_getElem hjt];exact List.getElem_mem _
   obtain ⟨L,hg,hL,hf⟩:=HTs.out _ hmem;rw [he] at hc2;obtain ⟨t,htt⟩:∃ t,ts.getD j .nil=t:=⟨_,rfl⟩
   obtain ⟨p,hp⟩:∃ p,ps.getD j none=p:=⟨_,rfl⟩
   rw [hp] at hc ht;rw [htt] at hc2 ht hg hf;have hNew:=Rg.Own.new wr #[.pointer none] 28;have HNw:=hid hNew;have HC:Hid (∀ w5,Below wr.heap.size wr w5→Calls Tryz.prog 60 #[tv p,.string (ref t)] w5 (YesP M w5)):=hid (fun w5 hb5=>make1_any M p t L hg hL hf w5 (HF.out.2.1.below hb5) ht (HF.out.2.2.below hb5 HF.out.2.2.pos));obtain ⟨s,hs⟩:∃ s,ref t=s:=⟨_,rfl⟩
   rw [hs] at HC hc2;have HC2:Hid (∀ w5,Below wr.heap.size wr w5→w5.cell? ⟨g2,off2+j,none⟩=some (.string s)):=hid (fun w5 hb5=>cell_on hb5 hc2);clear he hmem hg hL hf htt hp hs hNew ht hc2 hjt;go_wp2_with (first
    | (refine Rg.run rfl _ _ (op_load_tree hc ⟨_,rfl,rfl⟩) ?_)
    | (refine Rg.run rfl _ _ (run_alloc_tree _ _ _ wr.heap.size rfl rfl) ?_)
    | (refine wpl_store_tree HNw.out (by decide) _ rfl _ _ rfl rfl rfl ?_; intro w5 hO5 hu5; have HO5:=hid hO5; have HB5:Hid (Below wr.heap.size wr w5):=hid (hu5.below (al1 _ _) (Nat.le_refl _)); have c2:=HC2.out w5 HB5.out; clear hO5 hu5 HC2)
    | (refine Rg.run rfl _ _ (op_load_tree (own_cell (j:=0) HO5.out rfl) ⟨_,rfl,rfl⟩) ?_)
    | (refine Rg.run rfl _ _ (op_load_str c2 ⟨_,rfl,rfl⟩) ?_))
   refine (HC.out w5 HB5.out).mono ?_;rintro e w6 ⟨rfl,hf6,hi6,hT6⟩;have HF6:Hid (Fr M M w w6∧Inv M w6∧Tab w6):=hid ⟨(HF.out.1.trans HI.out (Fr.below M HB5.out)).trans HI.out hf6,hi6,hT6⟩;clear hf6 hi6 hT6 HC HF hc c2;go_wp2_with fail
   go_roundw
   case rel=>exact ⟨j+1,by omega,by go_num,HF6⟩
   case measure=>simp [intOf]; omega
  ·obtain rfl:j=m:=by omega
   go_wp2_with fail
   go_ret;exact ⟨rfl,HF.out.1,HF.out.2.1,HF.out.2.2⟩
end Tm
end
section
open Go.RowKit
namespace Tm
open Tr Ni Pk Ky No Rf Rl
open Sm (Tab)
theorem boxT (w:World):∃ w1,w1=w.alloc (.cells #[.pointer none] 28)∧Rg.Own w1 w.heap.size #[.pointer none] 28∧Below w.heap.size w w1∧w1.heap.size=w.heap.size+1:=⟨_,rfl,Rg.Own.new _ _ _,al1 _ _,by simp⟩
def GotF (M:Mp) (w:World) (t:T) (e:Ending) (w':World):Prop:=∃ p M',e = .returned (.agg #[.pointer p])∧IsT M' p t∧Fr M M' w w'∧Inv M' w'∧Below w.heap.size w w'∧∀ k,k<w.heap.size→M'.ft k→M.ft k
theorem stub_part {M:Mp} {w w':World} {b:Nat} {r:ByteArray} (hi:Inv M w) (hb:Below w.heap.size w w') (hB:w.heap.size≤b)
  (hc:w'.heap[b]? = some (.cells (partC (.stub r) none 0 0 none 0 0 0 r) 106 (0,0))) :
  GotF M w (.stub r) (.returned (.agg #[.pointer (some ⟨b,0,none⟩)])) w':=by
 have hn:T.stub r ≠ .nil:=fun e=>by cases e
 have f:=Fr.more hi hb b (.stub r) hB;have hlt:b<w'.heap.size:=(Array.getElem?_eq_some_iff.1 hc).1;refine ⟨_,Tm.more M b (.stub r) w.heap.size w'.heap.size,rfl,⟨b,rfl,more_at _ _ _ _ _,hn⟩,f,⟨fun k hk=>hk.elim (fun h=>Nat.lt_of_lt_of_le (hi.lt_ k h) hb.size) (fun h=>h.2),fun k u hm=>?_⟩,hb,fun k hk h=>h.elim (fun h=>h) (fun h=>absurd h.1 (by omega))⟩;by_cases e:k=b
 ·subst e;rw [more_at] at hm;obtain rfl:=Option.some.inj hm;exact ⟨hn,Or.inr ⟨hB,hlt⟩,none,0,0,none,0,0,0,_,hc,Bs.nil _ _,Ks.nil _ _,Or.inl ⟨rfl,rfl⟩⟩
 ·rw [more_not e] at hm;have hlt:=hi.lt hm;obtain ⟨h1,h2,a,n,c,ka,kn,kc,d,r,g1,g2,g3,g4⟩:=hi.part_ k u hm;exact ⟨h1,Or.inl h2,a,n,c,ka,kn,kc,d,r,(hb.block k hlt).trans g1,g2.fr hi f,g3.fr hi f,g4⟩
theorem drop_stub (M:Mp) (r:ByteArray) (hr:r.size≤maxLen) (hk:kindP r=1∨kindP r=2) (w:World) (hi:Inv M w) :
  Calls Tryz.prog 26 #[.string r] w (GotF M w (.stub r)):=by
 obtain ⟨w1,hw1,hO1,hb1,hs1⟩:=boxT w;have HK:=hid (Rf.kind_any r hr w1);have HO:Hid (∀ w2,Below w1.heap.size w1 w2→Rg.Own (w2.alloc (.cells (partC (.stub r) none 0 0 none 0 0 0 r) 106)) w.heap.size #[.pointer none] 28):=hid (fun w2 hb2=>(hO1.below hb2).below (al1 _ _));have HE:Hid (∀ w2,Below w1.heap.size w1 w2→∀ w3,Rg.Upd (w2.alloc (.cells (partC (.stub r) none 0 0 none 0 0 0 r) 106)) w.heap.size w3→GotF M w (.stub r) (.returned (tv (some ⟨w2.heap.size,0,none⟩))) w3):=hid (fun w2 hb2 w3 hu=>by
  have hb:=hu.below (bst (bst hb1 hb2) (al1 _ _)) (Nat.le_refl _);have hs2:=hb2.size;have hP:Rg.Own (w2.alloc (.cells (partC (.stub r) none 0 0 none 0 0 0 r) 106)) w2.heap.size (partC (.stub r) none 0 0 none 0 0 0 r) 106:=Rg.Own.new _ _ _;exact stub_part hi hb (by omega) (heap_of hP hu (by omega)))
 clear hO1 hb1 hs1 hi hr;subst hw1;go_enter Tryz.func26,Tryz.ntmps26;go_wp2_with (refine Rg.run rfl _ _ (run_alloc_tree _ _ _ _ rfl rfl) ?_)
 refine HK.out.mono ?_;rintro e w2 ⟨rfl,hb2⟩;have HO2:=hid (HO.out w2 hb2);have HE2:=hid (HE.out w2 hb2);clear hb2 HO HE HK;rcases hk with hk | hk
 ·rw [hk];go_wp2_with (first
   | (refine Rg.run rfl _ _ (op_build (built_stub r) ⟨_,rfl,rfl⟩) ?_)
   | (refine Rg.run rfl _ _ (op_box_part (t:=.stub r) ⟨_,rfl,rfl⟩) ?_)
   | (refine wpl_store_tree HO2.out (by decide) (some ⟨w2.heap.size,0,none⟩) rfl _ _ rfl rfl rfl ?_; intro w3 hO3 hu3; have HO3:=hid hO3; have HU3:=hid hu3; clear hO3 hu3))
  exact bodyPost_ret (res_tree rfl _ rfl HO3.out) rfl (HE2.out w3 HU3.out)
 ·rw [hk];go_wp2_with (first
   | (refine Rg.run rfl _ _ (op_build (built_stub r) ⟨_,rfl,rfl⟩) ?_)
   | (refine Rg.run rfl _ _ (op_box_part (t:=.stub r) ⟨_,rfl,rfl⟩) ?_)
   | (refine wpl_store_tree HO2.out (by decide) (some ⟨w2.heap.size,0,none⟩) rfl _ _ rfl rfl rfl ?_; intro w3 hO3 hu3; have HO3:=hid hO3; have HU3:=hid hu3; clear hO3 hu3))
  exact bodyPost_ret (res_tree rfl _ rfl HO3.out) rfl (HE2.out w3 HU3.out)
theorem kind_ref {t:T} {L:Nat} (g:Tr.Good t L) (hL:L≤64) (f:Fine t) (hn:t ≠ .nil):kindP (ref t)=1∨kindP (ref t)=2:=by
 obtain ⟨_,h1,h2⟩:=may_tree t L g hL f hn;unfold kindP;rw [if_neg h2];by_cases h:(ref t).size=32
 ·rw [if_pos h]; exact .inl rfl
 ·rw [if_neg h,if_pos h1]; exact .inr rfl
end Tm
end
section
open Go.RowKit
namespace Tm
open Tr Ni Pk Ky No Rf Rl
open Sm (Tab)
def fillP (ks:List ByteArray) (ps:List (Option Addr)) (i:Nat):Option Addr:=if (ks.getD i eB).size=0 then none else ps.getD (kidsL (ks.take i)).length none
def fillRow (ks:List ByteArray) (ps:List (Option Addr)) (j:Nat):List (Option Addr):=(List.range 16).map fun i=>if i<j then fillP ks ps i else none
section
variable {ks:List ByteArray} {ps:List (Option Addr)} {j:Nat}
theorem fillRow_len:(fillRow ks ps j).length=16:=by simp [fillRow]
theorem fillRow_zero:fillRow ks ps 0=nils:=rfl
theorem fillRow_set (hj:j<16):fillRow ks ps (j+1)=(fillRow ks ps j).set j (fillP ks ps j):=by
 apply List.ext_getElem
 ·rw [List.length_set,fillRow_len,fillRow_len]
 ·intro i h1 h2;rw [fillRow_len] at h1;rw [List.getElem_set];simp only [fillRow,List.getElem_map,List.getElem_range];by_cases e:j=i
  ·subst e;rw [if_pos rfl,if_pos (Nat.lt_succ_self _)]
  ·rw [if_neg e];by_cases h:i<j
   ·rw [if_pos h,if_pos (by omega)]
   ·rw [if_neg h,if_neg (by omega)]
theorem fillRow_skip (hj:j<16) (h:fillP ks ps j=none):fillRow ks ps (j+1)=fillRow ks ps j:=by
 apply List.ext_getElem
 ·rw [fillRow_len,fillRow_len]
 ·intro i h1 h2;simp only [fillRow,List.getElem_map,List.getElem_range];by_cases e:i=j
  ·subst e;rw [if_pos (Nat.lt_succ_self _),if_neg (Nat.lt_irrefl _),h]
  ·by_cases h:i<j
   ·rw [if_pos h,if_pos (by omega)]
   ·rw [if_neg h,if_neg (by omega)]
theorem fillRow_at (i:Nat) (hi:i<16):(fillRow ks ps 16).getD i none=fillP ks ps i:=by
 have:i<(fillRow ks ps 16).length:=by rw [fillRow_len]; exact hi
 rw [List.getD_eq_getElem?_getD,List.getElem?_eq_getElem this];simp [fillRow,hi]
theorem kidsL_mono (q:Nat):(kidsL (ks.take q)).length≤(kidsL ks).length:=by
 unfold kidsL;exact ((List.take_sublist q ks).filter _).length_le
end
theorem Ptrs.from' {w:World} {a:Option Addr} {n c:Nat} {ps:List (Option Addr)} (h:Ptrs w a n c ps) (i:Nat) (hi:i≤n):Ptrs w (fromA a c i) (n-i) (c-i) (ps.drop i):=by
 have h1:=h.1;have h2:=h.2.1;refine ⟨by omega,by omega,by rw [List.length_drop,h.2.2.1],fun e=>?_,fun j hj=>?_⟩
 ·unfold fromA at e;split at e
  ·omega
  ·have:a=none:=by simpa using e
   have:=h.2.2.2.1 this;omega
 ·obtain ⟨b,off,e,hlt,hc⟩:=h.2.2.2.2 (i+j) (by omega);refine ⟨b,off+i,?_,hlt,?_⟩
  ·unfold fromA;rw [if_neg (by omega),e];simp [Addr.add_mid]
  ·rw [Nat.add_assoc,hc];simp [List.getD]
theorem placed_other (N:Nd) (hk:N.kd≠3) (hl:N.ks.length=16) (pa:Option Addr) (pn pc:Nat) (ps:List (Option Addr)) (ka:Option Addr) (kn kc:Nat) (w:World) (h:Ptrs w ka kn kc ps) (hn:kn≤1000000) :
  Calls Tryz.prog 62 #[.agg (ndC N pa pn pc),.slice ka kn kc] w fun e w'=>∃ v,e = .returned v∧RowV w.heap.size w' v ps∧Below w.heap.size w w':=by
 obtain ⟨w1,hw1,hO1,hb1,hs1⟩:∃ w1,w1=w.alloc (.cells (ndC N pa pn pc) 56)∧OwnN w1 w.heap.size N pa pn pc∧Below w.heap.size w w1∧w1.heap.size=w.heap.size+1:=⟨_,rfl,Rg.Own.new _ _ _,al1 _ _,by simp⟩
 have c0:=(nd_cells hO1).1;have k1:(N.kd==3)=false:=by rw [beq_eq_false_iff_ne]; exact hk
 have k2:decide (N.kd=3)=false:=decide_eq_false hk;have HC:=hid (clone_any ka kn kc ps w1 (h.below hb1) hn);have HB:=hid hb1;have HS:=hid hs1;clear h hO1 hb1 hs1;subst hw1;go_enter Tryz.func62,Tryz.ntmps62;go_wp2_with fail
 refine HC.out.mono ?_;rintro e w2 ⟨v,rfl,hR,hb2⟩;have HR:=hid hR;have HB2:=hid hb2;clear hR hb2 HC;go_wp2_with fail
 go_ret;have hrr:=HR.out;refine ⟨v,rfl,?_,bst HB.out HB2.out⟩;rcases hrr with h | ⟨g,cap,h1,h2,h3⟩
 ·exact .inl h
 ·exact .inr ⟨g,cap,h1,by rw [HS.out] at h2; omega,h3⟩
theorem placed_br (N:Nd) (hk:N.kd=3) (hl:N.ks.length=16) (pa:Option Addr) (pn pc:Nat) (ps:List (Option Addr)) (ka:Option Addr) (kn kc:Nat) (w:World) (h:Ptrs w ka kn kc ps) (hn:kn=(kidsL N.ks).length) :
  Calls Tryz.prog 62 #[.agg (ndC N pa pn pc),.slice ka kn kc] w fun e w'=>∃ g,e = .returned (.slice (some ⟨g,0,none⟩) 16 16)∧w.heap.size≤g∧Rg.Own w' g (rowT (fillRow N.ks ps 16)) 28∧Below w.heap.size w w':=by
 obtain ⟨w1,hw1,hO1,hb1,hs1⟩:∃ w1,w1=w.alloc (.cells (ndC N pa pn pc) 56)∧OwnN w1 w.heap.size N pa pn pc∧Below w.heap.size w w1∧w1.heap.size=w.heap.size+1:=⟨_,rfl,Rg.Own.new _ _ _,al1 _ _,by simp⟩
 obtain ⟨w2,hw2,hO2,hb2⟩:∃ w2,w2=w1.alloc (.cells (rowT nils) 28)∧Rg.Own w2 (w.heap.size+1) (rowT nils) 28∧Below w1.heap.size w1 w2:=⟨_,rfl,by rw [← hs1]; exact Rg.Own.new _ _ _,al1 _ _⟩
 have c0:=(nd_cells hO1).1;rw [hk] at c0;have c1:=c0;rw [hw1] at c1;have hkm:=h.2.1;have hkc:=h.1;unfold maxLen at hkm;have HO:=hid (hO1.below hb2);have HR0:=hid hO2;have HL:=hid hl;have HB1:=hid hb1;have HB2:Hid (Below (w.heap.size+1) w1 w2):=hid (by rw [← hs1]; exact hb2);have HH:=hid (h.below hb1);have HHw:=hid h;have HW2:Hid (_=_):=hid hw2;have HS:=hid hs1;have hgen:∀ q,(kidsL (N.ks.take q)).length≤kn:=fun q=>by rw [hn]; exact kidsL_mono q
 have HG:=hid hgen;have HW1:Hid (_=_):=hid hw1;clear h hO1 hb1 hs1 hO2 hb2 hw2 hl hgen hw1 hn hk;go_enter Tryz.func62,Tryz.ntmps62;go_wp2_with (first
  | (rw [← HW1.out]; refine Rg.run rfl _ _ (op_make16 (w.heap.size+1) HS.out.symm ⟨_,_,rfl,rfl,rfl⟩) ?_; rw [← HW2.out])
  | (refine Rg.run rfl _ _ (op_load_ks HO.out HL.out ⟨_,rfl,rfl⟩) ?_))
 clear HW2 c0 c1;go_loopw [1,16] (fun v i wr=>∃ (j r:Nat) (a:Option Addr) (m c:Nat),j≤16∧r+m=kn∧i = .int .i64 j∧v = .slice a m c∧r=(kidsL (N.ks.take j)).length∧Hid (Ptrs w1 a m c (ps.drop r))∧Hid (Rg.Own wr (w.heap.size+1) (rowT (fillRow N.ks ps j)) 28)∧Hid (Below (w.heap.size+1) w1 wr)) (fun _ i _=>16-(intOf i).toNat)
 case atStart=>exact ⟨0,0,ka,kn,kc,Nat.zero_le _,Nat.zero_add _,rfl,rfl,rfl,HH,hid (by rw [fillRow_zero]; exact HR0.out),HB2⟩
 case round =>
  obtain ⟨j,r,a,m0,c,hj,hrm,rfl,rfl,hr,HP,HRw,HB⟩:=hrel;clear HR0 HB2 HH;by_cases hlt:j<16
  ·have i1:(j:Int)<16:=by omega
   have HSn:=hid (kidsL_snoc N.ks j (by rw [HL.out]; exact hlt));have hg1:=HG.out (j+1);by_cases hkz:(N.ks.getD j eB).size=0
   ·have HSk:Hid (kidsL (N.ks.take (j+1))=kidsL (N.ks.take j)):=hid (by rw [HSn.out,if_neg (by simpa using hkz),List.append_nil]);have HFk:Hid (fillRow N.ks ps (j+1)=fillRow N.ks ps j):=hid (fillRow_skip hlt (if_pos hkz));have HE:Hid (N.ks.getD j eB=eB):=hid (size_zero hkz);clear hkz;go_wp2_with (refine Rg.run rfl (.string (N.ks.getD j eB)) _ (op_index_ks HL.out hlt ⟨_,_,rfl,rfl,rfl⟩) ?_; rw [HE.out])
    go_roundw
    case rel=>exact ⟨j+1,r,_,_,_,by omega,hrm,by go_num,rfl,by rw [HSk.out]; exact hr,HP,hid (by rw [HFk.out]; exact HRw.out),HB⟩
    case measure=>simp [intOf]; omega
   ·replace HSn:Hid (kidsL (N.ks.take (j+1))=kidsL (N.ks.take j)++[N.ks.getD j eB]):=hid (by rw [HSn.out,if_pos hkz]);rw [HSn.out,List.length_append,List.length_singleton,← hr] at hg1;obtain ⟨m,rfl⟩:∃ m,m0=m+1:=⟨m0-1,by omega⟩
    have hne:=Ni.not_empty (s:=N.ks.getD j eB) (by omega);obtain ⟨b,off,rfl,hblt,hcc⟩:=HP.out.2.2.2.2 0 (by omega);have hpp:(ps.drop r).getD 0 none=fillP N.ks ps j:=by
     unfold fillP;rw [if_neg hkz,← hr];simp [List.getD]
    rw [hpp,Nat.add_zero] at hcc;have HFs:=hid (fillRow_set (ks:=N.ks) (ps:=ps) hlt);obtain ⟨p,hp⟩:∃ p,fillP N.ks ps j=p:=⟨_,rfl⟩
    rw [hp] at hcc HFs;have HC:Hid (∀ wz,Below (w.heap.size+1) w1 wz→wz.cell? ⟨b,off,none⟩=some (.pointer p)):=hid (fun wz hb=>(Below.cell (p:=⟨b,off,none⟩) hb (by rw [← HS.out]; exact hblt)).trans hcc);have HPn:Hid (Ptrs w1 (fromA (some ⟨b,off,none⟩) c 1) (m+1-1) (c-1) (ps.drop (r+1))):=hid (by
     have:=HP.out.from' 1 (by omega);rwa [List.drop_drop] at this)
    have hm0:(0:Int)<((m+1:Nat):Int):=by omega
    have hcm:=HP.out.1;have hcx:=HP.out.2.1;unfold maxLen at hcx;obtain ⟨K,hK⟩:∃ K,N.ks.getD j eB=K:=⟨_,rfl⟩
    have HK:=hid hK;rw [hK] at hne HSn;clear hkz hpp hp hcc hblt hK;go_wp2_with (refine Rg.run rfl (.string (N.ks.getD j eB)) _ (op_index_ks HL.out hlt ⟨_,_,rfl,rfl,rfl⟩) ?_; rw [HK.out])
    have h0:=HRw.out;refine wp_region_noPanic ?_;refine wp_region_held_drew (S:=fun w'=>Below (w.heap.size+1) w1 w') (by kernel_rfl) (HB.out.drew) (fun hld=>?_);replace h0:=h0.drew;refine Rg.tk (i:=0) rfl ?_;try simp only [Act.put,Rg.s]
    refine Rg.tk (i:=1) rfl ?_;try simp only [Act.put,Rg.s]
    refine Rg.tk (i:=2) rfl ?_;try simp only [Act.put,Rg.s]
    refine Rg.tk (i:=3) rfl ?_ (hy:=by intro wz hSw; (have q0:=hm0; go_simp <;> with_reducible rfl));try simp only [Act.put,Rg.s]
    refine Rg.tk (i:=4) rfl ?_ (hy:=by intro wz hSw; (refine op_load_tree (HC.out wz hSw) ?_; exact ⟨_,rfl,rfl⟩));try simp only [Act.put,Rg.s]
    refine Rg.tk (i:=5) rfl ?_;try simp only [Act.put,Rg.s]
    refine Rg.tk (i:=6) rfl ?_ (hy:=by intro wz hSw; (refine op_from under_trees size_tree (a:=some ⟨b,off,none⟩) (n:=m+1) (c:=c) (i:=1) (by omega:1≤m+1) ?_; exact ⟨_,_,rfl,rfl,rfl⟩));try simp only [Act.put,Rg.s]
    refine Rg.tk (i:=7) rfl ?_ (hy:=by intro wz hSw; (have q0:=i1; go_simp <;> with_reducible rfl));try simp only [Act.put,Rg.s]
    refine Rg.rd (i:=8) rfl fun K hK=>?_;refine meet_store_tree (by rfl) h0 (off:=j) (by simpa [rowT,fillRow_len] using hlt) p ⟨_,_,rfl,rfl,rfl⟩ ?_;rintro w6 hn hu;have HB6:Hid (Below (w.heap.size+1) w1 w6):=hid (hu.below hld (Nat.le_refl _));rw [rowT_set] at hn;replace h0:=hn;clear hn hu;refine hK.out _ _ ?_ (fun hld=>?_)
    ·exact HB6.out
    clear hK K;try simp only [Act.put,Rg.s]
    refine Rg.tk (i:=9) rfl ?_;try simp only [Act.put,Rg.s]
    refine wpAnyH_done (by kernel_rfl) ?_ _;refine NoPanic.normal ?_;have HO6:=hid h0;clear h0 hld;go_wp2;go_roundw
    case rel=>exact ⟨j+1,r+1,_,_,_,by omega,by omega,by go_num,rfl,by rw [HSn.out,List.length_append,List.length_singleton,hr],HPn,hid (by rw [HFs.out]; exact HO6.out),HB6⟩
    case measure=>simp [intOf]; omega
  ·obtain rfl:j=16:=by omega
   go_wp2_with fail
   go_ret;exact ⟨w.heap.size+1,rfl,by omega,HRw.out,HB1.out.trans (Below.mono HB.out (by omega))⟩
end Tm
end
section
open Go.RowKit
namespace Tm
open Tr Ni Pk Ky No Rf Rl
open Sm (Tab)
namespace Aw
variable {w0:World} {M M':Mp} {w w':World} {gu gb gn:Nat} {pu:Option Addr} {C:Array Value} {KB:List UInt8}
end Aw
end Tm
end
section
open Go.RowKit Go.ChangeShapes Go.WideShapes
theorem u8_wf {n:Int} (h:(Lit.int .u8 n).wf=true):0≤n∧n<256:=by
 have:=bounds_u8 h;omega
end
section
open Go.RowKit Go.ChangeShapes Go.WideShapes
namespace Ky
def byteOf:Value→UInt8
 | .int _ n=>UInt8.ofNat n.toNat
 | _=>0
end Ky
end
section
open Go.RowKit Go.ChangeShapes Go.WideShapes Go.Deep
namespace Tm
open Tr Ni Pk Ky
section
variable {H:Type} {enc:TypeId × Value→H} {w:World} {fuel:Nat} {cs:List Value} {x:DataW H × List MemPlace}
theorem cells_key:Tryz.prog.cellsOf 24=32:=by kernel_rfl
theorem cells_u8':Tryz.prog.cellsOf 5=1:=by kernel_rfl
theorem cells_str:Tryz.prog.cellsOf 9=1:=by kernel_rfl
theorem cells_pair:Tryz.prog.cellsOf 33=33:=by kernel_rfl
theorem key_of (h:DataW.trod enc Tryz.prog w 0 (fun _=>true) true fuel 24 cs=some x):∃ k:List UInt8,k.length=32∧cs=k.map fun b=>Value.int .u8 b.toNat:=by
 obtain ⟨xs,m,rfl,_,hcs,hxl,hel⟩:=DataW.trod_array Tryz.underlying24 h;rw [cells_key] at hcs;have each:∀ i,i<32→∃ n:Int,cs[i]? = some (.int .u8 n)∧0≤n∧n<256:=fun i hi=>by
  have hi':=hel i hi;rw [cells_u8',Nat.mul_one] at hi';have hx:i<xs.length:=by omega
  rw [List.getElem?_eq_getElem hx] at hi';obtain ⟨n,hn,_,hw⟩:=DataW.trod_int Tryz.underlying5 hi';have hlen:i<cs.length:=by omega
  have e1:(cs.drop i).take 1=[cs[i]]:=by
   rw [List.drop_eq_getElem_cons hlen]; rfl
  rw [e1] at hn;injection hn with hn;exact ⟨n,by rw [List.getElem?_eq_getElem hlen,hn],u8_wf hw⟩
 refine ⟨cs.map Ky.byteOf,by simp [hcs],?_⟩;rw [List.map_map];apply List.ext_getElem?;intro i;by_cases hi:i<32
 ·obtain ⟨n,hn,h0,h1⟩:=each i hi;rw [List.getElem?_map,hn];simp only [Option.map_some,Function.comp,Ky.byteOf];have:((UInt8.ofNat n.toNat).toNat:Int)=n:=by simp only [UInt8.toNat_ofNat']; omega
  rw [this]
 ·rw [List.getElem?_eq_none (by omega),List.getElem?_eq_none (by simp [hcs]; omega)]
theorem take_drop_one {cs:List Value} {i:Nat} {v:Value} (h:(cs.drop i).take 1=[v]) (hl:cs.length=i+1):cs=cs.take i++[v]:=by
 have e:(cs.drop i).take 1=cs.drop i:=List.take_of_length_le (by rw [List.length_drop]; omega);rw [← h,e,List.take_append_drop]
theorem pair_of (h:DataW.trod enc Tryz.prog w 0 (fun _=>true) true fuel 33 cs=some x):∃ y:Tr.Pair,y.1.length=32∧cs=pairC y:=by
 obtain ⟨xs,m,rfl,_,hcs,hxl,hf⟩:=DataW.trod_struct Tryz.underlying33 h;rw [cells_pair] at hcs;have hxl':xs.length=2:=hxl;have g0:=hf 0 _ rfl;have g1:=hf 1 _ rfl;rw [List.getElem?_eq_getElem (by omega)] at g0 g1;obtain ⟨k,hk,e0⟩:=key_of g0;obtain ⟨s,e1,_,_⟩:=DataW.trod_string Tryz.underlying9 g1;have e0':(cs.drop 0).take (Tryz.prog.cellsOf 24)=k.map fun b=>Value.int .u8 b.toNat:=e0;have e1':(cs.drop 32).take (Tryz.prog.cellsOf 9)=[Value.string s]:=e1;rw [cells_key,List.drop_zero] at e0';rw [cells_str] at e1'
 refine ⟨(k,s),hk,?_⟩;unfold pairC;have:=take_drop_one e1' (by omega);rw [this,e0']
theorem isPs_of (h:DataW.trod enc Tryz.prog w 0 (fun _=>true) true fuel 22 cs=some x):∃ a n cap l,cs=[.slice a n cap]∧IsPs w a n cap l:=by
 rcases open_slice Tryz.underlying22 h with ⟨rfl,_⟩ | ⟨ad,len,cap,m,n,D,Pl,rfl,_,hl,hm,hmm,_,hel⟩
 ·exact ⟨none,0,0,[],rfl,IsPs.nil w⟩
 ·have hmm':m=cap:=by simpa using hmm
  subst hmm';have cell:∀ i,i<m→∃ y:Tr.Pair,y.1.length=32∧∀ j,j<33→w.cell? ((ad.add (i*33)).add j)=(pairC y)[j]? := fun i hi=>by
   obtain ⟨cs',h1,h2⟩:=hel i hi;obtain ⟨y,hy,rfl⟩:=pair_of h2;obtain ⟨_,hcl,hat⟩:=World.cells?_some h1;rw [cells_pair] at hat;exact ⟨y,hy,hat⟩
  obtain ⟨F,hF⟩:=choose_lt (α:=Tr.Pair) cell;refine ⟨some ad,len,m,(List.range len).map F,rfl,hl,hm,by simp,fun e=>(by cases e),fun x hx=>?_,fun j hj=>?_⟩
  ·obtain ⟨i,hi,rfl⟩:=List.mem_map.1 hx;exact (hF i (by have:=List.mem_range.1 hi; omega)).1
  ·have hFj:=hF j (by omega);have hF0:=hF 0 (by omega);obtain ⟨b,off,spot⟩:=ad;have hc0:=hF0.2 0 (by omega);have hp0:(pairC (F 0))[0]? = some ((pairC (F 0))[0]'(by rw [pairC_len hF0.1]; omega)):=List.getElem?_eq_getElem _;rw [hp0] at hc0;have hspot:spot=none:=by simpa [Addr.add] using World.cell?_spot hc0
   subst hspot;have hget:((List.range len).map F).getD j ([],eB)=F j:=by simp [List.getD,hj]
   rw [hget];have hat:PairAt w b (off+j*33) (F j):=fun i v hv=>by
    have hi:i<33:=by
     have:=(List.getElem?_eq_some_iff.1 hv).1;rwa [pairC_len hFj.1] at this
    have:=hFj.2 i hi;rw [Addr.add_mid,Addr.add_mid] at this;rw [this,hv]
   refine ⟨b,off,rfl,?_,hat⟩;have hz:=hat 0 ((pairC (F j))[0]'(by rw [pairC_len hFj.1]; omega)) (List.getElem?_eq_getElem _);exact World.block_lt_of_cell? w _ hz
end
end Tm
end
section
open Go.RowKit
namespace Tm
open Tr Ni Pk Ky No Rf Rl
open Sm (Tab)
namespace Do
variable {w0:World} {M M':Mp} {w w':World} {p p':Option Addr} {t t':T} {W W':List Tr.Pair} {a a':Option Addr} {c c' j:Nat}
end Do
end Tm
end
section
open Go.RowKit
namespace Tm
open Tr Ni Pk Ky No Rf Rl
open Sm (Tab)
theorem ins_len:∀ (l:List Tr.Pair),(insL l).length≤l.length
 | []=>Nat.le_refl _
 | x::r=>by
  have ih:=ins_len r;unfold insL;split
  ·rw [List.length_cons]; omega
  ·rw [List.length_cons,List.length_cons]; omega
end Tm
end
section
namespace Tr
open Rf Rl Ni No
def sv:ByteArray:=⟨#[118]⟩
def fixP (x:Pair):Pair:=(x.1,if x.2.size=0 then sv else if 100<x.2.size then x.2.extract 0 100 else x.2)
def pairsL (l:List Pair):List Pair:=(l.take 24).map fixP
theorem fix_size (x:Pair):(fixP x).2.size≠0∧(fixP x).2.size≤65552:=by
 unfold fixP;dsimp only;split
 ·exact ⟨by decide,by decide⟩
 ·split
  ·rw [ByteArray.size_extract]; omega
  ·omega
theorem pairs_len (l:List Pair):(pairsL l).length≤24:=by
 unfold pairsL;rw [List.length_map,List.length_take];omega
theorem pairs_ok {l:List Pair} (h:∀ x∈l,x.1.length=32):(∀ x∈pairsL l,x.1.length=32)∧∀ x∈pairsL l,x.2.size≠0∧x.2.size≤65552:=by
 constructor
 ·intro x hx;obtain ⟨y,hy,rfl⟩:=List.mem_map.1 hx;exact h y (List.mem_of_mem_take hy)
 ·intro x hx;obtain ⟨y,_,rfl⟩:=List.mem_map.1 hx;exact fix_size y
end Tr
end
section
open Go.RowKit
namespace Tm
open Tr Ni Pk Ky
theorem pairs_snoc {l:List Tr.Pair} {j:Nat} (hj:j<l.length) (h24:j<24):pairsL (l.take (j+1))=pairsL (l.take j)++[fixP (l.getD j ([],eB))]:=by
 unfold pairsL;rw [List.take_take,List.take_take,show min 24 (j+1)=j+1 by omega,show min 24 j=j by omega,take_at hj,List.map_append];rfl
theorem pairs_cut {l:List Tr.Pair}:pairsL (l.take 24)=pairsL l:=by
 unfold pairsL;rw [List.take_take,Nat.min_self]
theorem pairs_any (l:List Tr.Pair) (a:Option Addr) (n c:Nat) (w:World) (h:IsPs w a n c l) :
  Calls Tryz.prog 6 #[.slice a n c] w (GotPs w (pairsL l)):=by
 obtain ⟨i0,z0,hi,hz,hsz,hby,hzc⟩:=info_pair_parts;have HI:Hid (_∧_∧_∧_∧_):=hid ⟨hi,hz,hsz,hby,hzc⟩;have hcap:=h.1;have hmx:=h.2.1;unfold maxLen at hmx;have H:=hid h;have HL:=hid h.len;clear h hi hz hsz hby hzc;go_enter Tryz.func6,Tryz.ntmps6;go_wp2_with fail
 go_loopw [3,4] (fun v i wr=>∃ j:Nat,j≤n∧j≤24∧i = .int .i64 j∧Hid (wr.ownsRow w.heap.size 33 33 v (pairsL (l.take j)).length (rowP (pairsL (l.take j))))∧Hid (Below w.heap.size w wr)) (fun _ i _=>n-(intOf i).toNat)
 case atStart=>exact ⟨0,Nat.zero_le _,Nat.zero_le _,rfl,hid (World.ownsRow_nil _ _ _ _),hid (Below.refl _ _)⟩
 case round =>
  obtain ⟨j,hjn,hj24',rfl,HR,HB⟩:=hrel;have hlen:(pairsL (l.take j)).length≤24:=pairs_len _;by_cases hlt:j<n∧j<24
  ·obtain ⟨hlt,hj24⟩:=hlt;have i1:(j:Int)<n:=by omega
   have i2:(j:Int)<24:=by omega
   have HJ:Hid (j<l.length):=hid (by rw [HL.out]; exact hlt);obtain ⟨b,off,rfl,hblt,hpa,hk⟩:=H.out.at' j hlt;obtain ⟨x,hx⟩:∃ x,l.getD j ([],eB)=x:=⟨_,rfl⟩
   rw [hx] at hpa hk;have HX:=hid hx;have HPr:=hid (hpa.below HB.out);have hNew:=Rg.Own.new wr (pairA (List.replicate 32 0,eB)) 33;have HN:=hid hNew;have HZ:Hid (((List.replicate 32 0,eB):Tr.Pair).1.length=32):=hid rfl;obtain ⟨k,v⟩:=x;have HKx:Hid (k.length=32):=hid hk;clear hx hpa hk hNew hblt;by_cases hv0:v.size=0
   ·obtain rfl:=No.size_zero hv0;have s1:decide ((100:Int)<(sv.size:Int))=false:=rfl;have HF:Hid (pairsL (l.take (j+1))=pairsL (l.take j)++[(k,sv)]):=hid (by rw [pairs_snoc HJ.out hj24,HX.out]; unfold fixP; simp [hv0]);go_wp2_with (first
     | (refine Rg.run rfl _ _ (op_load_pair (x:=(k,eB)) HKx.out HPr.out ⟨_,rfl,rfl⟩) ?_)
     | (refine Rg.run rfl _ _ (run_alloc_pair _ _ _ wr.heap.size rfl rfl) ?_)
     | (refine wpl_store_pair HN.out HZ.out (k,eB) HKx.out rfl _ _ rfl rfl rfl rfl ?_; intro w5 hO5 hu5; have HO5:=hid hO5; have HB5:Hid (Below wr.heap.size wr w5):=hid (hu5.below (al1 _ _) (Nat.le_refl _)); have c32:w5.cell? ⟨wr.heap.size,32,none⟩=some (.string _):=(PairAt.own hO5).val HKx.out; clear hO5 hu5)
     | (refine Rg.run rfl _ _ (op_load_str c32 ⟨_,rfl,rfl⟩) ?_)
     | (refine Rg.run rfl _ _ (op_load_key_mid HKx.out (PairAt.own HO5.out).key ⟨_,rfl,rfl⟩) ?_)
     | (refine Rg.run rfl _ _ (op_build (built_pair k sv HKx.out) ⟨_,rfl,rfl⟩) ?_)
     | (refine wpl_store_pair HO5.out HKx.out (k,sv) HKx.out rfl _ _ rfl rfl rfl rfl ?_; intro w6 hO6 hu6; have HO6:=hid hO6; have HB6:Hid (Below wr.heap.size wr w6):=hid (hu6.below HB5.out (Nat.le_refl _)); have HR5:=hid (own_keepN HR.out HB6.out); have d32:w6.cell? ⟨wr.heap.size,32,none⟩=some (.string _):=(PairAt.own hO6).val HKx.out; clear hO6 hu6)
     | (refine Rg.run rfl _ _ (op_load_str d32 ⟨_,rfl,rfl⟩) ?_)
     | (refine Rg.run rfl _ _ (op_load_pair (x:=(k,sv)) HKx.out (PairAt.own HO6.out) ⟨_,rfl,rfl⟩) ?_)
     | (refine Rg.run rfl _ _ (op_lit_pair (x:=(k,sv)) HKx.out _ rfl ⟨_,rfl,rfl⟩) ?_)
     | (at_builtin; refine wpList_append_own _ rfl _ _ 22 rfl w.heap.size 33 i0 z0 33 48 Tryz.underlying22 HI.out.1 HI.out.2.1 HI.out.2.2.1 HI.out.2.2.2.1 HI.out.2.2.2.2 (by decide) _ _ _ rfl (HR5.out.alloc _) ⟨_,0,none⟩ 1 1 (pairC (k,sv)) rfl (pairC_len (x:=(k,sv)) HKx.out) ?d1 (pairC_one _) ?d3 ?d4 ?d5 ?_))
    case d1 =>
     intro q u hu;first | (simpa [pairA] using hu) | (rw [Addr.add_mid]; exact (PairAt.own (Rg.Own.new _ (pairA (k,sv)) 33)) q u hu)
    case d3=>unfold maxLen; omega
    case d4=>omega
    case d5=>have:=HB.out.size; have:=HB6.out.size; simp; omega
    intro v' w7 hown7 hgrow _;have hlt':=HR5.out.lt;have HB7:Hid (Below w.heap.size w w7):=hid (((bst HB.out HB6.out).alloc (by have:=HB.out.size; have:=HB6.out.size; omega) _).grown hgrow (by have:=HB.out.size; have:=HB6.out.size; simp; omega) (fun g hg=>(hlt' g hg).1));go_wp2;go_roundw
    case rel=>exact ⟨j+1,by omega,by omega,by go_num,hid (by rw [HF.out,rowP_snoc,List.length_append]; exact hown7),HB7⟩
    case measure=>simp [intOf]; omega
   ·by_cases hv2:100<v.size
    ·have hv1:=Ni.not_empty (s:=v) (by omega);have hv100:(100:Int)≤(v.size:Int):=by omega
     have s1:decide ((100:Int)<(v.size:Int))=true:=decide_eq_true (by omega);go_wp2_with (first
 | (refine Rg.run rfl _ _ (op_load_pair (x:=(k,v)) HKx.out HPr.out ⟨_,rfl,rfl⟩) ?_)
      | (refine Rg.run rfl _ _ (run_alloc_pair _ _ _ wr.heap.size rfl rfl) ?_)
      | (refine wpl_store_pair HN.out HZ.out (k,v) HKx.out rfl _ _ rfl rfl rfl rfl ?_; intro w5 hO5 hu5; have HO5:=hid hO5; have HB5:Hid (Below wr.heap.size wr w5):=hid (hu5.below (al1 _ _) (Nat.le_refl _)); have c32:w5.cell? ⟨wr.heap.size,32,none⟩=some (.string _):=(PairAt.own hO5).val HKx.out; clear hO5 hu5)
      | (refine Rg.run rfl _ _ (op_load_str c32 ⟨_,rfl,rfl⟩) ?_)
     )
     have ge0:wr.heap.size≤wr.heap.size:=Nat.le_refl _;have h0:=HO5.out;refine wp_region_noPanic ?_;refine wp_region_held_drew (S:=fun w'=>Below wr.heap.size wr w') (by kernel_rfl) (HB5.out.drew) (fun hld=>?_);replace h0:=h0.drew;refine Rg.tk (i:=0) rfl ?_;try simp only [Act.put,Rg.s]
     refine Rg.tk (i:=2) rfl ?_;try simp only [Act.put,Rg.s]
     refine wpAnyH_ready (rs:=[1,3]) (by kernel_rfl) (by simp) ?_;refine Rg.readyC (i:=1) rfl (fun K hK=>?_) (Rg.readyL (i:=3) rfl (fun K hK=>?_))
     ·refine Rg.meet (by rfl) _ _ (op_load_key_mid HKx.out (PairAt.own h0).key ?_) ?_
      ·exact ⟨_,rfl,rfl⟩
      refine hK.out _ _ ?_ (fun hld=>?_)
      ·exact hld
      clear hK K;try simp only [Act.put,Rg.s]
      refine Rg.rd (i:=3) rfl fun K hK=>?_;refine Rg.meet (by rfl) _ _ (op_load_str (PairAt.val (PairAt.own h0) HKx.out) ?_) ?_
      ·exact ⟨_,rfl,rfl⟩
      refine hK.out _ _ ?_ (fun hld=>?_)
      ·exact hld
      clear hK K;try simp only [Act.put,Rg.s]
      refine Rg.tk (i:=4) rfl ?_ (hy:=by intro wz hSw; (have q0:=hv100; go_simp <;> with_reducible rfl));try simp only [Act.put,Rg.s]
      refine Rg.tk (i:=5) rfl ?_ (hy:=by intro wz hSw; (refine op_build (built_pair k (v.extract 0 100) HKx.out) ?_; exact ⟨_,rfl,rfl⟩));try simp only [Act.put,Rg.s]
      refine Rg.rd (i:=6) rfl fun K hK=>?_;refine Rg.meetStore (by rfl) h0 33 (pairA (k,v.extract 0 100)) ⟨_,_,rfl,rfl,rfl⟩ (info_pairA HKx.out) (by rw [pairA_size HKx.out,pairA_size HKx.out]) (pairA_one _) ?_;rintro wv0 hn hu;refine hK.out _ _ ?_ (fun hld=>?_)
      ·exact hu.below hld ge0
      replace h0:=hn;clear hK K hn hu;try simp only [Act.put]
      refine wpAnyH_done (by kernel_rfl) ?_ _;refine NoPanic.normal ?_;have HO5:=hid h0;have HB5':Hid (Below wr.heap.size wr _):=hid hld;clear h0 hld;have HF:Hid (pairsL (l.take (j+1))=pairsL (l.take j)++[(k,v.extract 0 100)]):=hid (by rw [pairs_snoc HJ.out hj24,HX.out]; unfold fixP; simp [hv0,hv2]);have HR5:=hid (own_keepN HR.out HB5'.out);go_wp2_with (first
       | (refine Rg.run rfl _ _ (op_load_pair (x:=(k,v.extract 0 100)) HKx.out (PairAt.own HO5.out) ⟨_,rfl,rfl⟩) ?_)
       | (refine Rg.run rfl _ _ (op_lit_pair (x:=(k,v.extract 0 100)) HKx.out _ rfl ⟨_,rfl,rfl⟩) ?_)
       | (at_builtin; refine wpList_append_own _ rfl _ _ 22 rfl w.heap.size 33 i0 z0 33 48 Tryz.underlying22 HI.out.1 HI.out.2.1 HI.out.2.2.1 HI.out.2.2.2.1 HI.out.2.2.2.2 (by decide) _ _ _ rfl (HR5.out.alloc _) ⟨_,0,none⟩ 1 1 (pairC (k,v.extract 0 100)) rfl (pairC_len (x:=(k,v.extract 0 100)) HKx.out) ?d1 (pairC_one _) ?d3 ?d4 ?d5 ?_))
      case d1 =>
       intro q u hu;first | (simpa [pairA] using hu) | (rw [Addr.add_mid]; exact (PairAt.own (Rg.Own.new _ (pairA (k,v.extract 0 100)) 33)) q u hu)
      case d3=>unfold maxLen; omega
      case d4=>omega
      case d5=>have:=HB.out.size; have:=HB5'.out.size; simp; omega
      intro v' w7 hown7 hgrow _;have hlt':=HR5.out.lt;have HB7:Hid (Below w.heap.size w w7):=hid (((bst HB.out HB5'.out).alloc (by have:=HB.out.size; have:=HB5'.out.size; omega) _).grown hgrow (by have:=HB.out.size; have:=HB5'.out.size; simp; omega) (fun g hg=>(hlt' g hg).1));go_wp2;go_roundw
      case rel=>exact ⟨j+1,by omega,by omega,by go_num,hid (by rw [HF.out,rowP_snoc,List.length_append]; exact hown7),HB7⟩
      case measure=>simp [intOf]; omega
     ·refine Rg.meet (by rfl) _ _ (op_load_str (PairAt.val (PairAt.own h0) HKx.out) ?_) ?_
      ·exact ⟨_,rfl,rfl⟩
      refine hK.out _ _ ?_ (fun hld=>?_)
      ·exact hld
      clear hK K;try simp only [Act.put,Rg.s]
      refine Rg.tk (i:=4) rfl ?_ (hy:=by intro wz hSw; (have q0:=hv100; go_simp <;> with_reducible rfl));try simp only [Act.put,Rg.s]
      refine Rg.rd (i:=1) rfl fun K hK=>?_;refine Rg.meet (by rfl) _ _ (op_load_key_mid HKx.out (PairAt.own h0).key ?_) ?_
      ·exact ⟨_,rfl,rfl⟩
      refine hK.out _ _ ?_ (fun hld=>?_)
      ·exact hld
      clear hK K;try simp only [Act.put,Rg.s]
      refine Rg.tk (i:=5) rfl ?_ (hy:=by intro wz hSw; (refine op_build (built_pair k (v.extract 0 100) HKx.out) ?_; exact ⟨_,rfl,rfl⟩));try simp only [Act.put,Rg.s]
      refine Rg.rd (i:=6) rfl fun K hK=>?_;refine Rg.meetStore (by rfl) h0 33 (pairA (k,v.extract 0 100)) ⟨_,_,rfl,rfl,rfl⟩ (info_pairA HKx.out) (by rw [pairA_size HKx.out,pairA_size HKx.out]) (pairA_one _) ?_;rintro wv0 hn hu;refine hK.out _ _ ?_ (fun hld=>?_)
      ·exact hu.below hld ge0
      replace h0:=hn;clear hK K hn hu;try simp only [Act.put]
      refine wpAnyH_done (by kernel_rfl) ?_ _;refine NoPanic.normal ?_;have HO5:=hid h0;have HB5':Hid (Below wr.heap.size wr _):=hid hld;clear h0 hld;have HF:Hid (pairsL (l.take (j+1))=pairsL (l.take j)++[(k,v.extract 0 100)]):=hid (by rw [pairs_snoc HJ.out hj24,HX.out]; unfold fixP; simp [hv0,hv2]);have HR5:=hid (own_keepN HR.out HB5'.out);go_wp2_with (first
       | (refine Rg.run rfl _ _ (op_load_pair (x:=(k,v.extract 0 100)) HKx.out (PairAt.own HO5.out) ⟨_,rfl,rfl⟩) ?_)
       | (refine Rg.run rfl _ _ (op_lit_pair (x:=(k,v.extract 0 100)) HKx.out _ rfl ⟨_,rfl,rfl⟩) ?_)
       | (at_builtin; refine wpList_append_own _ rfl _ _ 22 rfl w.heap.size 33 i0 z0 33 48 Tryz.underlying22 HI.out.1 HI.out.2.1 HI.out.2.2.1 HI.out.2.2.2.1 HI.out.2.2.2.2 (by decide) _ _ _ rfl (HR5.out.alloc _) ⟨_,0,none⟩ 1 1 (pairC (k,v.extract 0 100)) rfl (pairC_len (x:=(k,v.extract 0 100)) HKx.out) ?d1 (pairC_one _) ?d3 ?d4 ?d5 ?_))
      case d1 =>
       intro q u hu;first | (simpa [pairA] using hu) | (rw [Addr.add_mid]; exact (PairAt.own (Rg.Own.new _ (pairA (k,v.extract 0 100)) 33)) q u hu)
      case d3=>unfold maxLen; omega
      case d4=>omega
      case d5=>have:=HB.out.size; have:=HB5'.out.size; simp; omega
      intro v' w7 hown7 hgrow _;have hlt':=HR5.out.lt;have HB7:Hid (Below w.heap.size w w7):=hid (((bst HB.out HB5'.out).alloc (by have:=HB.out.size; have:=HB5'.out.size; omega) _).grown hgrow (by have:=HB.out.size; have:=HB5'.out.size; simp; omega) (fun g hg=>(hlt' g hg).1));go_wp2;go_roundw
      case rel=>exact ⟨j+1,by omega,by omega,by go_num,hid (by rw [HF.out,rowP_snoc,List.length_append]; exact hown7),HB7⟩
      case measure=>simp [intOf]; omega
    ·have hv1:=Ni.not_empty (s:=v) (by omega);have s1:decide ((100:Int)<(v.size:Int))=false:=decide_eq_false (by omega);have HF:Hid (pairsL (l.take (j+1))=pairsL (l.take j)++[(k,v)]):=hid (by rw [pairs_snoc HJ.out hj24,HX.out]; unfold fixP; simp [hv0,hv2]);go_wp2_with (first
      | (refine Rg.run rfl _ _ (op_load_pair (x:=(k,v)) HKx.out HPr.out ⟨_,rfl,rfl⟩) ?_)
      | (refine Rg.run rfl _ _ (run_alloc_pair _ _ _ wr.heap.size rfl rfl) ?_)
      | (refine wpl_store_pair HN.out HZ.out (k,v) HKx.out rfl _ _ rfl rfl rfl rfl ?_; intro w5 hO5 hu5; have HO5:=hid hO5; have HB5:Hid (Below wr.heap.size wr w5):=hid (hu5.below (al1 _ _) (Nat.le_refl _)); have HR5:=hid (own_keepN HR.out HB5.out); have c32:w5.cell? ⟨wr.heap.size,32,none⟩=some (.string _):=(PairAt.own hO5).val HKx.out; clear hO5 hu5)
      | (refine Rg.run rfl _ _ (op_load_str c32 ⟨_,rfl,rfl⟩) ?_)
      | (refine Rg.run rfl _ _ (op_load_pair (x:=(k,v)) HKx.out (PairAt.own HO5.out) ⟨_,rfl,rfl⟩) ?_)
      | (refine Rg.run rfl _ _ (op_lit_pair (x:=(k,v)) HKx.out _ rfl ⟨_,rfl,rfl⟩) ?_)
      | (at_builtin; refine wpList_append_own _ rfl _ _ 22 rfl w.heap.size 33 i0 z0 33 48 Tryz.underlying22 HI.out.1 HI.out.2.1 HI.out.2.2.1 HI.out.2.2.2.1 HI.out.2.2.2.2 (by decide) _ _ _ rfl (HR5.out.alloc _) ⟨_,0,none⟩ 1 1 (pairC (k,v)) rfl (pairC_len (x:=(k,v)) HKx.out) ?d1 (pairC_one _) ?d3 ?d4 ?d5 ?_))
     case d1 =>
      intro q u hu;first | (simpa [pairA] using hu) | (rw [Addr.add_mid]; exact (PairAt.own (Rg.Own.new _ (pairA (k,v)) 33)) q u hu)
     case d3=>unfold maxLen; omega
     case d4=>omega
     case d5=>have:=HB.out.size; have:=HB5.out.size; simp; omega
     intro v' w7 hown7 hgrow _;have hlt':=HR5.out.lt;have HB7:Hid (Below w.heap.size w w7):=hid (((bst HB.out HB5.out).alloc (by have:=HB.out.size; have:=HB5.out.size; omega) _).grown hgrow (by have:=HB.out.size; have:=HB5.out.size; simp; omega) (fun g hg=>(hlt' g hg).1));go_wp2;go_roundw
     case rel=>exact ⟨j+1,by omega,by omega,by go_num,hid (by rw [HF.out,rowP_snoc,List.length_append]; exact hown7),HB7⟩
     case measure=>simp [intOf]; omega
  ·have HEnd:Hid (pairsL (l.take j)=pairsL l):=hid (by
    rcases Nat.lt_or_ge j n with h1 | h1
    ·obtain rfl:j=24:=by omega
     exact pairs_cut
    ·obtain rfl:j=n:=by omega
     rw [List.take_of_length_le (by rw [HL.out]; exact Nat.le_refl _)])
   have HK:=hid (pairs_ok H.out.keys);have hf:¬ ((j:Int)<n∧(j:Int)<24):=by omega
   rw [HEnd.out] at HR;rcases Nat.lt_or_ge j n with h1 | h1
   ·obtain rfl:j=24:=by omega
    have i1:((24:Nat):Int)<n:=by omega
    go_wp2_with fail
    go_ret;exact GotOwnP.ps HK.out.1 ⟨_,rfl,HR.out,HB.out⟩
   ·obtain rfl:j=n:=by omega
    go_wp2_with fail
    go_ret;exact GotOwnP.ps HK.out.1 ⟨_,rfl,HR.out,HB.out⟩
end Tm
end
section
open Go.RowKit
namespace Tm
open Tr Ni Pk Ky No Rf Rl
open Sm (Tab)
theorem wpl_store_key {ops:Array Oper} {rest:List Oper} {o:Oper} {act:Go.Act} {w:World} {Q:Exit→Go.Act→World→Prop} {b:Nat} {k:List UInt8} (h:Rg.Own w b (kc k) 24) (hk:k.length=32) (y:List UInt8) (hy:y.length=32)
  (hgd:o.guard=none) (p q:Operand) (ho:o.op = .store 24 p q) (hp:act.eval p = .pointer (some ⟨b,0,none⟩)) (hq:act.eval q = .agg (kc y)) (hd:o.dst=none)
  (hQ:∀ w',Rg.Own w' b (kc y) 24→Rg.Upd w b w'→wpList Tryz.prog ops Q rest act w'):wpList Tryz.prog ops Q (o::rest) act w :=
 wpList_store_rowTo hgd 24 p q ho hd b _ hp hq 24 _ h.2 (info_kc y hy) (by rw [kc_size,kc_size,hk,hy]) (kc_one _) (hQ _ ⟨by simp; exact h.1,setRow_heap _ _ _ _ _ _ h.2⟩ (Rg.Upd.set _ _ _))
section
variable {k:List UInt8} {j:Nat}
end
namespace On1
variable {w0:World} {M M':Mp} {w w':World} {b0 b1:Nat} {p p' q q':Option Addr} {t t' s s':T}
end On1
end Tm
end
section
open Go.RowKit
namespace Tm
open Tr Ni Pk Ky No Rf Rl
open Sm (Tab)
theorem Ks0.below {M:Mp} {lo:Nat} {w w':World} {a:Option Addr} {n c:Nat} {l:List T} (h:Ks0 M lo w a n c l) (hb:Below w.heap.size w w'):Ks0 M lo w' a n c l :=
 ⟨h.1,h.2.1,h.2.2.1,h.2.2.2.1,fun j hj=>by
  obtain ⟨b,off,p,e,hlt,hf,hc,ht⟩:=h.2.2.2.2 j hj;exact ⟨b,off,p,e,Nat.lt_of_lt_of_le hlt hb.size,hf,cell_on hb hc,ht⟩⟩
theorem Ks0.lo {M:Mp} {lo lo':Nat} {w:World} {a:Option Addr} {n c:Nat} {l:List T} (h:Ks0 M lo w a n c l) (hl:lo'≤lo):Ks0 M lo' w a n c l :=
 ⟨h.1,h.2.1,h.2.2.1,h.2.2.2.1,fun j hj=>by
  obtain ⟨b,off,p,e,hlt,hf,hc,ht⟩:=h.2.2.2.2 j hj;exact ⟨b,off,p,e,hlt,hf.elim Or.inl (fun h=>Or.inr (Nat.le_trans hl h)),hc,ht⟩⟩
theorem Ptrs.ks0 {M:Mp} {lo:Nat} {w:World} {a:Option Addr} {n c:Nat} {ps:List (Option Addr)} {ts:List T} (h:Ptrs w a n c ps) (hA:Are M ps ts) (hlo:∀ ad,a=some ad→lo≤ad.block):Ks0 M lo w a n c ts :=
 ⟨h.1,h.2.1,by rw [← hA.1]; exact h.2.2.1,h.2.2.2.1,fun j hj=>by
  obtain ⟨b,off,e,hlt,hc⟩:=h.2.2.2.2 j hj;exact ⟨b,off,_,e,hlt,Or.inr (hlo _ e),hc,hA.2 j (by rw [h.2.2.1]; exact hj)⟩⟩
theorem parts_br (f:Fin 16→T) (j:Nat) (hj:j<16):(partsT (.br f)).getD j .nil=f ⟨j,hj⟩:=by
 show ((List.finRange 16).map f).getD j .nil=_;rw [List.getD_eq_getElem?_getD,List.getElem?_map,List.getElem?_eq_getElem (by simpa using hj)];simp
theorem placed_any (M:Mp) (N:Nd) (hl:N.ks.length=16) (pa:Option Addr) (pn pc:Nat) (ps:List (Option Addr)) (ts:List T) (hA:Are M ps ts)
  (hkd:N.kd=1∧ts=[]∨N.kd=2∧(∃ s,ts=[s])∨N.kd=3∧ts.length=(kidsL N.ks).length) (ka:Option Addr) (kn kc:Nat) (w:World) (h:Ptrs w ka kn kc ps) (hn:kn≤1000000) :
  Calls Tryz.prog 62 #[.agg (ndC N pa pn pc),.slice ka kn kc] w fun e w'=>∃ va vn vc,e = .returned (.slice va vn vc)∧Ks0 M w.heap.size w' va vn vc (partsT (makeT N ts))∧Below w.heap.size w w':=by
 by_cases hk:N.kd=3
 ·have hlen:ts.length=(kidsL N.ks).length:=by rcases hkd with ⟨h1,_⟩ | ⟨h1,_⟩ | ⟨_,h2⟩; omega; omega; exact h2
  have hpl:ps.length=kn:=h.2.2.1;refine (placed_br N hk hl pa pn pc ps ka kn kc w h (by rw [← hlen,← hA.1,hpl])).mono ?_;rintro e w' ⟨g,rfl,hg,hO,hb⟩;have hm:makeT N ts = .br (fillT N.ks ts):=by unfold makeT; rw [if_neg (by omega),if_neg (by omega)]
  have h16:(fillRow N.ks ps 16).length=16:=fillRow_len;have hks:=Ks0.row (M:=M) (lo:=w.heap.size) (l:=partsT (makeT N ts)) hg hO (by rw [h16,hm]; simp [partsT]) (by rw [h16]; unfold maxLen; omega) (fun j hj=>by
   rw [h16] at hj;rw [fillRow_at j hj,hm,parts_br _ j hj];unfold fillP fillT;by_cases h0:(N.ks.getD j eB).size=0
   ·rw [if_pos h0,if_pos h0]; rfl
   ·rw [if_neg h0,if_neg h0];by_cases hx:(kidsL (N.ks.take j)).length<ps.length
    ·exact hA.2 _ hx
    ·have e1:ps.getD (kidsL (N.ks.take j)).length none=none:=by rw [List.getD_eq_getElem?_getD,List.getElem?_eq_none (by omega)]; rfl
     have e2:ts.getD (kidsL (N.ks.take j)).length .nil = .nil:=by rw [List.getD_eq_getElem?_getD,List.getElem?_eq_none (by rw [← hA.1]; omega)]; rfl
     rw [e1,e2];rfl)
  rw [h16] at hks;exact ⟨_,_,_,rfl,hks,hb⟩
 ·refine (placed_other N hk hl pa pn pc ps ka kn kc w h hn).mono ?_;rintro e w' ⟨v,rfl,hR,hb⟩;obtain ⟨a,c,rfl,hP,hlo⟩:=hR.ptrs;refine ⟨_,_,_,rfl,?_,hb⟩;have hm:partsT (makeT N ts)=ts:=by
   unfold makeT;rcases hkd with ⟨h1,rfl⟩ | ⟨h1,s,rfl⟩ | ⟨h1,_⟩
   ·rw [if_pos h1]; rfl
   ·rw [if_neg (by omega),if_pos h1]; rfl
   ·exact absurd h1 hk
  rw [hm];exact hP.ks0 hA hlo
def MakeP (M:Mp) (w:World) (t:T) (c:Int) (e:Ending) (w':World):Prop:=∃ p M',e = .returned (.tuple #[tv p,.int .i64 c])∧IsT M' p t∧Fr M M' w w'∧Inv M' w'∧Tab w'
theorem built_make (t:T) (k:Int) (v:ByteArray) (hk:kindT t=k) (hv:valT t=v) (hs:¬ IsStub t) (a:Option Addr) (n c:Nat) (ka:Option Addr) (kn kc:Nat) :
  Tryz.prog.built 106 [(0,.int .i64 k),(1,.slice a n c),(2,.string v),(3,.slice ka kn kc)]=some (partC t a n c ka kn kc 0 (memo0 t)):=by
 subst hk hv;rw [memo_eB hs];unfold partC;generalize kindT t=k;generalize valT t=v;kernel_rfl
theorem make_end {M:Mp} {w w2 w5 w8:World} {t:T} {e:Ending} {g:Nat} (hi:Inv M w) (hz:1<w.heap.size) (hb2:Below w.heap.size w w2) (hO2:Rg.Own w2 g #[.pointer none] 28) (hg:w.heap.size≤g) (f5:Fr M M w2 w5) (t5:Tab w5) (hG:GotT M w5 t e w8) :
  ∃ p,e = .returned (tv p)∧∀ w9,Rg.Upd w8 g w9→MakeP M w t 0 (.returned (.tuple #[tv p,.int .i64 0])) w9:=by
 obtain ⟨p,M',he,ht,f,i,b⟩:=hG;have f28:=f5.trans (hi.below hb2) f;have hn:¬ M'.ft g:=f28.box (hi.free hg) hO2.1 (no_byte hO2 (one_no _));have f8:=(Fr.below M hb2).trans hi f28;exact ⟨p,he,fun w9 hu=>⟨p,M',rfl,ht,f8.upd hu hg,i.upd hu hn,fun i hi=>by rw [World.cell?_of_block (hu.block 1 (by omega))]; exact (t5.below b t5.pos) i hi⟩⟩
structure Mk (N:Nd) (ts:List T):Prop where
 ks:N.ks.length=16
 may:mayW refP N=true
 v:N.v.size≤maxLen
 pl:N.p.length≤64
 few:∀ k∈N.ks,k.size≤100
 fine:∀ s∈ts,∃ L,Tr.Good s L∧L≤64∧Fine s
 refs:kidsL N.ks=ts.map ref
 kd:N.kd=1∧ts=[]∨N.kd=2∧(∃ s,ts=[s]∧kindT s≠1∧kindT s≠2)∨N.kd=3∧ts.length=(kidsL N.ks).length
 k:kindT (makeT N ts)=N.kd
 mv:valT (makeT N ts)=N.v
 mp:pathT (makeT N ts)=N.p
 ms:¬ IsStub (makeT N ts)
 mn:makeT N ts ≠ .nil
theorem Mk.kd' {N:Nd} {ts:List T} (h:Mk N ts):N.kd=1∧ts=[]∨N.kd=2∧(∃ s,ts=[s])∨N.kd=3∧ts.length=(kidsL N.ks).length:=by
 rcases h.kd with h | ⟨h,s,e,_⟩ | h
 ·exact .inl h
 ·exact .inr (.inl ⟨h,s,e⟩)
 ·exact .inr (.inr h)
theorem check_may {N:Nd} (hl:N.ks.length=16) (hmay:mayW refP N=true) (hv:N.v.size≤maxLen) (hks:∀ k∈N.ks,k.size≤100) (a:Option Addr) (n c:Nat) (w:World) (hB:IsBs w a n c N.p) :
  Calls Tryz.prog 58 #[.agg (ndC N a n c)] w fun e w'=>e = .returned (.int .i64 0)∧Below w.heap.size w w':=by
 have:=check_any N a n c hl w hB hv (fun k hk=>No.ref_any k (by have:=hks k hk; omega));rw [hmay] at this;exact this
end Tm
end
section
open Go.RowKit
namespace No
open Rl Ni
end No
end
section
open Go.RowKit
namespace No
open Rl Ni
end No
end
section
open Go.RowKit
namespace Rl
end Rl
end
section
open Go.RowKit
namespace No
open Ni
end No
end
section
open Go.RowKit
namespace No
open Rl Ni
end No
end
end Go.Proofs.YtnecijeakeklaaaGreatDoor
