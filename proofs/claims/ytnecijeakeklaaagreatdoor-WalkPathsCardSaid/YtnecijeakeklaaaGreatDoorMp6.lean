/-
 References in a row: contracts of node.Kids, of the plain answers' kids, of Light; of the plain Same over texts.
-/
import Derived.Test.YtnecijeakeklaaaGreatDoorMp5
import Derived.Test.YtnecijeakeklaaaGreatDoorMp2
import Derived.Test.YtnecijeakeklaaaGreatDoorMp4
import Derived.Test.YtnecijeakeklaaaGreatDoorMp3
import Derived.Test.YtnecijeakeklaaaGreatDoorMp1
import Derived.LoopN
import Derived.Laws.Rows
import Derived.Deep.QuietTactic
import Derived.BigQuiet
import Derived.Laws.BitsAllLaws
import Derived.IntWalk
import Derived.Laws.NewBlocks
open Go.Lib (hid)
set_option linter.unusedSimpArgs false
set_option linter.unusedVariables false
set_option maxHeartbeats 40000000
set_option maxRecDepth 100000
namespace Go.Proofs.YtnecijeakeklaaaGreatDoor
section
open Go.RowKit
def IsSt (w:World) (a:Option Addr) (n cap:Nat) (xs:List ByteArray):Prop :=
 n≤cap∧cap≤maxLen∧xs.length=n∧∀ j,j<n→∃ b off,a=some ⟨b,off,none⟩∧b<w.heap.size∧w.cell? ⟨b,off+j,none⟩=some (.string (xs.getD j eB))
namespace IsSt
variable {w w':World} {a:Option Addr} {n cap:Nat} {xs:List ByteArray}
theorem len (h:IsSt w a n cap xs):xs.length=n:=h.2.2.1
theorem at' (h:IsSt w a n cap xs) (j:Nat) (hj:j<n):∃ b off,a=some ⟨b,off,none⟩∧b<w.heap.size∧w.cell? ⟨b,off+j,none⟩=some (.string (xs.getD j eB)):=h.2.2.2 j hj
theorem below (h:IsSt w a n cap xs) (hb:Below w.heap.size w w'):IsSt w' a n cap xs:=by
 refine ⟨h.1,h.2.1,h.2.2.1,fun j hj=>?_⟩;obtain ⟨b,off,h1,h2,h3⟩:=h.2.2.2 j hj;exact ⟨b,off,h1,Nat.lt_of_lt_of_le h2 hb.size,by rw [hb.cell (p:=⟨b,off+j,none⟩) h2]; exact h3⟩
end IsSt
theorem IsSt.ofOwn {w:World} {B:Nat} {t:TypeId} {v:Value} {n:Nat} {xs:List ByteArray} (h:w.ownsRow B t 1 v n (xs.map Value.string)):∃ a cap,v = .slice a n cap∧IsSt w a n cap xs:=by
 have hl:xs.length=n:=by simpa using h.1
 rcases h.2 with ⟨rfl,hz⟩ | ⟨g,cap,cur,rfl,hbg,hg,hnc,hcm,hcs,htake⟩
 ·subst hz;exact ⟨none,0,rfl,Nat.le_refl _,Nat.zero_le _,hl,fun j hj=>absurd hj (Nat.not_lt_zero _)⟩
 ·refine ⟨_,_,rfl,hnc,hcm,hl,fun j hj=>⟨g,0,rfl,(Array.getElem?_eq_some_iff.1 hg).1,?_⟩⟩;have:=h.cells (g:=g) rfl j (.string (xs.getD j eB)) (by simp [List.getD,hl,hj]);rwa [Addr.add_mid] at this
theorem info_st:(Tryz.prog.info? 9).map (fun i=>(i.zero,i.size,i.bytes))=some (some (.string ⟨#[]⟩),1,16):=by kernel_rfl
theorem info_st_parts:∃ i,Tryz.prog.info? 9=some i∧i.zero=some (.string ⟨#[]⟩)∧i.size=1∧i.bytes=16:=by
 have h:=info_st;cases hi:Tryz.prog.info? 9 with
 | none=>rw [hi] at h; simp at h
 | some i =>
  rw [hi] at h;simp at h;exact ⟨i,rfl,h.1,h.2.1,h.2.2⟩
def kidsL (ks:List ByteArray):List ByteArray:=ks.filter fun k=>decide (k.size≠0)
theorem kidsL_snoc (ks:List ByteArray) (q:Nat) (h:q<ks.length):kidsL (ks.take (q+1))=kidsL (ks.take q)++(if (ks.getD q eB).size≠0 then [ks.getD q eB] else []):=by
 unfold kidsL;have e:ks.getD q eB=ks[q]:=by simp [List.getD,h]
 rw [List.take_succ_eq_append_getElem h,e,List.filter_append];congr 1;by_cases hz:ks[q].size=0
 ·simp only [ne_eq,hz,not_true_eq_false,decide_false,Bool.false_eq_true,not_false_eq_true,List.filter_cons_of_neg,List.filter_nil,if_false]
 ·simp only [ne_eq,hz,not_false_eq_true,decide_true,List.filter_cons_of_pos,List.filter_nil,if_true]
theorem kidsL_len (ks:List ByteArray) (q:Nat):(kidsL (ks.take q)).length≤q:=Nat.le_trans (List.length_filter_le _ _) (by rw [List.length_take]; exact Nat.min_le_left _ _)
theorem cells_st:Tryz.prog.cellsOf 9=1:=by kernel_rfl
theorem part_st (ks:List ByteArray) (q:Nat) (h:q<ks.length) (w:World):(part 9 (kidC ks) q).run Tryz.prog w = .ok (.string (ks.getD q eB)) w:=by
 have hagg:(isAgg 9).run Tryz.prog w = .ok false w:=by kernel_rfl
 have hg:(kidC ks)[q]? = some (.string (ks.getD q eB)):=by simp [kidC,List.getD,h]
 unfold part;rw [Sem.run_bind,hagg];simp [hg]
theorem op_index_ks {ev:Operand→Value} {o:Oper} {w:World} {ks:List ByteArray} {q:Nat} (hl:ks.length=16) (hq:q<16) (ho:∃ x y,o.op = .index 54 x y∧ev x = .agg (kidC ks)∧ev y = .int .i64 q) :
  (execOp ev o).run Tryz.prog w = .ok (.value (.string (ks.getD q eB))) w:=by
 obtain ⟨x,y,ho,hx,hy⟩:=ho;obtain ⟨i0,hi,_,hs,_⟩:=info_st_parts;have hp:=part_st ks q (by omega) w;have h1:(Instr.index 54 (.agg (kidC ks)) (.int .i64 q)).run Tryz.prog w = .ok (.string (ks.getD q eB)) w:=by
  have hq2:(0:Int)≤q∧(q:Int)<((16:Nat):Int):=⟨by omega,by omega⟩
  simp only [Instr.index,Sem.run_bind,asIntOf,Sem.run_pure,Result.andThen_ok,run_underlying Tryz.underlying54];rw [if_pos hq2];simp only [sizeOf,typeInfo,Sem.run_bind];simp [hi,hs,hp]
 unfold execOp;simp only [ho,hx,hy,Sem.run_bind,Sem.run_pure,Result.andThen_ok,h1]
namespace No
def GotSt (w:World) (xs:List ByteArray) (e:Ending) (w':World):Prop:=∃ a n cap,e = .returned (.slice a n cap)∧IsSt w' a n cap xs∧Below w.heap.size w w'
theorem kids_any (N:Nd) (a:Option Addr) (n c:Nat) (hl:N.ks.length=16) (w:World):Calls Tryz.prog 57 #[.agg (ndC N a n c)] w (GotSt w (kidsL N.ks)):=by
 obtain ⟨i0,hi,hz0,hz1,hz2⟩:=info_st_parts;have HI:Hid (_∧_∧_∧_):=hid ⟨hi,hz0,hz1,hz2⟩;have HO:Hid (OwnN (w.alloc (.cells (ndC N a n c) 56)) w.heap.size N a n c):=hid (Rg.Own.new _ _ _);have HL:=hid hl;clear hi hz0 hz1 hz2 hl;go_enter Tryz.func57,Tryz.ntmps57;go_wp2_with (refine Rg.run rfl _ _ (op_load_ks HO.out HL.out ⟨_,rfl,rfl⟩) ?_)
 go_loopw [3,8] (fun v i wr=>∃ j:Nat,j≤16∧i = .int .i64 j∧Hid (wr.ownsRow (w.heap.size+1) 9 1 v (kidsL (N.ks.take j)).length ((kidsL (N.ks.take j)).map Value.string))∧Below (w.heap.size+1) (w.alloc (.cells (ndC N a n c) 56)) wr) (fun _ i _=>16-(intOf i).toNat)
 case atStart=>exact ⟨0,Nat.zero_le _,rfl,hid (World.ownsRow_nil _ _ _ _),Below.refl _ _⟩
 case round =>
  obtain ⟨j,hj,rfl,HR,hB⟩:=hrel;have hsz:w.heap.size+1≤wr.heap.size:=by have:=hB.size; simp at this; omega
  by_cases hlt:j<16
  ·have HS:=hid (kidsL_snoc N.ks j (by rw [HL.out]; exact hlt));have hkl:=kidsL_len N.ks j;obtain ⟨L,hL⟩:∃ L,kidsL (N.ks.take j)=L:=⟨_,rfl⟩
   rw [hL] at HS hkl HR;clear hL;by_cases hk:(N.ks.getD j eB).size=0
   ·have HS':Hid (kidsL (N.ks.take (j+1))=L):=hid (by rw [HS.out,if_neg (by simpa using hk),List.append_nil]);have HE:Hid (N.ks.getD j eB=eB):=hid (size_zero hk);clear hk;go_wp2_with (refine Rg.run rfl (.string (N.ks.getD j eB)) _ (op_index_ks HL.out hlt ⟨_,_,rfl,rfl,rfl⟩) ?_; rw [HE.out])
    go_roundw
    case rel=>exact ⟨j+1,by omega,by go_num,by rw [HS'.out]; exact HR,hB⟩
    case measure=>simp [intOf]; omega
   ·have HS':Hid (kidsL (N.ks.take (j+1))=L++[N.ks.getD j eB]):=hid (by rw [HS.out,if_pos hk]);have hne:=Ni.not_empty (s:=N.ks.getD j eB) (by omega);obtain ⟨K,hK⟩:∃ K,N.ks.getD j eB=K:=⟨_,rfl⟩
    have HK:=hid hK;rw [hK] at hne HS';clear hK hk HS;go_wp2_with (first
     | (refine Rg.run rfl (.string (N.ks.getD j eB)) _ (op_index_ks HL.out hlt ⟨_,_,rfl,rfl,rfl⟩) ?_; rw [HK.out])
     | (at_builtin; refine wpList_append_own _ rfl _ _ 112 rfl (w.heap.size+1) 9 i0 (.string ⟨#[]⟩) 1 16 Tryz.underlying112 HI.out.1 HI.out.2.1 HI.out.2.2.1 HI.out.2.2.2 rfl (by decide) _ _ _ rfl (HR.out.alloc _) ⟨wr.heap.size,0,none⟩ 1 1 [.string K] rfl rfl ?d1 ?d2 ?d3 ?d4 ?d5 ?_))
    case d1=>exact Bu.cell_one_new' _ _ _ _
    case d2=>intro u hu; simp at hu; subst hu; rfl
    case d3=>unfold maxLen; omega
    case d4=>omega
    case d5=>simp; omega
    intro v' w2 hown2 hgrow _;have hlt':=HR.out.lt;go_wp2;go_roundw
    case rel=>exact ⟨j+1,by omega,by go_num,hid (by rw [HS'.out,List.length_append,List.map_append]; exact hown2),(hB.alloc hsz _).grown hgrow (by simp; omega) (fun g hg=>(hlt' g hg).1)⟩
    case measure=>simp [intOf]; omega
  ·obtain rfl:j=16:=by omega
   have hO:=HR.out;rw [List.take_of_length_le (by rw [HL.out]; exact Nat.le_refl _)] at hO;obtain ⟨a',cap',rfl,hb⟩:=IsSt.ofOwn hO;have HB:=hid hb;have HBe:Hid (Below w.heap.size w wr):=hid (of_al hB);clear hO hb;go_wp2;go_ret;exact ⟨a',_,cap',rfl,HB.out,HBe.out⟩
end No
end
section
open Go.RowKit
namespace Ni
def headN (l:List UInt8) (leaf:Bool):Nat:=16*markN l.length leaf+if l.length%2=1 then (l.getD 0 0).toNat else 0
def rpackK (l:List UInt8) (leaf:Bool) (k:Nat):List UInt8:=UInt8.ofNat (headN l leaf)::(List.range k).map fun j=>UInt8.ofNat (16*(l.getD (l.length%2+2*j) 0).toNat+(l.getD (l.length%2+(2*j+1)) 0).toNat)
theorem rpackK_snoc (l:List UInt8) (leaf:Bool) (k:Nat):rpackK l leaf (k+1)=rpackK l leaf k++[UInt8.ofNat (16*(l.getD (l.length%2+2*k) 0).toNat+(l.getD (l.length%2+(2*k+1)) 0).toNat)]:=by
 simp [rpackK,List.range_succ]
theorem full_0 (l:List UInt8) (leaf:Bool):((fullL l leaf).getD 0 0).toNat=markN l.length leaf:=by
 have:markN l.length leaf≤3:=by unfold markN; cases leaf <;> simp <;> omega
 simp [fullL]; omega
theorem full_1 (l:List UInt8) (leaf:Bool):((fullL l leaf).getD 1 0).toNat=if l.length%2=1 then (l.getD 0 0).toNat else 0:=by
 unfold fullL;by_cases h:l.length%2=1
 ·cases l with
  | nil=>simp at h
  | cons x r =>
   have h':(r.length+1)%2=1:=by simpa using h
   simp [h']
 ·simp [h]
theorem full_2 (l:List UInt8) (leaf:Bool) (q:Nat):(fullL l leaf).getD (2+q) 0=l.getD (l.length%2+q) 0:=by
 unfold fullL;by_cases h:l.length%2=1
 ·cases l with
  | nil=>simp at h
  | cons x r =>
   rw [if_pos h,h];have e:(2+q)=q+1+1:=by omega
   rw [e,show 1+q=q+1 by omega];simp [List.getD]
 ·have h0:l.length%2=0:=by omega
  rw [if_neg h,h0];have e:(2+q)=q+1+1:=by omega
  rw [e];simp [List.getD]
theorem packL_eq (l:List UInt8) (leaf:Bool):packL l leaf=rpackK l leaf (l.length/2):=by
 unfold packL pairsK rpackK headN;rw [List.range_succ_eq_map,List.map_cons,List.map_map];have e0:=full_0 l leaf;have e1:=full_1 l leaf;congr 1
 ·simp only [Nat.mul_zero,Nat.zero_add];rw [e0,e1]
 ·apply List.map_congr_left;intro j _;have f0:=full_2 l leaf (2*j);have f1:=full_2 l leaf (2*j+1);simp only [Function.comp];rw [show 2*(j.succ)=2+2*j by omega,show 2+2*j+1=2+(2*j+1) by omega,f0,f1]
theorem conv_one (v:Int) (x:Nat) (hx:x<256) (hv:v=x) (w:World) :
  Sem.run Tryz.prog (convert 51 9 (Value.slice (some ⟨w.heap.size,0,none⟩) 1 1)) (w.alloc (.cells #[.int .u8 v] 5)) = .ok (.string ⟨#[UInt8.ofNat x]⟩) (w.alloc (.cells #[.int .u8 v] 5)):=by
 subst hv;have h:=run_convert_bytes_back (P:=Tryz.prog) (w.alloc (.cells #[.int .u8 x] 5)) 51 9 5 ⟨w.heap.size,0,none⟩ 1 [UInt8.ofNat x] Tryz.underlying51 Tryz.underlying5 Tryz.underlying9
  (fun j hj=>by
   obtain rfl:j=0:=by simpa using hj
   have e:(UInt8.ofNat x).toNat=x:=by simp; omega
   simp [Addr.add,e])
 exact h
theorem ba_snoc (l:List UInt8) (x:UInt8):(⟨l.toArray⟩:ByteArray)++⟨#[x]⟩=⟨(l++[x]).toArray⟩:=by
 have h:((⟨l.toArray⟩:ByteArray)++⟨#[x]⟩).data=(l++[x]).toArray:=by
  rw [ByteArray.data_append]; simp
 cases e:((⟨l.toArray⟩:ByteArray)++⟨#[x]⟩) with
 | mk d=>rw [e] at h; simp only at h; rw [h]
theorem rpack_any (a:Option Addr) (n cap:Nat) (l:List UInt8) (leaf:Bool) (hr:rightB l=true) (hn:n≤64) (w:World) (h:IsBs w a n cap l) :
  Calls Tryz.prog 131 #[.slice a n cap,.bool leaf] w fun e w'=>e = .returned (.string ⟨(packL l leaf).toArray⟩)∧Below w.heap.size w w':=by
 rw [packL_eq];have H:=hid h;have HL:=hid h.len;have HR:=hid (rightB_getD l hr);have hmk:headN l leaf=16*(l.length%2)+32*(if leaf then 1 else 0)+if l.length%2=1 then (l.getD 0 0).toNat else 0:=by
  unfold headN markN; cases leaf <;> simp <;> omega
 have hnc:=h.1;have hcm:=h.2.1;unfold maxLen at hcm;rw [h.len] at hmk;clear h hr;by_cases hp:n%2=1
 ·have hp0:(n:Int)%2=1:=by omega
  have hn1:1≤n:=by omega
  rw [if_pos hp,hp] at hmk;have HP:=hid hp;clear hp;obtain ⟨b0,off0,rfl,hb0,hc0⟩:=H.out.at' 0 (by omega);have hx0:=HR.out 0;obtain ⟨z,hz⟩:∃ z,(l.getD 0 0).toNat=z:=⟨_,rfl⟩
  rw [hz] at hc0 hx0 hmk;rw [Nat.add_zero] at hc0;clear hz;cases leaf
  ·have hm2:headN l false=16+z:=by rw [hmk]; simp
   have hcv:=conv_one (16+(z:Int)) (headN l false) (by omega) (by omega);clear hmk hm2;go_enter Tryz.func131,Tryz.ntmps131;go_wp2;clear hcv;go_loopw [7,8] (fun s i wr=>∃ k q:Nat,Hid (q=1+2*k)∧q≤n∧i = .int .i64 q∧s = .string ⟨(rpackK l false k).toArray⟩∧Below w.heap.size w wr) (fun _ i _=>n-(intOf i).toNat)
   case atStart=>exact ⟨0,1,hid rfl,by omega,rfl,rfl,(Below.refl _ _).alloc (Nat.le_refl _) _⟩
   case round =>
    obtain ⟨k,q,HQ,hq,rfl,rfl,hB⟩:=hrel;by_cases hlt:q<n
    ·have hlt1:q+1<n:=by have:=HP.out; have:=HQ.out; omega
     obtain ⟨b,off,h0,hb,hc⟩:=H.out.at' q hlt;simp at h0;obtain ⟨rfl,rfl⟩:=h0;obtain ⟨b',off',h1,_,hc'⟩:=H.out.at' (q+1) hlt1;simp at h1;obtain ⟨rfl,rfl⟩:=h1;have hx:=HR.out q;have hy:=HR.out (q+1);obtain ⟨x,hxe⟩:∃ x,(l.getD q 0).toNat=x:=⟨_,rfl⟩
     obtain ⟨y,hye⟩:∃ y,(l.getD (q+1) 0).toNat=y:=⟨_,rfl⟩
     rw [hxe] at hc hx;rw [hye] at hc' hy;rw [← hB.cell (p:=⟨b0,off0+q,none⟩) hb] at hc;rw [← hB.cell (p:=⟨b0,off0+(q+1),none⟩) hb] at hc';have hcv:Sem.run Tryz.prog (convert 51 9 (Value.slice (some ⟨wr.heap.size,0,none⟩) 1 1)) (wr.alloc (.cells #[.int .u8 (16*(x:Int)+(y:Int))] 5)).drew = .ok (.string ⟨#[UInt8.ofNat (16*x+y)]⟩) (wr.alloc (.cells #[.int .u8 (16*(x:Int)+(y:Int))] 5)).drew :=
      conv_one (16*x+y) (16*x+y) (by omega) (by omega) wr.drew
     obtain ⟨S,hS⟩:∃ S,(⟨(rpackK l false k).toArray⟩:ByteArray)=S:=⟨_,rfl⟩
     obtain ⟨C,hC⟩:∃ C,(⟨#[UInt8.ofNat (16*x+y)]⟩:ByteArray)=C:=⟨_,rfl⟩
     have hSz:S.size≤100:=by
      rw [← hS]; show (rpackK l false k).toArray.size≤100; have:=HQ.out; simp [rpackK]; omega
     have hCz:C.size≤1:=by rw [← hC]; exact Nat.le_refl _
     have HN:Hid (S++C=⟨(rpackK l false (k+1)).toArray⟩):=hid (by
      rw [← hS,← hC,ba_snoc,rpackK_snoc,HL.out,HP.out,← HQ.out,show 1+(2*k+1)=q+1 by have:=HQ.out; omega,hxe,hye])
     rw [hC] at hcv;rw [hS];clear hxe hye hS hC;go_wp2_with fail
     go_region
     all_goals clear hcv
     all_goals go_wp2
     all_goals
      go_roundw
      case rel=>exact ⟨k+1,q+2,hid (by have:=HQ.out; omega),by omega,by go_num,by rw [HN.out],hB.drew.alloc hB.size _⟩
      case measure=>simp [intOf]; omega
    ·have HE:Hid (k=l.length/2):=hid (by rw [HL.out]; have:=HP.out; have:=HQ.out; omega);go_wp2;go_ret;exact ⟨by rw [← HE.out]; rfl,hB⟩
  ·have hm2:headN l true=48+z:=by rw [hmk]; simp
   have hcv:=conv_one (48+(z:Int)) (headN l true) (by omega) (by omega);clear hmk hm2;go_enter Tryz.func131,Tryz.ntmps131;go_wp2;clear hcv;go_loopw [7,8] (fun s i wr=>∃ k q:Nat,Hid (q=1+2*k)∧q≤n∧i = .int .i64 q∧s = .string ⟨(rpackK l true k).toArray⟩∧Below w.heap.size w wr) (fun _ i _=>n-(intOf i).toNat)
   case atStart=>exact ⟨0,1,hid rfl,by omega,rfl,rfl,(Below.refl _ _).alloc (Nat.le_refl _) _⟩
   case round =>
    obtain ⟨k,q,HQ,hq,rfl,rfl,hB⟩:=hrel;by_cases hlt:q<n
    ·have hlt1:q+1<n:=by have:=HP.out; have:=HQ.out; omega
     obtain ⟨b,off,h0,hb,hc⟩:=H.out.at' q hlt;simp at h0;obtain ⟨rfl,rfl⟩:=h0;obtain ⟨b',off',h1,_,hc'⟩:=H.out.at' (q+1) hlt1;simp at h1;obtain ⟨rfl,rfl⟩:=h1;have hx:=HR.out q;have hy:=HR.out (q+1);obtain ⟨x,hxe⟩:∃ x,(l.getD q 0).toNat=x:=⟨_,rfl⟩
     obtain ⟨y,hye⟩:∃ y,(l.getD (q+1) 0).toNat=y:=⟨_,rfl⟩
     rw [hxe] at hc hx;rw [hye] at hc' hy;rw [← hB.cell (p:=⟨b0,off0+q,none⟩) hb] at hc;rw [← hB.cell (p:=⟨b0,off0+(q+1),none⟩) hb] at hc';have hcv:Sem.run Tryz.prog (convert 51 9 (Value.slice (some ⟨wr.heap.size,0,none⟩) 1 1)) (wr.alloc (.cells #[.int .u8 (16*(x:Int)+(y:Int))] 5)).drew = .ok (.string ⟨#[UInt8.ofNat (16*x+y)]⟩) (wr.alloc (.cells #[.int .u8 (16*(x:Int)+(y:Int))] 5)).drew :=
      conv_one (16*x+y) (16*x+y) (by omega) (by omega) wr.drew
     obtain ⟨S,hS⟩:∃ S,(⟨(rpackK l true k).toArray⟩:ByteArray)=S:=⟨_,rfl⟩
     obtain ⟨C,hC⟩:∃ C,(⟨#[UInt8.ofNat (16*x+y)]⟩:ByteArray)=C:=⟨_,rfl⟩
     have hSz:S.size≤100:=by
      rw [← hS]; show (rpackK l true k).toArray.size≤100; have:=HQ.out; simp [rpackK]; omega
     have hCz:C.size≤1:=by rw [← hC]; exact Nat.le_refl _
     have HN:Hid (S++C=⟨(rpackK l true (k+1)).toArray⟩):=hid (by
      rw [← hS,← hC,ba_snoc,rpackK_snoc,HL.out,HP.out,← HQ.out,show 1+(2*k+1)=q+1 by have:=HQ.out; omega,hxe,hye])
     rw [hC] at hcv;rw [hS];clear hxe hye hS hC;go_wp2_with fail
     go_region
     all_goals clear hcv
     all_goals go_wp2
     all_goals
      go_roundw
      case rel=>exact ⟨k+1,q+2,hid (by have:=HQ.out; omega),by omega,by go_num,by rw [HN.out],hB.drew.alloc hB.size _⟩
      case measure=>simp [intOf]; omega
    ·have HE:Hid (k=l.length/2):=hid (by rw [HL.out]; have:=HP.out; have:=HQ.out; omega);go_wp2;go_ret;exact ⟨by rw [← HE.out]; rfl,hB⟩
 ·have hp0:(n:Int)%2=0:=by omega
  have hpn:n%2=0:=by omega
  rw [if_neg hp,hpn] at hmk;have HP:=hid hpn;clear hp hpn;cases leaf
  ·have hcv:=conv_one 0 (headN l false) (by rw [hmk]; decide) (by rw [hmk]; rfl);clear hmk;go_enter Tryz.func131,Tryz.ntmps131;go_wp2;clear hcv;go_loopw [7,8] (fun s i wr=>∃ k q:Nat,Hid (q=0+2*k)∧q≤n∧i = .int .i64 q∧s = .string ⟨(rpackK l false k).toArray⟩∧Below w.heap.size w wr) (fun _ i _=>n-(intOf i).toNat)
   case atStart=>exact ⟨0,0,hid rfl,by omega,rfl,rfl,(Below.refl _ _).alloc (Nat.le_refl _) _⟩
   case round =>
    obtain ⟨k,q,HQ,hq,rfl,rfl,hB⟩:=hrel;by_cases hlt:q<n
    ·have hlt1:q+1<n:=by have:=HP.out; have:=HQ.out; omega
     obtain ⟨b,off,rfl,hb,hc⟩:=H.out.at' q hlt;obtain ⟨b',off',h1,_,hc'⟩:=H.out.at' (q+1) hlt1;simp at h1;obtain ⟨rfl,rfl⟩:=h1;have hx:=HR.out q;have hy:=HR.out (q+1);obtain ⟨x,hxe⟩:∃ x,(l.getD q 0).toNat=x:=⟨_,rfl⟩
     obtain ⟨y,hye⟩:∃ y,(l.getD (q+1) 0).toNat=y:=⟨_,rfl⟩
     rw [hxe] at hc hx;rw [hye] at hc' hy;rw [← hB.cell (p:=⟨b,off+q,none⟩) hb] at hc;rw [← hB.cell (p:=⟨b,off+(q+1),none⟩) hb] at hc';have hcv:Sem.run Tryz.prog (convert 51 9 (Value.slice (some ⟨wr.heap.size,0,none⟩) 1 1)) (wr.alloc (.cells #[.int .u8 (16*(x:Int)+(y:Int))] 5)).drew = .ok (.string ⟨#[UInt8.ofNat (16*x+y)]⟩) (wr.alloc (.cells #[.int .u8 (16*(x:Int)+(y:Int))] 5)).drew :=
      conv_one (16*x+y) (16*x+y) (by omega) (by omega) wr.drew
     obtain ⟨S,hS⟩:∃ S,(⟨(rpackK l false k).toArray⟩:ByteArray)=S:=⟨_,rfl⟩
     obtain ⟨C,hC⟩:∃ C,(⟨#[UInt8.ofNat (16*x+y)]⟩:ByteArray)=C:=⟨_,rfl⟩
     have hSz:S.size≤100:=by
      rw [← hS]; show (rpackK l false k).toArray.size≤100; have:=HQ.out; simp [rpackK]; omega
     have hCz:C.size≤1:=by rw [← hC]; exact Nat.le_refl _
     have HN:Hid (S++C=⟨(rpackK l false (k+1)).toArray⟩):=hid (by
      rw [← hS,← hC,ba_snoc,rpackK_snoc,HL.out,HP.out,← HQ.out,show 0+(2*k+1)=q+1 by have:=HQ.out; omega,hxe,hye])
     rw [hC] at hcv;rw [hS];clear hxe hye hS hC;go_wp2_with fail
     go_region
     all_goals clear hcv
     all_goals go_wp2
     all_goals
      go_roundw
      case rel=>exact ⟨k+1,q+2,hid (by have:=HQ.out; omega),by omega,by go_num,by rw [HN.out],hB.drew.alloc hB.size _⟩
      case measure=>simp [intOf]; omega
    ·have HE:Hid (k=l.length/2):=hid (by rw [HL.out]; have:=HP.out; have:=HQ.out; omega);go_wp2;go_ret;exact ⟨by rw [← HE.out]; rfl,hB⟩
  ·have hcv:=conv_one 32 (headN l true) (by rw [hmk]; decide) (by rw [hmk]; rfl);clear hmk;go_enter Tryz.func131,Tryz.ntmps131;go_wp2;clear hcv;go_loopw [7,8] (fun s i wr=>∃ k q:Nat,Hid (q=0+2*k)∧q≤n∧i = .int .i64 q∧s = .string ⟨(rpackK l true k).toArray⟩∧Below w.heap.size w wr) (fun _ i _=>n-(intOf i).toNat)
   case atStart=>exact ⟨0,0,hid rfl,by omega,rfl,rfl,(Below.refl _ _).alloc (Nat.le_refl _) _⟩
   case round =>
    obtain ⟨k,q,HQ,hq,rfl,rfl,hB⟩:=hrel;by_cases hlt:q<n
    ·have hlt1:q+1<n:=by have:=HP.out; have:=HQ.out; omega
     obtain ⟨b,off,rfl,hb,hc⟩:=H.out.at' q hlt;obtain ⟨b',off',h1,_,hc'⟩:=H.out.at' (q+1) hlt1;simp at h1;obtain ⟨rfl,rfl⟩:=h1;have hx:=HR.out q;have hy:=HR.out (q+1);obtain ⟨x,hxe⟩:∃ x,(l.getD q 0).toNat=x:=⟨_,rfl⟩
     obtain ⟨y,hye⟩:∃ y,(l.getD (q+1) 0).toNat=y:=⟨_,rfl⟩
     rw [hxe] at hc hx;rw [hye] at hc' hy;rw [← hB.cell (p:=⟨b,off+q,none⟩) hb] at hc;rw [← hB.cell (p:=⟨b,off+(q+1),none⟩) hb] at hc';have hcv:Sem.run Tryz.prog (convert 51 9 (Value.slice (some ⟨wr.heap.size,0,none⟩) 1 1)) (wr.alloc (.cells #[.int .u8 (16*(x:Int)+(y:Int))] 5)).drew = .ok (.string ⟨#[UInt8.ofNat (16*x+y)]⟩) (wr.alloc (.cells #[.int .u8 (16*(x:Int)+(y:Int))] 5)).drew :=
      conv_one (16*x+y) (16*x+y) (by omega) (by omega) wr.drew
     obtain ⟨S,hS⟩:∃ S,(⟨(rpackK l true k).toArray⟩:ByteArray)=S:=⟨_,rfl⟩
     obtain ⟨C,hC⟩:∃ C,(⟨#[UInt8.ofNat (16*x+y)]⟩:ByteArray)=C:=⟨_,rfl⟩
     have hSz:S.size≤100:=by
      rw [← hS]; show (rpackK l true k).toArray.size≤100; have:=HQ.out; simp [rpackK]; omega
     have hCz:C.size≤1:=by rw [← hC]; exact Nat.le_refl _
     have HN:Hid (S++C=⟨(rpackK l true (k+1)).toArray⟩):=hid (by
      rw [← hS,← hC,ba_snoc,rpackK_snoc,HL.out,HP.out,← HQ.out,show 0+(2*k+1)=q+1 by have:=HQ.out; omega,hxe,hye])
     rw [hC] at hcv;rw [hS];clear hxe hye hS hC;go_wp2_with fail
     go_region
     all_goals clear hcv
     all_goals go_wp2
     all_goals
      go_roundw
      case rel=>exact ⟨k+1,q+2,hid (by have:=HQ.out; omega),by omega,by go_num,by rw [HN.out],hB.drew.alloc hB.size _⟩
      case measure=>simp [intOf]; omega
    ·have HE:Hid (k=l.length/2):=hid (by rw [HL.out]; have:=HP.out; have:=HQ.out; omega);go_wp2;go_ret;exact ⟨by rw [← HE.out]; rfl,hB⟩
end Ni
end
section
open Go.RowKit
namespace Ni
theorem pairsK_getD (f:List UInt8) (hf:rightB f=true) (k j:Nat) (hj:j<k):((pairsK f k).getD j 0).toNat=16*(f.getD (2*j) 0).toNat+(f.getD (2*j+1) 0).toNat:=by
 have h1:=rightB_getD f hf (2*j);have h2:=rightB_getD f hf (2*j+1);have e:(pairsK f k).getD j 0=UInt8.ofNat (16*(f.getD (2*j) 0).toNat+(f.getD (2*j+1) 0).toNat):=by
  simp [pairsK,List.getD,hj]
 rw [e];simp only [UInt8.toNat_ofNat'];omega
theorem nib_pairs (f:List UInt8) (hf:rightB f=true) (k i:Nat) (hi:i<2*k):nibAt ⟨(pairsK f k).toArray⟩ i=(f.getD i 0).toNat:=by
 have h1:=rightB_getD f hf (2*(i/2));have h2:=rightB_getD f hf (2*(i/2)+1);have e:=pairsK_getD f hf k (i/2) (by omega);unfold nibAt;show (if i%2=0 then ((pairsK f k).getD (i/2) 0).toNat/16 else ((pairsK f k).getD (i/2) 0).toNat%16)=_;rw [e];by_cases h:i%2=0
 ·rw [if_pos h];have e2:2*(i/2)=i:=by omega
  rw [e2] at h1 h2 ⊢;omega
 ·rw [if_neg h];have e2:2*(i/2)+1=i:=by omega
  rw [e2] at h2 ⊢;omega
theorem list_ext_toNat {a b:List UInt8} (hl:a.length=b.length) (h:∀ i,i<a.length→(a.getD i 0).toNat=(b.getD i 0).toNat):a=b:=by
 apply List.ext_getElem hl;intro i h1 h2;have:=h i h1;simp only [List.getD,List.getElem?_eq_getElem h1,List.getElem?_eq_getElem h2,Option.getD_some] at this;exact UInt8.toNat_inj.1 this
theorem nibs_pairs (f:List UInt8) (hf:rightB f=true) (k:Nat) (hk:f.length=2*k):nibsL ⟨(pairsK f k).toArray⟩=f:=by
 have hs:(⟨(pairsK f k).toArray⟩:ByteArray).size=k:=by show (pairsK f k).toArray.size=k; simp [pairsK]
 apply list_ext_toNat
 ·rw [nibsL_length,hs,hk]
 ·intro i hi;rw [nibsL_length,hs] at hi;rw [nibsL_getD _ _ (by rw [hs]; exact hi),nib_pairs f hf k i hi]
theorem pairs_nibs (s:ByteArray):pairsK (nibsL s) s.size=s.data.toList:=by
 apply list_ext_toNat
 ·rw [pairsK_length]; simp
 ·intro j hj;rw [pairsK_length] at hj;rw [pairsK_getD _ (nibsL_right s) _ _ hj,nibsL_getD s _ (by omega),nibsL_getD s _ (by omega)];unfold nibAt;rw [if_pos (by omega),if_neg (by omega),show 2*j/2=j by omega,show (2*j+1)/2=j by omega];omega
theorem packL_size (l:List UInt8) (leaf:Bool):(⟨(packL l leaf).toArray⟩:ByteArray).size=l.length/2+1:=by
 show (packL l leaf).toArray.size=_;simp [packL,pairsK]
theorem nibs_pack (l:List UInt8) (leaf:Bool) (hr:rightB l=true):nibsL ⟨(packL l leaf).toArray⟩=fullL l leaf :=
 nibs_pairs _ (fullL_right l leaf hr) _ (fullL_length l leaf)
theorem nibAt_pack (l:List UInt8) (leaf:Bool) (hr:rightB l=true) (i:Nat) (hi:i<2):nibAt ⟨(packL l leaf).toArray⟩ i=((fullL l leaf).getD i 0).toNat :=
 nib_pairs _ (fullL_right l leaf hr) _ _ (by omega)
theorem pack_good (l:List UInt8) (leaf:Bool) (hr:rightB l=true) (hl:l.length≤64):¬ Bad ⟨(packL l leaf).toArray⟩:=by
 unfold Bad;rw [nibAt_pack l leaf hr 0 (by omega),nibAt_pack l leaf hr 1 (by omega),full_0,full_1,packL_size];unfold markN;cases leaf <;> simp only [if_true,if_false,Bool.false_eq_true] <;> split <;> omega
theorem pack_leaf (l:List UInt8) (leaf:Bool) (hr:rightB l=true):leafB ⟨(packL l leaf).toArray⟩=leaf:=by
 unfold leafB;rw [nibAt_pack l leaf hr 0 (by omega),full_0];unfold markN;cases leaf <;> simp <;> omega
theorem pack_path (l:List UInt8) (leaf:Bool) (hr:rightB l=true):pathL ⟨(packL l leaf).toArray⟩=l:=by
 unfold pathL;rw [nibAt_pack l leaf hr 0 (by omega),full_0,nibs_pack l leaf hr];have hm:markN l.length leaf%2=l.length%2:=by unfold markN; cases leaf <;> simp
 rw [hm];unfold fullL;by_cases h:l.length%2=1
 ·rw [if_pos h,h];cases l with
  | nil=>simp at h
  | cons x r=>simp
 ·rw [if_neg h,show l.length%2=0 by omega];simp
theorem path_length (s:ByteArray):(pathL s).length=2*s.size-(2-nibAt s 0%2):=by
 unfold pathL; rw [List.length_drop,nibsL_length]
theorem path_le (s:ByteArray) (hb:¬ Bad s):(pathL s).length≤64:=by
 rw [path_length]; unfold Bad at hb; omega
end Ni
end
section
open Go.RowKit
namespace No
open Rl Ni
def kidP (x:It):Option ByteArray:=if x.l then (if x.bytes.length<32 then some ⟨x.bytes.toArray⟩ else none) else (if plainB x.s then some x.s else none)
def allK:List It→Option (List ByteArray)
 | []=>some []
 | x::xs=>match kidP x with
  | none=>none
  | some k=>match allK xs with
   | none=>none
   | some ks=>some (k::ks)
def one16 (k:ByteArray):List ByteArray:=k::List.replicate 15 eB
instance (s : ByteArray) : Decidable (Bad s) := by unfold Bad; infer_instance
def readPathP (x0 x1:It):Option Nd :=
 if x0.s.size=0∨Bad x0.s then none else
 if leafB x0.s then some ⟨1,pathL x0.s,x1.s,zks⟩ else (kidP x1).map fun k=>⟨2,pathL x0.s,eB,one16 k⟩
def readBranchP (xs:List It):Option Nd :=
 match allK (xs.take 16) with
 | none=>none
 | some ks=>if (xs.getD 16 it0).l=false∧(xs.getD 16 it0).s.size=0 then some ⟨3,[],eB,ks⟩ else none
def readP (xs:List It):Option Nd:=if xs.length=2 then readPathP (xs.getD 0 it0) (xs.getD 1 it0) else if xs.length=17 then readBranchP xs else none
def fitsW (R:ByteArray→Bool) (n:Nd):Bool :=
 if n.kd=1 then decide (n.v.size≠0)&&decide (n.v.size≤65552)&&decide ((kidsL n.ks).length=0) else
 if n.kd=2 then decide (0<n.p.length)&&decide (n.v.size=0)&&decide ((kidsL n.ks).length=1)&&decide ((n.ks.getD 0 eB).size≠0)&&R (n.ks.getD 0 eB) else
 if n.kd=3 then decide (n.p.length=0)&&decide (n.v.size=0)&&decide (2≤(kidsL n.ks).length)&&(kidsL n.ks).all R else false
def mayW (R:ByteArray→Bool) (n:Nd):Bool:=decide (n.p.length≤64)&&rightB n.p&&fitsW R n
theorem fitsW_congr {R R':ByteArray→Bool} {n:Nd} (h:∀ k∈n.ks,R k=R' k) (hl:n.ks.length=16):fitsW R n=fitsW R' n:=by
 unfold fitsW;have h0:R (n.ks.getD 0 eB)=R' (n.ks.getD 0 eB):=by
  apply h;rw [List.getD_eq_getElem?_getD,List.getElem?_eq_getElem (by omega)];exact List.getElem_mem _
 have h1:(kidsL n.ks).all R=(kidsL n.ks).all R':=by
  rw [Bool.eq_iff_iff,List.all_eq_true,List.all_eq_true];constructor
  ·intro g k hk; rw [← h k (List.mem_filter.1 hk).1]; exact g k hk
  ·intro g k hk; rw [h k (List.mem_filter.1 hk).1]; exact g k hk
 rw [h0,h1]
theorem mayW_congr {R R':ByteArray→Bool} {n:Nd} (h:∀ k∈n.ks,R k=R' k) (hl:n.ks.length=16):mayW R n=mayW R' n:=by
 unfold mayW;rw [fitsW_congr h hl]
def getP (s:List UInt8):Option Nd :=
 match wholeL s with
 | .error _=>none
 | .ok x=>match readP x.xs with
  | none=>none
  | some n=>if mayW (fun k=>plainB k||(if _h:k.size<32∧k.size<s.length then (getP k.data.toList).isSome else false)) n then some n else none
termination_by s.length
decreasing_by
 rw [len_s];exact _h.2
def refP (k:ByteArray):Bool:=plainB k||(decide (k.size<32)&&(getP k.data.toList).isSome)
theorem whole_back {s:List UInt8} {x:It} (hs:s.length≤4294967296) (h:wholeL s = .ok x):x.bytes=s∧Fits 0 x∧x.size≤4096:=by
 unfold wholeL at h;cases hr:readL s 0 0 with
 | error c=>rw [hr] at h; cases h
 | ok q =>
  obtain ⟨y,n,k⟩:=q;rw [hr] at h;dsimp only at h;by_cases hn:n<s.length
  ·rw [if_pos hn] at h; cases h
  ·rw [if_neg hn] at h;obtain rfl:=ok_inj h;obtain ⟨g1,g2,g3⟩:=(back s.length hs).1 _ _ _ _ _ _ (Nat.le_refl _) hr;obtain ⟨p1,p2,p3,p4⟩:=(props s.length).1 _ _ _ _ _ _ (Nat.le_refl _) hr;refine ⟨?_,g2,by omega⟩;rw [g1,List.take_of_length_le (by omega)]
theorem flatten_le {xs:List It} {x:It} (h:x∈xs):x.bytes.length≤((xs.map It.bytes).flatten).length:=by
 induction xs with
 | nil=>cases h
 | cons y ys ih =>
  rw [List.map_cons,List.flatten_cons,List.length_append];rcases List.mem_cons.1 h with rfl | h
  ·omega
  ·have:=ih h; omega
theorem bytes_len {d:Nat} {x:It} (h:Fits d x) (hb:x.bytes.length≤4294967296):x.l=true→x.bytes.length=(headL ((x.xs.map It.bytes).flatten).length true).length+((x.xs.map It.bytes).flatten).length:=by
 intro hl;cases h with
 | mk ha hs hx hy =>
  rename_i l s xs;obtain rfl:l=true:=hl;obtain rfl:=hs rfl;have hi:=inner_le (.mk true ⟨#[]⟩ xs);rw [inner_mk] at hi;rw [bytes_list xs (Nat.le_trans hi hb),List.length_append];rfl
theorem has_list {d:Nat} {x:It} (h:Fits d x) (hx:x.xs≠[]):x.l=true:=by
 cases h with
 | mk ha hs hx' hy =>
  rename_i l s xs;cases l with
  | true=>rfl
  | false=>exact absurd (hx' rfl) hx
theorem in_less {d:Nat} {x y:It} (h:Fits d x) (hb:x.bytes.length≤4294967296) (hy:y∈x.xs):y.bytes.length<x.bytes.length:=by
 have hl:=has_list h (by intro e; rw [e] at hy; cases hy);have h1:=bytes_len h hb hl;have h2:=flatten_le hy;have h3:=headL_length ((x.xs.map It.bytes).flatten).length true;omega
theorem fits_in {d:Nat} {x y:It} (h:Fits d x) (hy:y∈x.xs):Fits (d+1) y:=by
 cases h with
 | mk ha hs hx h=>exact h y hy
theorem kidP_size {x:It} {k:ByteArray} (h:kidP x=some k):plainB k=true∨k.size=x.bytes.length∧k.size<32:=by
 unfold kidP at h;split at h
 ·split at h
  ·rename_i h1;obtain rfl:=Option.some.inj h;exact .inr ⟨ba_size _,by rw [ba_size]; exact h1⟩
  ·cases h
 ·split at h
  ·rename_i h1;obtain rfl:=Option.some.inj h;exact .inl h1
  ·cases h
theorem allK_mem:∀ {xs:List It} {ks:List ByteArray},allK xs=some ks→ks.length=xs.length∧∀ k∈ks,∃ x∈xs,kidP x=some k
 | [],ks,h=>by
  obtain rfl:=Option.some.inj h;exact ⟨rfl,fun k hk=>by cases hk⟩
 | x::xs,ks,h=>by
  unfold allK at h;split at h
  ·cases h
  ·rename_i k hk;split at h
   ·cases h
   ·rename_i ks' hks;obtain rfl:=Option.some.inj h;obtain ⟨h1,h2⟩:=allK_mem hks;refine ⟨by simp [h1],fun j hj=>?_⟩;rcases List.mem_cons.1 hj with rfl | hj
    ·exact ⟨x,List.mem_cons_self ..,hk⟩
    ·obtain ⟨y,hy,e⟩:=h2 j hj;exact ⟨y,List.mem_cons_of_mem _ hy,e⟩
theorem eB_plain:plainB eB=true:=decide_eq_true (.inl rfl)
theorem one16_length (k:ByteArray):(one16 k).length=16:=by simp [one16]
theorem getD_mem' {xs:List It} {i:Nat} (h:i<xs.length):xs.getD i it0∈xs:=by
 rw [List.getD_eq_getElem?_getD,List.getElem?_eq_getElem h];exact List.getElem_mem _
theorem readP_kids {xs:List It} {n:Nd} (h:readP xs=some n):n.ks.length=16∧∀ k∈n.ks,plainB k=true∨∃ x∈xs,kidP x=some k:=by
 have hz:∀ k∈zks,plainB k=true:=fun k hk=>by
  rw [List.eq_of_mem_replicate hk]; exact eB_plain
 unfold readP at h;by_cases h2:xs.length=2
 ·rw [if_pos h2] at h;unfold readPathP at h;split at h
  ·cases h
  ·split at h
   ·obtain rfl:=Option.some.inj h;exact ⟨rfl,fun k hk=>.inl (hz k hk)⟩
   ·obtain ⟨k,hk,rfl⟩:=Option.map_eq_some_iff.1 h;refine ⟨one16_length k,fun j hj=>?_⟩;rcases List.mem_cons.1 hj with rfl | hj
    ·exact .inr ⟨_,getD_mem' (by omega),hk⟩
    ·rw [List.eq_of_mem_replicate hj]; exact .inl eB_plain
 ·rw [if_neg h2] at h;by_cases h17:xs.length=17
  ·rw [if_pos h17] at h;unfold readBranchP at h;split at h
   ·cases h
   ·rename_i ks hks;split at h
    ·obtain rfl:=Option.some.inj h;obtain ⟨g1,g2⟩:=allK_mem hks;refine ⟨by rw [g1,List.length_take]; omega,fun k hk=>?_⟩;obtain ⟨x,hx,e⟩:=g2 k hk;exact .inr ⟨x,List.mem_of_mem_take hx,e⟩
    ·cases h
  ·rw [if_neg h17] at h; cases h
theorem kid_less {s:List UInt8} {x:It} {n:Nd} (hs:s.length≤4294967296) (h:wholeL s = .ok x) (hn:readP x.xs=some n):n.ks.length=16∧∀ k∈n.ks,plainB k=true∨(k.size<32∧k.size<s.length):=by
 obtain ⟨g1,g2,g3⟩:=whole_back hs h;obtain ⟨h1,h2⟩:=readP_kids hn;refine ⟨h1,fun k hk=>?_⟩;rcases h2 k hk with hp | ⟨y,hy,e⟩
 ·exact .inl hp
 ·rcases kidP_size e with hp | ⟨e1,e2⟩
  ·exact .inl hp
  ·have:=in_less g2 (by rw [g1]; exact hs) hy;rw [g1] at this;exact .inr ⟨e2,by omega⟩
theorem getP_eq (s:List UInt8) (hs:s.length≤4294967296):getP s=match wholeL s with
  | .error _=>none
  | .ok x=>match readP x.xs with
   | none=>none
   | some n=>if mayW refP n then some n else none:=by
 rw [getP];cases hw:wholeL s with
 | error c=>rfl
 | ok x =>
  dsimp only;cases hn:readP x.xs with
  | none=>rfl
  | some n =>
   dsimp only;obtain ⟨h1,h2⟩:=kid_less hs hw hn;rw [mayW_congr (R':=refP) (fun k hk=>?_) h1];unfold refP;rcases h2 k hk with hp | hb
   ·rw [hp]; rfl
   ·rw [dif_pos hb];simp [hb.1]
theorem getP_some {s:List UInt8} (hs:s.length≤4294967296) {n:Nd} (h:getP s=some n):∃ x,wholeL s = .ok x∧readP x.xs=some n∧mayW refP n=true:=by
 rw [getP_eq s hs] at h;split at h
 ·cases h
 ·rename_i x hw;split at h
  ·cases h
  ·rename_i m hm;split at h
   ·rename_i hmay;obtain rfl:=Option.some.inj h;exact ⟨x,hw,hm,hmay⟩
   ·cases h
end No
end
section
open Go.RowKit
namespace Rf
open Rl Ni No
theorem plain_size {k:ByteArray} (h:plainB k=true):k.size=0∨k.size=32:=of_decide_eq_true h
def ownS (k:ByteArray):Nat:=if k.size<32 then k.size else 0
theorem own_plain {k:ByteArray} (h:plainB k=true):ownS k=0:=by
 unfold ownS;have:=plain_size h;split <;> omega
theorem kid_own {x:It} {k:ByteArray} (h:kidP x=some k):ownS k≤x.bytes.length:=by
 rcases kidP_size h with hp | ⟨h1,h2⟩
 ·rw [own_plain hp]; omega
 ·unfold ownS; rw [if_pos h2]; omega
theorem allK_own:∀ {xs:List It} {ks:List ByteArray},allK xs=some ks→(ks.map ownS).sum≤((xs.map It.bytes).flatten).length
 | [],ks,h=>by
  obtain rfl:=Option.some.inj h;simp
 | x::xs,ks,h=>by
  unfold allK at h;split at h
  ·cases h
  ·rename_i k hk;split at h
   ·cases h
   ·rename_i ks' hks;obtain rfl:=Option.some.inj h;have h1:=allK_own hks;have h2:=kid_own hk;rw [List.map_cons,List.sum_cons,List.map_cons,List.flatten_cons,List.length_append];omega
theorem sum_zero:∀ (m:Nat),((List.replicate m eB).map ownS).sum=0
 | 0=>rfl
 | m+1=>by rw [List.replicate_succ,List.map_cons,List.sum_cons,sum_zero m]; rfl
theorem take_flat (xs:List It) (q:Nat):(((xs.take q).map It.bytes).flatten).length≤((xs.map It.bytes).flatten).length:=by
 have h:(xs.map It.bytes).flatten=((xs.take q).map It.bytes).flatten++((xs.drop q).map It.bytes).flatten:=by
  rw [← List.flatten_append,← List.map_append,List.take_append_drop]
 rw [h,List.length_append];omega
theorem readP_own {xs:List It} {n:Nd} (h:readP xs=some n):(n.ks.map ownS).sum≤((xs.map It.bytes).flatten).length:=by
 unfold readP at h;by_cases h2:xs.length=2
 ·rw [if_pos h2] at h;unfold readPathP at h;split at h
  ·cases h
  ·split at h
   ·obtain rfl:=Option.some.inj h;have:(zks.map ownS).sum=0:=sum_zero 16;show (zks.map ownS).sum≤_;omega
   ·obtain ⟨k,hk,rfl⟩:=Option.map_eq_some_iff.1 h;have h1:=kid_own hk;have h3:=flatten_le (getD_mem' (xs:=xs) (i:=1) (by omega));show ((k::List.replicate 15 eB).map ownS).sum≤_;rw [List.map_cons,List.sum_cons,sum_zero];omega
 ·rw [if_neg h2] at h;by_cases h17:xs.length=17
  ·rw [if_pos h17] at h;unfold readBranchP at h;split at h
   ·cases h
   ·rename_i ks hks;split at h
    ·obtain rfl:=Option.some.inj h;exact Nat.le_trans (allK_own hks) (take_flat xs 16)
    ·cases h
  ·rw [if_neg h17] at h; cases h
theorem read_some {xs:List It} {n:Nd} (h:readP xs=some n):xs≠[]:=by
 rintro rfl;unfold readP at h;rw [if_neg (by decide),if_neg (by decide)] at h;cases h
theorem got_own {s:List UInt8} (hs:s.length≤4294967296) {n:Nd} (h:getP s=some n):(n.ks.map ownS).sum+1≤s.length:=by
 obtain ⟨x,h1,h2,h3⟩:=getP_some hs h;obtain ⟨g1,g2,g3⟩:=whole_back hs h1;have hl:=has_list g2 (read_some h2);have hb:=bytes_len g2 (by rw [g1]; exact hs) hl;have ho:=readP_own h2;have hh:=headL_length ((x.xs.map It.bytes).flatten).length true;rw [g1] at hb;omega
end Rf
end
namespace Sh
def turn1 (x:Nat):Nat:=x/2+x%2*2147483648
def turnN:Nat→Nat→Nat
 | x,0=>x
 | x,n+1=>turnN (turn1 x) n
theorem turn1_lt (x:Nat) (h:x<4294967296):turn1 x<4294967296:=by unfold turn1; omega
theorem turnN_lt:∀ (n x:Nat),x<4294967296→turnN x n<4294967296
 | 0,_,h=>h
 | n+1,x,h=>turnN_lt n _ (turn1_lt x h)
theorem turnN_succ:∀ (n x:Nat),turnN x (n+1)=turn1 (turnN x n)
 | 0,_=>rfl
 | n+1,x=>by
  show turnN (turn1 x) (n+1)=turn1 (turnN (turn1 x) n);exact turnN_succ n (turn1 x)
theorem turnN_eq:∀ (n x:Nat),x<4294967296→n≤32→turnN x n=x/2 ^ n+x%2 ^ n*2 ^ (32-n)
 | 0,x,_,_=>by simp [turnN,Nat.mod_one]
 | n+1,x,h,hn=>by
  rw [turnN_succ,turnN_eq n x h (by omega)];unfold turn1;have e1:2 ^ (32-n)=2*2 ^ (32-(n+1)):=by rw [← Nat.pow_succ']; congr 1; omega
  have e2:(2:Nat) ^ (n+1)=2 ^ n*2:=Nat.pow_succ ..
  have e3:(2:Nat) ^ n*2 ^ (32-(n+1))=2147483648:=by
   rw [← Nat.pow_add,show n+(32-(n+1))=31 by omega]
  have hp:0<2 ^ n:=Nat.pow_pos (by omega);generalize 2 ^ (32-(n+1))=A at *
  generalize 2 ^ n=B at *
  rw [e1,e2,← Nat.div_div_eq_div_mul,Nat.mod_mul];generalize hq:x/B=q;generalize x%B=r;have h1:r*(2*A)=2*(r*A):=by rw [Nat.mul_left_comm]
  have h2:(r+B*(q%2))*A=r*A+q%2*2147483648:=by
   rw [Nat.add_mul,← e3,Nat.mul_assoc,Nat.mul_left_comm (q%2) B A]
  rw [h1,h2];generalize r*A=z;omega
def shiftN:Nat→Nat→Nat
 | x,0=>x
 | x,n+1=>shiftN (x/2) n
theorem shiftN_eq:∀ (n x:Nat),shiftN x n=x/2 ^ n
 | 0,x=>by simp [shiftN]
 | n+1,x=>by
  show shiftN (x/2) n=_;rw [shiftN_eq n,Nat.div_div_eq_div_mul,Nat.pow_succ']
theorem shiftN_succ:∀ (n x:Nat),shiftN x (n+1)=shiftN x n/2
 | 0,_=>rfl
 | n+1,x=>by
  show shiftN (x/2) (n+1)=shiftN (x/2) n/2;exact shiftN_succ n (x/2)
def kList:List Nat:=[
 1116352408,1899447441,3049323471,3921009573,961987163,1508970993,2453635748,2870763221,
 3624381080,310598401,607225278,1426881987,1925078388,2162078206,2614888103,3248222580,
 3835390401,4022224774,264347078,604807628,770255983,1249150122,1555081692,1996064986,
 2554220882,2821834349,2952996808,3210313671,3336571891,3584528711,113926993,338241895,
 666307205,773529912,1294757372,1396182291,1695183700,1986661051,2177026350,2456956037,
 2730485921,2820302411,3259730800,3345764771,3516065817,3600352804,4094571909,275423344,
 430227734,506948616,659060556,883997877,958139571,1322822218,1537002063,1747873779,
 1955562222,2024104815,2227730452,2361852424,2428436474,2756734187,3204031479,3329325298]
def kN (i:Nat):Nat:=kList.getD i 0
end Sh
section
open Go.RowKit
namespace Sh
theorem ret_u64 {a b:Int} (h:a=b):Ending.returned (.int .u64 a) = .returned (.int .u64 b):=by rw [h]
theorem low_any (x:Nat) (hx:x<18446744073709551616) (w:World) :
  Calls Tryz.prog 155 #[.int .u64 x] w fun e w'=>e = .returned (.int .u64 (x%4294967296:Nat))∧w=w':=by
 go_enter Tryz.func155,Tryz.ntmps155;go_wp2;go_ret;exact ⟨ret_u64 (by omega),rfl⟩
theorem turn_any (x n:Nat) (hx:x<4294967296) (hn:n≤1000) (w:World) :
  Calls Tryz.prog 153 #[.int .u64 x,.int .i64 n] w fun e w'=>e = .returned (.int .u64 (turnN x n:Nat))∧w=w':=by
 have HT:=hid (fun k=>turnN_lt k x hx);have HS:=hid (fun k=>turnN_succ k x);clear hx;go_enter Tryz.func153,Tryz.ntmps153;go_wp2;go_loop [0,5] (fun v i=>∃ k:Nat,k≤n∧i = .int .i64 k∧v = .int .u64 (turnN x k:Nat)) (fun _ i=>n-(intOf i).toNat)
 case atStart=>exact ⟨0,Nat.zero_le _,rfl,rfl⟩
 case round =>
  obtain ⟨k,hk,rfl,rfl⟩:=hrel;have hy:=HT.out k;have hs:=HS.out k;obtain ⟨y,hye⟩:∃ y,turnN x k=y:=⟨_,rfl⟩
  rw [hye] at hy hs ⊢;have HY:=hid hs;have HE:=hid hye;clear hs hye;by_cases hlt:k<n
  ·go_wp2;go_round
   case rel=>exact ⟨k+1,by omega,by go_num,by rw [HY.out]; unfold turn1; go_num⟩
   case measure=>simp [intOf]; omega
  ·obtain rfl:k=n:=by omega
   go_wp2;go_ret;exact ⟨by rw [HE.out]; rfl,rfl⟩
theorem shift_any (x n:Nat) (hx:x<4294967296) (hn:n≤1000) (w:World) :
  Calls Tryz.prog 154 #[.int .u64 x,.int .i64 n] w fun e w'=>e = .returned (.int .u64 (shiftN x n:Nat))∧w=w':=by
 have HT:Hid (∀ k,shiftN x k<4294967296):=hid (fun k=>by rw [shiftN_eq]; exact Nat.lt_of_le_of_lt (Nat.div_le_self _ _) hx);have HS:=hid (fun k=>shiftN_succ k x);clear hx;go_enter Tryz.func154,Tryz.ntmps154;go_wp2;go_loop [0,5] (fun v i=>∃ k:Nat,k≤n∧i = .int .i64 k∧v = .int .u64 (shiftN x k:Nat)) (fun _ i=>n-(intOf i).toNat)
 case atStart=>exact ⟨0,Nat.zero_le _,rfl,rfl⟩
 case round =>
  obtain ⟨k,hk,rfl,rfl⟩:=hrel;have hy:=HT.out k;have hs:=HS.out k;obtain ⟨y,hye⟩:∃ y,shiftN x k=y:=⟨_,rfl⟩
  rw [hye] at hy hs ⊢;have HY:=hid hs;have HE:=hid hye;clear hs hye;by_cases hlt:k<n
  ·go_wp2;go_round
   case rel=>exact ⟨k+1,by omega,by go_num,by rw [HY.out]; go_num⟩
   case measure=>simp [intOf]; omega
  ·obtain rfl:k=n:=by omega
   go_wp2;go_ret;exact ⟨by rw [HE.out]; rfl,rfl⟩
theorem turn_c (x n:Nat) (N:Int) (hN:N=n) (hx:x<4294967296) (hn:n≤1000) (w:World) :
  Calls Tryz.prog 153 #[.int .u64 x,.int .i64 N] w fun e w'=>e = .returned (.int .u64 (turnN x n:Nat))∧w=w':=by
 subst hN; exact turn_any x n hx hn w
theorem wpList_run {P:Program} {w:World} {ops:Array Oper} {rest:List Oper} {o:Oper} {a:Act} {Q:Exit→Act→World→Prop} (hgd:o.guard=none) (v:Value) (w':World)
  (hr:(execOp a.eval o).run P w = .ok (.value v) w') (h:wpList P ops Q rest (a.put o.dst v) w'):wpList P ops Q (o::rest) a w :=
 wpList_plain hgd fun K hK=>by
  unfold Oper.wp;rw [hr];exact hK _ _ h
def wc (l:List Nat):Array Value:=(l.map fun (x:Nat)=>Value.int .u64 (x:Int)).toArray
theorem wc_cell (w:World) (l:List Nat) (t:TypeId) (i:Nat) (hi:i<l.length):(w.alloc (.cells (wc l) t)).cell? ⟨w.heap.size,i,none⟩=some (.int .u64 (l.getD i 0:Nat)):=by
 rw [World.cell?_alloc_mark];simp [wc,List.getD,hi]
theorem k_len:kList.length=64:=by decide +kernel
theorem k_any (i:Nat) (hi:i<64) (w:World) :
  Calls Tryz.prog 156 #[.int .i64 i] w fun e w'=>e = .returned (.int .u64 (kN i:Nat))∧Below w.heap.size w w':=by
 have hc:=wc_cell w kList 164 i (by rw [k_len]; exact hi);obtain ⟨y,hy⟩:∃ y,kN i=y:=⟨_,rfl⟩
 have hy2:kList.getD i 0=y:=hy;rw [hy2] at hc;rw [hy];clear hy hy2;go_enter Tryz.func156,Tryz.ntmps156;go_wp2_with (refine wpList_run (o:=⟨some 4,_,_,_,_,_⟩) rfl (.slice (some ⟨w.heap.size,0,none⟩) 64 64) (w.alloc (.cells (wc kList) 164)) (by kernel_rfl) ?_)
 go_ret;exact ⟨rfl,(Below.refl _ _).alloc (Nat.le_refl _) _⟩
end Sh
end
namespace Sh
def wordP (g:Nat→Nat) (i:Nat):Nat→Nat
 | 0=>0
 | j+1=>256*wordP g i j+g (4*i+j)
theorem wordP_lt (g:Nat→Nat) (hg:∀ q,g q<256) (i:Nat):∀ j,wordP g i j<256 ^ j
 | 0=>by simp [wordP]
 | j+1=>by
  have:=wordP_lt g hg i j;have:=hg (4*i+j);rw [wordP,Nat.pow_succ];omega
def sg0 (x:Nat):Nat:=turnN x 7 ^^^ turnN x 18 ^^^ shiftN x 3
def sg1 (x:Nat):Nat:=turnN x 17 ^^^ turnN x 19 ^^^ shiftN x 10
def nextW (g:Nat→Nat) (l:List Nat) (k:Nat):Nat :=
 if k<16 then wordP g k 4 else (l.getD (k-16) 0+sg0 (l.getD (k-15) 0)+l.getD (k-7) 0+sg1 (l.getD (k-2) 0))%4294967296
def schW (g:Nat→Nat):Nat→List Nat
 | 0=>[]
 | k+1=>schW g k++[nextW g (schW g k) k]
theorem schW_length (g:Nat→Nat):∀ k,(schW g k).length=k
 | 0=>rfl
 | k+1=>by rw [schW,List.length_append,schW_length g k]; rfl
theorem nextW_lt (g:Nat→Nat) (hg:∀ q,g q<256) (l:List Nat) (k:Nat):nextW g l k<4294967296:=by
 unfold nextW;split
 ·exact wordP_lt g hg k 4
 ·exact Nat.mod_lt _ (by omega)
theorem schW_lt (g:Nat→Nat) (hg:∀ q,g q<256):∀ k,∀ x∈schW g k,x<4294967296
 | 0,x,h=>by cases h
 | k+1,x,h=>by
  rw [schW] at h;rcases List.mem_append.1 h with h | h
  ·exact schW_lt g hg k x h
  ·rw [List.mem_singleton.1 h]; exact nextW_lt g hg _ _
theorem getD_lt {l:List Nat} (h:∀ x∈l,x<4294967296) (j:Nat):l.getD j 0<4294967296:=by
 by_cases hj:j<l.length
 ·rw [List.getD,List.getElem?_eq_getElem hj]; exact h _ (List.getElem_mem hj)
 ·rw [List.getD,List.getElem?_eq_none (by omega)]; decide
theorem xor3_lt {a b c:Nat} (ha:a<4294967296) (hb:b<4294967296) (hc:c<4294967296):a ^^^ b ^^^ c<4294967296 :=
 Nat.xor_lt_two_pow (n:=32) (Nat.xor_lt_two_pow (n:=32) ha hb) hc
theorem shiftN_lt (x n:Nat) (h:x<4294967296):shiftN x n<4294967296:=by rw [shiftN_eq]; exact Nat.lt_of_le_of_lt (Nat.div_le_self _ _) h
theorem sg0_lt (x:Nat) (h:x<4294967296):sg0 x<4294967296:=xor3_lt (turnN_lt _ _ h) (turnN_lt _ _ h) (shiftN_lt _ _ h)
theorem sg1_lt (x:Nat) (h:x<4294967296):sg1 x<4294967296:=xor3_lt (turnN_lt _ _ h) (turnN_lt _ _ h) (shiftN_lt _ _ h)
theorem kN_lt (k:Nat):kN k<4294967296:=getD_lt (by decide +kernel) k
def bs1 (e:Nat):Nat:=turnN e 6 ^^^ turnN e 11 ^^^ turnN e 25
def bs0 (a:Nat):Nat:=turnN a 2 ^^^ turnN a 13 ^^^ turnN a 22
def pickN (e f g:Nat):Nat:=(e &&& f) ||| ((4294967295-e) &&& g)
def mostN (a b c:Nat):Nat:=(a &&& b) ||| (a &&& c) ||| (b &&& c)
theorem bs1_lt (x:Nat) (h:x<4294967296):bs1 x<4294967296:=xor3_lt (turnN_lt _ _ h) (turnN_lt _ _ h) (turnN_lt _ _ h)
theorem bs0_lt (x:Nat) (h:x<4294967296):bs0 x<4294967296:=xor3_lt (turnN_lt _ _ h) (turnN_lt _ _ h) (turnN_lt _ _ h)
theorem pickN_lt (e f g:Nat) (he:e<4294967296):pickN e f g<4294967296 :=
 Nat.or_lt_two_pow (n:=32) (Nat.lt_of_le_of_lt Nat.and_le_left he) (Nat.lt_of_le_of_lt Nat.and_le_left (by omega))
theorem mostN_lt (a b c:Nat) (ha:a<4294967296) (hb:b<4294967296):mostN a b c<4294967296 :=
 Nat.or_lt_two_pow (n:=32) (Nat.or_lt_two_pow (n:=32) (Nat.lt_of_le_of_lt Nat.and_le_left ha) (Nat.lt_of_le_of_lt Nat.and_le_left ha)) (Nat.lt_of_le_of_lt Nat.and_le_left hb)
def xN (k w e f g h:Nat):Nat:=(h+bs1 e+pickN e f g+k+w)%4294967296
def yN (a b c:Nat):Nat:=(bs0 a+mostN a b c)%4294967296
def roundL (k w:Nat) (v:List Nat):List Nat :=
 [(xN k w (v.getD 4 0) (v.getD 5 0) (v.getD 6 0) (v.getD 7 0)+yN (v.getD 0 0) (v.getD 1 0) (v.getD 2 0))%4294967296,v.getD 0 0,v.getD 1 0,v.getD 2 0,
  (v.getD 3 0+xN k w (v.getD 4 0) (v.getD 5 0) (v.getD 6 0) (v.getD 7 0))%4294967296,v.getD 4 0,v.getD 5 0,v.getD 6 0]
def runL (ws:List Nat) (h:List Nat):Nat→List Nat
 | 0=>h
 | k+1=>roundL (kN k) (ws.getD k 0) (runL ws h k)
theorem runL_length (ws h:List Nat) (hh:h.length=8):∀ k,(runL ws h k).length=8
 | 0=>hh
 | _+1=>rfl
theorem runL_lt (ws h:List Nat) (hh:∀ x∈h,x<4294967296):∀ k,∀ x∈runL ws h k,x<4294967296
 | 0=>hh
 | k+1=>by
  have ih:=fun j=>getD_lt (runL_lt ws h hh k) j;intro x hx;simp only [runL,roundL,List.mem_cons,List.not_mem_nil,or_false] at hx;rcases hx with rfl | rfl | rfl | rfl | rfl | rfl | rfl | rfl <;> first | exact ih _ | exact Nat.mod_lt _ (by omega)
def addK (h v:List Nat) (k:Nat):List Nat:=(List.range k).map fun i=>(h.getD i 0+v.getD i 0)%4294967296
def blockL (g:Nat→Nat) (h:List Nat):List Nat:=addK h (runL (schW g 64) h 64) 8
theorem addK_snoc (h v:List Nat) (k:Nat):addK h v (k+1)=addK h v k++[(h.getD k 0+v.getD k 0)%4294967296]:=by simp [addK,List.range_succ]
theorem addK_length (h v:List Nat) (k:Nat):(addK h v k).length=k:=by simp [addK]
theorem addK_lt (h v:List Nat) (k:Nat):∀ x∈addK h v k,x<4294967296:=by
 intro x hx;simp only [addK,List.mem_map] at hx;obtain ⟨_,_,rfl⟩:=hx;exact Nat.mod_lt _ (by omega)
def addM (h v:List Nat) (j:Nat):List Nat:=(List.range 8).map fun i=>if i<j then (h.getD i 0+v.getD i 0)%4294967296 else h.getD i 0
theorem addM_length (h v:List Nat) (j:Nat):(addM h v j).length=8:=by simp [addM]
theorem addM_zero (h v:List Nat) (hh:h.length=8):addM h v 0=h:=by
 apply List.ext_getElem
 ·rw [addM_length,hh]
 ·intro i h1 h2;simp [addM,List.getD,h2]
theorem addM_all (h v:List Nat):addM h v 8=addK h v 8:=by
 unfold addM addK;apply List.map_congr_left;intro i hi;rw [if_pos (List.mem_range.1 hi)]
theorem addM_getD (h v:List Nat) (j:Nat) (hj:j<8):(addM h v j).getD j 0=h.getD j 0:=by simp [addM,List.getD,hj]
theorem addM_set (h v:List Nat) (j:Nat) (hj:j<8):(addM h v j).set j ((h.getD j 0+v.getD j 0)%4294967296)=addM h v (j+1):=by
 apply List.ext_getElem
 ·simp [addM_length]
 ·intro i h1 h2;rw [addM_length] at h2;by_cases e:i=j
  ·subst e; simp [addM]
  ·rw [List.getElem_set_ne (by omega)];have:i<j+1↔i<j:=by omega
   simp [addM,this]
theorem eight (l:List Nat) (h:l.length=8):∃ x0 x1 x2 x3 x4 x5 x6 x7,l=[x0,x1,x2,x3,x4,x5,x6,x7]:=by
 match l,h with
 | [x0,x1,x2,x3,x4,x5,x6,x7],_=>exact ⟨_,_,_,_,_,_,_,_,rfl⟩
def zerosN (n:Nat):Nat:=(119-n%64)%64
def fillK (l:List UInt8) (k:Nat):List UInt8:=l++[128]++List.replicate k 0
def beK (N k:Nat):List UInt8:=((List.range k).map fun j=>UInt8.ofNat (N/256 ^ j%256)).reverse
def fillL (l:List UInt8):List UInt8:=fillK l (zerosN l.length)++beK (8*l.length) 8
theorem fillK_snoc (l:List UInt8) (k:Nat):fillK l (k+1)=fillK l k++[0]:=by
 simp [fillK,List.replicate_succ']
theorem fillK_length (l:List UInt8) (k:Nat):(fillK l k).length=l.length+1+k:=by simp [fillK]; omega
theorem beK_snoc (N k:Nat):beK N (k+1)=[UInt8.ofNat (N/256 ^ k%256)]++beK N k:=by
 simp [beK,List.range_succ]
theorem beK_length (N k:Nat):(beK N k).length=k:=by simp [beK]
theorem fillL_length (l:List UInt8):(fillL l).length=l.length+9+zerosN l.length:=by simp [fillL,fillK_length,beK_length]; omega
theorem fillL_mod (l:List UInt8):(fillL l).length%64=0:=by rw [fillL_length]; unfold zerosN; omega
def start:List Nat:=[1779033703,3144134277,1013904242,2773480762,1359893119,2600822924,528734635,1541459225]
def byteK (t:List UInt8) (k q:Nat):Nat:=(t.getD (64*k+q) 0).toNat
def hashK (t:List UInt8):Nat→List Nat
 | 0=>start
 | k+1=>blockL (byteK t k) (hashK t k)
def mixK (t:List UInt8) (h:List Nat):Nat→List Nat
 | 0=>h
 | k+1=>blockL (byteK t k) (mixK t h k)
theorem mixK_start (t:List UInt8):∀ k,mixK t start k=hashK t k
 | 0=>rfl
 | k+1=>by rw [mixK,hashK,mixK_start t k]
theorem mixK_length (t:List UInt8) (h:List Nat) (hh:h.length=8):∀ k,(mixK t h k).length=8
 | 0=>hh
 | _+1=>addK_length _ _ _
theorem mixK_lt (t:List UInt8) (h:List Nat) (hh:∀ x∈h,x<4294967296):∀ k,∀ x∈mixK t h k,x<4294967296
 | 0=>hh
 | _+1=>addK_lt _ _ _
theorem wordP_congr {g g':Nat→Nat} (i:Nat):∀ j,(∀ q,q<4*i+j→g q=g' q)→wordP g i j=wordP g' i j
 | 0,_=>rfl
 | j+1,h=>by rw [wordP,wordP,wordP_congr i j (fun q hq=>h q (by omega)),h _ (by omega)]
theorem schW_congr {g g':Nat→Nat} (h:∀ q,q<64→g q=g' q):∀ k,schW g k=schW g' k
 | 0=>rfl
 | k+1=>by
  rw [schW,schW,schW_congr h k];congr 2;unfold nextW;split
  ·exact wordP_congr k 4 (fun q hq=>h q (by omega))
  ·rfl
theorem blockL_congr {g g':Nat→Nat} (h:∀ q,q<64→g q=g' q) (hs:List Nat):blockL g hs=blockL g' hs:=by
 unfold blockL;rw [schW_congr h]
theorem mixK_more (t u:List UInt8) (a:Nat) (ht:t.length=64*a) (h:List Nat):∀ b,mixK (t++u) h (a+b)=mixK u (mixK t h a) b
 | 0=>by
  have:∀ k,k≤a→mixK (t++u) h k=mixK t h k:=by
   intro k
   induction k with
   | zero=>intro _; rfl
   | succ k ih =>
    intro hk;rw [mixK,mixK,ih (by omega)];refine blockL_congr (fun q hq=>?_) _;unfold byteK;rw [List.getD,List.getD,List.getElem?_append_left (by omega)]
  exact this a (Nat.le_refl _)
 | b+1=>by
  show mixK (t++u) h (a+b+1)=_;rw [mixK,mixK,mixK_more t u a ht h b];refine blockL_congr (fun q _=>?_) _;unfold byteK;rw [List.getD,List.getD,List.getElem?_append_right (by omega),ht,show 64*(a+b)+q-64*a=64*b+q by omega]
theorem hashK_length (t:List UInt8):∀ k,(hashK t k).length=8
 | 0=>rfl
 | _+1=>addK_length _ _ _
theorem hashK_lt (t:List UInt8):∀ k,∀ x∈hashK t k,x<4294967296
 | 0=>by show ∀ x∈start,x<4294967296; decide
 | _+1=>addK_lt _ _ _
def byteAt (s:ByteArray) (q:Nat):Nat:=(s.data.toList.getD q 0).toNat
theorem byteAt_lt (s:ByteArray) (q:Nat):byteAt s q<256:=UInt8.toNat_lt _
theorem byteAt_eq (s:ByteArray) (q:Nat) (h:q<s.size):s[q].toNat=byteAt s q:=by
 have hl:q<s.data.toList.length:=by simpa using h
 unfold byteAt;rw [List.getD,List.getElem?_eq_getElem hl]; rfl
def wByte (h:List Nat) (i:Nat):Nat:=h.getD (i/4) 0/256 ^ (3-i%4)%256
def outK (h:List Nat) (k:Nat):List UInt8:=(List.range k).map fun i=>UInt8.ofNat (wByte h i)
theorem outK_snoc (h:List Nat) (k:Nat):outK h (k+1)=outK h k++[UInt8.ofNat (wByte h k)]:=by simp [outK,List.range_succ]
theorem outK_length (h:List Nat) (k:Nat):(outK h k).length=k:=by simp [outK]
def sumL (l:List UInt8):List UInt8:=outK (hashK (fillL l) ((fillL l).length/64)) 32
theorem sumL_length (l:List UInt8):(sumL l).length=32:=outK_length _ _
end Sh
section
open Go.RowKit
namespace Sh
theorem conv_one (v:Int) (x:Nat) (hx:x<256) (hv:v=x) (w:World) :
  Sem.run Tryz.prog (convert 51 9 (Value.slice (some ⟨w.heap.size,0,none⟩) 1 1)) (w.alloc (.cells #[.int .u8 v] 5)) = .ok (.string ⟨#[UInt8.ofNat x]⟩) (w.alloc (.cells #[.int .u8 v] 5)):=by
 subst hv;have h:=run_convert_bytes_back (P:=Tryz.prog) (w.alloc (.cells #[.int .u8 x] 5)) 51 9 5 ⟨w.heap.size,0,none⟩ 1 [UInt8.ofNat x] Tryz.underlying51 Tryz.underlying5 Tryz.underlying9
  (fun j hj=>by
   obtain rfl:j=0:=by simpa using hj
   have e:(UInt8.ofNat x).toNat=x:=by simp; omega
   simp [Addr.add,e])
 exact h
theorem ba_cat (x y:List UInt8):(⟨x.toArray⟩:ByteArray)++⟨y.toArray⟩=⟨(x++y).toArray⟩:=by
 have h:((⟨x.toArray⟩:ByteArray)++⟨y.toArray⟩).data=(x++y).toArray:=by
  rw [ByteArray.data_append]; simp
 cases e:((⟨x.toArray⟩:ByteArray)++⟨y.toArray⟩) with
 | mk d=>rw [e] at h; simp only at h; rw [h]
theorem ba_size (x:List UInt8):(⟨x.toArray⟩:ByteArray).size=x.length:=by show x.toArray.size=_; simp
theorem fill_any (l:List UInt8) (hl:l.length≤1000000) (w:World) :
  Calls Tryz.prog 128 #[.string ⟨l.toArray⟩] w fun e w'=>e = .returned (.string ⟨(fillL l).toArray⟩)∧Below w.heap.size w w':=by
 obtain ⟨s,hs⟩:∃ s,(⟨l.toArray⟩:ByteArray)=s:=⟨_,rfl⟩
 have hsz:s.size=l.length:=by rw [← hs,ba_size]
 have HST:Hid (s++⟨#[128]⟩=⟨(fillK l 0).toArray⟩):=hid (by rw [← hs]; exact (ba_cat l [128]).trans (by simp [fillK]));have hle:s.size≤1000000:=by omega
 rw [hs];have HZ:=hid hsz;clear hs hsz;go_enter Tryz.func128,Tryz.ntmps128;go_wp2;go_loop [3] (fun t=>∃ k:Nat,Hid (k≤zerosN l.length)∧t = .string ⟨(fillK l k).toArray⟩) (fun t=>match t with | .string b=>1100000-b.size | _=>0)
 case atStart=>exact ⟨0,hid (Nat.zero_le _),by rw [HST.out]⟩
 case round =>
  obtain ⟨k,HK,rfl⟩:=hrel;have hz:zerosN l.length<64:=Nat.mod_lt _ (by omega);have hk:=HK.out;have hsz:(⟨(fillK l k).toArray⟩:ByteArray).size=l.length+1+k:=by rw [ba_size,fillK_length]
  have HN:Hid ((⟨(fillK l k).toArray⟩:ByteArray)++⟨#[0]⟩=⟨(fillK l (k+1)).toArray⟩):=hid (by rw [fillK_snoc]; exact ba_cat _ [0]);have HZ2:Hid ((⟨(fillK l (k+1)).toArray⟩:ByteArray).size=l.length+1+(k+1)):=hid (by rw [ba_size,fillK_length]);by_cases hlt:k<zerosN l.length
  ·have hne:(((l.length+1+k:Nat):Int)%64 != 56)=true:=by
    unfold zerosN at hlt; simp; omega
   obtain ⟨T,hT⟩:∃ T,(⟨(fillK l k).toArray⟩:ByteArray)=T:=⟨_,rfl⟩
   obtain ⟨L,hL⟩:∃ L,l.length+1+k=L:=⟨_,rfl⟩
   rw [hT] at hsz HN ⊢;rw [hL] at hsz hne;have hLb:L≤1000100:=by have:=HZ.out; omega
   have HL:=hid hL;have HLt:=hid hlt;clear hT hL hk hlt hz;go_wp2;go_round
   case rel=>exact ⟨k+1,hid (by have:=HLt.out; omega),by rw [HN.out]⟩
   case measure =>
    show 1100000-(T++⟨#[0]⟩:ByteArray).size<1100000-T.size;rw [HN.out,HZ2.out,hsz];have:=HL.out;omega
  ·have hkz:k=zerosN l.length:=by omega
   have hne:(((l.length+1+k:Nat):Int)%64 != 56)=false:=by
    rw [hkz]; unfold zerosN; simp; omega
   obtain ⟨T,hT⟩:∃ T,(⟨(fillK l k).toArray⟩:ByteArray)=T:=⟨_,rfl⟩
   obtain ⟨L,hL⟩:∃ L,l.length+1+k=L:=⟨_,rfl⟩
   have HT:Hid (T++⟨(beK (8*l.length) 8).toArray⟩=⟨(fillL l).toArray⟩):=hid (by
    rw [← hT,ba_cat,hkz]; rfl)
   rw [hT] at hsz ⊢;rw [hL] at hsz hne;have hLb:L≤1000100:=by have:=HZ.out; omega
   clear hT hL hk hlt hz HN HZ2 hkz HK HST;go_wp2;go_loopw [4,5,6] (fun n d i wr=>∃ j:Nat,j≤8∧i = .int .i64 j∧n = .int .u64 (8*s.size/256 ^ j:Nat)∧d = .string ⟨(beK (8*s.size) j).toArray⟩∧Below w.heap.size w wr) (fun _ _ i _=>8-(intOf i).toNat)
   case atStart=>exact ⟨0,Nat.zero_le _,rfl,by simp,rfl,Below.refl _ _⟩
   case round =>
    obtain ⟨j,hj,rfl,rfl,rfl,hB⟩:=hrel;obtain ⟨m,hm⟩:∃ m,8*s.size/256 ^ j=m:=⟨_,rfl⟩
    have hm64:m<18446744073709551616:=by
     rw [← hm]; exact Nat.lt_of_le_of_lt (Nat.div_le_self _ _) (by omega)
    have HD:Hid (8*s.size/256 ^ (j+1)=m/256):=hid (by rw [Nat.pow_succ,← Nat.div_div_eq_div_mul,hm]);have HS:Hid ((⟨#[UInt8.ofNat (m%256)]⟩:ByteArray)++⟨(beK (8*s.size) j).toArray⟩=⟨(beK (8*s.size) (j+1)).toArray⟩):=hid (by
     rw [beK_snoc,hm]; exact ba_cat [_] _)
    have hEs:(⟨(beK (8*s.size) j).toArray⟩:ByteArray).size≤8:=by rw [ba_size,beK_length]; exact hj
    obtain ⟨E,hE⟩:∃ E,(⟨(beK (8*s.size) j).toArray⟩:ByteArray)=E:=⟨_,rfl⟩
    obtain ⟨C,hC⟩:∃ C,(⟨#[UInt8.ofNat (m%256)]⟩:ByteArray)=C:=⟨_,rfl⟩
    have hCs:C.size≤1:=by rw [← hC]; exact Nat.le_refl _
    have hcv:=conv_one ((m:Int)%256) (m%256) (by omega) (by omega) wr;rw [hC] at hcv HS;rw [hE] at HS hEs;rw [hm,hE];have HE:=hid hE;clear hm hE hC;by_cases hlt:j<8
    ·go_wp2;go_roundw
     case rel=>exact ⟨j+1,by omega,by go_num,by rw [HD.out]; go_num,by rw [HS.out],hB.alloc hB.size _⟩
     case measure=>simp [intOf]; omega
    ·obtain rfl:j=8:=by omega
     have HF:Hid (T++E=⟨(fillL l).toArray⟩):=hid (by rw [← HT.out,← HE.out,HZ.out]);clear hcv;go_wp2;go_ret;exact ⟨by rw [← HF.out]; rfl,hB⟩
end Sh
end
section
open Go.RowKit
namespace Sm
open Sh
theorem ret_u32 {a b:Int} (h:a=b):Ending.returned (.int .u32 a) = .returned (.int .u32 b):=by rw [h]
theorem rot_and (n:Nat) (h1:1≤n) (h2:n≤31):bits .and .u64 (IntKind.u64.wrap (-(n:Int))) 31=32-(n:Int):=by
 have e:IntKind.u64.wrap (-(n:Int))=((18446744073709551616-n:Nat):Int):=by rw [IntKind.wrap_u64]; omega
 rw [e,show (31:Int)=((31:Nat):Int) from rfl,u64_and_nat _ _ (by omega) (by omega),nat_mask5];omega
theorem rot_or (x n:Nat) (hx:x<4294967296) (h2:n≤31) :
  bits .or .u32 ((x:Int)*2 ^ (32-n)%4294967296) ((x:Int)/2 ^ (32-(32-n)))=(turnN x n:Nat):=by
 have e0:32-(32-n)=n:=by omega
 have hp:2 ^ n*2 ^ (32-n)=4294967296:=by rw [← Nat.pow_add,show n+(32-n)=32 by omega]
 have e1:x*2 ^ (32-n)%4294967296=x%2 ^ n*2 ^ (32-n):=by rw [← hp,Nat.mul_mod_mul_right]
 have hb:x/2 ^ n<2 ^ (32-n):=by
  rw [Nat.div_lt_iff_lt_mul (Nat.pow_pos (by omega)),Nat.mul_comm,hp]; exact hx
 have ha:x*2 ^ (32-n)%4294967296<4294967296:=Nat.mod_lt _ (by omega);have c1:((x:Int)*2 ^ (32-n)%4294967296)=((x*2 ^ (32-n)%4294967296:Nat):Int):=by simp
 have c2:((x:Int)/2 ^ n)=((x/2 ^ n:Nat):Int):=by simp
 rw [e0,c1,c2,u32_or_nat _ _ ha (Nat.lt_of_le_of_lt (Nat.div_le_self _ _) hx),e1,nat_join (32-n) _ _ (Nat.mul_mod_left _ _) hb,turnN_eq n x hx (by omega),Nat.add_comm]
theorem rot_any (x n:Nat) (hx:x<4294967296) (h1:1≤n) (h2:n≤31) (w:World) :
  Calls Tryz.prog 190 #[.int .u32 x,.int .i64 (-(n:Int))] w fun e w'=>e = .returned (.int .u32 (turnN x n:Nat))∧w=w':=by
 have hA:=rot_and n h1 h2;have HO:=hid (rot_or x n hx h2);go_enter Tryz.func190,Tryz.ntmps190;go_wp2;go_ret;exact ⟨ret_u32 HO.out,rfl⟩
theorem right_any (x n:Nat) (N:Int) (hN:N=n) (hx:x<4294967296) (h1:1≤n) (h2:n≤31) (w:World) :
  Calls Tryz.prog 169 #[.int .u32 x,.int .i64 N] w fun e w'=>e = .returned (.int .u32 (turnN x n:Nat))∧w=w':=by
 subst hN;have HR:=hid (rot_any x n hx h1 h2);go_enter Tryz.func169,Tryz.ntmps169;go_wp2_with (go_at_call 190; refine (HR.out _).mono ?_; rintro e w1 ⟨rfl,rfl⟩)
 go_ret;exact ⟨rfl,rfl⟩
def upB (m n k:Nat):Nat:=n/256 ^ (m-1-k)%256
def laidN (w:World) (g off m n:Nat):Nat→World
 | 0=>w
 | k+1=>(laidN w g off m n k).setCell ⟨g,off+k,none⟩ (.int .u8 (upB m n k:Nat))
theorem laidN_row {w:World} {g off m n N:Nat} {t:TypeId} {f:Nat→Value} (h:w.rowIs g t N f):∀ k,(laidN w g off m n k).rowIs g t N (fun j=>if off≤j∧j<off+k then .int .u8 (upB m n (j-off):Nat) else f j)
 | 0=>h.congr (fun j _=>by rw [if_neg (by omega)])
 | k+1=>((laidN_row h k).set (off+k) _).congr (fun j _=>by
  by_cases e:j=off+k
  ·subst e; simp
  ·by_cases e2:off≤j∧j<off+k
   ·rw [if_neg e,if_pos e2,if_pos (by omega)]
   ·rw [if_neg e,if_neg e2,if_neg (by omega)])
theorem laidN_below {B:Nat} {w0 w:World} (h:Below B w0 w) {g off m n:Nat} (hg:B≤g):∀ k,Below B w0 (laidN w g off m n k)
 | 0=>h
 | k+1=>(laidN_below h hg k).setCell (p:=⟨g,off+k,none⟩) hg _
theorem lay_any (g off m c n N:Nat) (t:TypeId) (f:Nat→Value) (w:World) (h:w.rowIs g t N f) (hm:off+m≤N) (hm8:m≤8) :
  Calls Tryz.prog 115 #[.slice (some ⟨g,off,none⟩) m c,.int .u64 n] w fun e w'=>e = .returned (.tuple #[])∧w'=laidN w g off m n m:=by
 have HROW:=hid (fun k=>laidN_row (off:=off) (m:=m) (n:=n) h k);clear h;go_enter Tryz.func115,Tryz.ntmps115;go_wp2;go_loopw [7] (fun i wr=>∃ k:Nat,k≤m∧i = .int .i64 k∧wr=laidN w g off m n k) (fun i _=>m-(intOf i).toNat)
 case atStart=>exact ⟨0,Nat.zero_le _,rfl,rfl⟩
 case round =>
  obtain ⟨k,hk,rfl,rfl⟩:=hrel;by_cases hlt:k<m
  ·have hr:=HROW.out k;have hc:=hr.cell (i:=off+k) (by omega);rw [if_neg (by omega)] at hc;have hf:=hr.frozen (off+k);clear hr;have HN:Hid ((laidN w g off m n k).setCell ⟨g,off+k,none⟩ (.int .u8 (upB m n k:Nat))=laidN w g off m n (k+1)):=hid rfl;obtain ⟨wk,hwk⟩:∃ wk,laidN w g off m n k=wk:=⟨_,rfl⟩
   rw [hwk] at hc hf HN ⊢;clear hwk;go_wp2;have HE:((n:Int)/2 ^ (8*(m-1-k))%256)=(upB m n k:Nat):=by
    unfold upB;rw [show 2 ^ (8*(m-1-k))=((256 ^ (m-1-k):Nat):Int) by rw [Int.natCast_pow,show ((256:Nat):Int)=2 ^ 8 from rfl,← Int.pow_mul]];simp
   go_roundw
   case rel=>exact ⟨k+1,by omega,by go_num,by rw [HE,HN.out]⟩
   case measure=>simp [intOf]; omega
  ·obtain rfl:k=m:=by omega
   have HW:Hid (laidN w g off k n k=laidN w g off k n k):=hid rfl;obtain ⟨wk,hwk⟩:∃ wk,laidN w g off k n k=wk:=⟨_,rfl⟩
   have HWK:=hid hwk;rw [hwk];clear HROW hwk HW;go_wp2;go_end0;exact ⟨rfl,HWK.out.symm⟩
def endL (n:Nat):List UInt8:=[128]++List.replicate (zerosN n) 0++beK (8*n) 8
theorem fillL_end (l:List UInt8):fillL l=l++endL l.length:=by simp [fillL,fillK,endL]
theorem endL_length (n:Nat):(endL n).length=zerosN n+9:=by simp [endL,beK_length]
theorem beK_getD (n j:Nat) (h:j<8):((beK n 8).getD j 0).toNat=upB 8 n j:=by
 unfold upB;have:(beK n 8).getD j 0=UInt8.ofNat (n/256 ^ (7-j)%256):=by
  unfold beK;rw [List.getD,List.getElem?_reverse (by simpa using h)];simp only [List.length_map,List.length_range,List.getElem?_map];rw [List.getElem?_range (by omega)];simp only [Option.map_some,Option.getD_some]
 rw [this];simp
theorem endL_getD (n j:Nat) (h:j<zerosN n+9):((endL n).getD j 0).toNat=if j=0 then 128 else if 1+zerosN n≤j then upB 8 (8*n) (j-(1+zerosN n)) else 0:=by
 unfold endL;by_cases h0:j=0
 ·subst h0; simp
 ·rw [if_neg h0];by_cases h1:1+zerosN n≤j
  ·rw [if_pos h1,List.getD,List.getElem?_append_right (by simp; omega)];rw [← beK_getD _ _ (by omega),List.getD];congr 3;simp;omega
  ·rw [if_neg h1,List.getD,List.getElem?_append_left (by simp; omega),List.getElem?_append_right (by simp; omega)];simp only [List.length_singleton,List.getElem?_replicate];rw [if_pos (by omega)];rfl
theorem end_any (n:Nat) (hn:n≤1000000) (w:World) :
  Calls Tryz.prog 114 #[.int .i64 n] w fun e w'=>e = .returned (.string ⟨(endL n).toArray⟩)∧Below w.heap.size w w':=by
 have hz:zerosN n<64:=Nat.mod_lt _ (by omega);obtain ⟨z,hze⟩:∃ z,zerosN n=z:=⟨_,rfl⟩
 obtain ⟨m,hm⟩:∃ m,z+9=m:=⟨_,rfl⟩
 have hmk:=run_make_row' (P:=Tryz.prog) 51 5 (.int .u8 0) 1 Tryz.underlying51 Bu.info_byte rfl .i64 .i64 m (by omega) (by omega);have e:((m:Nat):Int)=1+(z:Int)+8:=by omega
 rw [e] at hmk;have hr:(w.alloc (.cells ((madeCells #[Value.int IntKind.u8 0] m).setIfInBounds 0 (.int .u8 128)) 5)).rowIs w.heap.size 5 m (fun j=>if j=0 then .int .u8 128 else .int .u8 0):=by
  have h0:=(World.rowIs_made w (.int .u8 0) m 5).set 0 (.int .u8 128);rw [World.setCell_alloc_at _ _ _ _ _ rfl] at h0;exact h0
 have hm8:m-(1+z)=8:=by omega
 have hc0:=(World.rowIs_made w (.int .u8 0) m 5).cell (i:=0) (by omega);have hf0:=(World.rowIs_made w (.int .u8 0) m 5).frozen 0;have HL:=lay_any w.heap.size (1+z) (m-(1+z)) (m-(1+z)) (8*n) m 5 _ _ hr (by omega) (by omega);rw [show ((8*n:Nat):Int)=8*(n:Int) by omega] at HL;have HL:=hid HL;have hR:=laidN_row (off:=1+z) (m:=m-(1+z)) (n:=8*n) hr (m-(1+z))
 have hB:=laidN_below (g:=w.heap.size) (off:=1+z) (m:=m-(1+z)) (n:=8*n) ((Below.refl w.heap.size w).alloc (Nat.le_refl _) (.cells ((madeCells #[Value.int IntKind.u8 0] m).setIfInBounds 0 (.int .u8 128)) 5)) (Nat.le_refl _) (m-(1+z));obtain ⟨W,hW⟩:∃ W,laidN (w.alloc (.cells ((madeCells #[Value.int IntKind.u8 0] m).setIfInBounds 0 (.int .u8 128)) 5)) w.heap.size (1+z) (m-(1+z)) (8*n) (m-(1+z))=W:=⟨_,rfl⟩
 rw [hW] at hR hB HL;have hI:IsBs W (some ⟨w.heap.size,0,none⟩) m m (endL n):=by
  refine IsBs.ofRow (endL n) (by unfold maxLen; omega) hR (by rw [endL_length,hze,hm]) (fun j hj=>?_);rw [endL_getD n j (by omega),hze,hm8];by_cases h0:j=0
  ·subst h0; simp
  ·by_cases h1:1+z≤j
   ·rw [if_pos ⟨h1,by omega⟩,if_neg h0,if_pos h1]
   ·rw [if_neg (by omega),if_neg h0,if_neg h0,if_neg h1]; rfl
 have hcv:=conv_bs hI;have hzi:(119-(n:Int)%64)%64=z:=by unfold zerosN at hze; omega
 clear hr e hR hI hW hze hm8;go_enter Tryz.func114,Tryz.ntmps114;go_wp2_with fail
 refine HL.out.mono ?_;rintro e w1 ⟨rfl,rfl⟩;clear hmk hc0 hf0;go_wp2;go_ret;exact ⟨rfl,hB⟩
end Sm
end
end Go.Proofs.YtnecijeakeklaaaGreatDoor
