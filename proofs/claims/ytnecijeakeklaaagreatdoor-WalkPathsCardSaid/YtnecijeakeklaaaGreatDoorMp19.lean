/-
 The contract of refs.All: a node, and those within it.
-/
import Derived.Test.YtnecijeakeklaaaGreatDoorMp6
import Derived.Test.YtnecijeakeklaaaGreatDoorMp12
import Derived.Maps.AppendAt
import Derived.Laws.AppendOwnNone
import Derived.Test.YtnecijeakeklaaaGreatDoorMp18
import Derived.Test.YtnecijeakeklaaaGreatDoorMp13
import Derived.Test.YtnecijeakeklaaaGreatDoorMp17
import Derived.Test.YtnecijeakeklaaaGreatDoorMp1
import Derived.ChangeSlices
import Derived.Lib.HexFns2
import Derived.Deep.Slices
import Derived.Deep.DeepCutAuto
import Derived.Test.YtnecijeakeklaaaGreatDoorMp16
import Derived.Test.YtnecijeakeklaaaGreatDoorMp10
import Derived.Test.YtnecijeakeklaaaGreatDoorMp5
open Go.Lib (hid)
set_option linter.unusedSimpArgs false
set_option linter.unusedVariables false
set_option maxHeartbeats 40000000
set_option maxRecDepth 100000
namespace Go.Proofs.YtnecijeakeklaaaGreatDoor
section
open Go.RowKit
namespace Rf
open Rl Ni No
end Rf
end
section
open Go.RowKit
namespace Tm
open Tr Ni Pk Ky No Rf Rl
open Sm (Tab)
end Tm
end
section
open Go.RowKit
namespace Tm
open Tr Ni Pk Ky No Rf Rl
open Sm (Tab)
end Tm
end
section
open Go.RowKit
namespace Tm
open Tr Ni Pk Ky No Rf Rl
open Sm (Tab)
section
variable {ks:List ByteArray} {ps:List (Option Addr)} {j:Nat}
end
end Tm
end
section
open Go.RowKit
namespace Tm
open Tr Ni Pk Ky No Rf Rl
open Sm (Tab)
namespace Aw
variable {w0:World} {M M':Mp} {w w':World} {gu gb gn:Nat} {pu:Option Addr} {C:Array Value} {KB:List UInt8}
end Aw
end Tm
end
section
open Go.RowKit Go.ChangeShapes Go.WideShapes
theorem u8_wf {n:Int} (h:(Lit.int .u8 n).wf=true):0≤n∧n<256:=by
 have:=bounds_u8 h;omega
end
section
open Go.RowKit Go.ChangeShapes Go.WideShapes
namespace Ky
def byteOf:Value→UInt8
 | .int _ n=>UInt8.ofNat n.toNat
 | _=>0
theorem isKey_of {H:Type} {enc:TypeId × Value→H} {P:Program} {w:World} {t e:TypeId} {v:Value} {d:DataW H} {p:List MemPlace} {base:Nat}
  (ht:P.underlying t=some (.array 32 e)) (he:P.underlying e=some (.int .u8)) (hc:P.cellsOf e=1) (hct:P.cellsOf t=32)
  (hv:Value.okWide P w .any base t v) (h:DataW.Trod enc P w 0 (fun _=>true) true t v d p):∃ k:List UInt8,v = .agg (kc k)∧k.length=32:=by
 unfold Value.okWide at hv;rw [ht] at hv;obtain ⟨cs,rfl,hsz,_⟩:=hv;rw [hct] at hsz;obtain ⟨fuel,hf⟩:=h;obtain ⟨xs,m,rfl,_,hcs,hxl,hel⟩:=DataW.trod_array ht hf;have each:∀ i,i<32→∃ n:Int,cs.toList[i]? = some (.int .u8 n)∧0≤n∧n<256:=fun i hi=>by
  have hi':=hel i hi;rw [hc,Nat.mul_one] at hi';have hx:i<xs.length:=by omega
  rw [List.getElem?_eq_getElem hx] at hi';obtain ⟨n,hn,_,hw⟩:=DataW.trod_int he hi';have hlen:i<cs.toList.length:=by simpa [hsz] using hi
  have e1:(cs.toList.drop i).take 1=[cs.toList[i]]:=by
   rw [List.drop_eq_getElem_cons hlen]; rfl
  have e2:(Value.agg cs).cells.toList=cs.toList:=rfl;rw [e2,e1] at hn;injection hn with hn;refine ⟨n,?_,u8_wf hw⟩;rw [List.getElem?_eq_getElem hlen,hn]
 refine ⟨cs.toList.map byteOf,?_,by simp [hsz]⟩;congr 1;apply Array.ext';unfold kc;rw [List.map_map];apply List.ext_getElem?;intro i;by_cases hi:i<32
 ·obtain ⟨n,hn,h0,h1⟩:=each i hi;rw [hn];simp only [List.getElem?_map,hn,Option.map_some,Function.comp,byteOf];have:((UInt8.ofNat n.toNat).toNat:Int)=n:=by simp only [UInt8.toNat_ofNat']; omega
  rw [this]
 ·rw [List.getElem?_eq_none (by simp [hsz]; omega),List.getElem?_eq_none (by simp [hsz]; omega)]
end Ky
end
section
open Go.RowKit Go.ChangeShapes Go.WideShapes Go.Deep
namespace Tm
open Tr Ni Pk Ky
section
variable {H:Type} {enc:TypeId × Value→H} {w:World} {fuel:Nat} {cs:List Value} {x:DataW H × List MemPlace}
theorem cells_key:Tryz.prog.cellsOf 24=32:=by kernel_rfl
theorem cells_u8':Tryz.prog.cellsOf 5=1:=by kernel_rfl
theorem cells_str:Tryz.prog.cellsOf 9=1:=by kernel_rfl
theorem cells_pair:Tryz.prog.cellsOf 33=33:=by kernel_rfl
theorem key_of (h:DataW.trod enc Tryz.prog w 0 (fun _=>true) true fuel 24 cs=some x):∃ k:List UInt8,k.length=32∧cs=k.map fun b=>Value.int .u8 b.toNat:=by
 obtain ⟨xs,m,rfl,_,hcs,hxl,hel⟩:=DataW.trod_array Tryz.underlying24 h;rw [cells_key] at hcs;have each:∀ i,i<32→∃ n:Int,cs[i]? = some (.int .u8 n)∧0≤n∧n<256:=fun i hi=>by
  have hi':=hel i hi;rw [cells_u8',Nat.mul_one] at hi';have hx:i<xs.length:=by omega
  rw [List.getElem?_eq_getElem hx] at hi';obtain ⟨n,hn,_,hw⟩:=DataW.trod_int Tryz.underlying5 hi';have hlen:i<cs.length:=by omega
  have e1:(cs.drop i).take 1=[cs[i]]:=by
   rw [List.drop_eq_getElem_cons hlen]; rfl
  rw [e1] at hn;injection hn with hn;exact ⟨n,by rw [List.getElem?_eq_getElem hlen,hn],u8_wf hw⟩
 refine ⟨cs.map Ky.byteOf,by simp [hcs],?_⟩;rw [List.map_map];apply List.ext_getElem?;intro i;by_cases hi:i<32
 ·obtain ⟨n,hn,h0,h1⟩:=each i hi;rw [List.getElem?_map,hn];simp only [Option.map_some,Function.comp,Ky.byteOf];have:((UInt8.ofNat n.toNat).toNat:Int)=n:=by simp only [UInt8.toNat_ofNat']; omega
  rw [this]
 ·rw [List.getElem?_eq_none (by omega),List.getElem?_eq_none (by simp [hcs]; omega)]
theorem take_drop_one {cs:List Value} {i:Nat} {v:Value} (h:(cs.drop i).take 1=[v]) (hl:cs.length=i+1):cs=cs.take i++[v]:=by
 have e:(cs.drop i).take 1=cs.drop i:=List.take_of_length_le (by rw [List.length_drop]; omega);rw [← h,e,List.take_append_drop]
theorem pair_of (h:DataW.trod enc Tryz.prog w 0 (fun _=>true) true fuel 33 cs=some x):∃ y:Tr.Pair,y.1.length=32∧cs=pairC y:=by
 obtain ⟨xs,m,rfl,_,hcs,hxl,hf⟩:=DataW.trod_struct Tryz.underlying33 h;rw [cells_pair] at hcs;have hxl':xs.length=2:=hxl;have g0:=hf 0 _ rfl;have g1:=hf 1 _ rfl;rw [List.getElem?_eq_getElem (by omega)] at g0 g1;obtain ⟨k,hk,e0⟩:=key_of g0;obtain ⟨s,e1,_,_⟩:=DataW.trod_string Tryz.underlying9 g1;have e0':(cs.drop 0).take (Tryz.prog.cellsOf 24)=k.map fun b=>Value.int .u8 b.toNat:=e0;have e1':(cs.drop 32).take (Tryz.prog.cellsOf 9)=[Value.string s]:=e1;rw [cells_key,List.drop_zero] at e0';rw [cells_str] at e1'
 refine ⟨(k,s),hk,?_⟩;unfold pairC;have:=take_drop_one e1' (by omega);rw [this,e0']
theorem isPs_of (h:DataW.trod enc Tryz.prog w 0 (fun _=>true) true fuel 22 cs=some x):∃ a n cap l,cs=[.slice a n cap]∧IsPs w a n cap l:=by
 rcases open_slice Tryz.underlying22 h with ⟨rfl,_⟩ | ⟨ad,len,cap,m,n,D,Pl,rfl,_,hl,hm,hmm,_,hel⟩
 ·exact ⟨none,0,0,[],rfl,IsPs.nil w⟩
 ·have hmm':m=cap:=by simpa using hmm
  subst hmm';have cell:∀ i,i<m→∃ y:Tr.Pair,y.1.length=32∧∀ j,j<33→w.cell? ((ad.add (i*33)).add j)=(pairC y)[j]? := fun i hi=>by
   obtain ⟨cs',h1,h2⟩:=hel i hi;obtain ⟨y,hy,rfl⟩:=pair_of h2;obtain ⟨_,hcl,hat⟩:=World.cells?_some h1;rw [cells_pair] at hat;exact ⟨y,hy,hat⟩
  obtain ⟨F,hF⟩:=choose_lt (α:=Tr.Pair) cell;refine ⟨some ad,len,m,(List.range len).map F,rfl,hl,hm,by simp,fun e=>(by cases e),fun x hx=>?_,fun j hj=>?_⟩
  ·obtain ⟨i,hi,rfl⟩:=List.mem_map.1 hx;exact (hF i (by have:=List.mem_range.1 hi; omega)).1
  ·have hFj:=hF j (by omega);have hF0:=hF 0 (by omega);obtain ⟨b,off,spot⟩:=ad;have hc0:=hF0.2 0 (by omega);have hp0:(pairC (F 0))[0]? = some ((pairC (F 0))[0]'(by rw [pairC_len hF0.1]; omega)):=List.getElem?_eq_getElem _;rw [hp0] at hc0;have hspot:spot=none:=by simpa [Addr.add] using World.cell?_spot hc0
   subst hspot;have hget:((List.range len).map F).getD j ([],eB)=F j:=by simp [List.getD,hj]
   rw [hget];have hat:PairAt w b (off+j*33) (F j):=fun i v hv=>by
    have hi:i<33:=by
     have:=(List.getElem?_eq_some_iff.1 hv).1;rwa [pairC_len hFj.1] at this
    have:=hFj.2 i hi;rw [Addr.add_mid,Addr.add_mid] at this;rw [this,hv]
   refine ⟨b,off,rfl,?_,hat⟩;have hz:=hat 0 ((pairC (F j))[0]'(by rw [pairC_len hFj.1]; omega)) (List.getElem?_eq_getElem _);exact World.block_lt_of_cell? w _ hz
end
end Tm
end
section
open Go.RowKit
namespace Tm
open Tr Ni Pk Ky No Rf Rl
open Sm (Tab)
namespace Do
variable {w0:World} {M M':Mp} {w w':World} {p p':Option Addr} {t t':T} {W W':List Tr.Pair} {a a':Option Addr} {c c' j:Nat}
end Do
end Tm
end
section
open Go.RowKit
namespace Tm
open Tr Ni Pk Ky No Rf Rl
open Sm (Tab)
theorem ins_len:∀ (l:List Tr.Pair),(insL l).length≤l.length
 | []=>Nat.le_refl _
 | x::r=>by
  have ih:=ins_len r;unfold insL;split
  ·rw [List.length_cons]; omega
  ·rw [List.length_cons,List.length_cons]; omega
end Tm
end
section
namespace Tr
open Rf Rl Ni No
def sv:ByteArray:=⟨#[118]⟩
def fixP (x:Pair):Pair:=(x.1,if x.2.size=0 then sv else if 100<x.2.size then x.2.extract 0 100 else x.2)
def pairsL (l:List Pair):List Pair:=(l.take 24).map fixP
theorem fix_size (x:Pair):(fixP x).2.size≠0∧(fixP x).2.size≤65552:=by
 unfold fixP;dsimp only;split
 ·exact ⟨by decide,by decide⟩
 ·split
  ·rw [ByteArray.size_extract]; omega
  ·omega
theorem pairs_len (l:List Pair):(pairsL l).length≤24:=by
 unfold pairsL;rw [List.length_map,List.length_take];omega
theorem pairs_ok {l:List Pair} (h:∀ x∈l,x.1.length=32):(∀ x∈pairsL l,x.1.length=32)∧∀ x∈pairsL l,x.2.size≠0∧x.2.size≤65552:=by
 constructor
 ·intro x hx;obtain ⟨y,hy,rfl⟩:=List.mem_map.1 hx;exact h y (List.mem_of_mem_take hy)
 ·intro x hx;obtain ⟨y,_,rfl⟩:=List.mem_map.1 hx;exact fix_size y
end Tr
end
section
open Go.RowKit
namespace Tm
open Tr Ni Pk Ky
theorem pairs_snoc {l:List Tr.Pair} {j:Nat} (hj:j<l.length) (h24:j<24):pairsL (l.take (j+1))=pairsL (l.take j)++[fixP (l.getD j ([],eB))]:=by
 unfold pairsL;rw [List.take_take,List.take_take,show min 24 (j+1)=j+1 by omega,show min 24 j=j by omega,take_at hj,List.map_append];rfl
theorem pairs_cut {l:List Tr.Pair}:pairsL (l.take 24)=pairsL l:=by
 unfold pairsL;rw [List.take_take,Nat.min_self]
theorem pairs_any (l:List Tr.Pair) (a:Option Addr) (n c:Nat) (w:World) (h:IsPs w a n c l) :
  Calls Tryz.prog 6 #[.slice a n c] w (GotPs w (pairsL l)):=by
 obtain ⟨i0,z0,hi,hz,hsz,hby,hzc⟩:=info_pair_parts;have HI:Hid (_∧_∧_∧_∧_):=hid ⟨hi,hz,hsz,hby,hzc⟩;have hcap:=h.1;have hmx:=h.2.1;unfold maxLen at hmx;have H:=hid h;have HL:=hid h.len;clear h hi hz hsz hby hzc;go_enter Tryz.func6,Tryz.ntmps6;go_wp2_with fail
 go_loopw [3,4] (fun v i wr=>∃ j:Nat,j≤n∧j≤24∧i = .int .i64 j∧Hid (wr.ownsRow w.heap.size 33 33 v (pairsL (l.take j)).length (rowP (pairsL (l.take j))))∧Hid (Below w.heap.size w wr)) (fun _ i _=>n-(intOf i).toNat)
 case atStart=>exact ⟨0,Nat.zero_le _,Nat.zero_le _,rfl,hid (World.ownsRow_nil _ _ _ _),hid (Below.refl _ _)⟩
 case round =>
  obtain ⟨j,hjn,hj24',rfl,HR,HB⟩:=hrel;have hlen:(pairsL (l.take j)).length≤24:=pairs_len _;by_cases hlt:j<n∧j<24
  ·obtain ⟨hlt,hj24⟩:=hlt;have i1:(j:Int)<n:=by omega
   have i2:(j:Int)<24:=by omega
   have HJ:Hid (j<l.length):=hid (by rw [HL.out]; exact hlt);obtain ⟨b,off,rfl,hblt,hpa,hk⟩:=H.out.at' j hlt;obtain ⟨x,hx⟩:∃ x,l.getD j ([],eB)=x:=⟨_,rfl⟩
   rw [hx] at hpa hk;have HX:=hid hx;have HPr:=hid (hpa.below HB.out);have hNew:=Rg.Own.new wr (pairA (List.replicate 32 0,eB)) 33;have HN:=hid hNew;have HZ:Hid (((List.replicate 32 0,eB):Tr.Pair).1.length=32):=hid rfl;obtain ⟨k,v⟩:=x;have HKx:Hid (k.length=32):=hid hk;clear hx hpa hk hNew hblt;by_cases hv0:v.size=0
   ·obtain rfl:=No.size_zero hv0;have s1:decide ((100:Int)<(sv.size:Int))=false:=rfl;have HF:Hid (pairsL (l.take (j+1))=pairsL (l.take j)++[(k,sv)]):=hid (by rw [pairs_snoc HJ.out hj24,HX.out]; unfold fixP; simp [hv0]);go_wp2_with (first
     | (refine Rg.run rfl _ _ (op_load_pair (x:=(k,eB)) HKx.out HPr.out ⟨_,rfl,rfl⟩) ?_)
     | (refine Rg.run rfl _ _ (run_alloc_pair _ _ _ wr.heap.size rfl rfl) ?_)
     | (refine wpl_store_pair HN.out HZ.out (k,eB) HKx.out rfl _ _ rfl rfl rfl rfl ?_; intro w5 hO5 hu5; have HO5:=hid hO5; have HB5:Hid (Below wr.heap.size wr w5):=hid (hu5.below (al1 _ _) (Nat.le_refl _)); have c32:w5.cell? ⟨wr.heap.size,32,none⟩=some (.string _):=(PairAt.own hO5).val HKx.out; clear hO5 hu5)
     | (refine Rg.run rfl _ _ (op_load_str c32 ⟨_,rfl,rfl⟩) ?_)
     | (refine Rg.run rfl _ _ (op_load_key_mid HKx.out (PairAt.own HO5.out).key ⟨_,rfl,rfl⟩) ?_)
     | (refine Rg.run rfl _ _ (op_build (built_pair k sv HKx.out) ⟨_,rfl,rfl⟩) ?_)
     | (refine wpl_store_pair HO5.out HKx.out (k,sv) HKx.out rfl _ _ rfl rfl rfl rfl ?_; intro w6 hO6 hu6; have HO6:=hid hO6; have HB6:Hid (Below wr.heap.size wr w6):=hid (hu6.below HB5.out (Nat.le_refl _)); have HR5:=hid (own_keepN HR.out HB6.out); have d32:w6.cell? ⟨wr.heap.size,32,none⟩=some (.string _):=(PairAt.own hO6).val HKx.out; clear hO6 hu6)
     | (refine Rg.run rfl _ _ (op_load_str d32 ⟨_,rfl,rfl⟩) ?_)
     | (refine Rg.run rfl _ _ (op_load_pair (x:=(k,sv)) HKx.out (PairAt.own HO6.out) ⟨_,rfl,rfl⟩) ?_)
     | (refine Rg.run rfl _ _ (op_lit_pair (x:=(k,sv)) HKx.out _ rfl ⟨_,rfl,rfl⟩) ?_)
     | (at_builtin; refine wpList_append_own _ rfl _ _ 22 rfl w.heap.size 33 i0 z0 33 48 Tryz.underlying22 HI.out.1 HI.out.2.1 HI.out.2.2.1 HI.out.2.2.2.1 HI.out.2.2.2.2 (by decide) _ _ _ rfl (HR5.out.alloc _) ⟨_,0,none⟩ 1 1 (pairC (k,sv)) rfl (pairC_len (x:=(k,sv)) HKx.out) ?d1 (pairC_one _) ?d3 ?d4 ?d5 ?_))
    case d1 =>
     intro q u hu;first | (simpa [pairA] using hu) | (rw [Addr.add_mid]; exact (PairAt.own (Rg.Own.new _ (pairA (k,sv)) 33)) q u hu)
    case d3=>unfold maxLen; omega
    case d4=>omega
    case d5=>have:=HB.out.size; have:=HB6.out.size; simp; omega
    intro v' w7 hown7 hgrow _;have hlt':=HR5.out.lt;have HB7:Hid (Below w.heap.size w w7):=hid (((bst HB.out HB6.out).alloc (by have:=HB.out.size; have:=HB6.out.size; omega) _).grown hgrow (by have:=HB.out.size; have:=HB6.out.size; simp; omega) (fun g hg=>(hlt' g hg).1));go_wp2;go_roundw
    case rel=>exact ⟨j+1,by omega,by omega,by go_num,hid (by rw [HF.out,rowP_snoc,List.length_append]; exact hown7),HB7⟩
    case measure=>simp [intOf]; omega
   ·by_cases hv2:100<v.size
    ·have hv1:=Ni.not_empty (s:=v) (by omega);have hv100:(100:Int)≤(v.size:Int):=by omega
     have s1:decide ((100:Int)<(v.size:Int))=true:=decide_eq_true (by omega);go_wp2_with (first
 | (refine Rg.run rfl _ _ (op_load_pair (x:=(k,v)) HKx.out HPr.out ⟨_,rfl,rfl⟩) ?_)
      | (refine Rg.run rfl _ _ (run_alloc_pair _ _ _ wr.heap.size rfl rfl) ?_)
      | (refine wpl_store_pair HN.out HZ.out (k,v) HKx.out rfl _ _ rfl rfl rfl rfl ?_; intro w5 hO5 hu5; have HO5:=hid hO5; have HB5:Hid (Below wr.heap.size wr w5):=hid (hu5.below (al1 _ _) (Nat.le_refl _)); have c32:w5.cell? ⟨wr.heap.size,32,none⟩=some (.string _):=(PairAt.own hO5).val HKx.out; clear hO5 hu5)
      | (refine Rg.run rfl _ _ (op_load_str c32 ⟨_,rfl,rfl⟩) ?_)
     )
     have ge0:wr.heap.size≤wr.heap.size:=Nat.le_refl _;have h0:=HO5.out;refine wp_region_noPanic ?_;refine wp_region_held_drew (S:=fun w'=>Below wr.heap.size wr w') (by kernel_rfl) (HB5.out.drew) (fun hld=>?_);replace h0:=h0.drew;refine Rg.tk (i:=0) rfl ?_;try simp only [Act.put,Rg.s]
     refine Rg.tk (i:=2) rfl ?_;try simp only [Act.put,Rg.s]
     refine wpAnyH_ready (rs:=[1,3]) (by kernel_rfl) (by simp) ?_;refine Rg.readyC (i:=1) rfl (fun K hK=>?_) (Rg.readyL (i:=3) rfl (fun K hK=>?_))
     ·refine Rg.meet (by rfl) _ _ (op_load_key_mid HKx.out (PairAt.own h0).key ?_) ?_
      ·exact ⟨_,rfl,rfl⟩
      refine hK.out _ _ ?_ (fun hld=>?_)
      ·exact hld
      clear hK K;try simp only [Act.put,Rg.s]
      refine Rg.rd (i:=3) rfl fun K hK=>?_;refine Rg.meet (by rfl) _ _ (op_load_str (PairAt.val (PairAt.own h0) HKx.out) ?_) ?_
      ·exact ⟨_,rfl,rfl⟩
      refine hK.out _ _ ?_ (fun hld=>?_)
      ·exact hld
      clear hK K;try simp only [Act.put,Rg.s]
      refine Rg.tk (i:=4) rfl ?_ (hy:=by intro wz hSw; (have q0:=hv100; go_simp <;> with_reducible rfl));try simp only [Act.put,Rg.s]
      refine Rg.tk (i:=5) rfl ?_ (hy:=by intro wz hSw; (refine op_build (built_pair k (v.extract 0 100) HKx.out) ?_; exact ⟨_,rfl,rfl⟩));try simp only [Act.put,Rg.s]
      refine Rg.rd (i:=6) rfl fun K hK=>?_;refine Rg.meetStore (by rfl) h0 33 (pairA (k,v.extract 0 100)) ⟨_,_,rfl,rfl,rfl⟩ (info_pairA HKx.out) (by rw [pairA_size HKx.out,pairA_size HKx.out]) (pairA_one _) ?_;rintro wv0 hn hu;refine hK.out _ _ ?_ (fun hld=>?_)
      ·exact hu.below hld ge0
      replace h0:=hn;clear hK K hn hu;try simp only [Act.put]
      refine wpAnyH_done (by kernel_rfl) ?_ _;refine NoPanic.normal ?_;have HO5:=hid h0;have HB5':Hid (Below wr.heap.size wr _):=hid hld;clear h0 hld;have HF:Hid (pairsL (l.take (j+1))=pairsL (l.take j)++[(k,v.extract 0 100)]):=hid (by rw [pairs_snoc HJ.out hj24,HX.out]; unfold fixP; simp [hv0,hv2]);have HR5:=hid (own_keepN HR.out HB5'.out);go_wp2_with (first
       | (refine Rg.run rfl _ _ (op_load_pair (x:=(k,v.extract 0 100)) HKx.out (PairAt.own HO5.out) ⟨_,rfl,rfl⟩) ?_)
       | (refine Rg.run rfl _ _ (op_lit_pair (x:=(k,v.extract 0 100)) HKx.out _ rfl ⟨_,rfl,rfl⟩) ?_)
       | (at_builtin; refine wpList_append_own _ rfl _ _ 22 rfl w.heap.size 33 i0 z0 33 48 Tryz.underlying22 HI.out.1 HI.out.2.1 HI.out.2.2.1 HI.out.2.2.2.1 HI.out.2.2.2.2 (by decide) _ _ _ rfl (HR5.out.alloc _) ⟨_,0,none⟩ 1 1 (pairC (k,v.extract 0 100)) rfl (pairC_len (x:=(k,v.extract 0 100)) HKx.out) ?d1 (pairC_one _) ?d3 ?d4 ?d5 ?_))
      case d1 =>
       intro q u hu;first | (simpa [pairA] using hu) | (rw [Addr.add_mid]; exact (PairAt.own (Rg.Own.new _ (pairA (k,v.extract 0 100)) 33)) q u hu)
      case d3=>unfold maxLen; omega
      case d4=>omega
      case d5=>have:=HB.out.size; have:=HB5'.out.size; simp; omega
      intro v' w7 hown7 hgrow _;have hlt':=HR5.out.lt;have HB7:Hid (Below w.heap.size w w7):=hid (((bst HB.out HB5'.out).alloc (by have:=HB.out.size; have:=HB5'.out.size; omega) _).grown hgrow (by have:=HB.out.size; have:=HB5'.out.size; simp; omega) (fun g hg=>(hlt' g hg).1));go_wp2;go_roundw
      case rel=>exact ⟨j+1,by omega,by omega,by go_num,hid (by rw [HF.out,rowP_snoc,List.length_append]; exact hown7),HB7⟩
      case measure=>simp [intOf]; omega
     ·refine Rg.meet (by rfl) _ _ (op_load_str (PairAt.val (PairAt.own h0) HKx.out) ?_) ?_
      ·exact ⟨_,rfl,rfl⟩
      refine hK.out _ _ ?_ (fun hld=>?_)
      ·exact hld
      clear hK K;try simp only [Act.put,Rg.s]
      refine Rg.tk (i:=4) rfl ?_ (hy:=by intro wz hSw; (have q0:=hv100; go_simp <;> with_reducible rfl));try simp only [Act.put,Rg.s]
      refine Rg.rd (i:=1) rfl fun K hK=>?_;refine Rg.meet (by rfl) _ _ (op_load_key_mid HKx.out (PairAt.own h0).key ?_) ?_
      ·exact ⟨_,rfl,rfl⟩
      refine hK.out _ _ ?_ (fun hld=>?_)
      ·exact hld
      clear hK K;try simp only [Act.put,Rg.s]
      refine Rg.tk (i:=5) rfl ?_ (hy:=by intro wz hSw; (refine op_build (built_pair k (v.extract 0 100) HKx.out) ?_; exact ⟨_,rfl,rfl⟩));try simp only [Act.put,Rg.s]
      refine Rg.rd (i:=6) rfl fun K hK=>?_;refine Rg.meetStore (by rfl) h0 33 (pairA (k,v.extract 0 100)) ⟨_,_,rfl,rfl,rfl⟩ (info_pairA HKx.out) (by rw [pairA_size HKx.out,pairA_size HKx.out]) (pairA_one _) ?_;rintro wv0 hn hu;refine hK.out _ _ ?_ (fun hld=>?_)
      ·exact hu.below hld ge0
      replace h0:=hn;clear hK K hn hu;try simp only [Act.put]
      refine wpAnyH_done (by kernel_rfl) ?_ _;refine NoPanic.normal ?_;have HO5:=hid h0;have HB5':Hid (Below wr.heap.size wr _):=hid hld;clear h0 hld;have HF:Hid (pairsL (l.take (j+1))=pairsL (l.take j)++[(k,v.extract 0 100)]):=hid (by rw [pairs_snoc HJ.out hj24,HX.out]; unfold fixP; simp [hv0,hv2]);have HR5:=hid (own_keepN HR.out HB5'.out);go_wp2_with (first
       | (refine Rg.run rfl _ _ (op_load_pair (x:=(k,v.extract 0 100)) HKx.out (PairAt.own HO5.out) ⟨_,rfl,rfl⟩) ?_)
       | (refine Rg.run rfl _ _ (op_lit_pair (x:=(k,v.extract 0 100)) HKx.out _ rfl ⟨_,rfl,rfl⟩) ?_)
       | (at_builtin; refine wpList_append_own _ rfl _ _ 22 rfl w.heap.size 33 i0 z0 33 48 Tryz.underlying22 HI.out.1 HI.out.2.1 HI.out.2.2.1 HI.out.2.2.2.1 HI.out.2.2.2.2 (by decide) _ _ _ rfl (HR5.out.alloc _) ⟨_,0,none⟩ 1 1 (pairC (k,v.extract 0 100)) rfl (pairC_len (x:=(k,v.extract 0 100)) HKx.out) ?d1 (pairC_one _) ?d3 ?d4 ?d5 ?_))
      case d1 =>
       intro q u hu;first | (simpa [pairA] using hu) | (rw [Addr.add_mid]; exact (PairAt.own (Rg.Own.new _ (pairA (k,v.extract 0 100)) 33)) q u hu)
      case d3=>unfold maxLen; omega
      case d4=>omega
      case d5=>have:=HB.out.size; have:=HB5'.out.size; simp; omega
      intro v' w7 hown7 hgrow _;have hlt':=HR5.out.lt;have HB7:Hid (Below w.heap.size w w7):=hid (((bst HB.out HB5'.out).alloc (by have:=HB.out.size; have:=HB5'.out.size; omega) _).grown hgrow (by have:=HB.out.size; have:=HB5'.out.size; simp; omega) (fun g hg=>(hlt' g hg).1));go_wp2;go_roundw
      case rel=>exact ⟨j+1,by omega,by omega,by go_num,hid (by rw [HF.out,rowP_snoc,List.length_append]; exact hown7),HB7⟩
      case measure=>simp [intOf]; omega
    ·have hv1:=Ni.not_empty (s:=v) (by omega);have s1:decide ((100:Int)<(v.size:Int))=false:=decide_eq_false (by omega);have HF:Hid (pairsL (l.take (j+1))=pairsL (l.take j)++[(k,v)]):=hid (by rw [pairs_snoc HJ.out hj24,HX.out]; unfold fixP; simp [hv0,hv2]);go_wp2_with (first
      | (refine Rg.run rfl _ _ (op_load_pair (x:=(k,v)) HKx.out HPr.out ⟨_,rfl,rfl⟩) ?_)
      | (refine Rg.run rfl _ _ (run_alloc_pair _ _ _ wr.heap.size rfl rfl) ?_)
      | (refine wpl_store_pair HN.out HZ.out (k,v) HKx.out rfl _ _ rfl rfl rfl rfl ?_; intro w5 hO5 hu5; have HO5:=hid hO5; have HB5:Hid (Below wr.heap.size wr w5):=hid (hu5.below (al1 _ _) (Nat.le_refl _)); have HR5:=hid (own_keepN HR.out HB5.out); have c32:w5.cell? ⟨wr.heap.size,32,none⟩=some (.string _):=(PairAt.own hO5).val HKx.out; clear hO5 hu5)
      | (refine Rg.run rfl _ _ (op_load_str c32 ⟨_,rfl,rfl⟩) ?_)
      | (refine Rg.run rfl _ _ (op_load_pair (x:=(k,v)) HKx.out (PairAt.own HO5.out) ⟨_,rfl,rfl⟩) ?_)
      | (refine Rg.run rfl _ _ (op_lit_pair (x:=(k,v)) HKx.out _ rfl ⟨_,rfl,rfl⟩) ?_)
      | (at_builtin; refine wpList_append_own _ rfl _ _ 22 rfl w.heap.size 33 i0 z0 33 48 Tryz.underlying22 HI.out.1 HI.out.2.1 HI.out.2.2.1 HI.out.2.2.2.1 HI.out.2.2.2.2 (by decide) _ _ _ rfl (HR5.out.alloc _) ⟨_,0,none⟩ 1 1 (pairC (k,v)) rfl (pairC_len (x:=(k,v)) HKx.out) ?d1 (pairC_one _) ?d3 ?d4 ?d5 ?_))
     case d1 =>
      intro q u hu;first | (simpa [pairA] using hu) | (rw [Addr.add_mid]; exact (PairAt.own (Rg.Own.new _ (pairA (k,v)) 33)) q u hu)
     case d3=>unfold maxLen; omega
     case d4=>omega
     case d5=>have:=HB.out.size; have:=HB5.out.size; simp; omega
     intro v' w7 hown7 hgrow _;have hlt':=HR5.out.lt;have HB7:Hid (Below w.heap.size w w7):=hid (((bst HB.out HB5.out).alloc (by have:=HB.out.size; have:=HB5.out.size; omega) _).grown hgrow (by have:=HB.out.size; have:=HB5.out.size; simp; omega) (fun g hg=>(hlt' g hg).1));go_wp2;go_roundw
     case rel=>exact ⟨j+1,by omega,by omega,by go_num,hid (by rw [HF.out,rowP_snoc,List.length_append]; exact hown7),HB7⟩
     case measure=>simp [intOf]; omega
  ·have HEnd:Hid (pairsL (l.take j)=pairsL l):=hid (by
    rcases Nat.lt_or_ge j n with h1 | h1
    ·obtain rfl:j=24:=by omega
     exact pairs_cut
    ·obtain rfl:j=n:=by omega
     rw [List.take_of_length_le (by rw [HL.out]; exact Nat.le_refl _)])
   have HK:=hid (pairs_ok H.out.keys);have hf:¬ ((j:Int)<n∧(j:Int)<24):=by omega
   rw [HEnd.out] at HR;rcases Nat.lt_or_ge j n with h1 | h1
   ·obtain rfl:j=24:=by omega
    have i1:((24:Nat):Int)<n:=by omega
    go_wp2_with fail
    go_ret;exact GotOwnP.ps HK.out.1 ⟨_,rfl,HR.out,HB.out⟩
   ·obtain rfl:j=n:=by omega
    go_wp2_with fail
    go_ret;exact GotOwnP.ps HK.out.1 ⟨_,rfl,HR.out,HB.out⟩
end Tm
end
section
open Go.RowKit
namespace Tm
open Tr Ni Pk Ky No Rf Rl
open Sm (Tab)
theorem wpl_store_key {ops:Array Oper} {rest:List Oper} {o:Oper} {act:Go.Act} {w:World} {Q:Exit→Go.Act→World→Prop} {b:Nat} {k:List UInt8} (h:Rg.Own w b (kc k) 24) (hk:k.length=32) (y:List UInt8) (hy:y.length=32)
  (hgd:o.guard=none) (p q:Operand) (ho:o.op = .store 24 p q) (hp:act.eval p = .pointer (some ⟨b,0,none⟩)) (hq:act.eval q = .agg (kc y)) (hd:o.dst=none)
  (hQ:∀ w',Rg.Own w' b (kc y) 24→Rg.Upd w b w'→wpList Tryz.prog ops Q rest act w'):wpList Tryz.prog ops Q (o::rest) act w :=
 wpList_store_rowTo hgd 24 p q ho hd b _ hp hq 24 _ h.2 (info_kc y hy) (by rw [kc_size,kc_size,hk,hy]) (kc_one _) (hQ _ ⟨by simp; exact h.1,setRow_heap _ _ _ _ _ _ h.2⟩ (Rg.Upd.set _ _ _))
section
variable {k:List UInt8} {j:Nat}
end
namespace On1
variable {w0:World} {M M':Mp} {w w':World} {b0 b1:Nat} {p p' q q':Option Addr} {t t' s s':T}
end On1
end Tm
end
section
open Go.RowKit
namespace Tm
open Tr Ni Pk Ky No Rf Rl
open Sm (Tab)
end Tm
end
section
open Go.RowKit
namespace No
open Rl Ni
end No
end
section
open Go.RowKit
namespace No
open Rl Ni
end No
end
section
open Go.RowKit
namespace Rl
end Rl
end
section
open Go.RowKit
namespace No
open Ni
end No
end
section
open Go.RowKit
namespace No
open Rl Ni
end No
end
end Go.Proofs.YtnecijeakeklaaaGreatDoor
