/-
 Contracts of strings.Builder's copyCheck and String, over a builder that the call itself has made.
-/
import Derived.Test.YtnecijeakeklaaaGreatDoorRows
import Derived.WalkKit
import Derived.WalkSpells
import Derived.WalkLawsBesides
import Derived.Lib.Hide
import Derived.RegionTactic
import Derived.Lib.Strings
import Derived.Lib.Slices
import Derived.Lib.Walk
import Derived.Lib.Builder
import Derived.Lib.AppendStr
import Derived.Lib.UnsafeStr
import Derived.Laws.Externs
import Derived.Lib.OthersKept
import Derived.OwnWalk
import Derived.Test.YtnecijeakeklaaaGreatDoorMp1
import Derived.Great.BuildSlice
import Derived.Laws.Rows
open Go.Lib (hid)
set_option linter.unusedSimpArgs false
set_option linter.unusedVariables false
set_option maxHeartbeats 40000000
set_option maxRecDepth 100000
namespace Go.Proofs.YtnecijeakeklaaaGreatDoor
section
open Go.RowKit
namespace Bu
theorem size_bu:(Tryz.prog.info? 176).map (·.size)=some 2:=by kernel_rfl
theorem lies_bu:liesAt Tryz.prog Tryz.prog.depth 176 (2/Tryz.prog.cellsOf 176) 0 176 1=true:=by kernel_rfl
theorem info_byte:(Tryz.prog.info? 5).map (fun i=>(i.zero,i.size,i.bytes))=some (some (.int .u8 0),1,1):=by kernel_rfl
theorem cells_byte:Tryz.prog.cellsOf 5=1:=by kernel_rfl
def Is (B b:Nat) (bs:List Value) (w:World):Prop:=Lib.IsBuilder 176 5 B b bs w
theorem fresh {B b:Nat} {w:World} (hB:B≤b) (h:w.heap[b]? = some (.cells #[.pointer none,.slice none 0 0] 176 (0,0))):Is B b [] w :=
 Or.inl ⟨hB,.slice none 0 0,h,World.ownsRow_nil _ _ _ _,by simp [Value.ownBlock]⟩
theorem check_used (b:Nat) (w:World) (h0:w.cell? ⟨b,0,none⟩=some (.pointer (some ⟨b,0,none⟩))) :
  Calls Tryz.prog 152 #[.pointer (some ⟨b,0,none⟩)] w fun e w'=>e = .returned (.tuple #[])∧w'=w:=by
 obtain ⟨j,hj,_⟩:=Option.map_eq_some_iff.1 size_bu;go_enter Tryz.func152,Tryz.ntmps152;go_wp2;rw [Lib.run_neq_ptr_same w _ Tryz.underlying174 hj];go_wp2;go_end0;exact ⟨rfl,rfl⟩
theorem check_fresh (b:Nat) (w:World) (h0:w.cell? ⟨b,0,none⟩=some (.pointer none)) (hsh:w.shape? b=some (176,2)) (hfz:w.frozen? ⟨b,0,none⟩=false) :
  Calls Tryz.prog 152 #[.pointer (some ⟨b,0,none⟩)] w fun e w'=>e = .returned (.tuple #[])∧w'=w.setCell ⟨b,0,none⟩ (.pointer (some ⟨b,0,none⟩)):=by
 obtain ⟨j,hj,hjs⟩:=Option.map_eq_some_iff.1 size_bu;have hto:=Lib.run_to_unsafe (P:=Tryz.prog) w ⟨b,0,none⟩ Tryz.underlying174 Tryz.underlying218 hj (by rw [hjs]; decide) hsh (Nat.zero_lt_succ 1);have hfrom:=Lib.run_from_unsafe (P:=Tryz.prog) w ⟨b,0,none⟩ Tryz.underlying218 Tryz.underlying174 hj hsh lies_bu;have hno:∀ (a:Addr) (wx:World),(callFunc 179 #[.pointer (some a)]).run Tryz.prog wx = .ok (.value (.pointer (some a))) wx:=fun a wx=>by
  rw [run_callFunc_extern Tryz.func179 (by kernel_rfl) (by kernel_rfl) (by kernel_rfl) (e:=Extern.AbiNoEscape.same) (by kernel_rfl),Lib.run_noEscape];rfl
 clear hj hjs;go_enter Tryz.func152,Tryz.ntmps152;go_wp2;go_end0;exact ⟨rfl,rfl⟩
theorem check {B b:Nat} {bs:List Value} {w:World} (h:Is B b bs w) :
  Calls Tryz.prog 152 #[.pointer (some ⟨b,0,none⟩)] w fun e w'=>e = .returned (.tuple #[])∧(Lib.BuilderAt 176 5 B b (.pointer (some ⟨b,0,none⟩)) bs w'∧Below B w w'∧Lib.OthersKept 5 (some b) w w'):=by
 rcases h with h | h
 ·refine (check_fresh b w h.cell0 h.shape h.frozen0).mono ?_;rintro e w' ⟨rfl,rfl⟩;exact ⟨rfl,h.used _,(Below.refl B w).setCell (p:=⟨b,0,none⟩) h.1 _,(Lib.OthersKept.refl _ _ _).setCell ⟨b,0,none⟩ rfl _⟩
 ·refine (check_used b w h.cell0).mono ?_;rintro e w' ⟨rfl,rfl⟩;exact ⟨rfl,h,Below.refl B _,Lib.OthersKept.refl _ _ _⟩
theorem row_kind {w:World} {B:Nat} {e:TypeId} {v:Value} {n:Nat} {xs:List Value} (h:w.ownsRow B e 1 v n xs):∀ g,v.ownBlock=some g→∃ c fz,w.heap[g]? = some (.cells c e fz):=by
 intro g hg;rcases h.2 with ⟨rfl,_⟩ | ⟨g',cap,cur,rfl,_,hgg,_⟩
 ·simp [Value.ownBlock] at hg
 ·simp [Value.ownBlock] at hg;subst hg;exact ⟨cur,_,hgg⟩
theorem Is.not_at {B b:Nat} {bs:List Value} {w:World} (h:Is B b bs w) {k:Nat} {cs:Array Value} {T:TypeId} {fr:Nat × Nat} (hk:w.heap[k]? = some (.cells cs T fr)) (hT:T≠176):k≠b:=by
 intro e;subst e;rcases h with ⟨_,v,hb,_⟩ | ⟨_,v,hb,_⟩ <;> (rw [hb] at hk; simp at hk; exact hT hk.2.1.symm)
theorem Is.kept {B b:Nat} {bs:List Value} {w w':World} (h:Is B b bs w) (hg:w.grownBy w' none):Is B b bs w':=by
 rcases h with ⟨hB,v,hb,ho,hn⟩ | ⟨hB,v,hb,ho,hn⟩
 ·have hlt:b<w.heap.size:=(Array.getElem?_eq_some_iff.1 hb).1;exact Or.inl ⟨hB,v,by rw [hg.block b hlt (by simp)]; exact hb,ho.kept hg (by cases v.ownBlock <;> simp),hn⟩
 ·have hlt:b<w.heap.size:=(Array.getElem?_eq_some_iff.1 hb).1;exact Or.inr ⟨hB,v,by rw [hg.block b hlt (by simp)]; exact hb,ho.kept hg (by cases v.ownBlock <;> simp),hn⟩
theorem grown_below {w w':World} (h:Below w.heap.size w w'):w.grownBy w' none:=⟨h.os,h.tape,h.output,h.size,fun k hk _=>h.block k hk⟩
theorem text_none (W:World) (q:Option Addr):(Builtin.unsafeString_ #[206,3] 9 #[.pointer q,.int .i64 0]).run Tryz.prog W = .ok (.string .empty) W :=
 Lib.run_unsafeString_none W _ _ _ q
theorem text {B b:Nat} {l:List UInt8} {w:World} (h:Is B b (Lib.byteCells l) w) (hBw:B≤w.heap.size) :
  Calls Tryz.prog 125 #[.pointer (some ⟨b,0,none⟩)] w fun e w'=>e = .returned (.string ⟨l.toArray⟩)∧Below B w w':=by
 obtain ⟨p,hB,v,hbk,hown,hne⟩:∃ p,Lib.BuilderAt 176 5 B b p (Lib.byteCells l) w:=by
  rcases h with h | h
  ·exact ⟨_,h⟩
  ·exact ⟨_,h⟩
 rw [Lib.byteCells_length] at hown;have hUS0:=text_none;by_cases h0:l=[]
 ·subst h0;rcases hown.2 with ⟨rfl,hz⟩ | ⟨g,cap,cur,rfl,hbg,hg,hnc,hcm,hcs,htake⟩
  ·have c1:w.drew.cell? ⟨b,1,none⟩=some (.slice none 0 0):=by
    have:w.drew.heap[b]? = some (.cells #[p,.slice none 0 0] 176 (0,0)):=hbk;rw [Lib.cell_of_heap this]; rfl
   have hSD:(Builtin.unsafeSliceData_ #[51] 206 #[.slice none 0 0]).run Tryz.prog w.drew = .ok (.pointer none) w.drew:=rfl;clear hown hbk hne hBw;go_enter Tryz.func125,Tryz.ntmps125;go_wp2;go_region
   all_goals (go_wp2; go_ret; exact ⟨rfl,Below.drew (Below.refl B w)⟩)
  ·have hlt:b<w.heap.size:=by
    rcases Nat.lt_or_ge b w.heap.size with h' | h'
    ·exact h'
    ·simp [Array.getElem?_eq_none h'] at hbk
   have hg':w.drew.heap[g]? = some (.cells cur 5 (0,0)):=hg;by_cases hc0:cap=0
   ·subst hc0;have c1:w.drew.cell? ⟨b,1,none⟩=some (.slice (some ⟨g,0,none⟩) 0 0):=by
     have:w.drew.heap[b]? = some (.cells #[p,.slice (some ⟨g,0,none⟩) 0 0] 176 (0,0)):=hbk;rw [Lib.cell_of_heap this]; rfl
    have hSD:(Builtin.unsafeSliceData_ #[51] 206 #[.slice (some ⟨g,0,none⟩) 0 0]).run Tryz.prog w.drew = .ok (.pointer (some ⟨w.drew.heap.size,0,none⟩)) (w.drew.alloc (.view ⟨g,0,none⟩ 5)) :=
     Lib.run_unsafeSliceData_zero w.drew _ _ 5 Tryz.underlying206 ⟨g,0,none⟩ 0 (5,cur.size) (by simp [World.shape?,hg'])
    have c2:(w.drew.alloc (.view ⟨g,0,none⟩ 5)).cell? ⟨b,1,none⟩=some (.slice (some ⟨g,0,none⟩) 0 0):=by
     have:(w.drew.alloc (.view ⟨g,0,none⟩ 5)).heap[b]? = _:=(Lib.alloc_old w.drew _ b hlt).trans hbk;rw [Lib.cell_of_heap this]; rfl
    have c3:(w.alloc (.view ⟨g,0,none⟩ 5)).drew.cell? ⟨b,1,none⟩=some (.slice (some ⟨g,0,none⟩) 0 0):=c2;have c0:w.cell? ⟨b,1,none⟩=some (.slice (some ⟨g,0,none⟩) 0 0):=c1;clear hown hbk hne hnc hcm hcs htake hg hg' hlt;go_enter Tryz.func125,Tryz.ntmps125;go_wp2;go_region
    all_goals (go_wp2; go_ret; exact ⟨rfl,(Below.drew (Below.refl B w)).alloc hBw _⟩)
   ·have c1:w.drew.cell? ⟨b,1,none⟩=some (.slice (some ⟨g,0,none⟩) 0 cap):=by
     have:w.drew.heap[b]? = some (.cells #[p,.slice (some ⟨g,0,none⟩) 0 cap] 176 (0,0)):=hbk;rw [Lib.cell_of_heap this]; rfl
    have hSD:(Builtin.unsafeSliceData_ #[51] 206 #[.slice (some ⟨g,0,none⟩) 0 cap]).run Tryz.prog w.drew = .ok (.pointer (some ⟨g,0,none⟩)) w.drew :=
     Lib.run_unsafeSliceData_row _ _ _ _ _ _ hc0
    clear hown hbk hne hnc hcm hcs htake hg hg' hlt hc0 hBw;go_enter Tryz.func125,Tryz.ntmps125;go_wp2;go_region
    all_goals (go_wp2; go_ret; exact ⟨rfl,Below.drew (Below.refl B w)⟩)
 ·have hl0:l.length≠0:=by simpa using h0
  obtain ⟨g,cap,cur,rfl,hbg,hg,hnc,hcm,hcs,htake⟩:∃ g cap cur,v = .slice (some ⟨g,0,none⟩) l.length cap∧B≤g∧w.heap[g]? = some (.cells cur 5 (0,0))∧l.length≤cap∧cap≤maxLen∧cur.size=cap*1∧cur.toList.take (l.length*1)=Lib.byteCells l:=by
   rcases hown.2 with ⟨_,hz⟩ | ⟨g,cap,cur,hv,r⟩
   ·exact absurd hz hl0
   ·exact ⟨g,cap,cur,hv,r⟩
  have c1:w.drew.cell? ⟨b,1,none⟩=some (.slice (some ⟨g,0,none⟩) l.length cap):=by
   have:w.drew.heap[b]? = some (.cells #[p,.slice (some ⟨g,0,none⟩) l.length cap] 176 (0,0)):=hbk;rw [Lib.cell_of_heap this]; rfl
  have hg':w.drew.heap[g]? = some (.cells cur 5 (0,0)):=hg;have hSD:(Builtin.unsafeSliceData_ #[51] 206 #[.slice (some ⟨g,0,none⟩) l.length cap]).run Tryz.prog w.drew = .ok (.pointer (some ⟨g,0,none⟩)) w.drew :=
   Lib.run_unsafeSliceData_row _ _ _ _ _ _ (by omega)
  have hUS:(Builtin.unsafeString_ #[206,3] 9 #[.pointer (some ⟨g,0,none⟩),.int .i64 l.length]).run Tryz.prog w.drew = .ok (.string ⟨l.toArray⟩) (w.drew.freeze ⟨g,0,none⟩ l.length):=by
   refine Lib.run_unsafeString_row w.drew 206 3 9 5 Tryz.underlying206 cells_byte g cur.size (by simp [World.shape?,hg']) l h0 (by omega) (by unfold maxLen at hcm; omega) ?_;intro j x hx;have:=hown.cells (g:=g) rfl j (.int .u8 x.toNat) (by simp [Lib.byteCells,hx]);exact this
  clear hown hbk hne hnc hcm hcs htake hg hg' h0 hl0 hBw hUS0;go_enter Tryz.func125,Tryz.ntmps125;go_wp2;go_region
  all_goals (go_wp2; go_ret; exact ⟨rfl,Lib.below_freeze (Below.drew (Below.refl B w)) (p:=⟨g,0,none⟩) hbg _⟩)
end Bu
end
section
open Go.RowKit
namespace Bu
theorem cell_one_new' (w:World) (v:Value) (t:TypeId) (fz:Nat × Nat):∀ j u,[v][j]? = some u→(w.alloc (.cells #[v] t fz)).cell? ((⟨w.heap.size,0,none⟩:Addr).add j)=some u:=by
 intro j u hj
 match j,hj with
 | 0,hj=>simp at hj; subst hj; simp [Addr.add,World.cell?_alloc_mark]
theorem writeByte {B b:Nat} {bs:List Value} {w:World} (c:Int) (h:Is B b bs w) (hlen:bs.length+1≤140737488355328) (hBw:B≤w.heap.size) :
  Calls Tryz.prog 124 #[.pointer (some ⟨b,0,none⟩),.int .u8 c] w fun e w'=>e = .returned .nilIface∧(Is B b (bs++[.int .u8 c]) w'∧Below B w w'∧Lib.OthersKept 5 (some b) w w'):=by
 obtain ⟨i0,hi,hz0,hz1,hz2⟩:=info_parts info_byte;go_enter Tryz.func124,Tryz.ntmps124;go_wp2_with (go_at_call 152; refine (check h).mono ?_)
 rintro e w1 ⟨rfl,h1,hb1,hk1⟩;obtain ⟨hB,v,hbk,hown,hne⟩:=h1;have c0:w1.cell? ⟨b,0,none⟩=some (.pointer (some ⟨b,0,none⟩)):=by rw [Lib.cell_of_heap hbk]; rfl
 have c1:w1.cell? ⟨b,1,none⟩=some v:=by rw [Lib.cell_of_heap hbk]; rfl
 have hlt:b<w1.heap.size:=by
  rcases Nat.lt_or_ge b w1.heap.size with h' | h'
  ·exact h'
  ·simp [Array.getElem?_eq_none h'] at hbk
 go_wp2_with (at_builtin; refine wpList_append_own _ rfl _ _ 51 rfl B 5 i0 (.int .u8 0) 1 1 Tryz.underlying51 hi hz0 hz1 hz2 rfl (by decide) _ _ _ rfl (hown.alloc _) ⟨w1.heap.size,0,none⟩ 1 1 [.int .u8 c] rfl rfl ?c1 ?c2 ?c3 ?c4 ?c5 ?_)
 case c1=>exact cell_one_new' _ _ _ _
 case c2=>intro u hu; simp at hu; subst hu; rfl
 case c3=>unfold maxLen; omega
 case c4=>omega
 case c5=>have:=hb1.size; simp; omega
 intro v' w2 hown' hgrow _;have hb2:w2.heap[b]? = some (.cells #[.pointer (some ⟨b,0,none⟩),v] 176 (0,0)):=by
  rw [hgrow.block b (by simp; omega) (fun e=>hne e.symm),Lib.alloc_old w1 _ b hlt];exact hbk
 have d1:w2.cell? ⟨b,1,none⟩=some v:=by rw [Lib.cell_of_heap hb2]; rfl
 have f1:w2.frozen? ⟨b,1,none⟩=false:=Lib.frozen_of_heap hb2 1;obtain ⟨ao,n',cap,rfl⟩:∃ ao n' cap,v' = .slice ao n' cap:=by
  rcases hown'.2 with ⟨hv,_⟩ | ⟨g,cap,cur,hv,_⟩
  ·exact ⟨_,_,_,hv⟩
  ·exact ⟨_,_,_,hv⟩
 go_wp2;go_ret;refine ⟨rfl,Or.inr ?_,?_,?_⟩
 ·exact Lib.BuilderAt.put (T:=176) (e:=5) hB hb2 (bs':=bs++[.int .u8 c]) (by simpa using hown') (by decide)
 ·exact ((hb1.alloc (by have:=hb1.size; omega) _).grown hgrow (by have:=hb1.size; simp; omega) (fun k hk=>(hown.lt k hk).1)).setCell (p:=⟨b,1,none⟩) hB _
 ·exact ((hk1.alloc _).grown hgrow (row_kind (hown.alloc _))).setCell ⟨b,1,none⟩ rfl _
end Bu
end
section
open Go.RowKit
namespace Rl
def dig (n:Nat):List UInt8:=if n=0 then [] else UInt8.ofNat n::dig (n/256)
termination_by n
decreasing_by omega
theorem dig_zero:dig 0=[]:=by rw [dig]; rfl
theorem dig_pos {n:Nat} (h:0<n):dig n=UInt8.ofNat n::dig (n/256):=by rw [dig,if_neg (by omega)]
theorem dig_length (k:Nat):∀ n,n<256 ^ k→(dig n).length≤k:=by
 induction k with
 | zero =>
  intro n hn;obtain rfl:n=0:=by simpa using hn
  simp [dig_zero]
 | succ k ih =>
  intro n hn;by_cases h:n=0
  ·subst h; simp [dig_zero]
  ·rw [dig_pos (by omega)];have:=ih (n/256) (by rw [Nat.pow_succ] at hn; omega);simp; omega
def bigL (n:Nat):List UInt8:=(dig n).reverse
theorem bigL_length {n:Nat} (h:n<2 ^ 64):(bigL n).length≤8:=by
 unfold bigL;rw [List.length_reverse];exact dig_length 8 n (by simpa using h)
theorem bigL_pos {n:Nat} (h:0<n):bigL n=bigL (n/256)++[UInt8.ofNat n]:=by
 unfold bigL;rw [dig_pos h];simp
theorem bigL_zero:bigL 0=[]:=by unfold bigL; rw [dig_zero]; rfl
def encB (l:List UInt8):List Value:=l.map fun x=>Value.int .u8 x.toNat
theorem encB_snoc (l:List UInt8) (n:Nat):encB l++[.int .u8 (IntKind.u8.wrap (n:Int))]=encB (l++[UInt8.ofNat n]):=by
 unfold encB;rw [List.map_append];simp [IntKind.wrap_u8]
theorem row_of_owns {w:World} {B:Nat} {t:TypeId} {v:Value} {n:Nat} {l:List UInt8} (h:w.ownsRow B t 1 v n (encB l)) (h0:0<n) :
  ∃ g cap f,v = .slice (some ⟨g,0,none⟩) n cap∧B≤g∧n≤cap∧cap≤maxLen∧w.rowIs g t cap f∧∀ j,j<n→f j = .int .u8 ((l.getD j 0).toNat:Int):=by
 have hl:l.length=n:=by simpa [encB] using h.1
 rcases h.2 with ⟨rfl,hz⟩ | ⟨g,cap,cur,rfl,hbg,hg,hnc,hcm,hcs,htake⟩
 ·omega
 ·refine ⟨g,cap,fun j=>cur.getD j undef,rfl,hbg,hnc,hcm,⟨cur,hg,by simpa using hcs,fun i hi=>?_⟩,fun j hj=>?_⟩
  ·have:i<cur.size:=by omega
   simp [this]
  ·have:=h.cells (g:=g) rfl j (.int .u8 (l.getD j 0).toNat) (by simp [encB,List.getD,hl,hj]);have e:(⟨g,0,none⟩:Addr).add j=⟨g,0+j,none⟩:=by unfold Addr.add; split <;> simp_all
   rw [e] at this;simp [World.cell?,hg] at this;simp [this]
theorem bs_of_row {w:World} {g cap:Nat} {t:TypeId} {f:Nat→Value} {l:List UInt8} (h:w.rowIs g t cap (Rv.turned f l.length l.length)) (hnc:l.length≤cap) (hcm:cap≤maxLen) (hf:∀ j,j<l.length→f j = .int .u8 ((l.getD j 0).toNat:Int)) :
  IsBs w (some ⟨g,0,none⟩) l.length cap l.reverse:=by
 refine ⟨hnc,hcm,by simp,fun e=>(by cases e),fun j hj=>⟨g,0,rfl,h.lt,?_⟩⟩;rw [Nat.zero_add,h.cell (by omega)];unfold Rv.turned;rw [if_pos ⟨hj,.inl hj⟩,hf _ (by omega)];simp [List.getD,hj,show l.length-1-j<l.length by omega]
theorem number_any (n:Nat) (h0:0<n) (hn:n<2 ^ 64) (w:World) :
  Calls Tryz.prog 197 #[.int .u64 n] w fun e w'=>e = .returned (.string ⟨(bigL n).toArray⟩)∧Below w.heap.size w w':=by
 obtain ⟨i0,hi,hz0,hz1,hz2⟩:=info_parts Cc.info_u8;have HI:Hid (_∧_∧_∧_):=hid ⟨hi,hz0,hz1,hz2⟩;have HL:Hid ((dig n).length≤8):=hid (dig_length 8 n (by simpa using hn));have HP:Hid (0<(dig n).length):=hid (by rw [dig_pos h0]; simp);clear hi hz0 hz1 hz2;go_enter Tryz.func197,Tryz.ntmps197;go_wp2
 go_loopw [0,3] (fun i v wr=>∃ (x:Nat) (l:List UInt8),x<2 ^ 64∧i = .int .u64 x∧Hid (l++dig x=dig n)∧Hid (wr.ownsRow w.heap.size 5 1 v l.length (encB l))∧Below w.heap.size w wr) (fun i _ _=>(intOf i).toNat)
 case atStart=>exact ⟨n,[],hn,rfl,hid rfl,hid (World.ownsRow_nil _ _ _ _),Below.refl _ _⟩
 case round =>
  obtain ⟨x,l,hx,rfl,HD,HO,hB⟩:=hrel;have hsz:=hB.size;have HB:=hid hB;clear hB;by_cases hlt:0<x
  ·have HD':Hid ((l++[UInt8.ofNat x])++dig (x/256)=dig n):=hid (by rw [← HD.out,dig_pos hlt]; simp);have hl8:l.length≤8:=by
    have:=congrArg List.length HD.out;have h8:=HL.out;rw [List.length_append] at this;omega
   have HE:=hid (encB_snoc l x);go_wp2_with (at_builtin; refine wpList_append_own _ rfl _ _ 51 rfl w.heap.size 5 i0 (.int .u8 0) 1 1 Tryz.underlying51 HI.out.1 HI.out.2.1 HI.out.2.2.1 HI.out.2.2.2 rfl (by decide) _ _ _ rfl (HO.out.alloc _) ⟨wr.heap.size,0,none⟩ 1 1 [.int .u8 (IntKind.u8.wrap (x:Int))] rfl rfl ?c1 ?c2 ?c3 ?c4 ?c5 ?_)
   case c1=>exact Bu.cell_one_new' _ _ _ _
   case c2=>intro u hu; simp at hu; subst hu; rfl
   case c3=>unfold maxLen; omega
   case c4=>omega
   case c5=>simp; omega
   intro v' w2 hown2 hgrow _;have hlt':=HO.out.lt;go_wp2;go_roundw
   case rel => 
    exact ⟨x/256,l++[UInt8.ofNat x],by omega,by go_num,hid HD'.out,hid (by rw [List.length_append,← HE.out]; exact hown2),(HB.out.alloc hsz _).grown hgrow (by simp; omega) (fun g hg=>(hlt' g hg).1)⟩
   case measure=>simp [intOf]; omega
  ·obtain rfl:x=0:=by omega
   have hd:=HD.out;rw [dig_zero,List.append_nil] at hd;obtain ⟨g,cap,f,rfl,hgB,hnc,hcm,hrow,hf⟩:=row_of_owns HO.out (by rw [hd]; exact HP.out);have HRv:=hid (Rv.reverse_any g l.length cap 5 f (by rw [hd]; exact HP.out) hnc hcm wr hrow (fun j hj=>⟨_,hf j hj⟩));have HF:=hid hf;have HN:Hid (l=dig n):=hid hd;clear hf hrow hd;go_wp2_with (go_at_call 201; refine HRv.out.mono ?_; rintro e w1 ⟨rfl,hr1,hu1⟩; have hcv:=conv_bs (bs_of_row hr1 hnc hcm HF.out); have HU:=hid hu1; clear hr1 hu1)
   go_ret;refine ⟨by rw [HN.out]; rfl,HU.out.below HB.out hgB⟩
end Rl
end
section
open Go.RowKit
namespace Rl
theorem meetOne {o:Oper} {a:Act} {w:World} {K:Act→World→Prop} {Q:Exit→Act→World→Prop} {ops:Array Oper} (hw:Region.wanted o (yielded ops a.tmps)=true) {z:Int}
  (ho:∃ x,o.op = .buildSlice 51 1 #[(0,x)]∧a.eval x = .int .u8 z) (hz:0≤z∧z<256)
  (h:∀ w' b,IsBs w' (some ⟨b,0,none⟩) 1 1 [UInt8.ofNat z.toNat]→Below w.heap.size w w'→K (a.put o.dst (.slice (some ⟨b,0,none⟩) 1 1)) w'):if Region.wanted o (yielded ops a.tmps)=true then Oper.wp Tryz.prog o a w K Q else K (a.put o.dst undef) w:=by
 obtain ⟨x,ho,hx⟩:=ho;have hb:IsBs (w.alloc (.cells #[.int .u8 z] 5)) (some ⟨w.heap.size,0,none⟩) 1 1 [UInt8.ofNat z.toNat]:=IsBs.new w [UInt8.ofNat z.toNat] (by unfold maxLen; simp) _ _ (by
  simp;omega)
 obtain ⟨i0,hi,hz0,hz1,hz2⟩:=info_parts Cc.info_u8;refine Rg.want hw (wp_buildSlice 51 5 1 _ ho #[.int .u8 z] i0 (.int .u8 0) Tryz.underlying51 hi hz0 (by rw [hz1]; decide) (by rw [hz1]; decide) ?_ (h _ _ hb (al1 _ _)));simp only [List.map_toArray,List.map_cons,List.map_nil,hx,hz1];kernel_rfl
theorem big_any (n:Nat):n<2 ^ 63→∀ w:World,Calls Tryz.prog 158 #[.int .i64 n] w fun e w'=>e = .returned (.string ⟨(bigL n).toArray⟩)∧Below w.heap.size w w':=by
 induction n using Nat.strongRecOn with
 | ind n ih =>
  intro hn w;by_cases h0:n=0
  ·subst h0;rw [bigL_zero];clear ih;go_enter Tryz.func158,Tryz.ntmps158;go_wp2;go_ret;exact ⟨rfl,Below.refl _ _⟩
  ·have hi:=ih (n/256) (by omega) (by omega);rw [show ((n/256:Nat):Int)=IntKind.i64.wrap ((n:Int)/256) by rw [IntKind.wrap_i64]; omega] at hi;have HI:=hid hi;have HQ:Hid (0≤IntKind.u8.wrap ((n:Int).tmod 256)∧IntKind.u8.wrap ((n:Int).tmod 256)<256):=hid (by rw [IntKind.wrap_u8]; omega);have HE:Hid (bigL n=bigL (n/256)++[UInt8.ofNat (IntKind.u8.wrap ((n:Int).tmod 256)).toNat]):=hid (by
    rw [bigL_pos (n:=n) (by omega)];congr 2;rw [IntKind.wrap_u8,Int.tmod_eq_emod_of_nonneg (by omega),show (((n:Int)%256)%256).toNat=n%256 by omega];apply UInt8.toNat_inj.1;simp)
   have hlen:(bigL (n/256)).length≤8:=bigL_length (by omega);clear hi;clear ih;go_enter Tryz.func158,Tryz.ntmps158;go_wp2_with fail
   refine wp_region_noPanic ?_;refine wp_region_held_drew (S:=fun w'=>Below w.heap.size w w') (by kernel_rfl) ((Below.refl _ _).drew) (fun hld=>?_);refine Rg.tk (i:=0) rfl ?_;try simp only [Act.put,Rg.s]
   refine Rg.tk (i:=1) rfl ?_;try simp only [Act.put,Rg.s]
   refine Rg.tk (i:=3) rfl ?_;try simp only [Act.put,Rg.s]
   refine Rg.tk (i:=4) rfl ?_;try simp only [Act.put,Rg.s]
   refine Rg.tk (i:=5) rfl ?_;try simp only [Act.put,Rg.s]
   refine wpAnyH_ready (rs:=[2,6]) (by kernel_rfl) (by simp) ?_;refine Rg.readyC (i:=2) rfl (fun K hK=>?_) (Rg.readyL (i:=6) rfl (fun K hK=>?_))
   ·go_simp;go_at_call 158
    (with_reducible refine (HI.out _).mono ?_)
    rintro e wv0 ⟨rfl,hbx⟩;refine hK.out _ _ ?_ (fun hld=>?_)
    ·exact Below.trans hld (hbx.mono hld.size)
    clear hK K hbx;try simp only [Act.put,Rg.s]
    refine Rg.rd (i:=6) rfl fun K hK=>?_;refine meetOne (by rfl) ⟨_,rfl,rfl⟩ HQ.out ?_;rintro wv1 b6 h6 hbx;refine hK.out _ _ ?_ (fun hld=>?_)
    ·exact Below.trans hld (hbx.mono hld.size)
    clear hK K hbx;try simp only [Act.put,Rg.s]
    refine Rg.rd (i:=7) rfl fun K hK=>?_;have hcv:=conv_bs h6;go_simp;refine hK.out _ _ ?_ (fun hld=>?_)
    ·exact hld
    clear hK K hcv;try simp only [Act.put,Rg.s]
    refine Rg.tk (i:=8) rfl ?_ (hy:=by intro wz hSw; have hz8:¬ 9223372036854775807<(bigL (n/256)).length+1:=(by omega); go_simp <;> with_reducible rfl);try simp only [Act.put,Rg.s]
    refine Rg.tk (i:=9) rfl ?_;try simp only [Act.put,Rg.s]
    refine wpAnyH_done (by kernel_rfl) ?_ _;refine NoPanic.normal ?_;go_wp2;go_ret;exact ⟨by rw [HE.out]; rfl,hld⟩
   ·refine meetOne (by rfl) ⟨_,rfl,rfl⟩ HQ.out ?_;rintro wv0 b6 h6 hbx;refine hK.out _ _ ?_ (fun hld=>?_)
    ·exact Below.trans hld (hbx.mono hld.size)
    clear hK K hbx;try simp only [Act.put,Rg.s]
    refine wpAnyH_ready (rs:=[2,7]) (by kernel_rfl) (by simp) ?_;refine Rg.readyC (i:=2) rfl (fun K hK=>?_) (Rg.readyL (i:=7) rfl (fun K hK=>?_))
    ·go_simp;go_at_call 158
     (with_reducible refine (HI.out _).mono ?_)
     rintro e wv1 ⟨rfl,hbx⟩;replace h6:=h6.below hbx;refine hK.out _ _ ?_ (fun hld=>?_)
     ·exact Below.trans hld (hbx.mono hld.size)
     clear hK K hbx;try simp only [Act.put,Rg.s]
     refine Rg.rd (i:=7) rfl fun K hK=>?_;have hcv:=conv_bs h6;go_simp;refine hK.out _ _ ?_ (fun hld=>?_)
     ·exact hld
     clear hK K hcv;try simp only [Act.put,Rg.s]
     refine Rg.tk (i:=8) rfl ?_ (hy:=by intro wz hSw; have hz8:¬ 9223372036854775807<(bigL (n/256)).length+1:=(by omega); go_simp <;> with_reducible rfl);try simp only [Act.put,Rg.s]
     refine Rg.tk (i:=9) rfl ?_;try simp only [Act.put,Rg.s]
     refine wpAnyH_done (by kernel_rfl) ?_ _;refine NoPanic.normal ?_;go_wp2;go_ret;exact ⟨by rw [HE.out]; rfl,hld⟩
    ·have hcv:=conv_bs h6;go_simp;refine hK.out _ _ ?_ (fun hld=>?_)
     ·exact hld
     clear hK K hcv;try simp only [Act.put,Rg.s]
     refine Rg.rd (i:=2) rfl fun K hK=>?_;go_simp;go_at_call 158
     (with_reducible refine (HI.out _).mono ?_)
     rintro e wv1 ⟨rfl,hbx⟩;replace h6:=h6.below hbx;refine hK.out _ _ ?_ (fun hld=>?_)
     ·exact Below.trans hld (hbx.mono hld.size)
     clear hK K hbx;try simp only [Act.put,Rg.s]
     refine Rg.tk (i:=8) rfl ?_ (hy:=by intro wz hSw; have hz8:¬ 9223372036854775807<(bigL (n/256)).length+1:=(by omega); go_simp <;> with_reducible rfl);try simp only [Act.put,Rg.s]
     refine Rg.tk (i:=9) rfl ?_;try simp only [Act.put,Rg.s]
     refine wpAnyH_done (by kernel_rfl) ?_ _;refine NoPanic.normal ?_;go_wp2;go_ret;exact ⟨by rw [HE.out]; rfl,hld⟩
end Rl
end
section
open Go.RowKit
namespace Rl
def mark (l:Bool):Nat:=if l then 192 else 128
def headL (n:Nat) (l:Bool):List UInt8:=if n<56 then [UInt8.ofNat (mark l+n)] else UInt8.ofNat (mark l+55+(bigL n).length)::bigL n
def headS (n:Nat) (l:Bool):ByteArray:=⟨(headL n l).toArray⟩
def clampH (n:Int):Nat:=(min (max n 0) 4294967296).toNat
theorem clampH_le (n:Int):clampH n≤4294967296:=by unfold clampH; omega
theorem headS_small {n:Nat} (h:n<56) (l:Bool):headS n l=⟨#[UInt8.ofNat (mark l+n)]⟩:=by unfold headS headL; rw [if_pos h]
theorem headS_big {n:Nat} (h:¬ n<56) (l:Bool):headS n l=⟨#[UInt8.ofNat (mark l+55+(bigL n).length)]⟩++⟨(bigL n).toArray⟩:=by
 unfold headS headL;rw [if_neg h];apply ByteArray.ext;simp
theorem conv_new (w:World) (z:Int) (hz:0≤z∧z<256) (c:UInt8) (hc:c=UInt8.ofNat z.toNat) :
  Sem.run Tryz.prog (convert 51 9 (Value.slice (some ⟨w.heap.size,0,none⟩) 1 1)) (w.alloc (.cells #[.int .u8 z] 5)) = .ok (.string ⟨#[c]⟩) (w.alloc (.cells #[.int .u8 z] 5)):=by
 subst hc;have hb:IsBs (w.alloc (.cells #[.int .u8 z] 5)) (some ⟨w.heap.size,0,none⟩) 1 1 [UInt8.ofNat z.toNat]:=IsBs.new w [UInt8.ofNat z.toNat] (by unfold maxLen; simp) _ _ (by
  simp;omega)
 exact conv_bs hb
theorem head_small (n:Int) (m k:Nat) (hmax:max n 0=m) (hmin:min (m:Int) 4294967296=k) (hk:k<56) (l:Bool) (w:World) :
  Calls Tryz.prog 191 #[.int .i64 n,.bool l] w fun e w'=>e = .returned (.string (headS k l))∧Below w.heap.size w w':=by
 cases l
 ·obtain ⟨c,hc⟩:∃ c,c=UInt8.ofNat (128+k):=⟨_,rfl⟩
  have HS:Hid (headS k false=⟨#[c]⟩):=hid (by rw [headS_small hk,hc]; rfl);have hcv:=conv_new w (128+k) (by omega) c (hc.trans (congrArg _ (by omega)));clear hc;go_enter Tryz.func191,Tryz.ntmps191;go_wp2;go_ret;exact ⟨by rw [HS.out]; rfl,al1 _ _⟩
 ·obtain ⟨c,hc⟩:∃ c,c=UInt8.ofNat (192+k):=⟨_,rfl⟩
  have HS:Hid (headS k true=⟨#[c]⟩):=hid (by rw [headS_small hk,hc]; rfl);have hcv:=conv_new w (192+k) (by omega) c (hc.trans (congrArg _ (by omega)));clear hc;go_enter Tryz.func191,Tryz.ntmps191;go_wp2;go_ret;exact ⟨by rw [HS.out]; rfl,al1 _ _⟩
theorem head_big (n:Int) (m k:Nat) (hmax:max n 0=m) (hmin:min (m:Int) 4294967296=k) (hm:m<2 ^ 63) (hk:¬ k<56) (hk2:k≤4294967296) (l:Bool) (w:World) :
  Calls Tryz.prog 191 #[.int .i64 n,.bool l] w fun e w'=>e = .returned (.string (headS k l))∧Below w.heap.size w w':=by
 have HN:=hid (fun w=>number_any k (by omega) (by omega) w);have hlen:=bigL_length (n:=k) (by omega);cases l
 ·obtain ⟨c,hc⟩:∃ c,c=UInt8.ofNat (183+(bigL k).length):=⟨_,rfl⟩
  have hs1:headS k false=⟨#[c]⟩++⟨(bigL k).toArray⟩:=by rw [headS_big hk,hc]; rfl
  have hcv:=fun w=>conv_new w (183+(bigL k).length) (by omega) c (hc.trans (congrArg _ (by omega)));obtain ⟨B,hB⟩:∃ B,bigL k=B:=⟨_,rfl⟩
  rw [hB] at hs1 HN hlen;simp only [hB] at hcv;clear hB hc;have hsz:(⟨B.toArray⟩:ByteArray).size=B.length:=by rfl
  obtain ⟨s,hs⟩:∃ s:ByteArray,⟨B.toArray⟩=s:=⟨_,rfl⟩
  rw [hs] at hsz hs1 HN;have HS:=hid hs1;clear hs hs1;go_enter Tryz.func191,Tryz.ntmps191;go_wp2_with fail
  refine (HN.out _).mono ?_;rintro e w1 ⟨rfl,hb1⟩;have hcv1:=hcv w1;go_wp2;go_ret;exact ⟨by rw [HS.out]; rfl,bst hb1 (al1 _ _)⟩
 ·obtain ⟨c,hc⟩:∃ c,c=UInt8.ofNat (247+(bigL k).length):=⟨_,rfl⟩
  have hs1:headS k true=⟨#[c]⟩++⟨(bigL k).toArray⟩:=by rw [headS_big hk,hc]; rfl
  have hcv:=fun w=>conv_new w (247+(bigL k).length) (by omega) c (hc.trans (congrArg _ (by omega)));obtain ⟨B,hB⟩:∃ B,bigL k=B:=⟨_,rfl⟩
  rw [hB] at hs1 HN hlen;simp only [hB] at hcv;clear hB hc;have hsz:(⟨B.toArray⟩:ByteArray).size=B.length:=by rfl
  obtain ⟨s,hs⟩:∃ s:ByteArray,⟨B.toArray⟩=s:=⟨_,rfl⟩
  rw [hs] at hsz hs1 HN;have HS:=hid hs1;clear hs hs1;go_enter Tryz.func191,Tryz.ntmps191;go_wp2_with fail
  refine (HN.out _).mono ?_;rintro e w1 ⟨rfl,hb1⟩;have hcv1:=hcv w1;go_wp2;go_ret;exact ⟨by rw [HS.out]; rfl,bst hb1 (al1 _ _)⟩
theorem rhead_small (k:Nat) (hk:k<56) (l:Bool) (w:World) :
  Calls Tryz.prog 133 #[.int .i64 k,.bool l] w fun e w'=>e = .returned (.string (headS k l))∧Below w.heap.size w w':=by
 cases l
 ·obtain ⟨c,hc⟩:∃ c,c=UInt8.ofNat (128+k):=⟨_,rfl⟩
  have HS:Hid (headS k false=⟨#[c]⟩):=hid (by rw [headS_small hk,hc]; rfl);have hcv:=conv_new w (128+k) (by omega) c (hc.trans (congrArg _ (by omega)));clear hc;go_enter Tryz.func133,Tryz.ntmps133;go_wp2;go_ret;exact ⟨by rw [HS.out]; rfl,al1 _ _⟩
 ·obtain ⟨c,hc⟩:∃ c,c=UInt8.ofNat (192+k):=⟨_,rfl⟩
  have HS:Hid (headS k true=⟨#[c]⟩):=hid (by rw [headS_small hk,hc]; rfl);have hcv:=conv_new w (192+k) (by omega) c (hc.trans (congrArg _ (by omega)));clear hc;go_enter Tryz.func133,Tryz.ntmps133;go_wp2;go_ret;exact ⟨by rw [HS.out]; rfl,al1 _ _⟩
theorem rhead_big (k:Nat) (hk:¬ k<56) (hk2:k≤4294967296) (l:Bool) (w:World) :
  Calls Tryz.prog 133 #[.int .i64 k,.bool l] w fun e w'=>e = .returned (.string (headS k l))∧Below w.heap.size w w':=by
 have HN:=hid (fun w=>big_any k (by omega) w);have hlen:=bigL_length (n:=k) (by omega);cases l
 ·obtain ⟨c,hc⟩:∃ c,c=UInt8.ofNat (183+(bigL k).length):=⟨_,rfl⟩
  have hs1:headS k false=⟨#[c]⟩++⟨(bigL k).toArray⟩:=by rw [headS_big hk,hc]; rfl
  have hcv:=fun w=>conv_new w (183+(bigL k).length) (by omega) c (hc.trans (congrArg _ (by omega)));obtain ⟨B,hB⟩:∃ B,bigL k=B:=⟨_,rfl⟩
  rw [hB] at hs1 HN hlen;simp only [hB] at hcv;clear hB hc;have hsz:(⟨B.toArray⟩:ByteArray).size=B.length:=by rfl
  obtain ⟨s,hs⟩:∃ s:ByteArray,⟨B.toArray⟩=s:=⟨_,rfl⟩
  rw [hs] at hsz hs1 HN;have HS:=hid hs1;clear hs hs1;go_enter Tryz.func133,Tryz.ntmps133;go_wp2_with fail
  refine (HN.out _).mono ?_;rintro e w1 ⟨rfl,hb1⟩;have hcv1:=hcv w1;go_wp2;go_ret;exact ⟨by rw [HS.out]; rfl,bst hb1 (al1 _ _)⟩
 ·obtain ⟨c,hc⟩:∃ c,c=UInt8.ofNat (247+(bigL k).length):=⟨_,rfl⟩
  have hs1:headS k true=⟨#[c]⟩++⟨(bigL k).toArray⟩:=by rw [headS_big hk,hc]; rfl
  have hcv:=fun w=>conv_new w (247+(bigL k).length) (by omega) c (hc.trans (congrArg _ (by omega)));obtain ⟨B,hB⟩:∃ B,bigL k=B:=⟨_,rfl⟩
  rw [hB] at hs1 HN hlen;simp only [hB] at hcv;clear hB hc;have hsz:(⟨B.toArray⟩:ByteArray).size=B.length:=by rfl
  obtain ⟨s,hs⟩:∃ s:ByteArray,⟨B.toArray⟩=s:=⟨_,rfl⟩
  rw [hs] at hsz hs1 HN;have HS:=hid hs1;clear hs hs1;go_enter Tryz.func133,Tryz.ntmps133;go_wp2_with fail
  refine (HN.out _).mono ?_;rintro e w1 ⟨rfl,hb1⟩;have hcv1:=hcv w1;go_wp2;go_ret;exact ⟨by rw [HS.out]; rfl,bst hb1 (al1 _ _)⟩
theorem head_any (n:Int) (hn:n<2 ^ 63) (l:Bool) (w:World) :
  Calls Tryz.prog 191 #[.int .i64 n,.bool l] w fun e w'=>e = .returned (.string (headS (clampH n) l))∧Below w.heap.size w w':=by
 have h1:max n 0=((max n 0).toNat:Int):=by omega
 have h2:min (((max n 0).toNat:Nat):Int) 4294967296=clampH n:=by unfold clampH; omega
 by_cases hk:clampH n<56
 ·exact head_small n _ _ h1 h2 hk l w
 ·exact head_big n _ _ h1 h2 (by omega) hk (clampH_le n) l w
theorem rhead_any (k:Nat) (hk2:k≤4294967296) (l:Bool) (w:World) :
  Calls Tryz.prog 133 #[.int .i64 k,.bool l] w fun e w'=>e = .returned (.string (headS k l))∧Below w.heap.size w w':=by
 by_cases hk:k<56
 ·exact rhead_small k hk l w
 ·exact rhead_big k hk hk2 l w
end Rl
end
section
open Go.RowKit
namespace Lh
theorem low_any (a b:Int) (w:World) :
  Calls Tryz.prog 76 #[.int .i64 a,.int .i64 b] w fun e w'=>e = .returned (.int .i64 (if a<b then a else b))∧w=w':=by
 by_cases h:a<b
 ·rw [if_pos h];go_enter Tryz.func76,Tryz.ntmps76;go_wp2;go_ret;exact ⟨rfl,rfl⟩
 ·rw [if_neg h];go_enter Tryz.func76,Tryz.ntmps76;go_wp2;go_ret;exact ⟨rfl,rfl⟩
end Lh
end
section
open Go.RowKit
namespace Rl
theorem text_any (s:ByteArray) (w:World) :
  Calls Tryz.prog 148 #[.string s] w fun e w'=>e = .returned (itV (.mk false s []) none 0 0)∧Below w.heap.size w w':=by
 go_enter Tryz.func148,Tryz.ntmps148;go_wp2;exact bodyPost_ret (res_item rfl _ rfl (lies_new w (.mk false s []) none 0 0 _)) rfl ⟨rfl,(Below.refl _ _).alloc (Nat.le_refl _) _⟩
end Rl
end
section
open Go.RowKit
namespace It
def size:It→Nat
 | .mk _ _ xs=>1+(xs.map size).sum
termination_by x=>SizeOf.sizeOf x
decreasing_by
 rename_i h;have:=List.sizeOf_lt_of_mem h;simp;omega
theorem size_mk (l:Bool) (s:ByteArray) (xs:List It):(It.mk l s xs).size=1+(xs.map size).sum:=by rw [size]
end It
namespace Rl
theorem sum_take (xs:List It) (q:Nat) (x:It) (h:xs[q]? = some x):(((xs.take (q+1)).map It.size).sum:Nat)=((xs.take q).map It.size).sum+x.size:=by
 rw [List.take_add_one,h];simp
open Classical in
noncomputable def sameB {α:Type} (x y : α):Bool:=decide (x=y)
theorem sameB_true {α:Type} {x y : α} (h:x=y):sameB x y=true:=by simp [sameB,h]
theorem sameB_false {α:Type} {x y : α} (h:x≠y):sameB x y=false:=by simp [sameB,h]
theorem text_ne {s s':ByteArray} (h:s≠s'):(s.toList==s'.toList)=false:=by
 rw [beq_eq_false_iff_ne,ByteArray.toList_eq,ByteArray.toList_eq];exact fun e=>h (ByteArray.ext (Array.toList_inj.mp e))
end Rl
end
section
open Go.RowKit
namespace Rl
theorem info_it:(Tryz.prog.info? 168).map (fun i=>(i.size,i.bytes))=some (3,48):=by kernel_rfl
theorem info_it_zero:((Tryz.prog.info? 168).bind (·.zero)).isSome=true:=by kernel_rfl
theorem info_it_cells:((Tryz.prog.info? 168).bind (·.zero)).map (·.cells.size)=some 3:=by kernel_rfl
theorem info_it_parts:∃ i z,Tryz.prog.info? 168=some i∧i.zero=some z∧i.size=3∧i.bytes=48∧z.cells.size=3:=by
 have h1:=info_it;have h2:=info_it_zero;have h3:=info_it_cells;cases hi:Tryz.prog.info? 168 with
 | none=>rw [hi] at h1; simp at h1
 | some i =>
  rw [hi] at h1 h2 h3;simp at h1 h2 h3;cases hz:i.zero with
  | none=>rw [hz] at h2; simp at h2
  | some z =>
   rw [hz] at h3;simp at h3;exact ⟨i,z,rfl,hz,h1.1,h1.2,h3⟩
def OneOf:Value→Prop
 | .bool _ | .string _ | .slice _ _ _=>True
 | _=>False
theorem OneOf.one {v:Value} (h:OneOf v):v.oneCell'=true:=by
 cases v <;> first | rfl | exact h.elim
theorem cells_of {w:World} {xs:List It} {ad:Addr} {n cap:Nat} (h:IsIts w xs (some ad) n cap) (i:Nat) (hi:i<n*3):∃ v,w.cell? (ad.add i)=some v∧OneOf v:=by
 obtain ⟨x,b,off,A,N,C,_,e,_,⟨c0,c1,c2⟩,_⟩:=h.at' (i/3) (by omega);obtain rfl:=Option.some.inj e;rw [Addr.add_mid];have h3:i%3=0∨i%3=1∨i%3=2:=by omega
 rcases h3 with h3 | h3 | h3
 ·exact ⟨.bool x.l,(by rw [← c0]; congr 2; omega),True.intro⟩
 ·exact ⟨.string x.s,(by rw [← c1]; congr 2; omega),True.intro⟩
 ·exact ⟨.slice A N C,(by rw [← c2]; congr 2; omega),True.intro⟩
def GotClone (w:World) (ad:Addr) (n:Nat) (e:Ending) (w':World):Prop :=
 ∃ g cap f,e = .returned (.slice (some ⟨g,0,none⟩) n cap)∧w.heap.size≤g∧n≤cap∧cap≤maxLen∧w'.rowIs g 168 (cap*3) f∧(∀ i,i<n*3→w.cell? (ad.add i)=some (f i))∧Below w.heap.size w w'
theorem nil_nil (w:World):(binOp .eql 166 (.slice none 0 0) (.slice none 0 0)).run Tryz.prog w = .ok (.bool true) w:=by kernel_rfl
theorem some_nil (a:Addr) (n cap:Nat) (w:World):(binOp .eql 166 (.slice (some a) n cap) (.slice none 0 0)).run Tryz.prog w = .ok (.bool false) w:=by kernel_rfl
theorem clone_nil (w:World):Calls Tryz.prog 192 #[.slice none 0 0] w fun e w'=>e = .returned (.slice none 0 0)∧w=w':=by
 have hnil:=nil_nil;go_enter Tryz.func192,Tryz.ntmps192;go_wp2;go_ret;exact ⟨rfl,rfl⟩
theorem got_of_owns {w w':World} {ad:Addr} {n:Nat} {v:Value} {news:List Value} (ho:w'.ownsRow w.heap.size 168 3 v n news) (hne:v ≠ .slice none 0 0) (hc:∀ i u,news[i]? = some u→w.cell? (ad.add i)=some u) (hb:Below w.heap.size w w') :
  GotClone w ad n (.returned v) w':=by
 rcases ho.2 with ⟨rfl,hz⟩ | ⟨g,cap,cur,rfl,hbg,hg,hnc,hcm,hcs,htake⟩
 ·exact absurd rfl hne
 ·refine ⟨g,cap,fun j=>cur.getD j undef,rfl,hbg,hnc,hcm,⟨cur,hg,hcs,fun i hi=>?_⟩,fun i hi=>?_,hb⟩
  ·have:i<cur.size:=by omega
   simp [this]
  ·have hlt:i<cur.size:=by
    have:n*3≤cap*3:=Nat.mul_le_mul_right 3 hnc;omega
   apply hc;rw [← htake,List.getElem?_take,if_pos hi];simp [hlt]
theorem clone_any (xs:List It) (ad:Addr) (n cap:Nat) (w:World) (h:IsIts w xs (some ad) n cap) :
  Calls Tryz.prog 192 #[.slice (some ad) n cap] w (GotClone w ad n):=by
 obtain ⟨i0,z0,hi,hz,hs,hby,hzc⟩:=info_it_parts;have HI:Hid (_∧_∧_∧_∧_):=hid ⟨hi,hz,hs,hby,hzc⟩;obtain ⟨news,hl,hc,h1⟩:∃ news:List Value,news.length=n*3∧(∀ i u,news[i]? = some u→w.cell? (ad.add i)=some u)∧∀ u∈news,u.oneCell'=true:=by
  refine ⟨(List.range (n*3)).map fun i=>(w.cell? (ad.add i)).getD undef,by simp,fun i u hu=>?_,fun u hu=>?_⟩
  ·by_cases hi:i<n*3
   ·obtain ⟨v,hv,_⟩:=cells_of h i hi;simp [hi,hv] at hu;rw [hv,hu]
   ·simp [hi] at hu
  ·simp at hu;obtain ⟨i,hi,rfl⟩:=hu;obtain ⟨v,hv,ho⟩:=cells_of h i hi;rw [hv];exact ho.one
 have hfew:=h.few;have HN:Hid (_∧_∧_):=hid ⟨hl,hc,h1⟩;have hlt:∀ j,j<n*3→(ad.add j).block<w.heap.size:=fun j hj=>by
  obtain ⟨v,hv,_⟩:=cells_of h j hj;exact World.block_lt_of_cell? w _ hv
 have HLt:=hid hlt;have hnil:=some_nil ad n cap;clear hi hz hs hby hzc hl hc h1 h hlt;go_enter Tryz.func192,Tryz.ntmps192;have HO:Hid ((w.alloc (.cells #[] 168)).ownsRow w.heap.size 168 3 (.slice (some ⟨w.heap.size,0,none⟩) 0 0) 0 []):=hid (World.ownsRow_made w #[] 0 (Nat.le_refl _) (Nat.zero_le _) (by simp))
 go_wp2_with (at_builtin; refine wpList_append_own _ rfl _ _ 166 rfl w.heap.size 168 i0 z0 3 48 Tryz.underlying166 HI.out.1 HI.out.2.1 HI.out.2.2.1 HI.out.2.2.2.1 HI.out.2.2.2.2 (by decide) _ _ _ rfl HO.out ad n cap news rfl HN.out.1 ?c2 HN.out.2.2 ?c3 ?c4 ?c5 ?_)
 case c2 =>
  intro j u hu;have hj:j<n*3:=by rw [← HN.out.1]; exact (List.getElem?_eq_some_iff.1 hu).1
  rw [(al1 w _).cell (p:=ad.add j) (HLt.out j hj)];exact HN.out.2.1 j u hu
 case c3=>unfold maxLen; omega
 case c4=>omega
 case c5=>simp
 intro v' w2 hown2 hgrow hnil';have HG:Hid (GotClone w ad n (.returned v') w2):=hid (got_of_owns hown2 hnil' HN.out.2.1 ((al1 w _).grown hgrow (by simp) (fun k hk=>by simp [Value.ownBlock] at hk; omega)));clear hown2 hgrow hnil';go_wp2;go_ret;exact HG.out
end Rl
end
section
open Go.RowKit
namespace Rl
def GotIts (w:World) (xs:List It) (e:Ending) (w':World):Prop :=
 ∃ a n cap,e = .returned (.slice a n cap)∧ItsIn w.heap.size w' xs a n cap∧Below w.heap.size w w'
def Mid (w wr:World) (g cap:Nat) (xs:List It) (q:Nat):Prop :=
 ∃ f,wr.rowIs g 168 (cap*3) f∧∀ (j:Nat) (x:It),xs[j]? = some x→∃ A N C,f (j*3) = .bool x.l∧f (j*3+1) = .string x.s∧f (j*3+2) = .slice A N C ∧
  ((j<q∧ItsIn (g+1) wr x.xs A N C)∨(q≤j∧IsIts w x.xs A N C))
theorem Mid.start {w w':World} {ad:Addr} {n cap g c:Nat} {xs:List It} (h:IsIts w xs (some ad) n c) {f:Nat→Value} (hr:w'.rowIs g 168 (cap*3) f) (hf:∀ i,i<n*3→w.cell? (ad.add i)=some (f i)):Mid w w' g cap xs 0:=by
 refine ⟨f,hr,fun j x hx=>?_⟩;have hj:j<n:=by rw [← h.len]; exact (List.getElem?_eq_some_iff.1 hx).1
 obtain ⟨x',b',off',A,N,C,hx',e,_,⟨c0,c1,c2⟩,hI⟩:=h.at' j hj;obtain rfl:=Option.some.inj e;obtain rfl:=Option.some.inj (hx.symm.trans hx');simp only [Addr.add_mid] at hf;have f0:=hf (j*3) (by omega);have f1:=hf (j*3+1) (by omega);have f2:=hf (j*3+2) (by omega);rw [c0] at f0;rw [← Nat.add_assoc,c1] at f1;rw [← Nat.add_assoc,c2] at f2;exact ⟨A,N,C,(Option.some.inj f0).symm,(Option.some.inj f1).symm,(Option.some.inj f2).symm,.inr ⟨Nat.zero_le _,hI⟩⟩
theorem Mid.at' {w wr:World} {g cap q n:Nat} {xs:List It} (h:Mid w wr g cap xs q) (hl:xs.length=n) (hc:n≤cap) (hq:q<n) :
  ∃ x A N C,xs[q]? = some x∧wr.cell? ⟨g,q*3+2,none⟩=some (.slice A N C)∧IsIts w x.xs A N C:=by
 obtain ⟨f,hr,h⟩:=h;have hx:xs[q]? = some (xs[q]'(by omega)):=List.getElem?_eq_getElem (by omega);obtain ⟨A,N,C,_,_,f2,hh⟩:=h q _ hx;refine ⟨_,A,N,C,hx,by rw [hr.cell (by omega),f2],?_⟩;rcases hh with ⟨h1,_⟩ | ⟨_,h2⟩
 ·omega
 ·exact h2
theorem Mid.step {w wr w1:World} {g cap q:Nat} {xs:List It} {x:It} (h:Mid w wr g cap xs q) (hx:xs[q]? = some x) {a:Option Addr} {n c:Nat} (hI:ItsIn wr.heap.size w1 x.xs a n c) (hb:Below wr.heap.size wr w1) :
  Mid w (w1.setCell ⟨g,q*3+2,none⟩ (.slice a n c)) g cap xs (q+1):=by
 obtain ⟨f,hr,h⟩:=h;have hlt:=hr.lt;have hr1:w1.rowIs g 168 (cap*3) f:=hr.of_block (hb.block g hlt);have keep:∀ {ys:List It} {A:Option Addr} {N C:Nat},ItsIn (g+1) w1 ys A N C→ItsIn (g+1) (w1.setCell ⟨g,q*3+2,none⟩ (.slice a n c)) ys A N C:=fun hh =>
  ItsIn.kept hh (by simp) (fun b o hB _=>World.cell?_of_block (Below.heap_setCell w1 _ _ b (by show b≠g; omega)))
 refine ⟨_,hr1.set (q*3+2) (.slice a n c),fun j y hy=>?_⟩;obtain ⟨A,N,C,f0,f1,f2,hh⟩:=h j y hy;by_cases hj:j=q
 ·subst hj;obtain rfl:=Option.some.inj (hx.symm.trans hy);refine ⟨a,n,c,by rw [if_neg (by omega),f0],by rw [if_neg (by omega),f1],by rw [if_pos rfl],.inl ⟨by omega,keep (ItsIn.weak hI (by omega))⟩⟩
 ·refine ⟨A,N,C,by rw [if_neg (by omega),f0],by rw [if_neg (by omega),f1],by rw [if_neg (by omega),f2],?_⟩;rcases hh with ⟨h1,h2⟩ | ⟨h1,h2⟩
  ·exact .inl ⟨by omega,keep (h2.stays hb)⟩
  ·exact .inr ⟨by omega,h2⟩
theorem Mid.lt {w wr:World} {g cap q:Nat} {xs:List It} (h:Mid w wr g cap xs q):g<wr.heap.size:=by
 obtain ⟨f,hr,_⟩:=h;exact hr.lt
theorem Mid.free {w wr w1:World} {g cap q:Nat} {xs:List It} (h:Mid w wr g cap xs q) (hb:Below wr.heap.size wr w1) (i:Nat):w1.frozen? ⟨g,i,none⟩=false:=by
 obtain ⟨f,hr,_⟩:=h;have hr1:w1.rowIs g 168 (cap*3) f:=hr.of_block (hb.block g hr.lt);exact hr1.frozen i
theorem Mid.done {w wr:World} {g cap n:Nat} {xs:List It} (h:Mid w wr g cap xs n) (hl:xs.length=n) (hc:n≤cap) (hm:cap≤maxLen) (hw:n≤2932031007402) {B:Nat} (hB:B≤g):ItsIn B wr xs (some ⟨g,0,none⟩) n cap:=by
 obtain ⟨f,hr,h⟩:=h;have each:∀ j,j<n→∃ r:Option Addr × Nat × Nat,∀ x,xs[j]? = some x→Lies wr g (0+j*3) x r.1 r.2.1 r.2.2∧ItsIn B wr x.xs r.1 r.2.1 r.2.2:=fun j hj=>by
  have hx:xs[j]? = some (xs[j]'(by omega)):=List.getElem?_eq_getElem (by omega);obtain ⟨A,N,C,f0,f1,f2,hh⟩:=h j _ hx;refine ⟨(A,N,C),fun x hx'=>?_⟩;obtain rfl:=Option.some.inj (hx.symm.trans hx');refine ⟨⟨by rw [Nat.zero_add,hr.cell (by omega),f0],by rw [Nat.zero_add,hr.cell (by omega),f1],by rw [Nat.zero_add,hr.cell (by omega),f2]⟩,?_⟩;rcases hh with ⟨_,h2⟩ | ⟨h1,_⟩
  ·exact ItsIn.weak h2 (by omega)
  ·omega
 obtain ⟨F,hF⟩:=Go.Deep.choose_lt each;refine ItsP.mk (fun j=>(F j).1) (fun j=>(F j).2.1) (fun j=>(F j).2.2) hl hc hm hw (fun e=>(by cases e)) (fun j x hx=>?_) (fun j x hx=>?_)
 ·exact ⟨g,0,rfl,hB,hr.lt,(hF j (by rw [← hl]; exact (List.getElem?_eq_some_iff.1 hx).1) x hx).1⟩
 ·exact (hF j (by rw [← hl]; exact (List.getElem?_eq_some_iff.1 hx).1) x hx).2
theorem copied_any (x:It):∀ (w:World) (a:Option Addr) (n cap:Nat),IsIts w x.xs a n cap→Calls Tryz.prog 177 #[.slice a n cap] w (GotIts w x.xs):=by
 induction x using It.ind with
 | h l s xs ih =>
  intro w a n cap h;replace h:IsIts w xs a n cap:=h;show Calls Tryz.prog 177 #[.slice a n cap] w (GotIts w xs);cases a with
  | none =>
   have hc:=h.none' rfl;have hn:=h.le;obtain rfl:cap=0:=hc;obtain rfl:n=0:=by omega
   have HX:Hid (xs=[]):=hid (List.eq_nil_of_length_eq_zero h.len);clear ih h hn;go_enter Tryz.func177,Tryz.ntmps177;go_wp2_with (go_at_call 192; refine (clone_nil _).mono ?_; rintro e w1 ⟨rfl,rfl⟩)
   refine wp_loop_rounds 1 ?_;rw [rounds_succ];go_wp2;go_ret;exact ⟨none,0,0,rfl,by rw [HX.out]; exact ItsIn.nil _ _,Below.refl _ _⟩
  | some ad =>
   have HIh:=hid ih;have H:=hid h;have hfew:=h.few;clear ih h;go_enter Tryz.func177,Tryz.ntmps177;go_wp2_with fail
   refine (clone_any xs ad n cap _ H.out).mono ?_;rintro e w1 ⟨g,c,f,rfl,hg,hnc,hcm,hr,hf,hb1⟩;have HM:=hid (Mid.start H.out hr hf);have hglt:=hr.lt;have HB1:=hid hb1;clear hr hf hb1;unfold maxLen at hcm;go_wp2;go_loopw [9] (fun i wr=>∃ q:Nat,q≤n∧i = .int .i64 q∧Hid (Mid w wr g c xs q)∧Below w.heap.size w wr) (fun i _=>n-(intOf i).toNat)
   case atStart=>exact ⟨0,Nat.zero_le _,rfl,hid HM.out,HB1.out⟩
   case round =>
    obtain ⟨q,hq,rfl,HQ,hB⟩:=hrel;have HB:=hid hB;clear HM hB;by_cases hlt:q<n
    ·obtain ⟨x,A,N,C,hx,c2,hI⟩:=HQ.out.at' H.out.len hnc hlt;have HI:=hid (HIh.out x (List.mem_of_getElem? hx) wr A N C (hI.stays HB.out));have HX:=hid hx;clear hI hx HIh;go_wp2_with fail
     refine HI.out.mono ?_;rintro e w2 ⟨a',n',c',rfl,hI2,hb2⟩;have hc2:w2.cell? ⟨g,q*3+2,none⟩=some (.slice A N C):=(hb2.cell (p:=⟨g,q*3+2,none⟩) HQ.out.lt).trans c2;have hz2:=HQ.out.free hb2 (q*3+2);have HS:=hid (HQ.out.step HX.out hI2 hb2);have HB2:=hid (bst HB.out hb2);clear hI2 hb2 c2;go_wp2;go_roundw
     case rel=>exact ⟨q+1,by omega,by go_num,hid HS.out,HB2.out.setCell hg _⟩
     case measure=>simp [intOf]; omega
    ·obtain rfl:q=n:=by omega
     have HD:=hid (HQ.out.done H.out.len hnc (by unfold maxLen; omega) hfew hg);clear HIh HQ;go_wp2;go_ret;exact ⟨_,_,_,rfl,HD.out,HB.out⟩
def GotIt (w:World) (x:It) (e:Ending) (w':World):Prop:=∃ a n cap,e = .returned (itV x a n cap)∧ItsIn w.heap.size w' x.xs a n cap∧Below w.heap.size w w'
def itC (x:It) (a:Option Addr) (n cap:Nat):Array Value:=#[.bool x.l,.string x.s,.slice a n cap]
theorem info_itC (x:It) (a:Option Addr) (n cap:Nat):(Tryz.prog.info? 168).map (·.size)=some (itC x a n cap).size:=info_item
theorem itC_one (x:It) (a:Option Addr) (n cap:Nat):(itC x a n cap).all (·.oneCell')=true:=by
 simp [itC,Value.oneCell']
theorem lies_row {w:World} {g:Nat} {x:It} {a:Option Addr} {n cap:Nat} {t:TypeId} {fz:Nat × Nat} (h:w.heap[g]? = some (.cells (itC x a n cap) t fz)):Lies w g 0 x a n cap:=by
 refine ⟨?_,?_,?_⟩;all_goals
  simp [World.cell?,h];rfl
def it0:It:=.mk false ⟨#[]⟩ []
theorem box_new (w:World):(w.alloc (.cells (itC it0 none 0 0) 168)).heap[w.heap.size]? = some (.cells (itC it0 none 0 0) 168 (0,0)):=heap_alloc_new _ _
theorem below_row {B:Nat} {w w1:World} (h:Below B w w1) {g:Nat} (hg:B≤g) (cs:Array Value):Below B w (w1.setRow g cs) :=
 h.trans ⟨rfl,rfl,rfl,by simp,fun k hk=>setRow_other w1 g k cs (by omega)⟩
theorem ItsIn_row {B g:Nat} {w:World} {xs:List It} {a:Option Addr} {n cap:Nat} (h:ItsIn B w xs a n cap) (hg:g<B) (cs:Array Value):ItsIn B (w.setRow g cs) xs a n cap :=
 ItsIn.kept h (by simp) (fun b o hB _=>World.cell?_of_block (setRow_other w g b cs (by omega)))
theorem list_any (xs:List It) (w:World) (a:Option Addr) (n cap:Nat) (h:IsIts w xs a n cap):Calls Tryz.prog 146 #[.slice a n cap] w (GotIt w (.mk true ⟨#[]⟩ xs)):=by
 have HC:=hid (copied_any (.mk true ⟨#[]⟩ xs) (w.alloc (.cells (itC it0 none 0 0) 168)) a n cap (h.alloc _));clear h;go_enter Tryz.func146,Tryz.ntmps146;go_wp2_with fail
 refine HC.out.mono ?_;rintro e w1 ⟨a',n',c',rfl,hI,hb⟩;have HG:=hid ((hb.block w.heap.size (by simp)).trans (box_new w));have HI:=hid hI;have HB:=hid (of_al (al_of hb));clear hI hb HC;go_wp2_with (refine wpList_store_rowTo rfl 168 _ _ rfl rfl _ (itC (.mk true ⟨#[]⟩ xs) a' n' c') rfl rfl 168 (itC it0 none 0 0) HG.out (info_itC _ _ _ _) rfl (itC_one _ _ _ _) ?_)
 exact bodyPost_ret (res_item rfl _ rfl (lies_row (setRow_heap _ _ _ _ _ _ HG.out))) rfl ⟨a',n',c',rfl,ItsIn.weak (ItsIn_row HI.out (by simp) _) (by simp),below_row HB.out (Nat.le_refl _) _⟩
end Rl
end
section
open Go.RowKit
namespace Rl
open Pk
def Tal (w:World) (g:Nat) (k:Int):Prop:=w.cell? ⟨g,0,none⟩=some (.int .i64 k)∧w.frozen? ⟨g,0,none⟩=false
theorem Tal.lt {w:World} {g:Nat} {k:Int} (h:Tal w g k):g<w.heap.size:=World.block_lt_of_cell? w _ h.1
theorem Tal.below {w w':World} {g:Nat} {k:Int} (h:Tal w g k) (hb:Below w.heap.size w w'):Tal w' g k :=
 ⟨(hb.cell (p:=⟨g,0,none⟩) h.lt).trans h.1,(hb.frozen (p:=⟨g,0,none⟩) h.lt).trans h.2⟩
theorem Tal.set {w:World} {g:Nat} {k:Int} (h:Tal w g k) (k':Int):Tal (w.setCell ⟨g,0,none⟩ (.int .i64 k')) g k':=by
 refine ⟨?_,?_⟩
 ·exact World.cell?_setCell_same _ _ _ h.1
 ·rw [World.frozen?_setCell]; exact h.2
theorem gb_refl (w:World) (r:Option Nat):w.grownBy w r:=⟨rfl,rfl,rfl,Nat.le_refl _,fun _ _ _=>rfl⟩
theorem gb_trans {w w1 w2:World} {r:Option Nat} (h:w.grownBy w1 r) (h2:w1.grownBy w2 r):w.grownBy w2 r :=
 ⟨h2.os.trans h.os,h2.tape.trans h.tape,h2.output.trans h.output,Nat.le_trans h.size h2.size,fun k hk hr=>(h2.block k (Nat.lt_of_lt_of_le hk h.size) hr).trans (h.block k hk hr)⟩
theorem gb_of {w w1:World} {r:Option Nat} (h:Below w.heap.size w w1):w.grownBy w1 r:=⟨h.os,h.tape,h.output,h.size,fun k hk _=>h.block k hk⟩
theorem gb_set (w:World) (g o:Nat) (v:Value):w.grownBy (w.setCell ⟨g,o,none⟩ v) (some g) :=
 ⟨rfl,rfl,rfl,by simp,fun k _ hr=>Below.heap_setCell w _ v k (fun e=>hr (by rw [e]))⟩
theorem gb_below {B:Nat} {w0 w w':World} {g:Nat} (h:Below B w0 w) (hg:w.grownBy w' (some g)) (hB:B≤w0.heap.size) (hr:B≤g):Below B w0 w' :=
 h.grown hg (Nat.le_trans hB h.size) (fun k hk=>by cases hk; exact hr)
theorem meet_ok (g:Nat) (around k:Int) (ha:around≤64) (h0:0≤k) (hk:k+1≤4096) (w:World) (h:Tal w g k) :
  Calls Tryz.prog 172 #[.pointer (some ⟨g,0,none⟩),.int .i64 around] w fun e w'=>e = .returned (.tuple #[])∧w'=w.setCell ⟨g,0,none⟩ (.int .i64 (k+1)):=by
 obtain ⟨hc,hz⟩:=h;go_enter Tryz.func172,Tryz.ntmps172;go_wp2;go_end0;exact ⟨rfl,rfl⟩
theorem meet_deep (g:Nat) (around k:Int) (ha:¬ around≤64) (h0:0≤k) (hk:k+1≤1099511627776) (w:World) (h:Tal w g k) :
  Calls Tryz.prog 172 #[.pointer (some ⟨g,0,none⟩),.int .i64 around] w fun e w'=>e = .panicked [errP 17]∧w'=w.setCell ⟨g,0,none⟩ (.int .i64 (k+1)):=by
 obtain ⟨hc,hz⟩:=h;go_enter Tryz.func172,Tryz.ntmps172;go_wp2_with (go_at_call 173; refine (fail_any _ _).mono ?_; rintro e w1 ⟨rfl,rfl⟩)
 simp [bodyPost]
theorem meet_big (g:Nat) (around k:Int) (ha:around≤64) (hk:¬ k+1≤4096) (hk2:k+1≤1099511627776) (w:World) (h:Tal w g k) :
  Calls Tryz.prog 172 #[.pointer (some ⟨g,0,none⟩),.int .i64 around] w fun e w'=>e = .panicked [errP 4]∧w'=w.setCell ⟨g,0,none⟩ (.int .i64 (k+1)):=by
 obtain ⟨hc,hz⟩:=h;go_enter Tryz.func172,Tryz.ntmps172;go_wp2_with (go_at_call 173; refine (fail_any _ _).mono ?_; rintro e w1 ⟨rfl,rfl⟩)
 simp [bodyPost]
inductive Fits:Nat→It→Prop
 | mk {around:Nat} {l:Bool} {s:ByteArray} {xs:List It} (ha:around≤64) (hs:l=true→s=⟨#[]⟩) (hx:l=false→xs=[]) (h:∀ y∈xs,Fits (around+1) y):Fits around (.mk l s xs)
theorem sum_le (xs:List It) (q:Nat) (x:It) (h:xs[q]? = some x):((xs.take q).map It.size).sum+x.size≤(xs.map It.size).sum:=by
 have:=sum_take xs q x h;have h2:(xs.map It.size).sum=((xs.take (q+1)).map It.size).sum+((xs.drop (q+1)).map It.size).sum:=by
  rw [← List.sum_append_nat,← List.map_append,List.take_append_drop]
 omega
theorem box_cells {w w1:World} {l:Bool} {s:ByteArray} {a:Option Addr} {n cap g:Nat} {z:Value} (hg:g<w.heap.size) (h:w1=(w.alloc (.cells #[.bool l,.string s,.slice a n cap] 168)).setCell ⟨g,0,none⟩ z) :
  w1.cell? ⟨w.heap.size,0,none⟩=some (.bool l)∧w1.cell? ⟨w.heap.size,1,none⟩=some (.string s)∧w1.cell? ⟨w.heap.size,2,none⟩=some (.slice a n cap):=by
 subst h;refine ⟨?_,?_,?_⟩;all_goals
  rw [World.cell?_setCell_other _ _ _ _ (by simp; try omega),World.cell?_alloc_mark];rfl
theorem check_any (x:It):∀ (around k g:Nat) (ar:Int) (w0 w:World) (v:Value),ar=around→IsIt w0 x v→Below w0.heap.size w0 w→w0.heap.size≤g→Fits around x→k+x.size≤4096→Tal w g k →
  Calls Tryz.prog 143 #[.pointer (some ⟨g,0,none⟩),v,.int .i64 ar] w fun e w'=>e = .returned (.tuple #[])∧Tal w' g (k+x.size:Nat)∧w.grownBy w' (some g):=by
 induction x using It.ind with
 | h l s xs ih =>
  rintro around k g ar w0 w v har ⟨a,n,cap,rfl,h⟩ hB hg hF hk hT;have hm:=h.max;have hnc:=h.le;have hlen:=h.len;unfold maxLen at hm;have hgl:=hT.lt;cases hF with
  | mk ha hs hx hy =>
   rw [It.size_mk] at hk ⊢;have H:=hid h;have HY:=hid hy;have HIh:=hid ih;have HB0:=hid hB;have HM:=hid (meet_ok g ar k (by omega) (by omega) (by omega) (w.alloc (.cells (itC (.mk l s xs) a n cap) 168)) (hT.below (al1 _ _)));have HT:=hid ((hT.below (al1 w (.cells (itC (.mk l s xs) a n cap) 168))).set (k+1));have HAR:=hid har;have har2:ar≤64:=by omega
   clear h hy ih hB hT har;unfold itV;dsimp only [It.l,It.s,It.xs,itC] at H HM HT hlen ⊢;cases l with
   | false =>
    obtain rfl:=hx rfl;have hn0:n=0:=hlen.symm;subst hn0;clear hs hx HIh HY;go_enter Tryz.func143,Tryz.ntmps143;go_wp2_with fail
    with_reducible refine HM.out.mono ?_
    rintro e w1 ⟨rfl,hw1⟩;obtain ⟨c0,c1,c2⟩:=box_cells hgl hw1;have HT1:Hid (Tal w1 g (k+1)):=hid (by rw [hw1]; exact HT.out);have HG1:Hid (w.grownBy w1 (some g)):=hid (by rw [hw1]; exact gb_trans (gb_of (al1 _ _)) (gb_set _ _ _ _));clear hw1 HM HT;go_wp2;refine wp_loop_rounds 1 ?_;rw [rounds_succ];go_wp2;go_end0;exact ⟨rfl,by have:=HT1.out; simpa using this,HG1.out⟩
   | true =>
    obtain rfl:=hs rfl;clear hs hx;go_enter Tryz.func143,Tryz.ntmps143;go_wp2_with fail
    with_reducible refine HM.out.mono ?_
    rintro e w1 ⟨rfl,hw1⟩;obtain ⟨c0,c1,c2⟩:=box_cells hgl hw1;have HT1:Hid (Tal w1 g (k+1)):=hid (by rw [hw1]; exact HT.out);have HG1:Hid (w.grownBy w1 (some g)):=hid (by rw [hw1]; exact gb_trans (gb_of (al1 _ _)) (gb_set _ _ _ _));clear hw1 HM HT;go_wp2;go_loopw [33] (fun i wr=>∃ q:Nat,q≤n∧i = .int .i64 q∧Hid (Tal wr g (k+1+((xs.take q).map It.size).sum:Nat))∧Hid (w.grownBy wr (some g))) (fun i _=>n-(intOf i).toNat)
    case atStart=>exact ⟨0,Nat.zero_le _,rfl,hid (by have:=HT1.out; simpa using this),hid HG1.out⟩
    case round =>
     obtain ⟨q,hq,rfl,HQ,HG⟩:=hrel;have HBw:=hid (gb_below HB0.out HG.out (Nat.le_refl _) hg);clear c0 c1 c2 HT1 HG1;by_cases hlt:q<n
     ·obtain ⟨x,b,off,A,N,C,hx,rfl,hb,hL,hI⟩:=H.out.at' q hlt;obtain ⟨e0,e1,e2⟩:=hL.stays HBw.out hb;have hsum:=sum_le xs q x hx;have HS:=hid (sum_take xs q x hx);have HI:=hid (HIh.out x (List.mem_of_getElem? hx) (around+1) (k+1+((xs.take q).map It.size).sum) g (wrap64 (ar+1)) w0 (wr.alloc (.cells #[.bool x.l,.string x.s,.slice A N C] 168)) (itV x A N C) (by have:=HAR.out; simp only [wrap64]; omega) ⟨A,N,C,rfl,hI⟩ (HBw.out.alloc HBw.out.size _) hg (HY.out x (List.mem_of_getElem? hx)) (by omega) (HQ.out.below (al1 _ _)));unfold itV at HI
      clear hL hI hx HIh hsum;go_wp2_with fail
      with_reducible refine HI.out.mono ?_
      rintro e w2 ⟨rfl,ht2,hg2⟩;have HT2:=hid ht2;have HG2:=hid (gb_trans HG.out (gb_trans (gb_of (al1 _ _)) hg2));clear ht2 hg2;go_wp2;go_roundw
      case rel=>exact ⟨q+1,by omega,by go_num,hid (by rw [HS.out,← Nat.add_assoc]; exact HT2.out),hid HG2.out⟩
      case measure=>simp [intOf]; omega
     ·obtain rfl:q=n:=by omega
      clear HIh HY;go_wp2;go_end0;refine ⟨rfl,?_,HG.out⟩;have:=HQ.out;rw [List.take_of_length_le (Nat.le_of_eq hlen)] at this;rw [← Nat.add_assoc];exact this
end Rl
end
section
open Go.RowKit
namespace Rl
def frontL (l:Bool) (s:ByteArray) (m:Nat):List UInt8:=if l=false∧m=1∧(s.data.toList.headD 0).toNat<128 then [] else headL (min m 4294967296) l
def frontS (l:Bool) (s:ByteArray) (m:Nat):ByteArray:=⟨(frontL l s m).toArray⟩
theorem clampH_nat (m:Nat):clampH m=min m 4294967296:=by unfold clampH; omega
theorem frontS_head {l:Bool} {s:ByteArray} {m:Nat} (h:¬ (l=false∧m=1∧(s.data.toList.headD 0).toNat<128)):frontS l s m=headS (min m 4294967296) l:=by unfold frontS frontL headS; rw [if_neg h]
theorem frontS_none {l:Bool} {s:ByteArray} {m:Nat} (h:l=false∧m=1∧(s.data.toList.headD 0).toNat<128):frontS l s m=⟨#[]⟩:=by unfold frontS frontL; rw [if_pos h]
theorem first_of {s:ByteArray} (h:0<s.size):s.data.toList.headD 0=s[0]:=by
 obtain ⟨⟨l⟩⟩:=s;cases l with
 | nil=>simp [ByteArray.size] at h
 | cons c l=>rfl
theorem front_any (x:It) (a:Option Addr) (n cap m:Nat) (hm:m<2 ^ 63) (hx:x.l=false→m=x.s.size) (w:World) :
  Calls Tryz.prog 175 #[itV x a n cap,.int .i64 m] w fun e w'=>e = .returned (.string (frontS x.l x.s m))∧Below w.heap.size w w':=by
 obtain ⟨l,s,xs⟩:=x;unfold itV;dsimp only [It.l,It.s] at hx ⊢;have hh:=fun w=>head_any m (by omega) l w;rw [clampH_nat] at hh;have HH:=hid hh;clear hh;cases l with
 | true =>
  have HF:=hid (frontS_head (l:=true) (s:=s) (m:=m) (by simp));clear hx;go_enter Tryz.func175,Tryz.ntmps175;go_wp2_with fail
  with_reducible refine (HH.out _).mono ?_
  rintro e w1 ⟨rfl,hb⟩;go_wp2;go_ret;exact ⟨by rw [HF.out]; rfl,bst (al1 _ _) hb⟩
 | false =>
  by_cases h1:m=1
  ·have hs:s.size=1:=by rw [← hx rfl,h1]
   have h0:0<s.size:=by omega
   have hf:=first_of h0;by_cases hc:s[0].toNat<128
   ·have HF:=hid (frontS_none (l:=false) (s:=s) (m:=m) ⟨rfl,h1,by rw [hf]; exact hc⟩);clear hx hf HH;have hm1:((m:Int)==1)=true:=by simp; omega
    clear h1;go_enter Tryz.func175,Tryz.ntmps175;go_wp2;go_ret;exact ⟨by rw [HF.out]; rfl,al1 _ _⟩
   ·have HF:=hid (frontS_head (l:=false) (s:=s) (m:=m) (by rw [hf]; omega));clear hx hf;have hm1:((m:Int)==1)=true:=by simp; omega
    clear h1;go_enter Tryz.func175,Tryz.ntmps175;go_wp2_with fail
    with_reducible refine (HH.out _).mono ?_
    rintro e w1 ⟨rfl,hb⟩;go_wp2;go_ret;exact ⟨by rw [HF.out]; rfl,bst (al1 _ _) hb⟩
  ·have HF:=hid (frontS_head (l:=false) (s:=s) (m:=m) (by omega));have hm1:((m:Int)==1)=false:=by simp; omega
   clear hx;go_enter Tryz.func175,Tryz.ntmps175;go_wp2_with fail
   with_reducible refine (HH.out _).mono ?_
   rintro e w1 ⟨rfl,hb⟩;go_wp2;go_ret;exact ⟨by rw [HF.out]; rfl,bst (al1 _ _) hb⟩
end Rl
namespace It
def bytes:It→List UInt8
 | .mk l s xs=>Rl.frontL l s (s.data.toList++(xs.map bytes).flatten).length++(s.data.toList++(xs.map bytes).flatten)
termination_by x=>SizeOf.sizeOf x
decreasing_by
 all_goals
  rename_i h;have:=List.sizeOf_lt_of_mem h;simp;omega
def inner (x:It):List UInt8:=x.s.data.toList++(x.xs.map bytes).flatten
theorem bytes_eq (x:It):x.bytes=Rl.frontL x.l x.s x.inner.length++x.inner:=by
 cases x;rw [bytes];rfl
end It
namespace Rl
def firstL (xs:List It) (q:Nat):List UInt8:=((xs.take q).map It.bytes).flatten
theorem firstL_zero (xs:List It):firstL xs 0=[]:=rfl
theorem firstL_step (xs:List It) (q:Nat) (x:It) (h:xs[q]? = some x):firstL xs (q+1)=firstL xs q++x.bytes:=by
 unfold firstL;rw [List.take_add_one,h];simp
theorem firstL_all (xs:List It) (n:Nat) (h:xs.length=n):firstL xs n=(xs.map It.bytes).flatten:=by
 unfold firstL;rw [List.take_of_length_le (Nat.le_of_eq h)]
theorem firstL_le (xs:List It) (q:Nat):(firstL xs q).length≤((xs.map It.bytes).flatten).length:=by
 have:(xs.map It.bytes).flatten=firstL xs q++((xs.drop q).map It.bytes).flatten:=by
  unfold firstL;rw [← List.flatten_append,← List.map_append,List.take_append_drop]
 rw [this,List.length_append];omega
theorem inner_le (x:It):x.inner.length≤x.bytes.length:=by
 rw [It.bytes_eq,List.length_append];omega
theorem inner_mk (l:Bool) (s:ByteArray) (xs:List It):(It.mk l s xs).inner=s.data.toList++(xs.map It.bytes).flatten:=rfl
theorem len_s (s:ByteArray):s.data.toList.length=s.size:=by rw [Array.length_toList]; rfl
theorem inner_text {around:Nat} {x:It} (h:Fits around x) (hl:x.l=false):x.inner.length=x.s.size:=by
 cases h with
 | mk ha hs hx h =>
  rw [hx hl,inner_mk,List.map_nil,List.flatten_nil,List.append_nil,len_s];rfl
theorem inside_any (x:It):∀ (around:Nat) (w:World) (v:Value),IsIt w x v→Fits around x→x.inner.length≤1099511627776 →
  Calls Tryz.prog 176 #[v] w fun e w'=>e = .returned (.int .i64 x.inner.length)∧Below w.heap.size w w':=by
 induction x using It.ind with
 | h l s xs ih =>
  rintro around w v ⟨a,n,cap,rfl,h⟩ hF hk;have hm:=h.max;have hnc:=h.le;have hlen:xs.length=n:=h.len;unfold maxLen at hm;cases hF with
  | mk ha hs hx hy =>
   rw [inner_mk,List.length_append,len_s] at hk ⊢;have H:=hid h;have HY:=hid hy;have HIh:=hid ih;have HK:=hid hk;have hss:s.size≤1099511627776:=by omega
   clear h hy ih hs hx hk;unfold itV;dsimp only [It.l,It.s,It.xs] at H ⊢;go_enter Tryz.func176,Tryz.ntmps176;go_wp2;go_loopw [3,13] (fun acc i wr=>∃ q k:Nat,q≤n∧i = .int .i64 q∧acc = .int .i64 k∧Hid (k=s.size+(firstL xs q).length)∧Below (w.heap.size+1) (w.alloc (.cells #[.bool l,.string s,.slice a n cap] 168)) wr) (fun _ i _=>n-(intOf i).toNat)
   case atStart=>exact ⟨0,s.size,Nat.zero_le _,rfl,rfl,hid rfl,Below.refl _ _⟩
   case round =>
    obtain ⟨q,k,hq,rfl,rfl,HQ,hB⟩:=hrel;have HB:=hid hB;clear hB;by_cases hlt:q<n
    ·obtain ⟨x,b,off,A,N,C,hx,rfl,hb,hL,hI⟩:=H.out.at' q hlt;have hBw:=of_al HB.out;obtain ⟨e0,e1,e2⟩:=hL.stays hBw hb;have hst:=firstL_step xs q x hx;have hle:=firstL_le xs (q+1);have hk2:=HK.out;have hkq:=HQ.out;have hin:=inner_le x;have hby:x.bytes.length=(frontL x.l x.s x.inner.length).length+x.inner.length:=by
      rw [It.bytes_eq,List.length_append]
     rw [hst,List.length_append] at hle;have HS:Hid (k+(frontL x.l x.s x.inner.length).length+x.inner.length=s.size+(firstL xs (q+1)).length):=hid (by
      rw [hst,List.length_append]; omega)
     have hfx:=HY.out x (List.mem_of_getElem? hx);have HI:=hid (HIh.out x (List.mem_of_getElem? hx) (around+1) (wr.alloc (.cells #[.bool x.l,.string x.s,.slice A N C] 168)) (itV x A N C) ⟨A,N,C,rfl,hI.stays (bst hBw (al1 _ _))⟩ hfx (by omega));have HF:=hid (fun w=>front_any x A N C x.inner.length (by omega) (fun e=>inner_text hfx e) w);have hb1:x.inner.length≤1099511627776:=by omega
     have hb2:(frontL x.l x.s x.inner.length).length≤1099511627776:=by omega
     have hb3:k≤1099511627776:=by omega
     have hsz:(frontS x.l x.s x.inner.length).size=(frontL x.l x.s x.inner.length).length:=rfl;obtain ⟨m,hm'⟩:∃ m,x.inner.length=m:=⟨_,rfl⟩
     rw [hm'] at HI HF hb1 hb2 hsz HS;obtain ⟨f,hf⟩:∃ f,frontS x.l x.s m=f:=⟨_,rfl⟩
     obtain ⟨p,hp⟩:∃ p,(frontL x.l x.s m).length=p:=⟨_,rfl⟩
     rw [hp] at hsz hb2 HS;simp only [hf] at HF hsz;unfold itV at HI HF;clear hL hI hx HIh HY hst hle hk2 hkq hin hby hfx hm' hf hp;go_wp2_with fail
     with_reducible refine HI.out.mono ?_
     rintro e w2 ⟨rfl,hb2'⟩;have d0:w2.cell? ⟨wr.heap.size,0,none⟩=some (.bool x.l):=by rw [hb2'.cell (p:=⟨wr.heap.size,0,none⟩) (by simp),World.cell?_alloc_mark]; rfl
     have d1:w2.cell? ⟨wr.heap.size,1,none⟩=some (.string x.s):=by rw [hb2'.cell (p:=⟨wr.heap.size,1,none⟩) (by simp),World.cell?_alloc_mark]; rfl
     have d2:w2.cell? ⟨wr.heap.size,2,none⟩=some (.slice A N C):=by rw [hb2'.cell (p:=⟨wr.heap.size,2,none⟩) (by simp),World.cell?_alloc_mark]; rfl
     have HB2:=hid (al_step HB.out (bst (al1 _ _) hb2'));clear hb2';go_wp2_with fail
     with_reducible refine (HF.out _).mono ?_
     rintro e w3 ⟨rfl,hb3'⟩;have HB3:=hid (al_step HB2.out hb3');clear hb3';go_wp2;go_roundw
     case rel=>exact ⟨q+1,k+p+m,by omega,by go_num,by go_num,hid HS.out,HB3.out⟩
     case measure=>simp [intOf]; omega
    ·obtain rfl:q=n:=by omega
     clear HIh HY;go_wp2;go_ret;refine ⟨?_,of_al HB.out⟩;have:=HQ.out;rw [firstL_all xs _ hlen] at this;rw [this];rfl
end Rl
end
section
open Go.RowKit
namespace Bu
theorem write {B b:Nat} {bs:List Value} {w:World} (s:ByteArray) (h:Is B b bs w) (hlen:bs.length+s.size≤140737488355328) (hBw:B≤w.heap.size) :
  Calls Tryz.prog 174 #[.pointer (some ⟨b,0,none⟩),.string s] w fun e w'=>e = .returned (.tuple #[.int .i64 s.size,.nilIface])∧(Is B b (bs++Lib.strCells s) w'∧Below B w w'∧Lib.OthersKept 5 (some b) w w'):=by
 obtain ⟨i0,hi,hz0,hz1,hz2⟩:=info_parts info_byte;go_enter Tryz.func174,Tryz.ntmps174;go_wp2_with (go_at_call 152; refine (check h).mono ?_)
 rintro e w1 ⟨rfl,h1,hb1,hk1⟩;obtain ⟨hB,v,hbk,hown,hne⟩:=h1;have c0:w1.cell? ⟨b,0,none⟩=some (.pointer (some ⟨b,0,none⟩)):=by rw [Lib.cell_of_heap hbk]; rfl
 have c1:w1.cell? ⟨b,1,none⟩=some v:=by rw [Lib.cell_of_heap hbk]; rfl
 go_wp2_with (at_builtin; refine Lib.wpList_append_own_string _ rfl _ _ 51 9 rfl B 5 i0 Tryz.underlying51 Tryz.underlying9 hi hz0 hz1 hz2 _ _ _ rfl hown s rfl ?c3 ?c4 ?c5 ?_)
 case c3=>unfold maxLen; omega
 case c4=>omega
 case c5=>have:=hb1.size; omega
 intro v' w2 hown' hgrow _;have hlt:b<w1.heap.size:=by
  rcases Nat.lt_or_ge b w1.heap.size with h' | h'
  ·exact h'
  ·simp [Array.getElem?_eq_none h'] at hbk
 have hb2:w2.heap[b]? = some (.cells #[.pointer (some ⟨b,0,none⟩),v] 176 (0,0)):=by
  rw [hgrow.block b hlt (fun e=>hne e.symm)];exact hbk
 have d1:w2.cell? ⟨b,1,none⟩=some v:=by rw [Lib.cell_of_heap hb2]; rfl
 have f1:w2.frozen? ⟨b,1,none⟩=false:=Lib.frozen_of_heap hb2 1;obtain ⟨ao,n',cap,rfl⟩:∃ ao n' cap,v' = .slice ao n' cap:=by
  rcases hown'.2 with ⟨hv,_⟩ | ⟨g,cap,cur,hv,_⟩
  ·exact ⟨_,_,_,hv⟩
  ·exact ⟨_,_,_,hv⟩
 go_wp2;go_ret2
 refine ⟨rfl,Or.inr ?_,?_,(hk1.grown hgrow (row_kind hown)).setCell ⟨b,1,none⟩ rfl _⟩
 ·exact Lib.BuilderAt.put (T:=176) (e:=5) hB hb2 (bs':=bs++Lib.strCells s) (by simpa [Lib.strCells_length] using hown') (by decide)
 ·exact (hb1.grown hgrow (by have:=hb1.size; omega) (fun k hk=>(hown.lt k hk).1)).setCell (p:=⟨b,1,none⟩) hB _
end Bu
end
section
open Go.RowKit
namespace Rl
theorem own_others {w w':World} {b g:Nat} {cs:Array Value} (h:Rg.Own w b cs 168) (hk:Lib.OthersKept 5 (some g) w w') (hne:b≠g):Rg.Own w' b cs 168:=by
 have h1:=hk b _ h.2 (fun e=>hne (Option.some.inj e)) (fun c fz e=>by cases e);exact ⟨(Array.getElem?_eq_some_iff.1 h1).1,h1⟩
theorem lay_any (x:It):∀ (around g:Nat) (w0 w:World) (v:Value) (bs:List UInt8),IsIt w0 x v→Below w0.heap.size w0 w→Fits around x→bs.length+x.bytes.length≤1099511627776→Bu.Is w0.heap.size g (Lib.byteCells bs) w →
  Calls Tryz.prog 144 #[.pointer (some ⟨g,0,none⟩),v] w fun e w'=>e = .returned (.tuple #[])∧Bu.Is w0.heap.size g (Lib.byteCells (bs++x.bytes)) w'∧Below w0.heap.size w0 w':=by
 induction x using It.ind with
 | h l s xs ih =>
  rintro around g w0 w v bs ⟨a,n,cap,rfl,h⟩ hB hF hk hIs;have hm:=h.max;have hnc:=h.le;have hlen:xs.length=n:=h.len;unfold maxLen at hm;have hby:=It.bytes_eq (.mk l s xs);have hin:=inner_le (.mk l s xs);have hfr:=fun w=>front_any (.mk l s xs) a n cap (It.mk l s xs).inner.length (by omega) (fun e=>inner_text hF e) w;have hinn:=fun w1 (hw:Below w0.heap.size w0 w1)=>inside_any (.mk l s xs) around w1 (itV (.mk l s xs) a n cap) ⟨a,n,cap,rfl,h.stays hw⟩ hF (by omega);cases hF with
  | mk ha hs hx hy =>
   have HIn:=hid hinn;have HFr:=hid hfr;have H:=hid h;have HY:=hid hy;have HIh:=hid ih;have HBw:=hid hB;have hown:Rg.Own (w.alloc (.cells (itC (.mk l s xs) a n cap) 168)) w.heap.size (itC (.mk l s xs) a n cap) 168:=Rg.Own.new _ _ _;replace hIs:=hIs.kept (Bu.grown_below (al1 w (.cells (itC (.mk l s xs) a n cap) 168)));replace hB:=hB.alloc hB.size (.cells (itC (.mk l s xs) a n cap) 168);rw [hby,List.length_append,inner_mk,List.length_append,len_s] at hk
   have HL1:Hid ((Lib.byteCells bs).length+(frontS l s (It.mk l s xs).inner.length).size≤140737488355328):=hid (by
    rw [Lib.byteCells_length];show bs.length+(frontL l s (It.mk l s xs).inner.length).length≤_;rw [inner_mk,List.length_append,len_s];dsimp only [It.l,It.s] at hk;omega)
   clear h hy ih hinn hfr hs hx ha hin;unfold itV at HIn HFr ⊢;dsimp only [It.l,It.s,It.xs,itC] at H HIn HFr hown hIs hB ⊢;go_enter Tryz.func144,Tryz.ntmps144;go_wp2_with fail
   replace hIs:Bu.Is w0.heap.size g (Lib.byteCells bs) (w.alloc (.cells #[.bool l,.string s,.slice a n cap] 168)).drew:=hIs;refine wp_region_noPanic ?_;refine wp_region_held_drew (S:=fun w'=>Below w0.heap.size w0 w'∧Rg.Own w' w.heap.size (itC (.mk l s xs) a n cap) 168) (by kernel_rfl) (⟨hB.drew,hown.drew⟩) (fun hld=>?_);refine Rg.tk (i:=0) rfl ?_;try simp only [Act.put,Rg.s]
   refine Rg.tk (i:=1) rfl ?_ (hy:=by intro wz hSw; obtain ⟨z0,z1,z2⟩:=lies_row hSw.2.2; dsimp only [It.l,It.s,It.xs] at z0 z1 z2; go_simp <;> with_reducible rfl);try simp only [Act.put,Rg.s]
   refine Rg.tk (i:=2) rfl ?_ (hy:=by intro wz hSw; obtain ⟨z0,z1,z2⟩:=lies_row hSw.2.2; dsimp only [It.l,It.s,It.xs] at z0 z1 z2; go_simp <;> with_reducible rfl);try simp only [Act.put,Rg.s]
   refine Rg.rd (i:=3) rfl fun K hK=>?_;go_simp;go_at_call 176
   (with_reducible refine (HIn.out _ hld.1).mono ?_)
   rintro e wv0 ⟨rfl,hbx⟩;replace hIs:=hIs.kept (Bu.grown_below hbx);refine hK.out _ _ ?_ (fun hld=>?_)
   ·exact ⟨below_step hld.1 hbx (Nat.le_refl _),hld.2.below hbx⟩
   clear hK K hbx;try simp only [Act.put,Rg.s]
   refine Rg.rd (i:=4) rfl fun K hK=>?_;go_simp;go_at_call 175
   (with_reducible refine (HFr.out _).mono ?_)
   rintro e wv1 ⟨rfl,hbx⟩;replace hIs:=hIs.kept (Bu.grown_below hbx);refine hK.out _ _ ?_ (fun hld=>?_)
   ·exact ⟨below_step hld.1 hbx (Nat.le_refl _),hld.2.below hbx⟩
   clear hK K hbx;try simp only [Act.put,Rg.s]
   refine Rg.rd (i:=5) rfl fun K hK=>?_;go_simp;go_at_call 174
   (with_reducible refine (Bu.write _ hIs HL1.out hld.1.size).mono ?_)
   rintro e wv9 ⟨rfl,hIs9,hbx,hok⟩;have hne:=hIs.not_at hld.2.2 (by decide);have hown:=own_others hld.2 hok hne;refine hK.out _ _ ?_ (fun hld=>?_)
   ·exact ⟨hld.1.trans hbx,hown⟩
   clear hK K;try simp only [Act.put,Rg.s]
   refine wpAnyH_done (by kernel_rfl) ?_ _;refine NoPanic.normal ?_;clear hB hIs hbx hok hne hown;have HL9:=hid hld;have HIs9:=hid hIs9;obtain ⟨c0,c1,c2⟩:=lies_row hld.2.2;dsimp only [It.l,It.s,It.xs] at c0 c1 c2;clear hld hIs9;go_wp2_with fail
   obtain ⟨P,hP,hP1⟩:∃ P,P=bs++frontL l s (It.mk l s xs).inner.length++s.data.toList∧P.length+(xs.map It.bytes).flatten.length≤1099511627776:=⟨_,rfl,by
    rw [List.length_append,List.length_append,len_s,inner_mk,List.length_append,len_s];dsimp only [It.l,It.s] at hk;omega⟩
   have HP:Hid (P++(xs.map It.bytes).flatten=bs++(It.mk l s xs).bytes):=hid (by rw [hP,hby]; simp [inner_mk,It.l,It.s]);have HI9:Hid (Bu.Is w0.heap.size g (Lib.byteCells (bs++frontL l s (It.mk l s xs).inner.length)) wv9):=hid (by
    have:=HIs9.out;rw [Lib.strCells_eq,← Lib.byteCells_append] at this;exact this)
   have HL2:Hid ((Lib.byteCells (bs++frontL l s (It.mk l s xs).inner.length)).length+s.size≤140737488355328):=hid (by
    have:=congrArg List.length hP;rw [List.length_append,len_s] at this;rw [Lib.byteCells_length];omega)
   have HE:Hid (Lib.byteCells (bs++frontL l s (It.mk l s xs).inner.length)++Lib.strCells s=Lib.byteCells P):=hid (by rw [hP,Lib.strCells_eq,← Lib.byteCells_append]);have HPl:=hid hP1;clear hP hP1 hk hby HIs9 HFr HIn HL1
   with_reducible refine (Bu.write s HI9.out HL2.out HL9.out.1.size).mono ?_
   rintro e wv8 ⟨rfl,hIs8,hb8,hok8⟩;rw [HE.out] at hIs8;have hown8:=own_others HL9.out.2 hok8 (HI9.out.not_at HL9.out.2.2 (by decide));obtain ⟨d0,d1,d2⟩:=lies_row hown8.2;dsimp only [It.l,It.s,It.xs] at d0 d1 d2;have HIs8:=hid hIs8;have HB8:=hid (HL9.out.1.trans hb8);clear hIs8 hb8 hok8 hown8 c0 c1 c2;go_wp2;go_loopw [19] (fun i wr=>∃ q:Nat,q≤n∧i = .int .i64 q∧Hid (Bu.Is w0.heap.size g (Lib.byteCells (P++firstL xs q)) wr)∧Hid (Below w0.heap.size w0 wr)) (fun i _=>n-(intOf i).toNat)
   case atStart=>exact ⟨0,Nat.zero_le _,rfl,hid (by rw [firstL_zero,List.append_nil]; exact HIs8.out),hid HB8.out⟩
   case round =>
    obtain ⟨q,hq,rfl,HQ,HB⟩:=hrel;clear d0 d1 d2;by_cases hlt:q<n
    ·obtain ⟨x,b,off,A,N,C,hx,rfl,hb,hL,hI⟩:=H.out.at' q hlt;obtain ⟨e0,e1,e2⟩:=hL.stays HB.out hb;have hst:=firstL_step xs q x hx;have hle:=firstL_le xs (q+1);have hPl:=HPl.out;rw [hst,List.length_append] at hle;have HS:=hid hst;have HI:=hid (HIh.out x (List.mem_of_getElem? hx) (around+1) g w0 (wr.alloc (.cells #[.bool x.l,.string x.s,.slice A N C] 168)) (itV x A N C) (P++firstL xs q) ⟨A,N,C,rfl,hI⟩ (HB.out.alloc HB.out.size _) (HY.out x (List.mem_of_getElem? hx)) (by rw [List.length_append]; omega) (HQ.out.kept (Bu.grown_below (al1 _ _))))
     unfold itV at HI;clear hL hI hx HIh HY hst hle hPl;go_wp2_with fail
     with_reducible refine HI.out.mono ?_
     rintro e w2 ⟨rfl,hI2,hb2⟩;have HI2:=hid hI2;have HB2:=hid hb2;clear hI2 hb2;go_wp2;go_roundw
     case rel=>exact ⟨q+1,by omega,by go_num,hid (by rw [HS.out,← List.append_assoc]; exact HI2.out),hid HB2.out⟩
     case measure=>simp [intOf]; omega
    ·obtain rfl:q=n:=by omega
     clear HIh HY;go_wp2;go_end0;refine ⟨rfl,?_,?_⟩
     ·have:=HQ.out;rw [firstL_all xs _ hlen,HP.out] at this;exact this
     ·exact HB.out
end Rl
end
section
open Go.RowKit
namespace Rl
open Pk
theorem own_gb {w w':World} {b g:Nat} {cs:Array Value} {T:TypeId} (h:Rg.Own w b cs T) (hg:w.grownBy w' (some g)) (hne:b≠g):Rg.Own w' b cs T :=
 ⟨Nat.lt_of_lt_of_le h.1 hg.size,(hg.block b h.1 (fun e=>hne (Option.some.inj e))).trans h.2⟩
theorem own_set {w:World} {b g:Nat} {cs:Array Value} {T:TypeId} (h:Rg.Own w b cs T) (v:Value) (hne:b≠g):Rg.Own (w.setCell ⟨g,0,none⟩ v) b cs T:=own_gb h (gb_set w g 0 v) hne
theorem own_one {w:World} {b:Nat} {v:Value} {T:TypeId} (h:Rg.Own w b #[v] T):w.cell? ⟨b,0,none⟩=some v∧w.frozen? ⟨b,0,none⟩=false:=by
 refine ⟨?_,?_⟩
 ·simp [World.cell?,h.2]
 ·simp [World.frozen?,h.2]
theorem putDo_any (x:It) (g b:Nat) (w0 w:World) (a:Option Addr) (n cap:Nat) (h:IsIts w0 x.xs a n cap) (hB:Below w0.heap.size w0 w) (hg:w0.heap.size≤g) (hF:Fits 0 x) (hk:x.size≤4096) (hT:Tal w g 0) (hO:Rg.Own w b (itC x a n cap) 168) :
  Calls Tryz.prog 142 #[.pointer (some ⟨g,0,none⟩),.pointer (some ⟨b,0,none⟩)] w fun e w'=>e = .returned (.tuple #[])∧w.grownBy w' (some g):=by
 obtain ⟨c0,c1,c2⟩:=lies_row hO.2;have HC:=hid (check_any x 0 0 g 0 w0 w (itV x a n cap) rfl ⟨a,n,cap,rfl,h⟩ hB hg hF (by omega) hT);unfold itV at HC;clear h hB hF hk hT hO;go_enter Tryz.func142,Tryz.ntmps142;go_wp2_with fail
 with_reducible refine HC.out.mono ?_
 rintro e w1 ⟨rfl,_,hg1⟩;have HG:=hid hg1;clear hg1;go_wp2;go_end0;exact ⟨rfl,HG.out⟩
theorem put_any (x:It) (w:World) (v:Value) (h:IsIt w x v) (hF:Fits 0 x) (hk:x.size≤4096) (hl:x.bytes.length≤1099511627776) :
  Calls Tryz.prog 116 #[v] w fun e w'=>e = .returned (.tuple #[.string ⟨x.bytes.toArray⟩,.int .i64 0])∧Below w.heap.size w w':=by
 obtain ⟨a,n,cap,rfl,h⟩:=h;have hmf:∀ (fn:Fn) (first cap:Array Value) (w:World),(Instr.makeFunc fn first cap).run Tryz.prog w = .ok (.func fn first cap) w:=fun _ _ _ _=>rfl;obtain ⟨w2,hw2⟩:∃ w2,w2=(w.alloc (.cells (itC x a n cap) 168)).alloc (.cells #[.int .i64 0] 197):=⟨_,rfl⟩
 have ho1:Rg.Own w2 w.heap.size (itC x a n cap) 168:=by rw [hw2]; exact (Rg.Own.new _ _ _).below (al1 _ _)
 have ho2:Rg.Own w2 (w.heap.size+1) #[.int .i64 0] 197:=by
  rw [hw2];have:=Rg.Own.new (w.alloc (.cells (itC x a n cap) 168)) #[.int .i64 0] 197;simpa using this
 have hb2:Below w.heap.size w w2:=by rw [hw2]; exact al2 _ _ _
 have hs2:w2.heap.size=w.heap.size+2:=by rw [hw2]; simp
 have hoE:Rg.Own (w2.alloc (.cells #[.int .i64 0] 62)) w2.heap.size #[.int .i64 0] 62:=Rg.Own.new _ _ _;have ho1':=ho1.below (al1 w2 (.cells #[.int .i64 0] 62));have ho2':=ho2.below (al1 w2 (.cells #[.int .i64 0] 62));have hbE:=hb2.alloc hb2.size (.cells #[.int .i64 0] 62);have HC:=hid (caught_ok 142 #[.pointer (some ⟨w.heap.size+1,0,none⟩),.pointer (some ⟨w.heap.size,0,none⟩)] (by intro wx; kernel_rfl) w2
  (fun w'=>(w2.alloc (.cells #[.int .i64 0] 62)).grownBy w' (some (w.heap.size+1))) (by
   refine (putDo_any x (w.heap.size+1) w.heap.size w _ a n cap h hbE (by omega) hF hk (own_one ho2') ho1').mono ?_;rintro e w' ⟨rfl,hg⟩;exact ⟨rfl,own_one (own_gb hoE hg (by omega)),hg⟩))
 have hlay:=fun (w':World) hb hIs=>lay_any x 0 (w'.heap.size) w (w'.alloc (.cells #[.pointer none,.slice none 0 0] 176)) (itV x a n cap) [] ⟨a,n,cap,rfl,h⟩ hb hF (by simpa using hl) hIs;have HLy:=hid hlay;clear hlay h hF hk hl;unfold itV at HLy ⊢;unfold itC at hw2;go_enter Tryz.func116,Tryz.ntmps116;go_wp2_with fail
 rw [← hw2];refine HC.out.mono ?_;rintro e w3 ⟨rfl,w1,hg1,hw3⟩;have ho3:Rg.Own w3 w.heap.size (itC x a n cap) 168:=by rw [hw3]; exact own_set (own_gb ho1' hg1 (by omega)) _ (by omega)
 have hb3:Below w.heap.size w w3:=by
  rw [hw3];exact (gb_below hbE hg1 (Nat.le_refl _) (by omega)).setCell (p:=⟨w2.heap.size,0,none⟩) (by show w.heap.size≤w2.heap.size; omega) _
 have HB3:=hid hb3;have hB3:Below w.heap.size w (w3.alloc (.cells #[.pointer none,.slice none 0 0] 176)):=hb3.alloc hb3.size _;have HLx:=hid (HLy.out w3 hB3 (Bu.fresh (b:=w3.heap.size) hb3.size (heap_alloc_new _ _)));obtain ⟨c0,c1,c2⟩:=lies_row (ho3.below (al1 w3 (.cells #[.pointer none,.slice none 0 0] 176))).2;clear hw3 ho3 hb3 hB3 HLy HC hg1 hbE ho2' ho1' hoE hs2 hb2 ho2 ho1 hw2;go_wp2_with fail
 with_reducible refine HLx.out.mono ?_
 rintro e w4 ⟨rfl,hI4,hb4⟩;rw [List.nil_append] at hI4;have HI4:=hid hI4;have HB4:=hid hb4;clear hI4 hb4 c0 c1 c2 HLx;go_wp2_with fail
 with_reducible refine (Bu.text HI4.out HB4.out.size).mono ?_
 rintro e w5 ⟨rfl,hb5⟩;have HB5:=hid (HB4.out.trans hb5);clear hb5;go_wp2;go_ret2
 exact ⟨rfl,HB5.out⟩
end Rl
end
section
open Go.RowKit
namespace Rl
mutual
def readL:List UInt8→Nat→Nat→Except Int (It × Nat × Nat)
 | [],around,k=>if 64<around then .error 17 else if 4096<k+1 then .error 4 else .error 5
 | c::t,around,k =>
  if 64<around then .error 17 else if 4096<k+1 then .error 4 else
  match headE (c::t) with
  | .error e=>.error e
  | .ok (true,a,v)=>if t.length+1-a<v then .error 5 else
   match allL ((t.drop (a-1)).take v) (around+1) (k+1) with
   | .error e=>.error e
   | .ok (xs,k')=>.ok (.mk true ⟨#[]⟩ xs,a+v,k')
  | .ok (false,a,v)=>if t.length+1-a<v then .error 5 else
   if a=1∧v=1∧(t.headD 0).toNat<128 then .error 6 else .ok (.mk false ⟨(((c::t).drop a).take v).toArray⟩ [],a+v,k+1)
termination_by s=>(s.length,0)
decreasing_by
 apply Prod.Lex.left;rw [List.length_take,List.length_drop,List.length_cons];omega
def allL:List UInt8→Nat→Nat→Except Int (List It × Nat)
 | [],_,k=>.ok ([],k)
 | c::t,around,k =>
  match readL (c::t) around k with
  | .error e=>.error e
  | .ok (x,n,k') =>
   match allL (t.drop (n-1)) around k' with
   | .error e=>.error e
   | .ok (xs,k'')=>.ok (x::xs,k'')
termination_by s=>(s.length,1)
decreasing_by
 ·apply Prod.Lex.right;omega
 ·apply Prod.Lex.left;rw [List.length_drop,List.length_cons];omega
end
theorem ok_inj {α β:Type} {x y : α} (h:(Except.ok x:Except β α) = .ok y):x=y:=by cases h; rfl
theorem headE_props {c:UInt8} {t:List UInt8} {l:Bool} {a v:Nat} (h:headE (c::t) = .ok (l,a,v)):a≤t.length+1∧1≤a+v∧v<2 ^ 64∧a≤9∧(l=true→1≤a):=by
 have hc:=c.toNat_lt;obtain ⟨M,hM,hM2⟩:∃ M,(if 192≤c.toNat then 192 else 128)=M∧(M=192∨M=128∧c.toNat<192):=⟨_,rfl,by
  by_cases e:192≤c.toNat
  ·exact .inl (if_pos e)
  ·exact .inr ⟨if_neg e,by omega⟩⟩
 dsimp only [headE] at h;rw [hM] at h;clear hM;by_cases h1:c.toNat<128
 ·rw [if_pos h1] at h;have:=ok_inj h;simp only [Prod.mk.injEq] at this;obtain ⟨rfl,rfl,rfl⟩:=this;refine ⟨by omega,by omega,by omega,by omega,fun e=>by cases e⟩
 ·rw [if_neg h1] at h;by_cases h2:c.toNat-M≤55
  ·rw [if_pos h2] at h;have:=ok_inj h;simp only [Prod.mk.injEq] at this;obtain ⟨rfl,rfl,rfl⟩:=this;refine ⟨by omega,by omega,by omega,by omega,fun _=>by omega⟩
  ·rw [if_neg h2] at h;by_cases h3:t.length<c.toNat-M-55
   ·rw [if_pos h3] at h; cases h
   ·rw [if_neg h3] at h;by_cases h4:t.headD 0=0∨valB (t.take (c.toNat-M-55))≤55
    ·rw [if_pos h4] at h; cases h
    ·rw [if_neg h4] at h;have:=ok_inj h;simp only [Prod.mk.injEq] at this;obtain ⟨rfl,rfl,rfl⟩:=this;have hl:=valB_lt (t.take (c.toNat-M-55));have h8:(t.take (c.toNat-M-55)).length≤8:=by
      rw [List.length_take]; omega
     refine ⟨by omega,by omega,?_,by omega,fun _=>by omega⟩;exact Nat.lt_of_lt_of_le hl (Nat.le_trans (Nat.pow_le_pow_right (by omega) h8) (by decide))
theorem props (N:Nat):(∀ (s:List UInt8) (around k:Nat) (x:It) (n k':Nat),s.length≤N→readL s around k = .ok (x,n,k')→1≤n∧n≤s.length∧k<k'∧k'≤4096) ∧
  (∀ (s:List UInt8) (around k:Nat) (xs:List It) (k':Nat),s.length≤N→k≤4096→allL s around k = .ok (xs,k')→k+xs.length≤k'∧k'≤4096):=by
 induction N using Nat.strongRecOn with
 | ind N ih =>
  have hread:∀ (s:List UInt8) (around k:Nat) (x:It) (n k':Nat),s.length≤N→readL s around k = .ok (x,n,k')→1≤n∧n≤s.length∧k<k'∧k'≤4096:=by
   intro s around k x n k' hN h;cases s with
   | nil =>
    rw [readL] at h;split at h
    ·cases h
    ·split at h <;> cases h
   | cons c t =>
    rw [readL] at h;split at h
    ·cases h
    ·split at h
     ·cases h
     ·rename_i hk;split at h
      ·cases h
      ·rename_i a v hh;obtain ⟨h1,h2,h3,h4,h5⟩:=headE_props hh;have h6:=h5 rfl;split at h
       ·cases h
       ·rename_i hv;split at h
        ·cases h
        ·rename_i xs k2 ha;have:=ok_inj h;simp only [Prod.mk.injEq] at this;obtain ⟨rfl,rfl,rfl⟩:=this;rw [List.length_cons] at hN ⊢;obtain ⟨g1,g2⟩:=(ih (N-1) (by omega)).2 _ _ _ _ _ (by rw [List.length_take,List.length_drop]; omega) (by omega) ha;omega
      ·rename_i a v hh;obtain ⟨h1,h2,h3,h4,h5⟩:=headE_props hh;split at h
       ·cases h
       ·rename_i hv;split at h
        ·cases h
        ·have:=ok_inj h;simp only [Prod.mk.injEq] at this;obtain ⟨rfl,rfl,rfl⟩:=this;rw [List.length_cons];omega
  refine ⟨hread,fun s around k xs k' hN hk h=>?_⟩;cases s with
  | nil =>
   rw [allL] at h;have:=ok_inj h;simp only [Prod.mk.injEq] at this;obtain ⟨rfl,rfl⟩:=this;simp;omega
  | cons c t =>
   rw [allL] at h;split at h
   ·cases h
   ·rename_i x n k2 hr;obtain ⟨g1,g2,g3,g4⟩:=hread _ _ _ _ _ _ hN hr;split at h
    ·cases h
    ·rename_i ys k3 ha;have:=ok_inj h;simp only [Prod.mk.injEq] at this;obtain ⟨rfl,rfl⟩:=this;rw [List.length_cons] at hN;obtain ⟨e1,e2⟩:=(ih (N-1) (by omega)).2 _ _ _ _ _ (by rw [List.length_drop]; omega) g4 ha;rw [List.length_cons];omega
end Rl
end
end Go.Proofs.YtnecijeakeklaaaGreatDoor
