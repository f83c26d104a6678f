/-
 Nodes: what one is in memory, as a walk takes it; how one is made, loaded, stored.
-/
import Derived.Test.YtnecijeakeklaaaGreatDoorMp1
import Derived.Laws.Rows
import Derived.Laws.ResultCell
import Derived.Laws.Tables
import Derived.Great.BuildSlice
import Derived.LoopN
import Derived.Deep.Draws
import Derived.Test.YtnecijeakeklaaaGreatDoorMp2
import Derived.Deep.RegionWith
import Derived.IntWalk
import Derived.RegionTactic
import Derived.Deep.QuietTactic
import Derived.BigQuiet
import Derived.ArgAppend
open Go.Lib (hid)
set_option linter.unusedSimpArgs false
set_option linter.unusedVariables false
set_option maxHeartbeats 40000000
set_option maxRecDepth 100000
namespace Go.Proofs.YtnecijeakeklaaaGreatDoor
section
open Go.RowKit
structure Nd where
 kd:Int
 p:List UInt8
 v:ByteArray
 ks:List ByteArray
abbrev eB:ByteArray:=⟨#[]⟩
def zks:List ByteArray:=List.replicate 16 eB
theorem zks_length:zks.length=16:=rfl
def kidC (ks:List ByteArray):Array Value:=(ks.map Value.string).toArray
def ndC (N:Nd) (a:Option Addr) (n c:Nat):Array Value:=(Value.int .i64 N.kd::Value.slice a n c::Value.string N.v::N.ks.map Value.string).toArray
def nd0:Nd:=⟨0,[],eB,zks⟩
def BsF (B:Nat) (w:World) (a:Option Addr) (n c:Nat) (l:List UInt8):Prop:=IsBs w a n c l∧∀ ad,a=some ad→B≤ad.block
theorem BsF.below {B:Nat} {w w':World} {a:Option Addr} {n c:Nat} {l:List UInt8} (h:BsF B w a n c l) (hb:Below w.heap.size w w'):BsF B w' a n c l:=⟨h.1.below hb,h.2⟩
theorem BsF.weak {B B':Nat} {w:World} {a:Option Addr} {n c:Nat} {l:List UInt8} (h:BsF B w a n c l) (hB:B'≤B):BsF B' w a n c l:=⟨h.1,fun ad e=>Nat.le_trans hB (h.2 ad e)⟩
theorem BsF.upd {B g:Nat} {w w':World} {a:Option Addr} {n c:Nat} {l:List UInt8} (h:BsF B w a n c l) (hu:Rg.Upd w g w') (hg:g<B):BsF B w' a n c l:=by
 refine ⟨⟨h.1.1,h.1.2.1,h.1.2.2.1,h.1.2.2.2.1,fun j hj=>?_⟩,h.2⟩;obtain ⟨b,off,e,hlt,hc⟩:=h.1.2.2.2.2 j hj;have hB:B≤b:=h.2 _ e;exact ⟨b,off,e,by rw [hu.size]; exact hlt,by rw [World.cell?_of_block (hu.block b (by omega))]; exact hc⟩
theorem BsF.row {B g:Nat} {w:World} {a:Option Addr} {n c:Nat} {l:List UInt8} (h:BsF B w a n c l) (hg:g<B) (cs:Array Value):BsF B (w.setRow g cs) a n c l:=h.upd (Rg.Upd.set _ _ _) hg
theorem BsF.nil (B:Nat) (w:World):BsF B w none 0 0 []:=⟨IsBs.nil w,fun _ e=>by cases e⟩
def IsNd (w:World) (N:Nd) (v:Value):Prop:=∃ a n c,v = .agg (ndC N a n c)∧IsBs w a n c N.p∧N.ks.length=16
abbrev OwnN (w:World) (b:Nat) (N:Nd) (a:Option Addr) (n c:Nat):Prop:=Rg.Own w b (ndC N a n c) 56
theorem kidC_size (ks:List ByteArray):(kidC ks).size=ks.length:=by simp [kidC]
theorem ndC_size (N:Nd) (a:Option Addr) (n c:Nat) (h:N.ks.length=16):(ndC N a n c).size=19:=by simp [ndC,h]
theorem ndC_one (N:Nd) (a:Option Addr) (n c:Nat):(ndC N a n c).all (·.oneCell')=true:=by
 unfold ndC;simp [Value.oneCell']
theorem info_node:(Tryz.prog.info? 56).map (·.size)=some 19:=by kernel_rfl
theorem info_kids:(Tryz.prog.info? 54).map (·.size)=some 16:=by kernel_rfl
theorem info_ndC (N:Nd) (a:Option Addr) (n c:Nat) (h:N.ks.length=16):(Tryz.prog.info? 56).map (·.size)=some (ndC N a n c).size:=by rw [ndC_size _ _ _ _ h]; exact info_node
theorem info_kidC (ks:List ByteArray) (h:ks.length=16):(Tryz.prog.info? 54).map (·.size)=some (kidC ks).size:=by rw [kidC_size,h]; exact info_kids
theorem nd_cells {w:World} {b:Nat} {N:Nd} {a:Option Addr} {n c:Nat} (h:OwnN w b N a n c) :
  w.cell? ⟨b,0,none⟩=some (.int .i64 N.kd)∧w.cell? ⟨b,1,none⟩=some (.slice a n c)∧w.cell? ⟨b,2,none⟩=some (.string N.v):=by
 refine ⟨?_,?_,?_⟩;all_goals
  rw [cell_of_row w b _ _ _ _ h.2];rfl
theorem nd_kid {w:World} {b:Nat} {N:Nd} {a:Option Addr} {n c:Nat} (h:OwnN w b N a n c) (hl:N.ks.length=16) (j:Nat) (hj:j<16) :
  w.cell? ⟨b,3+j,none⟩=some (.string (N.ks.getD j eB)):=by
 rw [cell_of_row w b _ _ _ _ h.2];unfold ndC;rw [show 3+j=j+1+1+1 by omega];simp [List.getD,hl,hj]
theorem own_free {w:World} {b j:Nat} {cs:Array Value} {T:TypeId} (h:Rg.Own w b cs T):w.frozen? ⟨b,j,none⟩=false:=by
 simp [World.frozen?,h.2]
theorem sixteen {α:Type} (l:List α) (h:l.length=16):∃ a b c d e f g i j k m n o p q r,l=[a,b,c,d,e,f,g,i,j,k,m,n,o,p,q,r]:=by
 match l,h with
 | [a,b,c,d,e,f,g,i,j,k,m,n,o,p,q,r],_=>exact ⟨_,_,_,_,_,_,_,_,_,_,_,_,_,_,_,_,rfl⟩
theorem run_load_nd {w:World} {b:Nat} {N:Nd} {a:Option Addr} {n c:Nat} (h:OwnN w b N a n c) (hl:N.ks.length=16) :
  (loadVar 56 ⟨b,0,none⟩).run Tryz.prog w = .ok (.agg (ndC N a n c)) w :=
 run_loadVar_row (P:=Tryz.prog) w b 56 56 (ndC N a n c) (0,0) _ h.2 Tryz.underlying56 rfl (info_ndC N a n c hl)
theorem load_nd {w:World} {b:Nat} {N:Nd} {a:Option Addr} {n c:Nat} (h:OwnN w b N a n c) (hl:N.ks.length=16) :
  (Instr.loadAt 56 (.pointer (some ⟨b,0,none⟩))).run Tryz.prog w = .ok (.agg (ndC N a n c)) w:=by
 simp only [Instr.loadAt,Instr.sureAddr,Sem.run_bind,Sem.run_pure,Result.andThen_ok,run_load_nd h hl]
theorem load_ks {w:World} {b:Nat} {N:Nd} {a:Option Addr} {n c:Nat} (h:OwnN w b N a n c) (hl:N.ks.length=16) :
  (Instr.loadAt 54 (.pointer (some ⟨b,3,none⟩))).run Tryz.prog w = .ok (.agg (kidC N.ks)) w:=by
 have hc:w.rangeAt b 3 (N.ks.map Value.string):=fun j v hv=>by
  have hj:j<16:=by
   have:=(List.getElem?_eq_some_iff.1 hv).1;simpa [hl] using this
  rw [nd_kid h hl j hj];have hx:N.ks[j]? = some (N.ks[j]'(by omega)):=List.getElem?_eq_getElem (by omega);rw [List.getElem?_map,hx] at hv;rw [← Option.some.inj hv];simp [List.getD,hx]
 exact run_loadAt_mid w b 3 54 (N.ks.map Value.string) _ hc Tryz.underlying54 rfl (by rw [List.length_map,hl]; exact info_kids)
abbrev OwnK (w:World) (b:Nat) (ks:List ByteArray):Prop:=Rg.Own w b (kidC ks) 54
theorem load_kc {w:World} {b:Nat} {ks:List ByteArray} (h:OwnK w b ks) (hl:ks.length=16) :
  (Instr.loadAt 54 (.pointer (some ⟨b,0,none⟩))).run Tryz.prog w = .ok (.agg (kidC ks)) w:=by
 simp only [Instr.loadAt,Instr.sureAddr,Sem.run_bind,Sem.run_pure,Result.andThen_ok,run_loadVar_row (P:=Tryz.prog) w b 54 54 (kidC ks) (0,0) _ h.2 Tryz.underlying54 rfl (info_kidC ks hl)]
theorem run_alloc_nd (ev:Operand→Value) (o:Oper) (w:World) (b:Nat) (hb:b=w.heap.size) (ho:o.op = .alloc 56) :
  (execOp ev o).run Tryz.prog w = .ok (.value (.pointer (some ⟨b,0,none⟩))) (w.alloc (.cells (ndC nd0 none 0 0) 56)):=by
 subst hb;unfold execOp;rw [ho];kernel_rfl
theorem run_alloc_ks (ev:Operand→Value) (o:Oper) (w:World) (b:Nat) (hb:b=w.heap.size) (ho:o.op = .alloc 54) :
  (execOp ev o).run Tryz.prog w = .ok (.value (.pointer (some ⟨b,0,none⟩))) (w.alloc (.cells (kidC zks) 54)):=by
 subst hb;unfold execOp;rw [ho];kernel_rfl
theorem built0:Tryz.prog.built 56 []=some (ndC nd0 none 0 0):=by kernel_rfl
theorem built_leaf (a:Option Addr) (n c:Nat) (p:List UInt8) (v:ByteArray):Tryz.prog.built 56 [(0,.int .i64 1),(1,.slice a n c),(2,.string v)]=some (ndC ⟨1,p,v,zks⟩ a n c):=by kernel_rfl
theorem built_kd (k:Int):Tryz.prog.built 56 [(0,.int .i64 k)]=some (ndC ⟨k,[],eB,zks⟩ none 0 0):=by kernel_rfl
theorem built_path (k:Int) (a:Option Addr) (n c:Nat) (p:List UInt8):Tryz.prog.built 56 [(0,.int .i64 k),(1,.slice a n c)]=some (ndC ⟨k,p,eB,zks⟩ a n c):=by kernel_rfl
theorem built_one (s:ByteArray):Tryz.prog.built 54 [(0,.string s)]=some (kidC (s::List.replicate 15 eB)):=by kernel_rfl
theorem built_ks (k:Int) (ks:List ByteArray) (h:ks.length=16):Tryz.prog.built 56 [(0,.int .i64 k),(3,.agg (kidC ks))]=some (ndC ⟨k,[],eB,ks⟩ none 0 0):=by
 obtain ⟨x0,x1,x2,x3,x4,x5,x6,x7,x8,x9,x10,x11,x12,x13,x14,x15,rfl⟩:=sixteen ks h;kernel_rfl
theorem built_ext (k:Int) (a:Option Addr) (n c:Nat) (p:List UInt8) (ks:List ByteArray) (h:ks.length=16):Tryz.prog.built 56 [(0,.int .i64 k),(1,.slice a n c),(3,.agg (kidC ks))]=some (ndC ⟨k,p,eB,ks⟩ a n c):=by
 obtain ⟨x0,x1,x2,x3,x4,x5,x6,x7,x8,x9,x10,x11,x12,x13,x14,x15,rfl⟩:=sixteen ks h;kernel_rfl
theorem run_built {t:TypeId} {parts:Array (Nat × Value)} {l:List (Nat × Value)} {cells:Array Value} (w:World) (hl:parts.toList=l) (h:Tryz.prog.built t l=some cells):(Instr.build t parts).run Tryz.prog w = .ok (.agg cells) w :=
 run_build w t parts cells (by rw [hl]; exact h)
theorem res_nd {fn:Func} {p:Tmp} (hf:fn.results = #[.cell p 56]) (tmps:Array Value) {w:World} {b:Nat} {N:Nd} {a:Option Addr} {n c:Nat} (hp:tmps.getD p undef = .pointer (some ⟨b,0,none⟩)) (h:OwnN w b N a n c) (hl:N.ks.length=16) :
  (results fn tmps).run Tryz.prog w = .ok (.agg (ndC N a n c)) w:=by
 have hp':tmps[p]?.getD undef = .pointer (some ⟨b,0,none⟩):=by simpa using hp
 simp [results,hf,hp',asAddr,run_load_nd h hl]
theorem res_nd1 {fn:Func} {p u:Tmp} (hf:fn.results = #[.cell p 56,.tmp u]) (tmps:Array Value) {w:World} {b:Nat} {N:Nd} {a:Option Addr} {n c:Nat} (hp:tmps.getD p undef = .pointer (some ⟨b,0,none⟩)) (h:OwnN w b N a n c) (hl:N.ks.length=16) :
  (results fn tmps).run Tryz.prog w = .ok (.tuple #[.agg (ndC N a n c),tmps.getD u undef]) w:=by
 have hp':tmps[p]?.getD undef = .pointer (some ⟨b,0,none⟩):=by simpa using hp
 simp [results,hf,hp',asAddr,run_load_nd h hl]
theorem own_rowN {w:World} {b:Nat} {N M:Nd} {a a':Option Addr} {n c n' c':Nat} (h:OwnN w b N a n c):OwnN (w.setRow b (ndC M a' n' c')) b M a' n' c' :=
 ⟨by simp; exact h.1,setRow_heap _ _ _ _ _ _ h.2⟩
theorem below_rowN {B:Nat} {w w1:World} (h:Below B w w1) {g:Nat} (hg:B≤g) (cs:Array Value):Below B w (w1.setRow g cs) :=
 h.trans ⟨rfl,rfl,rfl,by simp,fun k hk=>setRow_other w1 g k cs (by omega)⟩
theorem op_load_nd {ev:Operand→Value} {o:Oper} {w:World} {b:Nat} {N:Nd} {a:Option Addr} {n c:Nat} (h:OwnN w b N a n c) (hl:N.ks.length=16) (ho:∃ x,o.op = .load 56 x∧ev x = .pointer (some ⟨b,0,none⟩)) :
  (execOp ev o).run Tryz.prog w = .ok (.value (.agg (ndC N a n c))) w:=by
 obtain ⟨x,ho,hx⟩:=ho;unfold execOp;simp only [ho,hx,Sem.run_bind,Sem.run_pure,Result.andThen_ok,load_nd h hl]
theorem op_load_ks {ev:Operand→Value} {o:Oper} {w:World} {b:Nat} {N:Nd} {a:Option Addr} {n c:Nat} (h:OwnN w b N a n c) (hl:N.ks.length=16) (ho:∃ x,o.op = .load 54 x∧ev x = .pointer (some ⟨b,3,none⟩)) :
  (execOp ev o).run Tryz.prog w = .ok (.value (.agg (kidC N.ks))) w:=by
 obtain ⟨x,ho,hx⟩:=ho;unfold execOp;simp only [ho,hx,Sem.run_bind,Sem.run_pure,Result.andThen_ok,load_ks h hl]
theorem op_load_kc {ev:Operand→Value} {o:Oper} {w:World} {b:Nat} {ks:List ByteArray} (h:OwnK w b ks) (hl:ks.length=16) (ho:∃ x,o.op = .load 54 x∧ev x = .pointer (some ⟨b,0,none⟩)) :
  (execOp ev o).run Tryz.prog w = .ok (.value (.agg (kidC ks))) w:=by
 obtain ⟨x,ho,hx⟩:=ho;unfold execOp;simp only [ho,hx,Sem.run_bind,Sem.run_pure,Result.andThen_ok,load_kc h hl]
theorem op_build {ev:Operand→Value} {o:Oper} {w:World} {t:TypeId} {l:List (Nat × Value)} {cells:Array Value} (h:Tryz.prog.built t l=some cells) (ho:∃ ps,o.op = .build t ps∧(ps.toList.map fun p=>(p.1,ev p.2))=l) :
  (execOp ev o).run Tryz.prog w = .ok (.value (.agg cells)) w:=by
 obtain ⟨ps,ho,hx⟩:=ho;unfold execOp;simp only [ho,Sem.run_bind,Sem.run_pure,Result.andThen_ok,run_built w (l:=l) (by rw [Array.toList_map]; exact hx) h]
theorem wpl_store_nd {ops:Array Oper} {rest:List Oper} {o:Oper} {act:Act} {w:World} {Q:Exit→Act→World→Prop} {b:Nat} {N:Nd} {a:Option Addr} {n c:Nat} (h:OwnN w b N a n c) (hl:N.ks.length=16) (M:Nd) (a':Option Addr) (n' c':Nat) (hm:M.ks.length=16)
  (hgd:o.guard=none) (x y:Operand) (ho:o.op = .store 56 x y) (hx:act.eval x = .pointer (some ⟨b,0,none⟩)) (hy:act.eval y = .agg (ndC M a' n' c')) (hd:o.dst=none)
  (hQ:wpList Tryz.prog ops Q rest act (w.setRow b (ndC M a' n' c'))):wpList Tryz.prog ops Q (o::rest) act w :=
 wpList_store_rowTo hgd 56 x y ho hd b _ hx hy 56 _ h.2 (info_ndC _ _ _ _ hm) (by rw [ndC_size _ _ _ _ hl,ndC_size _ _ _ _ hm]) (ndC_one _ _ _ _) hQ
end
section
open Go.RowKit
namespace No
def GotNd (w:World) (N:Nd) (e:Ending) (w':World):Prop:=∃ a n c,e = .returned (.agg (ndC N a n c))∧BsF w.heap.size w' a n c N.p∧N.ks.length=16∧Below w.heap.size w w'
theorem branch_any (ks:List ByteArray) (hl:ks.length=16) (w:World):Calls Tryz.prog 84 #[.agg (kidC ks)] w (GotNd w ⟨3,[],eB,ks⟩):=by
 obtain ⟨w2,hw2⟩:∃ w2,w2=(w.alloc (.cells (kidC ks) 54)).alloc (.cells (ndC nd0 none 0 0) 56):=⟨_,rfl⟩
 have hK:OwnK w2 w.heap.size ks:=by rw [hw2]; exact (Rg.Own.new _ _ _).below (al1 _ _)
 have hO:OwnN w2 (w.heap.size+1) nd0 none 0 0:=by
  rw [hw2];have:=Rg.Own.new (w.alloc (.cells (kidC ks) 54)) (ndC nd0 none 0 0) 56;simpa using this
 have HK:=hid hK;have HO:=hid hO;have HB:Hid (Below w.heap.size w w2):=hid (by rw [hw2]; exact al2 _ _ _);have HL:=hid hl;clear hO hK hl;subst hw2;go_enter Tryz.func84,Tryz.ntmps84;go_wp2_with (first
  | (refine Rg.run rfl _ _ (run_alloc_nd _ _ _ (w.heap.size+1) (by simp) rfl) ?_)
  | (refine Rg.run rfl _ _ (op_load_kc HK.out HL.out ⟨_,rfl,rfl⟩) ?_)
  | (refine Rg.run rfl _ _ (op_build (built_ks 3 ks HL.out) ?_) ?_; · exact ⟨_,rfl,rfl⟩)
  | (refine wpl_store_nd HO.out rfl ⟨3,[],eB,ks⟩ none 0 0 HL.out rfl _ _ rfl rfl rfl rfl ?_))
 exact bodyPost_ret (res_nd rfl _ rfl (own_rowN HO.out) HL.out) rfl ⟨none,0,0,rfl,BsF.nil _ _,HL.out,below_rowN HB.out (Nat.le_succ _) _⟩
end No
end
section
open Go.RowKit
namespace Ni
def rightB (l:List UInt8):Bool:=l.all (fun b=>decide (b.toNat≤15))
theorem take_snoc_getD (l:List UInt8) (k:Nat) (h:k<l.length):l.take (k+1)=l.take k++[l.getD k 0]:=by
 rw [List.take_succ_eq_append_getElem h]; simp [List.getD,h]
theorem rightB_take (l:List UInt8) (k:Nat) (h:k<l.length):rightB (l.take (k+1))=(rightB (l.take k)&&decide ((l.getD k 0).toNat≤15)):=by
 rw [take_snoc_getD l k h]; simp [rightB,List.all_append]
theorem rightB_no (l:List UInt8) (k:Nat) (h:k<l.length) (hk:15<(l.getD k 0).toNat):rightB l=false:=by
 unfold rightB;rw [List.all_eq_false];exact ⟨l.getD k 0,by simp [List.getD,h],by simpa using hk⟩
theorem right_any (a:Option Addr) (n cap:Nat) (l:List UInt8) (w:World) (h:IsBs w a n cap l) :
  Calls Tryz.prog 92 #[.slice a n cap] w fun e w'=>e = .returned (.bool (rightB l))∧w=w':=by
 have hm:=h.2.1;have hnc:=h.1;unfold maxLen at hm;have H:=hid h;clear h;go_enter Tryz.func92,Tryz.ntmps92;go_wp2;go_loop [7] (fun i=>∃ k:Nat,k≤n∧i = .int .i64 k∧Hid (rightB (l.take k)=true)) (fun i=>n-(intOf i).toNat)
 case atStart=>exact ⟨0,Nat.zero_le _,rfl,hid rfl⟩
 case round =>
  obtain ⟨k,hk,rfl,HR⟩:=hrel;by_cases hlt:k<n
  ·obtain ⟨b,off,rfl,hb,hc⟩:=H.out.at' k hlt;have hl:k<l.length:=by rw [H.out.len]; exact hlt
   have HT:=hid (rightB_take l k hl);obtain ⟨x,hx⟩:∃ x,(l.getD k 0).toNat=x:=⟨_,rfl⟩
   rw [hx] at hc HT;by_cases h15:15<x
   ·have HN:=hid (rightB_no l k hl (by omega));clear hx hl;go_wp2;go_ret;exact ⟨by rw [HN.out]; rfl,rfl⟩
   ·clear hx hl;go_wp2;go_round
    case rel=>exact ⟨k+1,by omega,by go_num,hid (by rw [HT.out,HR.out]; simp; omega)⟩
    case measure=>simp [intOf]; omega
  ·obtain rfl:k=n:=by omega
   have HE:Hid (rightB l=true):=hid (by
    have:=HR.out;rwa [List.take_of_length_le (by rw [H.out.len]; exact Nat.le_refl _)] at this)
   go_wp2;go_ret;exact ⟨by rw [HE.out]; rfl,rfl⟩
theorem teller_any (s:ByteArray) (w:World) :
  Calls Tryz.prog 104 #[.string s] w fun e w'=>e = .returned (.func (Fn.func 127) #[] #[.pointer (some ⟨w.heap.size,0,none⟩)])∧w'=w.alloc (.cells #[.string s] 9):=by
 go_enter Tryz.func104,Tryz.ntmps104;go_wp2;go_ret;exact ⟨rfl,rfl⟩
def nibAt (s:ByteArray) (i:Nat):Nat:=if i%2=0 then (s.data.toList.getD (i/2) 0).toNat/16 else (s.data.toList.getD (i/2) 0).toNat%16
theorem and15:∀ x:Fin 256,bits .and .u8 ((x:Nat):Int) 15=(((x:Nat)%16:Nat):Int):=by decide +kernel
theorem getD_data (s:ByteArray) (k:Nat) (h:k<s.size):s.data.toList.getD k 0=s[k]:=by
 have e:k<s.data.toList.length:=by simpa using h
 rw [List.getD,List.getElem?_eq_getElem e]; rfl
theorem ret_u8 {a b:Int} (h:a=b):Ending.returned (.int .u8 a) = .returned (.int .u8 b):=by rw [h]
theorem teller1_any (c:Nat) (s:ByteArray) (i:Nat) (hs:s.size≤maxLen) (hi:i/2<s.size) (w:World) (hc:w.cell? ⟨c,0,none⟩=some (.string s)) :
  Calls Tryz.prog 127 #[.int .i64 i,.pointer (some ⟨c,0,none⟩)] w fun e w'=>e = .returned (.int .u8 (nibAt s i:Nat))∧w=w':=by
 unfold maxLen at hs;by_cases h2:i%2=0
 ·have HE:Hid ((s[i/2].toNat:Int)/16=(nibAt s i:Nat)):=hid (by
   unfold nibAt; rw [if_pos h2,getD_data s _ hi]; omega)
  go_enter Tryz.func127,Tryz.ntmps127;go_wp2;go_ret;exact ⟨ret_u8 HE.out,rfl⟩
 ·have HE:Hid (bits .and .u8 (s[i/2].toNat:Int) 15=(nibAt s i:Nat)):=hid (by
   unfold nibAt; rw [if_neg h2,getD_data s _ hi];exact and15 ⟨s[i/2].toNat,UInt8.toNat_lt _⟩)
  go_enter Tryz.func127,Tryz.ntmps127;go_wp2;go_ret;exact ⟨ret_u8 HE.out,rfl⟩
theorem cut_zero (a:Option Addr) (n cap:Nat) (w:World) :
  Calls Tryz.prog 178 #[.slice a n cap,.int .i64 0,.int .i64 0] w fun e w'=>e = .returned (.slice a 0 0)∧w=w':=by
 go_enter Tryz.func178,Tryz.ntmps178;go_wp2;go_ret;exact ⟨rfl,rfl⟩
theorem cut_zero_q (a:Option Addr) (n cap:Nat) (w:World) :
  Calls Tryz.prog 178 #[.slice a n cap,.int .i64 0,.int .i64 0] w fun e w'=>e = .returned (.slice a 0 0)∧w'=w.drewN 0:=by
 refine (cut_zero a n cap w).mono ?_;rintro e w' ⟨rfl,rfl⟩;exact ⟨rfl,rfl⟩
def cutAt (off i j:Nat):Nat:=if j=i then off else off+i
theorem cut_any (b off n cap:Nat) (i j:Nat) (hij:i≤j) (hj:j≤cap) (_hcap:cap≤2 ^ 63-1) (w:World) :
  Calls Tryz.prog 178 #[.slice (some ⟨b,off,none⟩) n cap,.int .i64 i,.int .i64 j] w fun e w'=>e = .returned (.slice (some ⟨b,cutAt off i j,none⟩) (j-i) (j-i))∧w=w':=by
 go_enter Tryz.func178,Tryz.ntmps178;go_wp2
 ·go_ret;exact ⟨by subst h; simp [cutAt],rfl⟩
 ·go_ret;exact ⟨by simp [cutAt,h],rfl⟩
theorem cut_one_q (b off n cap:Nat) (h1:1≤cap) (w:World) (hcap:cap≤2 ^ 63-1) :
  Calls Tryz.prog 178 #[.slice (some ⟨b,off,none⟩) n cap,.int .i64 0,.int .i64 1] w fun e w'=>e = .returned (.slice (some ⟨b,off,none⟩) 1 1)∧w'=w.drewN 0:=by
 refine (cut_any b off n cap 0 1 (by omega) h1 hcap w).mono ?_;rintro e w' ⟨rfl,rfl⟩;exact ⟨by simp [cutAt],rfl⟩
theorem cut_bs (a:Option Addr) (n cap:Nat) (l:List UInt8) (i j:Nat) (hij:i≤j) (hj:j≤n) (w:World) (h:IsBs w a n cap l) :
  Calls Tryz.prog 178 #[.slice a n cap,.int .i64 i,.int .i64 j] w fun e w'=>∃ a' c',e = .returned (.slice a' (j-i) c')∧(IsBs w a' (j-i) c' ((l.drop i).take (j-i))∧c'=j-i)∧w=w':=by
 by_cases h0:n=0
 ·subst h0;obtain rfl:j=0:=by omega
  obtain rfl:i=0:=by omega
  refine (cut_zero a 0 cap w).mono ?_;rintro e w' ⟨rfl,rfl⟩;exact ⟨a,0,rfl,⟨⟨Nat.le_refl _,Nat.zero_le _,by simp,fun _=>rfl,fun q hq=>absurd hq (Nat.not_lt_zero _)⟩,rfl⟩,rfl⟩
 ·obtain ⟨b,off,rfl,_⟩:=h.at' 0 (by omega);refine (cut_any b off n cap i j hij (Nat.le_trans hj h.1) h.2.1 w).mono ?_;rintro e w' ⟨rfl,rfl⟩;refine ⟨_,_,rfl,⟨⟨Nat.le_refl _,by have:=h.2.1; have:=h.1; omega,?_,(fun e=>by cases e),fun q hq=>?_⟩,rfl⟩,rfl⟩
  ·rw [List.length_take,List.length_drop,h.len]; omega
  ·obtain ⟨b',off',h1,h2,h3⟩:=h.at' (i+q) (by omega);simp at h1;obtain ⟨rfl,rfl⟩:=h1;refine ⟨b,off+i,by simp [cutAt]; omega,h2,?_⟩;have e:((l.drop i).take (j-i)).getD q 0=l.getD (i+q) 0:=by
    simp [List.getD,List.getElem?_take_of_lt hq]
   rw [e,Nat.add_assoc];exact h3
end Ni
end
section
open Go.RowKit
namespace Ni
def nibsL (s:ByteArray):List UInt8:=(List.range (2*s.size)).map fun i=>UInt8.ofNat (nibAt s i)
theorem nibAt_lt (s:ByteArray) (i:Nat):nibAt s i<16:=by
 unfold nibAt;have:=UInt8.toNat_lt (s.data.toList.getD (i/2) 0);split <;> omega
theorem nibsL_length (s:ByteArray):(nibsL s).length=2*s.size:=by simp [nibsL]
theorem nibsL_getD (s:ByteArray) (i:Nat) (h:i<2*s.size):((nibsL s).getD i 0).toNat=nibAt s i:=by
 have:=nibAt_lt s i;simp [nibsL,List.getD,h];omega
def Spr (w:World) (s:ByteArray) (k:Nat) (wr:World):Prop :=
 wr.rowIs (w.heap.size+1) 5 (2*s.size) (fun j=>.int .u8 (if j<k then nibAt s j else 0:Nat))∧wr.cell? ⟨w.heap.size,0,none⟩=some (.string s)∧Below w.heap.size w wr
theorem Spr.next {w wr:World} {s:ByteArray} {k:Nat} (h:Spr w s k wr) (hk:k<2*s.size):Spr w s (k+1) (wr.setCell ⟨w.heap.size+1,k,none⟩ (.int .u8 (nibAt s k:Nat))):=by
 refine ⟨(h.1.set k _).congr ?_,?_,h.2.2.setCell (p:=⟨w.heap.size+1,k,none⟩) (by simp) _⟩
 ·intro j hj;by_cases e:j=k
  ·subst e; simp
  ·have:j<k+1↔j<k:=by omega
   simp [e,this]
 ·rw [World.cell?_setCell_other _ _ _ _ (by simp)];exact h.2.1
theorem Spr.start (w:World) (s:ByteArray):Spr w s 0 ((w.alloc (.cells #[.string s] 9)).alloc (.cells (madeCells #[.int .u8 0] (2*s.size)) 5)):=by
 refine ⟨?_,?_,((Below.refl _ _).alloc (Nat.le_refl _) _).alloc (by simp) _⟩
 ·have:=World.rowIs_made (w.alloc (.cells #[.string s] 9)) (.int .u8 0) (2*s.size) 5;simpa using this
 ·simp
theorem info_u8:(Tryz.prog.info? 5).map (fun i=>(i.zero,i.size,i.bytes))=some (some (.int .u8 0),1,1):=by kernel_rfl
theorem spread_any (s:ByteArray) (hs:s.size≤1000) (w:World) :
  Calls Tryz.prog 78 #[.string s] w (GotBs w (nibsL s)):=by
 obtain ⟨m,hm⟩:∃ m,2*s.size=m:=⟨_,rfl⟩
 have hmk:=run_make_row' (P:=Tryz.prog) 51 5 (.int .u8 0) 1 Tryz.underlying51 info_u8 rfl .i64 .i64 m (by omega) (by omega);have e:((m:Nat):Int)=2*(s.size:Int):=by omega
 rw [e] at hmk;have HS:=hid (Spr.start w s);rw [hm] at HS;have HM:=hid hm;have hm2:m≤2*s.size:=by omega
 clear e hm;go_enter Tryz.func78,Tryz.ntmps78;go_wp2_with fail
 refine (teller_any _ _).mono ?_;rintro e w1 ⟨rfl,rfl⟩;go_wp2;clear hmk;go_loopw [14] (fun i wr=>∃ k:Nat,k≤m∧i = .int .i64 k∧Spr w s k wr) (fun i _=>m-(intOf i).toNat)
 case atStart=>exact ⟨0,Nat.zero_le _,rfl,HS.out⟩
 case round =>
  obtain ⟨k,hk,rfl,hS⟩:=hrel;by_cases hlt:k<m
  ·have hc:=hS.2.1;have hz:=hS.1.lt;have hcell:wr.cell? ⟨w.heap.size+1,k,none⟩=some (.int .u8 0):=by
    rw [hS.1.cell (by rw [HM.out]; exact hlt)]; simp
   have hfr:=hS.1.frozen k;go_wp2_with fail
   refine (teller1_any _ s k (by unfold maxLen; omega) (by omega) _ hc).mono ?_;rintro e w2 ⟨rfl,rfl⟩;go_wp2;go_roundw
   case rel=>exact ⟨k+1,by omega,by go_num,hS.next (by rw [HM.out]; exact hlt)⟩
   case measure=>simp [intOf]; omega
  ·obtain rfl:k=m:=by omega
   have HG:Hid (IsBs wr (some ⟨w.heap.size+1,0,none⟩) k k (nibsL s)):=hid (by
    refine IsBs.ofRow (nibsL s) (by unfold maxLen; omega) (by have:=hS.1; rw [HM.out] at this; exact this) (by rw [nibsL_length,HM.out]) (fun j hj=>?_);rw [if_pos hj,nibsL_getD s j (by rw [HM.out]; exact hj)])
   have hB:=hS.2.2;go_wp2;go_ret;exact ⟨_,_,_,rfl,HG.out,hB⟩
def pairsK (l:List UInt8) (k:Nat):List UInt8:=(List.range k).map fun j=>UInt8.ofNat (16*(l.getD (2*j) 0).toNat+(l.getD (2*j+1) 0).toNat)
theorem pairsK_snoc (l:List UInt8) (k:Nat):pairsK l (k+1)=pairsK l k++[UInt8.ofNat (16*(l.getD (2*k) 0).toNat+(l.getD (2*k+1) 0).toNat)]:=by
 simp [pairsK,List.range_succ]
theorem pairsK_length (l:List UInt8) (k:Nat):(pairsK l k).length=k:=by simp [pairsK]
theorem wrap16:∀ x:Fin 16,IntKind.u8.wrap (((x:Nat):Int)*16)=((x:Nat):Int)*16:=by decide +kernel
theorem or_nib:∀ x y:Fin 16,bits .or .u8 (((x:Nat):Int)*16) ((y:Nat):Int)=((16*(x:Nat)+(y:Nat):Nat):Int):=by decide +kernel
theorem rightB_getD (l:List UInt8) (h:rightB l=true) (j:Nat):(l.getD j 0).toNat<16:=by
 unfold rightB at h;rw [List.all_eq_true] at h;by_cases hj:j<l.length
 ·have:=h l[j] (List.getElem_mem _);simp [List.getD,hj] at this ⊢;omega
 ·simp [List.getD,hj]
def Prs (w:World) (l:List UInt8) (k:Nat) (wr:World):Prop :=
 Bu.Is w.heap.size w.heap.size (Lib.byteCells (pairsK l k)) wr∧Below w.heap.size w wr
theorem Prs.start (w:World) (l:List UInt8):Prs w l 0 (w.alloc (.cells #[.pointer none,.slice none 0 0] 176)) :=
 ⟨Bu.fresh (Nat.le_refl _) (by show (w.heap.push _)[w.heap.size]? = _; simp),(Below.refl _ _).alloc (Nat.le_refl _) _⟩
theorem Prs.write {w wr:World} {l:List UInt8} {k:Nat} (h:Prs w l k wr) (hk:k≤1000) (c:Int) (hc:c=((16*(l.getD (2*k) 0).toNat+(l.getD (2*k+1) 0).toNat:Nat):Int)) (hx:(l.getD (2*k) 0).toNat<16) (hy:(l.getD (2*k+1) 0).toNat<16) :
  Calls Tryz.prog 124 #[.pointer (some ⟨w.heap.size,0,none⟩),.int .u8 c] wr fun e w'=>e = .returned .nilIface∧Prs w l (k+1) w':=by
 subst hc;refine (Bu.writeByte _ h.1 (by rw [Lib.byteCells_length,pairsK_length]; omega) h.2.size).mono ?_;rintro e w' ⟨rfl,h1,h2,_⟩;refine ⟨rfl,?_,h.2.trans h2⟩;rw [pairsK_snoc,Lib.byteCells_append];have e:(UInt8.ofNat (16*(l.getD (2*k) 0).toNat+(l.getD (2*k+1) 0).toNat)).toNat=16*(l.getD (2*k) 0).toNat+(l.getD (2*k+1) 0).toNat:=by
  simp only [UInt8.toNat_ofNat']; omega
 have e2:Lib.byteCells [UInt8.ofNat (16*(l.getD (2*k) 0).toNat+(l.getD (2*k+1) 0).toNat)]=[.int .u8 ((16*(l.getD (2*k) 0).toNat+(l.getD (2*k+1) 0).toNat:Nat):Int)]:=by
  simp only [Lib.byteCells,List.map_cons,List.map_nil,e]
 rw [e2];exact h1
theorem Prs.drew {w wr:World} {l:List UInt8} {k:Nat} (h:Prs w l k wr):Prs w l k wr.drew:=⟨h.1,h.2.drew⟩
theorem pairs_any (a:Option Addr) (n cap:Nat) (l:List UInt8) (hr:rightB l=true) (h2:n%2=0) (hn:n≤1000) (w:World) (h:IsBs w a n cap l) :
  Calls Tryz.prog 101 #[.slice a n cap] w fun e w'=>e = .returned (.string ⟨(pairsK l (n/2)).toArray⟩)∧Below w.heap.size w w':=by
 have H:=hid h;have HR:=hid (rightB_getD l hr);have H2:=hid h2;have HS:=hid (Prs.start w l);clear h hr h2;go_enter Tryz.func101,Tryz.ntmps101;go_wp2;go_loopw [4] (fun i wr=>∃ k:Nat,2*k≤n∧i = .int .i64 (2*k)∧Prs w l k wr) (fun i _=>n-(intOf i).toNat)
 case atStart=>exact ⟨0,Nat.zero_le _,rfl,HS.out⟩
 case round =>
  obtain ⟨k,hk,rfl,hP⟩:=hrel;by_cases hlt:2*k<n
  ·have hlt1:2*k+1<n:=by have:=H2.out; omega
   obtain ⟨b,off,rfl,hb,hc⟩:=H.out.at' (2*k) hlt;obtain ⟨b',off',h1,_,hc'⟩:=H.out.at' (2*k+1) hlt1;simp at h1;obtain ⟨rfl,rfl⟩:=h1;have hx:=HR.out (2*k);have hy:=HR.out (2*k+1);obtain ⟨x,hxe⟩:∃ x,(l.getD (2*k) 0).toNat=x:=⟨_,rfl⟩
   obtain ⟨y,hye⟩:∃ y,(l.getD (2*k+1) 0).toNat=y:=⟨_,rfl⟩
   have ho:=or_nib ⟨x,hxe ▸ hx⟩ ⟨y,hye ▸ hy⟩;have hw16:=wrap16 ⟨x,hxe ▸ hx⟩;have HW:Hid (∀ c:Int,c=bits .or .u8 ((x:Int)*16) (y:Int)→Calls Tryz.prog 124 #[.pointer (some ⟨w.heap.size,0,none⟩),.int .u8 c] wr.drew fun e w'=>e = .returned .nilIface∧Prs w l (k+1) w'):=hid (fun c hc=>by
    refine hP.drew.write (by omega) _ ?_ hx hy;rw [hxe,hye,hc];exact ho)
   have hcon:=hid (HW.out _ rfl);have hcon2:Hid (Calls Tryz.prog 124 #[.pointer (some ⟨w.heap.size,0,none⟩),.int .u8 (bits .or .u8 (IntKind.u8.wrap ((x:Int)*16)) (y:Int))] wr.drew fun e w'=>e = .returned .nilIface∧Prs w l (k+1) w'):=hid (HW.out _ (by rw [show IntKind.u8.wrap ((x:Int)*16)=(x:Int)*16 from hw16]));clear HW ho hw16;rw [hxe] at hc hx;rw [hye] at hc' hy;rw [← hP.2.cell (p:=⟨b,off+2*k,none⟩) hb] at hc;rw [← hP.2.cell (p:=⟨b,off+(2*k+1),none⟩) hb] at hc';clear hxe hye;go_wp2_with fail
   have q1:(0:Int)≤2*(k:Int):=by omega
   have q2:2*(k:Int)<(n:Int):=by omega
   have q3:(0:Int)≤2*(k:Int)+1:=by omega
   have q4:2*(k:Int)+1<(n:Int):=by omega
   have q5:(2*(k:Int)).toNat=2*k:=by omega
   have q6:(2*(k:Int)+1).toNat=2*k+1:=by omega
   have q7:IntKind.i64.wrap (2*(k:Int)+1)=2*(k:Int)+1:=IntWalk.i64_in _ (by omega);go_region_with (go_at_call 124; (first | (with_reducible refine hcon.out.mono ?_) | (with_reducible refine hcon2.out.mono ?_)); rintro e w' ⟨rfl,hP2⟩)
   all_goals clear q7 q6 q5
   all_goals go_wp2
   all_goals
    go_roundw
    case rel=>exact ⟨k+1,by omega,by go_num,hP2⟩
    case measure=>simp [intOf]; omega
  ·have hkk:k=n/2:=by have:=H2.out; omega
   have HP:Hid (Prs w l (n/2) wr):=hid (by rw [← hkk]; exact hP);clear hkk;go_wp2_with (go_at_call 125; refine (Bu.text HP.out.1 HP.out.2.size).mono ?_)
   rintro e w2 ⟨rfl,hb2⟩;go_wp2;go_ret;exact ⟨rfl,HP.out.2.trans hb2⟩
end Ni
end
section
open Go.RowKit
namespace Ni
theorem join_any (a:Option Addr) (n cap:Nat) (ls:List (List UInt8)) (hn:n≤1000000) (hL:ls.flatten.length≤1099511627776) (w:World) (h:Cc.IsRows w a n ls) :
  Calls Tryz.prog 71 #[.slice a n cap] w (GotBs w ls.flatten):=by
 have hc:=Cc.concat_any a n cap ls hn hL w h;obtain ⟨r,hr⟩:∃ r,ls.flatten=r:=⟨_,rfl⟩
 rw [hr] at hc ⊢;have HC:=hid hc;clear hc hr hL h;go_enter Tryz.func71,Tryz.ntmps71;go_wp2_with fail
 refine HC.out.mono ?_;rintro e w1 ⟨v,rfl,hown,hb⟩;obtain ⟨a',cap',rfl,hx⟩:=IsBs.ofOwn hown;clear hown;go_wp2;go_ret;exact ⟨_,_,_,rfl,hx,hb⟩
def commonN:List UInt8→List UInt8→Nat
 | a::xs,b::ys=>if a=b then commonN xs ys+1 else 0
 | _,_=>0
theorem commonN_eq:∀ (k:Nat) (xs ys:List UInt8),k≤xs.length→k≤ys.length→(∀ j,j<k→(xs.getD j 0).toNat=(ys.getD j 0).toNat) →
  (k=xs.length∨k=ys.length∨(xs.getD k 0).toNat≠(ys.getD k 0).toNat)→commonN xs ys=k
 | 0,[],_,_,_,_,_=>rfl
 | 0,_::_,[],_,_,_,_=>rfl
 | 0,a::xs,b::ys,_,_,_,h=>by
  have hne:a≠b:=by
   rintro rfl;simp at h
  simp [commonN,hne]
 | k+1,[],_,h,_,_,_=>absurd h (by simp)
 | k+1,_::_,[],_,h,_,_=>absurd h (by simp)
 | k+1,a::xs,b::ys,h1,h2,h3,h4=>by
  have hab:a=b:=UInt8.toNat_inj.1 (by simpa using h3 0 (by omega));have:=commonN_eq k xs ys (by simpa using h1) (by simpa using h2) (fun j hj=>by simpa using h3 (j+1) (by omega)) (by simpa using h4);simp [commonN,hab,this]
def Alike (x y:List UInt8) (k:Nat):Prop:=∀ j,j<k→(x.getD j 0).toNat=(y.getD j 0).toNat
theorem Alike.next {x y:List UInt8} {k:Nat} (h:Alike x y k) (e:(x.getD k 0).toNat=(y.getD k 0).toNat):Alike x y (k+1):=fun j hj=>by
 by_cases hjk:j=k
 ·subst hjk; exact e
 ·exact h j (by omega)
theorem common_any (a b:Option Addr) (n m c d:Nat) (x y:List UInt8) (hn:n≤1000000) (_hm:m≤1000000) (w:World) (ha:IsBs w a n c x) (hb:IsBs w b m d y) :
  Calls Tryz.prog 150 #[.slice a n c,.slice b m d] w fun e w'=>e = .returned (.int .i64 (commonN x y:Nat))∧∃ q,w'=w.drewN q:=by
 have HA:=hid ha;have HB:=hid hb;clear ha hb;go_enter Tryz.func150,Tryz.ntmps150;go_wp2;go_loopw [5] (fun i wr=>∃ k:Nat,k≤n∧k≤m∧i = .int .i64 k∧Hid (Alike x y k)∧∃ q,wr=w.drewN q) (fun i _=>n-(intOf i).toNat)
 case atStart=>exact ⟨0,Nat.zero_le _,Nat.zero_le _,rfl,hid (fun j hj=>absurd hj (Nat.not_lt_zero _)),0,rfl⟩
 case round =>
  obtain ⟨k,hk,hkm,rfl,HK,q,rfl⟩:=hrel;by_cases hlt:k<n∧k<m
  ·obtain ⟨h1,h2⟩:=hlt;obtain ⟨b1,off1,rfl,_,hc1⟩:=HA.out.at' k h1;obtain ⟨b2,off2,rfl,_,hc2⟩:=HB.out.at' k h2;obtain ⟨u,hu⟩:∃ u,(x.getD k 0).toNat=u:=⟨_,rfl⟩
   obtain ⟨v,hv⟩:∃ v,(y.getD k 0).toNat=v:=⟨_,rfl⟩
   rw [hu] at hc1;rw [hv] at hc2;by_cases huv:u=v
   ·subst huv;have HN:=hid (HK.out.next (hu.trans hv.symm));clear hu hv;have hd:decide ((k:Int)<min (n:Int) (m:Int))=true:=decide_eq_true (by omega);go_wp2_with fail
    go_quiet (fail)
    go_wp2;go_roundw
    case rel=>exact ⟨k+1,by omega,by omega,by go_num,HN,(by first | exact ⟨_,rfl⟩ | exact ⟨_,World.drewN_drewN ..⟩)⟩
    case measure=>simp [intOf]; omega
   ·have HE:Hid (commonN x y=k):=hid (commonN_eq k x y (by rw [HA.out.len]; exact hk) (by rw [HB.out.len]; exact hkm) HK.out (Or.inr (Or.inr (by rw [hu,hv]; exact huv))));have hd:decide ((k:Int)<min (n:Int) (m:Int))=true:=decide_eq_true (by omega);have huv2:((u:Int)==(v:Int))=false:=by simp; omega
    clear hu hv;go_wp2_with fail
    go_quiet (fail)
    go_wp2;go_ret;exact ⟨by rw [HE.out]; rfl,(by first | exact ⟨_,rfl⟩ | exact ⟨_,World.drewN_drewN ..⟩)⟩
  ·have HE:Hid (commonN x y=k):=hid (commonN_eq k x y (by rw [HA.out.len]; exact hk) (by rw [HB.out.len]; exact hkm) HK.out (by rw [HA.out.len,HB.out.len]; omega));have hd:decide ((k:Int)<min (n:Int) (m:Int))=false:=decide_eq_false (by omega);go_wp2_with fail
   go_quiet (fail)
   go_wp2;go_ret;exact ⟨by rw [HE.out]; rfl,(by first | exact ⟨_,rfl⟩ | exact ⟨_,World.drewN_drewN ..⟩)⟩
theorem rcommon_any (a b:Option Addr) (n m c d:Nat) (x y:List UInt8) (hn:n≤1000000) (_hm:m≤1000000) (w:World) (ha:IsBs w a n c x) (hb:IsBs w b m d y) :
  Calls Tryz.prog 47 #[.slice a n c,.slice b m d] w fun e w'=>e = .returned (.int .i64 (commonN x y:Nat))∧∃ q,w'=w.drewN q:=by
 have HA:=hid ha;have HB:=hid hb;clear ha hb;go_enter Tryz.func47,Tryz.ntmps47;go_wp2;go_loopw [5] (fun i wr=>∃ k:Nat,k≤n∧k≤m∧i = .int .i64 k∧Hid (Alike x y k)∧∃ q,wr=w.drewN q) (fun i _=>n-(intOf i).toNat)
 case atStart=>exact ⟨0,Nat.zero_le _,Nat.zero_le _,rfl,hid (fun j hj=>absurd hj (Nat.not_lt_zero _)),0,rfl⟩
 case round =>
  obtain ⟨k,hk,hkm,rfl,HK,q,rfl⟩:=hrel;by_cases h1:k<n
  ·by_cases h2:k<m
   ·obtain ⟨b1,off1,rfl,_,hc1⟩:=HA.out.at' k h1;obtain ⟨b2,off2,rfl,_,hc2⟩:=HB.out.at' k h2;obtain ⟨u,hu⟩:∃ u,(x.getD k 0).toNat=u:=⟨_,rfl⟩
    obtain ⟨v,hv⟩:∃ v,(y.getD k 0).toNat=v:=⟨_,rfl⟩
    rw [hu] at hc1;rw [hv] at hc2;have hd:decide ((m:Int)≤(k:Int))=false:=decide_eq_false (by omega);by_cases huv:u=v
    ·subst huv;have HN:=hid (HK.out.next (hu.trans hv.symm));clear hu hv;go_wp2_with fail
     go_quiet (fail)
     go_wp2;go_roundw
     case rel=>exact ⟨k+1,by omega,by omega,by go_num,HN,(by first | exact ⟨_,rfl⟩ | exact ⟨_,World.drewN_drewN ..⟩)⟩
     case measure=>simp [intOf]; omega
    ·have HE:Hid (commonN x y=k):=hid (commonN_eq k x y (by rw [HA.out.len]; exact hk) (by rw [HB.out.len]; exact hkm) HK.out (Or.inr (Or.inr (by rw [hu,hv]; exact huv))));have huv2:((u:Int) != (v:Int))=true:=by simp; omega
     clear hu hv;go_wp2_with fail
     go_quiet (fail)
     go_wp2;go_ret;exact ⟨by rw [HE.out]; rfl,(by first | exact ⟨_,rfl⟩ | exact ⟨_,World.drewN_drewN ..⟩)⟩
   ·have HE:Hid (commonN x y=k):=hid (commonN_eq k x y (by rw [HA.out.len]; exact hk) (by rw [HB.out.len]; exact hkm) HK.out (by rw [HA.out.len,HB.out.len]; omega));have hd:decide ((m:Int)≤(k:Int))=true:=decide_eq_true (by omega);go_wp2_with fail
    go_quiet (fail)
    go_wp2;go_ret;exact ⟨by rw [HE.out]; rfl,(by first | exact ⟨_,rfl⟩ | exact ⟨_,World.drewN_drewN ..⟩)⟩
  ·obtain rfl:k=n:=by omega
   have HE:Hid (commonN x y=k):=hid (commonN_eq k x y (by rw [HA.out.len]; exact hk) (by rw [HB.out.len]; exact hkm) HK.out (by rw [HA.out.len]; omega));go_wp2;go_ret;exact ⟨by rw [HE.out]; rfl,(by first | exact ⟨_,rfl⟩ | exact ⟨_,World.drewN_drewN ..⟩)⟩
end Ni
end
section
open Go.RowKit
namespace Ni
def markN (n:Nat) (leaf:Bool):Nat:=n%2+if leaf then 2 else 0
def fullL (l:List UInt8) (leaf:Bool):List UInt8:=[UInt8.ofNat (markN l.length leaf)]++((if l.length%2=1 then l.take 1 else [0])++l.drop (l.length%2))
def packL (l:List UInt8) (leaf:Bool):List UInt8:=pairsK (fullL l leaf) (l.length/2+1)
theorem fullL_length (l:List UInt8) (leaf:Bool):(fullL l leaf).length=2*(l.length/2+1):=by
 unfold fullL;rw [List.length_append,List.length_append,List.length_drop];by_cases h:l.length%2=1
 ·rw [if_pos h,List.length_take]; simp; omega
 ·rw [if_neg h]; simp; omega
theorem fullL_right (l:List UInt8) (leaf:Bool) (h:rightB l=true):rightB (fullL l leaf)=true:=by
 unfold rightB at h ⊢;rw [List.all_eq_true] at h ⊢;intro x hx;unfold fullL at hx;simp only [List.mem_append,List.mem_singleton] at hx;rcases hx with hx | hx | hx
 ·subst hx;have:markN l.length leaf≤3:=by unfold markN; cases leaf <;> simp <;> omega
  simp only [UInt8.toNat_ofNat',decide_eq_true_eq]; omega
 ·split at hx
  ·exact h x (List.mem_of_mem_take hx)
  ·simp at hx; subst hx; decide
 ·exact h x (List.mem_of_mem_drop hx)
theorem rows3 (w:World) (m:UInt8) (v:Value) (hv:v = .int .u8 m.toNat) (a1 a2:Option Addr) (n1 c1 n2 c2:Nat) (l1 l2:List UInt8) (h1:IsBs w a1 n1 c1 l1) (h2:IsBs w a2 n2 c2 l2) :
  Cc.IsRows ((w.alloc (.cells #[v] 5)).alloc (.cells #[.slice (some ⟨w.heap.size,0,none⟩) 1 1,.slice a1 n1 c1,.slice a2 n2 c2] 51)) (some ⟨w.heap.size+1,0,none⟩) 3 [[m],l1,l2]:=by
 subst hv;have hb:Below w.heap.size w ((w.alloc (.cells #[.int .u8 m.toNat] 5)).alloc (.cells #[.slice (some ⟨w.heap.size,0,none⟩) 1 1,.slice a1 n1 c1,.slice a2 n2 c2] 51)) :=
  ((Below.refl _ _).alloc (Nat.le_refl _) _).alloc (by simp) _
 refine ⟨rfl,fun j hj=>⟨w.heap.size+1,0,rfl,by simp,?_⟩⟩
 match j,hj with
 | 0,_ =>
  refine ⟨some ⟨w.heap.size,0,none⟩,1,1,by simp,⟨Nat.le_refl _,by unfold maxLen; omega,rfl,fun e=>(by cases e),fun q hq=>?_⟩⟩;obtain rfl:q=0:=by omega
  exact ⟨w.heap.size,0,rfl,by simp; omega,by simp⟩
 | 1,_=>exact ⟨a1,n1,c1,by simp,h1.below hb⟩
 | 2,_=>exact ⟨a2,n2,c2,by simp,h2.below hb⟩
theorem join_full (l:List UInt8) (leaf:Bool) (mk:UInt8) (l1 l2:List UInt8) (hf:[mk]++(l1++l2)=fullL l leaf) (hl:l.length≤64) (v:Value) (hv:v = .int .u8 mk.toNat) (w:World) (a1 a2:Option Addr) (n1 c1 n2 c2:Nat) (h1:IsBs w a1 n1 c1 l1) (h2:IsBs w a2 n2 c2 l2) :
  Calls Tryz.prog 71 #[.slice (some ⟨w.heap.size+1,0,none⟩) 3 3] ((w.alloc (.cells #[v] 5)).alloc (.cells #[.slice (some ⟨w.heap.size,0,none⟩) 1 1,.slice a1 n1 c1,.slice a2 n2 c2] 51)) fun e w'=>∃ a n cap,e = .returned (.slice a n cap)∧IsBs w' a n cap (fullL l leaf)∧Below w.heap.size w w':=by
 have e:[[mk],l1,l2].flatten=fullL l leaf:=by rw [← hf]; simp
 refine (join_any _ 3 3 [[mk],l1,l2] (by omega) (by rw [e,fullL_length]; omega) _ (rows3 w mk v hv a1 a2 n1 c1 n2 c2 l1 l2 h1 h2)).mono ?_;rintro en w' ⟨a,n,cap,rfl,hx,hb⟩;rw [e] at hx;exact ⟨a,n,cap,rfl,hx,(((Below.refl _ _).alloc (Nat.le_refl _) _).alloc (by simp) _).trans (hb.mono (by simp; omega))⟩
theorem pairs_full (l:List UInt8) (leaf:Bool) (hr:rightB l=true) (hl:l.length≤64) (a:Option Addr) (n cap:Nat) (w:World) (h:IsBs w a n cap (fullL l leaf)) :
  Calls Tryz.prog 101 #[.slice a n cap] w fun e w'=>e = .returned (.string ⟨(packL l leaf).toArray⟩)∧Below w.heap.size w w':=by
 have hn:n=2*(l.length/2+1):=by rw [← h.len,fullL_length]
 refine (pairs_any a n cap (fullL l leaf) (fullL_right l leaf hr) (by omega) (by omega) w h).mono ?_;rintro e w' ⟨rfl,hb⟩;have e2:n/2=l.length/2+1:=by omega
 refine ⟨?_,hb⟩;unfold packL;rw [e2]
theorem info_u8':(Tryz.prog.info? 5).map (fun i=>(i.zero,i.size,i.bytes))=some (some (.int .u8 0),1,1):=by kernel_rfl
theorem full_even (l:List UInt8) (leaf:Bool) (h:l.length%2=0):[UInt8.ofNat (markN l.length leaf)]++([0]++l)=fullL l leaf:=by
 unfold fullL;rw [if_neg (by omega),h,List.drop_zero]
theorem pack_even (a:Option Addr) (n c:Nat) (l:List UInt8) (leaf:Bool) (hn:n≤64) (h2:n%2=0) (hr:rightB l=true) (w:World) (h:IsBs w a n c l) :
  Calls Tryz.prog 147 #[.slice a n c,.bool leaf] w fun e w'=>e = .returned (.tuple #[.string ⟨(packL l leaf).toArray⟩,.int .i64 0])∧Below w.heap.size w w':=by
 have hR:=right_any a n c l w h;rw [hr] at hR;have HR:=hid hR;have hnc:=h.1;have hcm:=h.2.1;unfold maxLen at hcm;have H:=hid h;have hm:(n:Int)%2=0:=by omega
 obtain ⟨i0,hi,hz0,hz1,hz2⟩:=info_parts info_u8';have HI:Hid (_∧_∧_∧_):=hid ⟨hi,hz0,hz1,hz2⟩;have HFfalse:=hid (full_even l false (by rw [h.len]; exact h2));have HFtrue:=hid (full_even l true (by rw [h.len]; exact h2));have HVfalse:Hid (Value.int .u8 0 = .int .u8 (UInt8.ofNat (markN l.length false)).toNat):=hid (by simp [markN,h.len,h2]);have HVtrue:Hid (Value.int .u8 (bits .or .u8 0 2) = .int .u8 (UInt8.ofNat (markN l.length true)).toNat):=hid (by simp [markN,h.len,h2]; decide +kernel);have HRR:=hid hr;have hll:l.length≤64:=by rw [h.len]; exact hn
 clear hR hr h h2 hi hz0 hz1 hz2;cases leaf
 ·go_enter Tryz.func147,Tryz.ntmps147;go_wp2_with fail
  refine HR.out.mono ?_;rintro e w1 ⟨rfl,rfl⟩;go_wp2_with fail
  go_quiet ((go_at_call 178; exact Calls.quiet_of_same (cut_zero_q _ _ _ _)))
  go_wp2_with (at_builtin; refine wpList_append_grows _ rfl (.tmp 30) (.tmp 31) 51 rfl 5 i0 (.int .u8 0) 1 1 Tryz.underlying51 HI.out.1 HI.out.2.1 HI.out.2.2.1 HI.out.2.2.2 rfl (by decide) a 0 0 [] rfl (fun _=>⟨rfl,rfl⟩) rfl (by intro _ _ _ _ h; simp at h) ⟨w.heap.size,0,none⟩ 1 1 [.int .u8 0] rfl rfl ?c1 ?c2 (by omega) (by unfold maxLen; omega) (by omega) ?grow)
  case c1=>exact Bu.cell_one_new' _ _ _ _
  case c2=>intro u hu; simp at hu; subst hu; rfl
  case grow =>
   intro v' w2 hown hg;obtain ⟨a',cap',rfl,hx⟩:=IsBs.ofOwn (l:=[0]) hown;have HX:=hid hx;have H2:=hid (((H.out.drewN nq).alloc (.cells #[.int .u8 0] 5)).grown hg);clear hx hown;go_wp2_with fail
   refine (join_full l false (UInt8.ofNat (markN l.length false)) [0] l HFfalse.out (by omega) _ HVfalse.out _ _ _ _ _ _ _ HX.out H2.out).mono ?_;rintro e w3 ⟨a3,n3,c3,rfl,hx3,hb3⟩;go_wp2_with fail
   refine (pairs_full l false HRR.out (by omega) _ _ _ _ hx3).mono ?_;rintro e w4 ⟨rfl,hb4⟩;go_wp2;go_ret2
   have hbw:Below w.heap.size w w2:=((below_drewN (Below.refl w.heap.size w) nq).alloc (Nat.le_refl _) _).grown hg (by simp) (fun k hk=>by cases hk);exact ⟨rfl,(hbw.trans (hb3.mono hbw.size)).trans (hb4.mono (Nat.le_trans hbw.size hb3.size))⟩
 ·go_enter Tryz.func147,Tryz.ntmps147;go_wp2_with fail
  refine HR.out.mono ?_;rintro e w1 ⟨rfl,rfl⟩;go_wp2_with fail
  go_quiet ((go_at_call 178; exact Calls.quiet_of_same (cut_zero_q _ _ _ _)))
  go_wp2_with (at_builtin; refine wpList_append_grows _ rfl (.tmp 30) (.tmp 31) 51 rfl 5 i0 (.int .u8 0) 1 1 Tryz.underlying51 HI.out.1 HI.out.2.1 HI.out.2.2.1 HI.out.2.2.2 rfl (by decide) a 0 0 [] rfl (fun _=>⟨rfl,rfl⟩) rfl (by intro _ _ _ _ h; simp at h) ⟨w.heap.size,0,none⟩ 1 1 [.int .u8 0] rfl rfl ?d1 ?d2 (by omega) (by unfold maxLen; omega) (by omega) ?grow2)
  case d1=>exact Bu.cell_one_new' _ _ _ _
  case d2=>intro u hu; simp at hu; subst hu; rfl
  case grow2 =>
   intro v' w2 hown hg;obtain ⟨a',cap',rfl,hx⟩:=IsBs.ofOwn (l:=[0]) hown;have HX:=hid hx;have H2:=hid (((H.out.drewN nq).alloc (.cells #[.int .u8 0] 5)).grown hg);clear hx hown;go_wp2_with fail
   refine (join_full l true (UInt8.ofNat (markN l.length true)) [0] l HFtrue.out (by omega) _ HVtrue.out _ _ _ _ _ _ _ HX.out H2.out).mono ?_;rintro e w3 ⟨a3,n3,c3,rfl,hx3,hb3⟩;go_wp2_with fail
   refine (pairs_full l true HRR.out (by omega) _ _ _ _ hx3).mono ?_;rintro e w4 ⟨rfl,hb4⟩;go_wp2;go_ret2
   have hbw:Below w.heap.size w w2:=((below_drewN (Below.refl w.heap.size w) nq).alloc (Nat.le_refl _) _).grown hg (by simp) (fun k hk=>by cases hk);exact ⟨rfl,(hbw.trans (hb3.mono hbw.size)).trans (hb4.mono (Nat.le_trans hbw.size hb3.size))⟩
theorem full_odd (l:List UInt8) (leaf:Bool) (h:l.length%2=1):[UInt8.ofNat (markN l.length leaf)]++(l.take 1++l.drop 1)=fullL l leaf:=by
 unfold fullL;rw [if_pos h,h]
theorem first_bs {b off n c:Nat} {l:List UInt8} {w:World} (h:IsBs w (some ⟨b,off,none⟩) n c l) (h1:1≤n):IsBs w (some ⟨b,off,none⟩) 1 1 (l.take 1):=by
 refine ⟨Nat.le_refl _,by unfold maxLen; omega,by rw [List.length_take,h.len]; omega,fun e=>(by cases e),fun q hq=>?_⟩;obtain rfl:q=0:=by omega
 obtain ⟨b',off',e,h2,h3⟩:=h.at' 0 (by omega);simp at e;obtain ⟨rfl,rfl⟩:=e;refine ⟨b,off,rfl,h2,?_⟩;have e:(l.take 1).getD 0 0=l.getD 0 0:=by simp [List.getD]
 rw [e]; exact h3
theorem rest_bs0 {b off:Nat} {l:List UInt8} {w:World} (h:IsBs w (some ⟨b,off,none⟩) 1 1 l):IsBs w (some ⟨b,off,none⟩) 0 0 (l.drop 1) :=
 ⟨Nat.le_refl _,Nat.zero_le _,by rw [List.length_drop,h.len],fun _=>rfl,fun q hq=>absurd hq (Nat.not_lt_zero _)⟩
theorem rest_bs1 {b off n c:Nat} {l:List UInt8} {w:World} (h:IsBs w (some ⟨b,off,none⟩) n c l) (h1:1≤n):IsBs w (some ⟨b,off+1,none⟩) (n-1) (c-1) (l.drop 1):=by
 have hnc:=h.1;have hcm:=h.2.1;refine ⟨by omega,by omega,by rw [List.length_drop,h.len],fun e=>(by cases e),fun q hq=>?_⟩;obtain ⟨b',off',e,h2,h3⟩:=h.at' (1+q) (by omega);simp at e;obtain ⟨rfl,rfl⟩:=e;refine ⟨b,off+1,rfl,h2,?_⟩;have e:(l.drop 1).getD q 0=l.getD (1+q) 0:=by simp [List.getD,Nat.add_comm]
 rw [e,Nat.add_assoc]; exact h3
theorem pack_odd (b off:Nat) (n c:Nat) (l:List UInt8) (leaf:Bool) (hn:n≤64) (h2:n%2=1) (hr:rightB l=true) (w:World) (h:IsBs w (some ⟨b,off,none⟩) n c l) :
  Calls Tryz.prog 147 #[.slice (some ⟨b,off,none⟩) n c,.bool leaf] w fun e w'=>e = .returned (.tuple #[.string ⟨(packL l leaf).toArray⟩,.int .i64 0])∧Below w.heap.size w w':=by
 have hR:=right_any _ n c l w h;rw [hr] at hR;have HR:=hid hR;have hnc:=h.1;have hcm:=h.2.1;unfold maxLen at hcm;have H:=hid h;have hm:(n:Int)%2=1:=by omega
 have hn1:1≤n:=by omega
 have HRR:=hid hr;have hll:l.length≤64:=by rw [h.len]; exact hn
 have hw1:IntKind.i64.wrap 1=1:=by kernel_rfl
 have hc1:1≤c:=by omega
 have HFfalse:=hid (full_odd l false (by rw [h.len]; exact h2));have HFtrue:=hid (full_odd l true (by rw [h.len]; exact h2));have HVfalse:Hid (Value.int .u8 1 = .int .u8 (UInt8.ofNat (markN l.length false)).toNat):=hid (by simp [markN,h.len,h2]);have HVtrue:Hid (Value.int .u8 (bits .or .u8 1 2) = .int .u8 (UInt8.ofNat (markN l.length true)).toNat):=hid (by simp [markN,h.len,h2]; decide +kernel);have H1:Hid (IsBs w (some ⟨b,off,none⟩) 1 1 (l.take 1)):=hid (first_bs h hn1);clear hR hr h h2;by_cases hcc:c=1
 ·subst hcc;obtain rfl:n=1:=by omega
  have H2:Hid (IsBs w (some ⟨b,off,none⟩) 0 0 (l.drop 1)):=hid (rest_bs0 H.out);clear H;cases leaf
  ·go_enter Tryz.func147,Tryz.ntmps147;go_wp2_with fail
   refine HR.out.mono ?_;rintro e w1 ⟨rfl,rfl⟩;go_wp2_with fail
   go_quiet ((go_at_call 178; exact Calls.quiet_of_same (cut_one_q _ _ _ _ hc1 _ hcm)))
   clear hw1;go_wp2_with fail
   refine (join_full l false (UInt8.ofNat (markN l.length false)) (l.take 1) (l.drop 1) HFfalse.out hll _ HVfalse.out _ _ _ _ _ _ _ (H1.out.drewN _) (H2.out.drewN _)).mono ?_;rintro e w3 ⟨a3,n3,c3,rfl,hx3,hb3⟩;go_wp2_with fail
   refine (pairs_full l false HRR.out hll _ _ _ _ hx3).mono ?_;rintro e w4 ⟨rfl,hb4⟩;go_wp2;go_ret2
   exact ⟨rfl,((below_drewN (Below.refl w.heap.size w) _).trans hb3).trans (hb4.mono hb3.size)⟩
  ·go_enter Tryz.func147,Tryz.ntmps147;go_wp2_with fail
   refine HR.out.mono ?_;rintro e w1 ⟨rfl,rfl⟩;go_wp2_with fail
   go_quiet ((go_at_call 178; exact Calls.quiet_of_same (cut_one_q _ _ _ _ hc1 _ hcm)))
   clear hw1;go_wp2_with fail
   refine (join_full l true (UInt8.ofNat (markN l.length true)) (l.take 1) (l.drop 1) HFtrue.out hll _ HVtrue.out _ _ _ _ _ _ _ (H1.out.drewN _) (H2.out.drewN _)).mono ?_;rintro e w3 ⟨a3,n3,c3,rfl,hx3,hb3⟩;go_wp2_with fail
   refine (pairs_full l true HRR.out hll _ _ _ _ hx3).mono ?_;rintro e w4 ⟨rfl,hb4⟩;go_wp2;go_ret2
   exact ⟨rfl,((below_drewN (Below.refl w.heap.size w) _).trans hb3).trans (hb4.mono hb3.size)⟩
 ·have H2:Hid (IsBs w (some ⟨b,off+1,none⟩) (n-1) (c-1) (l.drop 1)):=hid (rest_bs1 H.out hn1);clear H;cases leaf
  ·go_enter Tryz.func147,Tryz.ntmps147;go_wp2_with fail
   refine HR.out.mono ?_;rintro e w1 ⟨rfl,rfl⟩;go_wp2_with fail
   go_quiet ((go_at_call 178; exact Calls.quiet_of_same (cut_one_q _ _ _ _ hc1 _ hcm)))
   clear hw1;go_wp2_with fail
   refine (join_full l false (UInt8.ofNat (markN l.length false)) (l.take 1) (l.drop 1) HFfalse.out hll _ HVfalse.out _ _ _ _ _ _ _ (H1.out.drewN _) (H2.out.drewN _)).mono ?_;rintro e w3 ⟨a3,n3,c3,rfl,hx3,hb3⟩;go_wp2_with fail
   refine (pairs_full l false HRR.out hll _ _ _ _ hx3).mono ?_;rintro e w4 ⟨rfl,hb4⟩;go_wp2;go_ret2
   exact ⟨rfl,((below_drewN (Below.refl w.heap.size w) _).trans hb3).trans (hb4.mono hb3.size)⟩
  ·go_enter Tryz.func147,Tryz.ntmps147;go_wp2_with fail
   refine HR.out.mono ?_;rintro e w1 ⟨rfl,rfl⟩;go_wp2_with fail
   go_quiet ((go_at_call 178; exact Calls.quiet_of_same (cut_one_q _ _ _ _ hc1 _ hcm)))
   clear hw1;go_wp2_with fail
   refine (join_full l true (UInt8.ofNat (markN l.length true)) (l.take 1) (l.drop 1) HFtrue.out hll _ HVtrue.out _ _ _ _ _ _ _ (H1.out.drewN _) (H2.out.drewN _)).mono ?_;rintro e w3 ⟨a3,n3,c3,rfl,hx3,hb3⟩;go_wp2_with fail
   refine (pairs_full l true HRR.out hll _ _ _ _ hx3).mono ?_;rintro e w4 ⟨rfl,hb4⟩;go_wp2;go_ret2
   exact ⟨rfl,((below_drewN (Below.refl w.heap.size w) _).trans hb3).trans (hb4.mono hb3.size)⟩
end Ni
end
end Go.Proofs.YtnecijeakeklaaaGreatDoor
