/-
 Boxes of texts and of keys: loaded, stored.
-/
import Derived.Test.YtoipgepkhomfgaaGreatDoorPo8
open Go.Lib (hid)
open Go.Proofs.Tryz
set_option linter.unusedSimpArgs false
set_option linter.unusedVariables false
set_option maxHeartbeats 40000000
set_option maxRecDepth 100000
namespace Go.Proofs.YtoipgepkhomfgaaGreatDoor
variable {w w' w0:World} {r x x0:aL} {e t ty:TypeId} {o:Oper} {a:aK} {K:Act->World->Prop} {Q:Exit->Act->World->Prop} {ops:Array Oper} {act:Act} {ev:Operand->Value} {B b2 c g j m n:Nat} {k:aM} {v:Value} {p:Nat->Prop} {d:Int}
section
open Go.RowKit
namespace Tm
open Tr Ni Pk
theorem EJ {b:Nat} (h:Rg.Own w b #[.string x] t) (s:aL):(Instr.storeAt 9 (.pointer (some ⟨b,0,none⟩)) (.string s)).run prog w = .ok () (w.setCell ⟨b,0,none⟩ (.string s)):=by
 have hc:w.cell? ⟨b,0,none⟩=some (.string x):=aV (j:=0) h rfl;have hz:w.frozen? ⟨b,0,none⟩=false:=gV h;simp [go_sem,hc,hz]
theorem Cv {a:Act} (hw:Region.wanted o (yielded ops a.tmps)=true) {b:Nat} {x:aL} (hg:Rg.Own w b #[.string x] t) (s:aL)
  (ho:∃ x y,o.op = .store 9 x y/\a.eval x = .pointer (some ⟨b,0,none⟩)/\a.eval y = .string s)
  (h:∀ w',Rg.Own w' b #[.string s] t->Rg.Upd w b w'->K (a.put o.dst undef) w'):if Region.wanted o (yielded ops a.tmps)=true then Oper.wp prog o a w K Q else K (a.put o.dst undef) w:=by
 obtain ⟨x,y,ho,hx,hy⟩:=ho;refine Rg.want hw ?_;unfold Oper.wp execOp;simp only [ho,hx,hy,Sem.run_bind,Sem.run_pure,Result.andThen_ok,EJ hg s];exact h _ (dx hg _) (bO _ _ _ _)
theorem CB {rest:List Oper} {b:Nat} (h:Rg.Own w b #[.string x0] t) (s:aL)
  (hgd:o.guard=none) (x y:Operand) (ho:o.op = .store 9 x y) (hx:act.eval x = .pointer (some ⟨b,0,none⟩)) (hy:act.eval y = .string s)
  (hQ:∀ w',Rg.Own w' b #[.string s] t->Rg.Upd w b w'->wpList prog ops Q rest (act.put o.dst undef) w'):wpList prog ops Q (o::rest) act w :=
 wpList_plain hgd λK hK=>by
  unfold Oper.wp execOp;simp only [ho,hx,hy,Sem.run_bind,Sem.run_pure,Result.andThen_ok,EJ h s];exact hK _ _ (hQ _ (dx h _) (bO _ _ _ _))
theorem JK {b:Nat} {o:Nat} (h:w.cell? ⟨b,o,none⟩=some (.string x)):(Instr.loadAt 9 (.pointer (some ⟨b,o,none⟩))).run prog w = .ok (.string x) w:=by
 simp [go_sem,h]
theorem dW {b off:Nat} {s:aL} (hc:w.cell? ⟨b,off,none⟩=some (.string s)) (ho:∃ x,o.op = .load 9 x/\ev x = .pointer (some ⟨b,off,none⟩)) :
  (execOp ev o).run prog w = .ok (.value (.string s)) w:=by
 obtain ⟨x,ho,hx⟩:=ho;unfold execOp;simp only [ho,hx,Sem.run_bind,Sem.run_pure,Result.andThen_ok,JK hc]
theorem dL (hk:k.length=32) (hg:w.heap[g]? = some (.cells (Ky.kc k) 24 (0,0))) (ho:∃ x,o.op = .load 24 x/\ev x = .pointer (some ⟨g,0,none⟩)) :
  (execOp ev o).run prog w = .ok (.value (.agg (Ky.kc k))) w:=by
 obtain ⟨x,ho,hx⟩:=ho;exact Ky.Gn ev o x w g k ho hx (Ky.LK w g k hk hg)
theorem oO {b:Nat} {cs:aN} (h:Bo g w w') (hO:Rg.Own w b cs t) (hne:b≠g):Rg.Own w' b cs t:=⟨aI hO.1 h.size,(h.block b hO.1 hne).trans hO.2⟩
theorem VH {fn:Func} {q u:Tmp} (hf:fn.results = #[.cell q 9,.tmp u]) (tmps:aN) {b:Nat} (hp:tmps.getD q undef = .pointer (some ⟨b,0,none⟩)) (h:Rg.Own w b #[.string x] 9) :
  (results fn tmps).run prog w = .ok (.tuple #[.string x,tmps.getD u undef]) w:=by
 have hp':tmps[q]?.getD undef = .pointer (some ⟨b,0,none⟩):=by simpa using hp
 have hc:w.cell? ⟨b,0,none⟩=some (.string x):=aV (j:=0) h rfl;have hagg:(isAgg 9).run prog w = .ok false w:=by kernel_rfl
 have hl:(loadVar 9 ⟨b,0,none⟩).run prog w = .ok (.string x) w:=by
  have:=JK (b:=b) (o:=0) hc;simpa only [Instr.loadAt,Instr.sureAddr,Sem.run_bind,Sem.run_pure,Result.andThen_ok] using this
 simp [results,hf,hp',asAddr,hl]
open Ky
def jk (x:Tr.Pair):List Value:=(x.1.map λb=>Value.int .u8 b.toNat)++[.string x.2]
def gQ (x:Tr.Pair):aN:=(jk x).toArray
theorem fQ {x:Tr.Pair} (h:x.1.length=32):(jk x).length=33:=by simp [jk,h]
theorem qd (x:Tr.Pair):∀ u∈jk x,u.oneCell'=true:=λu hu=>by
 unfold jk at hu;rw [List.mem_append] at hu;rcases hu with hu | hu
 .obtain ⟨b,_,rfl⟩:=List.mem_map.1 hu;rfl
 .obtain rfl:=List.mem_singleton.1 hu;rfl
theorem wZ:(prog.info? 60).map (λi=>(i.size,i.bytes))=some (33,48):=by kernel_rfl
theorem BA:((prog.info? 60).bind (·.zero)).isSome=true:=by kernel_rfl
theorem zn:((prog.info? 60).bind (·.zero)).map (·.cells.size)=some 33:=by kernel_rfl
theorem zw:∃ i z,prog.info? 60=some i/\i.zero=some z/\i.size=33/\i.bytes=48/\z.cells.size=33:=by
 have h1:=wZ;have h2:=BA;have h3:=zn;cases hi:prog.info? 60 with
 | none=>rw [hi] at h1; simp at h1
 | some i =>
  rw [hi] at h1 h2 h3;simp at h1 h2 h3;cases hz:i.zero with
  | none=>rw [hz] at h2; simp at h2
  | some z =>
   rw [hz] at h3;simp at h3;exact ⟨i,z,rfl,hz,h1.1,h1.2,h3⟩
def dA (w:World) (b o:Nat) (x:Tr.Pair):Prop:=w.rangeAt b o (jk x)
theorem dA.below {b o:Nat} {x:Tr.Pair} (h:dA w b o x) (hb:Below w.heap.size w w'):dA w' b o x:=λj v hv=>aW hb (h j v hv)
theorem dA.key {b o:Nat} {x:Tr.Pair} (h:dA w b o x):w.rangeAt b o (x.1.map λb=>Value.int .u8 b.toNat):=λj v hv=>h j v (by
 unfold jk;have:=(List.getElem?_eq_some_iff.1 hv).1;rw [List.getElem?_append_left this]; exact hv)
theorem dA.val {b o:Nat} {x:Tr.Pair} (h:dA w b o x) (hk:x.1.length=32):w.cell? ⟨b,o+32,none⟩=some (.string x.2):=h 32 _ (by
 unfold jk;rw [List.getElem?_append_right (by simp [hk])];simp [hk])
theorem dA.own {b:Nat} {x:Tr.Pair} (h:Rg.Own w b (gQ x) t):dA w b 0 x:=λj v hv=>by
 rw [Nat.zero_add];exact aV h (by unfold gQ; simpa using hv)
theorem gK {ev:Operand->Value} {o:Oper} {w:World} {b off:Nat} {x:Tr.Pair} (hk:x.1.length=32) (h:dA w b off x) (ho:∃ y,o.op = .load 60 y/\ev y = .pointer (some ⟨b,off,none⟩)) :
  (execOp ev o).run prog w = .ok (.value (.agg (gQ x))) w:=by
 obtain ⟨y,ho,hx⟩:=ho;have hl:=run_loadAt_mid (P:=prog) w b off 60 (jk x) _ h underlying60 rfl (by
  have:=wZ;rw [fQ hk];cases hi:prog.info? 60 with
  | none=>rw [hi] at this; simp at this
  | some i=>rw [hi] at this; simp at this; simp [this.1])
 unfold execOp;simp only [ho,hx,Sem.run_bind,Sem.run_pure,Result.andThen_ok,hl];rfl
theorem fF {b off:Nat} (hk:k.length=32) (h:w.rangeAt b off (k.map λb=>Value.int .u8 b.toNat)) (ho:∃ y,o.op = .load 24 y/\ev y = .pointer (some ⟨b,off,none⟩)) :
  (execOp ev o).run prog w = .ok (.value (.agg (kc k))) w:=by
 obtain ⟨y,ho,hx⟩:=ho;have hl:=run_loadAt_mid (P:=prog) w b off 24 (k.map λb=>Value.int .u8 b.toNat) _ h underlying24 rfl (by rw [IQ]; simp [hk]);unfold execOp;simp only [ho,hx,Sem.run_bind,Sem.run_pure,Result.andThen_ok,hl];rfl
theorem tQ {α:Type} (l:List α) (h:l.length=32):∃ a0 a1 a2 a3 a4 a5 a6 a7 b0 b1 b2 b3 b4 b5 b6 b7 c0 c1 c2 c3 c4 c5 c6 c7 d0 d1 d2 d3 d4 d5 d6 d7,l=[a0,a1,a2,a3,a4,a5,a6,a7,b0,b1,b2,b3,b4,b5,b6,b7,c0,c1,c2,c3,c4,c5,c6,c7,d0,d1,d2,d3,d4,d5,d6,d7]:=by
 match l,h with
 | [a0,a1,a2,a3,a4,a5,a6,a7,b0,b1,b2,b3,b4,b5,b6,b7,c0,c1,c2,c3,c4,c5,c6,c7,d0,d1,d2,d3,d4,d5,d6,d7],_=>exact ⟨_,_,_,_,_,_,_,_,_,_,_,_,_,_,_,_,_,_,_,_,_,_,_,_,_,_,_,_,_,_,_,_,rfl⟩
theorem oK (k:aM) (v:aL) (h:k.length=32):prog.built 60 [(0,.agg (kc k)),(1,.string v)]=some (gQ (k,v)):=by
 obtain ⟨a0,a1,a2,a3,a4,a5,a6,a7,b0,b1,b2,b3,b4,b5,b6,b7,c0,c1,c2,c3,c4,c5,c6,c7,d0,d1,d2,d3,d4,d5,d6,d7,rfl⟩:=tQ k h;kernel_rfl
theorem pz {x:Tr.Pair} (hk:x.1.length=32) (b:Nat) (hb:b=w.heap.size) (ho:∃ y,o.op = .buildSlice 22 1 #[(0,y)]/\ev y = .agg (gQ x)) :
  (execOp ev o).run prog w = .ok (.value (.slice (some ⟨b,0,none⟩) 1 1)) (w.alloc (.cells (gQ x) 60)):=by
 obtain ⟨y,ho,hx⟩:=ho;obtain ⟨k,v⟩:=x;subst hb;unfold execOp;simp only [ho,List.map_toArray,List.map_cons,List.map_nil,hx];obtain ⟨a0,a1,a2,a3,a4,a5,a6,a7,b0,b1,b2,b3,b4,b5,b6,b7,c0,c1,c2,c3,c4,c5,c6,c7,d0,d1,d2,d3,d4,d5,d6,d7,rfl⟩:=tQ k hk;kernel_rfl
def nu (w:World) (a:aK) (n c:Nat) (l:List Tr.Pair):Prop :=
 n<=c/\c<=maxLen/\l.length=n/\(a=none->c=0)/\(∀ x∈l,x.1.length=32)/\∀ j,j<n->∃ b off,a=some ⟨b,off,none⟩/\b<w.heap.size/\dA w b (off+j*33) (l.getD j ([],eB))
theorem nu.len {l:List Tr.Pair} (h:nu w a n c l):l.length=n:=h.2.2.1
theorem nu.keys {l:List Tr.Pair} (h:nu w a n c l):∀ x∈l,x.1.length=32:=h.2.2.2.2.1
theorem nu.at' {l:List Tr.Pair} (h:nu w a n c l) (j:Nat) (hj:j<n):∃ b off,a=some ⟨b,off,none⟩/\b<w.heap.size/\dA w b (off+j*33) (l.getD j ([],eB))/\(l.getD j ([],eB)).1.length=32:=by
 obtain ⟨b,off,e,hlt,hp⟩:=h.2.2.2.2.2 j hj;refine ⟨b,off,e,hlt,hp,h.keys _ ?_⟩;have hl:=h.len;rw [List.getD_eq_getElem?_getD,List.getElem?_eq_getElem (by omega)];exact List.getElem_mem _
theorem nu.below {w w':World} {a:aK} {n c:Nat} {l:List Tr.Pair} (h:nu w a n c l) (hb:Below w.heap.size w w'):nu w' a n c l :=
 ⟨h.1,h.2.1,h.2.2.1,h.2.2.2.1,h.2.2.2.2.1,λj hj=>by
  obtain ⟨b,off,e,hlt,hp⟩:=h.2.2.2.2.2 j hj;exact ⟨b,off,e,aI hlt hb.size,hp.below hb⟩⟩
theorem nu.nil (w:World):nu w none 0 0 []:=⟨aG,Nat.zero_le _,rfl,λ_=>rfl,λ_ h=>(by cases h),λ_ h=>absurd h (Nat.not_lt_zero _)⟩
def rowP (l:List Tr.Pair):List Value:=l.flatMap jk
theorem uj (l:List Tr.Pair) (x:Tr.Pair):rowP (l++[x])=rowP l++jk x:=by simp [rowP]
theorem Gc:∀ (l:List Tr.Pair),(∀ x∈l,x.1.length=32)->∀ j i,j<l.length->i<33->(rowP l)[j*33+i]? = (jk (l.getD j ([],eB)))[i]?
 | [],_,_,_,h,_=>absurd h (Nat.not_lt_zero _)
 | x::l,h,0,i,_,hi=>by
  show (jk x++rowP l)[0*33+i]? = _;rw [Nat.zero_mul,Nat.zero_add,List.getElem?_append_left (by rw [fQ (h x List.mem_cons_self)]; exact hi)];rfl
 | x::l,h,j+1,i,hj,hi=>by
  show (jk x++rowP l)[(j+1)*33+i]? = _;have hx:=fQ (h x List.mem_cons_self);rw [List.getElem?_append_right (by omega),hx,show (j+1)*33+i-33=j*33+i by omega,Gc l (λy hy=>h y (List.mem_cons_of_mem _ hy)) j i (by simpa using hj) hi];rfl
theorem nu.mQ {l:List Tr.Pair} (hk:∀ x∈l,x.1.length=32) (hl:l.length=n) (h:w.ownsRow B 60 33 v n (rowP l)):∃ a cap,v = .slice a n cap/\nu w a n cap l:=by
 rcases h.2 with ⟨rfl,hz⟩ | ⟨g,cap,cur,rfl,hbg,hg,hnc,hcm,hcs,htake⟩
 .subst hz;obtain rfl:l=[]:=List.eq_nil_of_length_eq_zero hl;exact ⟨none,0,rfl,nu.nil w⟩
 .refine ⟨_,_,rfl,hnc,hcm,hl,λe=>(by cases e),hk,λj hj=>⟨g,0,rfl,(Array.getElem?_eq_some_iff.1 hg).1,λi u hu=>?_⟩⟩;have hkj:(l.getD j ([],eB)).1.length=32:=hk _ (by
   rw [List.getD_eq_getElem?_getD,List.getElem?_eq_getElem (by omega)];exact List.getElem_mem _)
  have hi:i<33:=by
   have:=(List.getElem?_eq_some_iff.1 hu).1;rwa [fQ hkj] at this
  have:=h.cells (g:=g) rfl (j*33+i) u (by rw [Gc l hk j i (by omega) hi]; exact hu);rw [Addr.add_mid] at this;rw [Nat.add_assoc];exact this
def Ye (w:World) (l:List Tr.Pair) (e:Ending) (w':World):Prop:=∃ a n c,e = .returned (.slice a n c)/\nu w' a n c l/\Below w.heap.size w w'
theorem kZ (ev:Operand->Value) (o:Oper) (w:World) (b:Nat) (hb:b=w.heap.size) (ho:o.op = .alloc 60) :
  (execOp ev o).run prog w = .ok (.value (.pointer (some ⟨b,0,none⟩))) (w.alloc (.cells (gQ (List.replicate 32 0,eB)) 60)):=by
 subst hb;unfold execOp;rw [ho];kernel_rfl
theorem kE {x:Tr.Pair} (h:x.1.length=32):(gQ x).size=33:=by simp [gQ,fQ h]
theorem xD (x:Tr.Pair):(gQ x).all (·.oneCell')=true:=by
 unfold gQ;exact all_oneCell_toArray (qd x)
theorem uQ {x:Tr.Pair} (h:x.1.length=32):(prog.info? 60).map (·.size)=some (gQ x).size:=by
 rw [kE h];have:=wZ;cases hi:prog.info? 60 with
 | none=>rw [hi] at this; simp at this
 | some i=>rw [hi] at this; simp at this; simp [this.1]
theorem jy {rest:List Oper} {b:Nat} {x:Tr.Pair} (h:Rg.Own w b (gQ x) 60) (hx:x.1.length=32) (y:Tr.Pair) (hy:y.1.length=32)
  (hgd:o.guard=none) (p q:Operand) (ho:o.op = .store 60 p q) (hp:act.eval p = .pointer (some ⟨b,0,none⟩)) (hq:act.eval q = .agg (gQ y)) (hd:o.dst=none)
  (hQ:∀ w',Rg.Own w' b (gQ y) 60->Rg.Upd w b w'->wpList prog ops Q rest act w'):wpList prog ops Q (o::rest) act w :=
 wpList_store_rowTo hgd 60 p q ho hd b _ hp hq 60 _ h.2 (uQ hy) (by rw [kE hx,kE hy]) (xD _) (hQ _ ⟨by simp; exact h.1,setRow_heap _ _ _ _ _ _ h.2⟩ (Rg.Upd.set _ _ _))
theorem xk (k l:aM) (w:World) (d:Nat):∀ is:List Nat,(∀ i∈is,i<k.length/\i<l.length)->(Op.eqItems (d+1) 5 1 (kc k) (kc l) is).run prog w = .ok (is.all λi=>decide (k.getD i 0=l.getD i 0)) w
 | [],_=>by simp [Op.eqItems]
 | i::is,h=>by
  have ih:=xk k l w d is (λj hj=>h j (List.mem_cons_of_mem _ hj));have hp:=Dq k i (h i (List.mem_cons_self ..)).1 w;have hq:=Dq l i (h i (List.mem_cons_self ..)).2 w;unfold Op.eqItems;rw [Nat.mul_one];simp only [Sem.run_bind,hp,hq,Result.andThen_ok,run_equalIn_int w d 5 .u8 .u8 _ _ underlying5];by_cases e:k.getD i 0=l.getD i 0
  .rw [List.all_cons,aJ e,Bool.true_and,e];simp only [beq_self_eq_true,Bool.not_true,Bool.false_eq_true,if_false];exact ih
  .have hne:(((k.getD i 0).toNat:Int)==((l.getD i 0).toNat:Int))=false:=by
    simp only [beq_eq_false_iff_ne,ne_eq];intro h;exact e (UInt8.toNat_inj.1 (by omega))
   rw [List.all_cons,decide_eq_false e,Bool.false_and,hne];simp
theorem Iu {l:aM} (hk:k.length=32) (hl:l.length=32):((List.range 32).all λi=>decide (k.getD i 0=l.getD i 0))=decide (k=l):=by
 rw [Bool.eq_iff_iff,List.all_eq_true,decide_eq_true_iff];constructor
 .intro h;apply List.ext_getElem (by omega);intro i h1 h2;have:=of_decide_eq_true (h i (List.mem_range.2 (by omega)));simpa [List.getD,h1,h2] using this
 .rintro rfl i _;exact aJ rfl
theorem LY {l:aM} (hk:k.length=32) (hl:l.length=32) (w:World):(Op.equalIn 10000 24 (.agg (kc k)) (.agg (kc l))).run prog w = .ok (decide (k=l)) w:=by
 obtain ⟨i0,hi,_⟩:=info_parts Cc.kX;rw [show (10000:Nat)=9999+1 from rfl,run_equalIn_array w 9999 (kc k) (kc l) underlying24 hi,Jp,xk k l w 9998 (List.range 32) (λi h=>by rw [hk,hl]; have:=List.mem_range.1 h; omega),Iu hk hl]
theorem Va {l:aM} (hk:k.length=32) (hl:l.length=32) (w:World):(binOp .neq 24 (.agg (kc k)) (.agg (kc l))).run prog w = .ok (.bool (!decide (k=l))) w:=by
 rw [run_neq_struct,LY hk hl w];rfl
theorem Ib {l:aM} (hk:k.length=32) (hl:l.length=32) (ho:∃ x y tt,o.op = .binOp .neq 24 x y tt/\ev x = .agg (kc k)/\ev y = .agg (kc l)) :
  (execOp ev o).run prog w = .ok (.value (.bool (!decide (k=l)))) w:=by
 obtain ⟨x,y,tt,ho,hx,hy⟩:=ho;unfold execOp;have hg:=Pj;simp [ho,hx,hy,run_eqGuard_agg,hg,Va hk hl,Result.andThen]
end Tm
end
section
open Go.RowKit
namespace Tm
open Tr Ni Pk
open Ky
theorem BN {l:List Tr.Pair} (h:j<l.length):l.getD j ([],eB)∈l:=by
 rw [List.getD_eq_getElem?_getD,List.getElem?_eq_getElem h];exact List.getElem_mem _
theorem drop_at {l:List Tr.Pair} (h:j<l.length):l.drop j=l.getD j ([],eB)::l.drop (j+1):=by
 have e:l.getD j ([],eB)=l[j]:=by simp [List.getD,h]
 rw [e];exact (List.getElem_cons_drop h).symm
theorem take_at {l:List Tr.Pair} (h:j<l.length):l.take (j+1)=l.take j++[l.getD j ([],eB)]:=by
 have e:l.getD j ([],eB)=l[j]:=by simp [List.getD,h]
 rw [e,List.take_succ_eq_append_getElem h]
def zX (w:World) (l:List Tr.Pair) (e:Ending) (w':World):Prop:=∃ v,e = .returned v/\w'.ownsRow w.heap.size 60 33 v l.length (rowP l)/\Below w.heap.size w w'
theorem zX.ps {l:List Tr.Pair} {e:Ending} (hk:∀ x∈l,x.1.length=32) (h:zX w l e w'):Ye w l e w':=by
 obtain ⟨v,rfl,ho,hb⟩:=h;obtain ⟨a,cap,rfl,hp⟩:=nu.mQ hk rfl ho;exact ⟨a,_,cap,rfl,hp,hb⟩
theorem tC {sz:Nat} {xs:List Value} (h:w.ownsRow B e sz v n xs) (hb:Below w.heap.size w w'):w'.ownsRow B e sz v n xs:=h.kept (Bu.iT hb) (by cases v.ownBlock <;> simp)
abbrev Hdl:Type:=aK × Nat × Nat
def inC (x:Tr.In) (h:Hdl):List Value:=[.slice h.1 h.2.1 h.2.2,.string x.2]
def inA (x:Tr.In) (h:Hdl):aN:=#[.slice h.1 h.2.1 h.2.2,.string x.2]
theorem Fq:(prog.info? 62).map (λi=>(i.zero,i.size,i.bytes))=some (some (.agg #[.slice none 0 0,.string ⟨#[]⟩]),2,40):=by kernel_rfl
theorem CG:∃ i z,prog.info? 62=some i/\i.zero=some z/\i.size=2/\i.bytes=40/\z.cells.size=2:=by
 obtain ⟨i0,hi,hz,hs,hby⟩:=info_parts Fq;exact ⟨i0,_,hi,hz,hs,hby,rfl⟩
def BsP (p:Nat->Prop) (w:World) (h:Hdl) (l:aM):Prop:=aZ w h.1 h.2.1 h.2.2 l/\∀ ad,h.1=some ad->0<h.2.1->p ad.block
theorem BsP.kept {h:Hdl} {l:aM} (g:BsP p w h l) (hs:w.heap.size<=w'.heap.size) (hk:∀ b,p b->b<w.heap.size->w'.heap[b]? = w.heap[b]?):BsP p w' h l:=by
 refine ⟨⟨g.1.1,g.1.2.1,g.1.2.2.1,g.1.2.2.2.1,λj hj=>?_⟩,g.2⟩;obtain ⟨b,off,e,hlt,hc⟩:=g.1.at' j hj;exact ⟨b,off,e,aI hlt hs,by rw [World.cell?_of_block (a:=⟨b,off+j,none⟩) (hk b (g.2 _ e (by omega)) hlt)]; exact hc⟩
theorem BsP.to {q:Nat->Prop} {h:Hdl} {l:aM} (g:BsP p w h l) (hp:∀ b,b<w.heap.size->p b->q b):BsP q w h l:=by
 refine ⟨g.1,λad e hn=>hp _ ?_ (g.2 ad e hn)⟩;obtain ⟨b,off,e2,hlt,_⟩:=g.1.at' 0 hn;rw [e] at e2;cases e2;exact hlt
theorem BsP.old {h:Hdl} {l:aM} (g:aZ w h.1 h.2.1 h.2.2 l):BsP (λb=>b<w.heap.size) w h l:=by
 refine ⟨g,λad e hn=>?_⟩;obtain ⟨b,off,e2,hlt,_⟩:=g.at' 0 hn;rw [e] at e2;cases e2;exact hlt
def QT (w:World) (b o:Nat) (x:Tr.In) (h:Hdl):Prop:=w.cell? ⟨b,o,none⟩=some (.slice h.1 h.2.1 h.2.2)/\w.cell? ⟨b,o+1,none⟩=some (.string x.2)
theorem QT.below {b o:Nat} {x:Tr.In} {h:Hdl} (g:QT w b o x h) (hb:Below w.heap.size w w'):QT w' b o x h:=⟨aW hb g.1,aW hb g.2⟩
def iq (w:World) (a:aK) (n c:Nat) (l:List Tr.In):Prop :=
 n<=c/\c<=maxLen/\l.length=n/\(a=none->c=0)/\∀ j,j<n->∃ b off h,a=some ⟨b,off,none⟩/\b<w.heap.size/\QT w b (off+j*2) (l.getD j ([],eB)) h/\aZ w h.1 h.2.1 h.2.2 (l.getD j ([],eB)).1
theorem iq.len {l:List Tr.In} (h:iq w a n c l):l.length=n:=h.2.2.1
theorem iq.at' {l:List Tr.In} (h:iq w a n c l) (j:Nat) (hj:j<n):∃ b off h,a=some ⟨b,off,none⟩/\b<w.heap.size/\QT w b (off+j*2) (l.getD j ([],eB)) h/\aZ w h.1 h.2.1 h.2.2 (l.getD j ([],eB)).1:=h.2.2.2.2 j hj
theorem iq.below {w w':World} {a:aK} {n c:Nat} {l:List Tr.In} (h:iq w a n c l) (hb:Below w.heap.size w w'):iq w' a n c l :=
 ⟨h.1,h.2.1,h.2.2.1,h.2.2.2.1,λj hj=>by
  obtain ⟨b,off,g,e,hlt,hp,hi⟩:=h.2.2.2.2 j hj;exact ⟨b,off,g,e,aI hlt hb.size,hp.below hb,hi.below hb⟩⟩
theorem iq.nil (w:World):iq w none 0 0 []:=⟨aG,Nat.zero_le _,rfl,λ_=>rfl,λ_ h=>absurd h (Nat.not_lt_zero _)⟩
def pV:List Tr.In->List Hdl->List Value
 | x::xs,h::hs=>.slice h.1 h.2.1 h.2.2 :: .string x.2::pV xs hs
 | _,_=>[]
theorem zf:∀ (xs:List Tr.In) (hs:List Hdl) (x:Tr.In) (h:Hdl),hs.length=xs.length->pV (xs++[x]) (hs++[h])=pV xs hs++inC x h
 | [],[],_,_,_=>rfl
 | y::xs,g::hs,x,h,e=>by
  have:=zf xs hs x h (by simpa using e);simp [pV,this]
theorem Ee:∀ (xs:List Tr.In) (hs:List Hdl) (j:Nat) (x:Tr.In) (h:Hdl),xs[j]? = some x->hs[j]? = some h->
  (pV xs hs)[j*2]? = some (.slice h.1 h.2.1 h.2.2)/\(pV xs hs)[j*2+1]? = some (.string x.2)
 | [],_,_,_,_,hx,_=>by simp at hx
 | _::_,[],_,_,_,_,hh=>by simp at hh
 | y::xs,g::hs,0,x,h,hx,hh=>by
  simp at hx hh;subst hx hh;simp [pV]
 | y::xs,g::hs,j+1,x,h,hx,hh=>by
  have:=Ee xs hs j x h (by simpa using hx) (by simpa using hh);rw [show (j+1)*2=j*2+2 by omega];simp only [pV,List.getElem?_cons_succ];exact this
def jh (B:Nat) (w:World) (v:Value) (xs:List Tr.In):Prop :=
 ∃ hs:List Hdl,hs.length=xs.length/\w.ownsRow B 62 2 v xs.length (pV xs hs)/\∀ (j:Nat) (x:Tr.In) (h:Hdl),xs[j]? = some x->hs[j]? = some h->BsP (λb=>v.ownBlock≠some b) w h x.1
theorem jh.nil (B:Nat) (w:World):jh B w (.slice none 0 0) []:=⟨[],rfl,World.ownsRow_nil _ _ _ _,λ_ _ _ hx _=>by simp at hx⟩
theorem jh.lt {B:Nat} {w:World} {v:Value} {xs:List Tr.In} (h:jh B w v xs):∀ k,v.ownBlock=some k->B<=k/\k<w.heap.size:=by
 obtain ⟨hs,_,ho,_⟩:=h;exact ho.lt
theorem jh.below {xs:List Tr.In} (h:jh B w v xs) (hb:Below w.heap.size w w'):jh B w' v xs:=by
 obtain ⟨hs,hlen,ho,hi⟩:=h;exact ⟨hs,hlen,ho.kept (Bu.iT hb) (by cases v.ownBlock <;> simp),λj x h hx hh=>(hi j x h hx hh).kept hb.size λb _ hlt=>hb.block b hlt⟩
theorem jh.push {v':Value} {xs:List Tr.In} {x:Tr.In} {h:Hdl} {hs:List Hdl} (hlen:hs.length=xs.length) (hi:∀ (j:Nat) (x:Tr.In) (h:Hdl),xs[j]? = some x->hs[j]? = some h->BsP (λb=>v.ownBlock≠some b) w h x.1)
  (hI:BsP (λb=>v.ownBlock≠some b) w h x.1) (ho:w'.ownsRow B 62 2 v' (xs.length+1) (pV xs hs++inC x h))
  (hg:w.grownBy w' v.ownBlock) (hat:v'.ownBlock=v.ownBlock\/v'.ownBlock=some w.heap.size):jh B w' v' (xs++[x]):=by
 have keep:∀ {l:aM} {h:Hdl},BsP (λb=>v.ownBlock≠some b) w h l->BsP (λb=>v'.ownBlock≠some b) w' h l:=λ{l h} hh=>by
  have h1:=hh.to (q:=λb=>v'.ownBlock≠some b/\v.ownBlock≠some b) λb hlt hb=>⟨λe=>by
   rcases hat with h2 | h2
   .exact hb (h2 ▸ e)
   .rw [h2] at e;have:=Option.some.inj e;omega,hb⟩
  have h2:=h1.kept (w':=w') hg.size λb hb hlt=>hg.block b hlt (λe=>hb.2 e.symm);exact h2.to λb _ hb=>hb.1
 refine ⟨hs++[h],by simp [hlen],?_,λj y g hy hh=>?_⟩
 .rw [List.length_append,zf xs hs x h hlen];exact ho
 .by_cases hj:j<xs.length
  .rw [List.getElem?_append_left hj] at hy;rw [List.getElem?_append_left (by omega)] at hh;exact keep (hi j y g hy hh)
  .have hj2:j=xs.length:=by
    have:=(List.getElem?_eq_some_iff.1 hy).1;simp at this;omega
   subst hj2;rw [List.getElem?_append_right aG,Nat.sub_self] at hy;rw [List.getElem?_append_right (by omega),hlen,Nat.sub_self] at hh;simp at hy hh;subst hy hh;exact keep hI
theorem jh.done {xs:List Tr.In} (h:jh B w v xs):∃ a n cap,v = .slice a n cap/\iq w a n cap xs:=by
 obtain ⟨hs,hlen,ho,hi⟩:=h;rcases ho.2 with ⟨rfl,hz⟩ | ⟨g,cap,cur,rfl,hbg,hg,hnc,hcm,hcs,htake⟩
 .have:xs=[]:=List.eq_nil_of_length_eq_zero hz;subst this;exact ⟨none,0,0,rfl,iq.nil _⟩
 .refine ⟨_,_,_,rfl,hnc,hcm,rfl,λe=>(by cases e),λj hj=>?_⟩;have hx:xs[j]? = some (xs.getD j ([],eB)):=by simp [hj]
  have hh:hs[j]? = some (hs.getD j (none,0,0)):=by simp [show j<hs.length by omega]
  obtain ⟨f0,f1⟩:=Ee xs hs j _ _ hx hh;have e:∀ i,(⟨g,0,none⟩:Addr).add i=⟨g,0+i,none⟩:=λi=>Addr.add_mid g 0 i;refine ⟨g,0,hs.getD j (none,0,0),rfl,(Array.getElem?_eq_some_iff.1 hg).1,⟨?_,?_⟩,(hi j _ _ hx hh).1⟩
  .have:=ho.cells (g:=g) rfl _ _ f0;rw [e] at this;exact this
  .have:=ho.cells (g:=g) rfl _ _ f1;rw [e,<-Nat.add_assoc] at this;exact this
def AZ (w:World) (l:List Tr.In) (e:Ending) (w':World):Prop:=∃ a n c,e = .returned (.slice a n c)/\iq w' a n c l/\Below w.heap.size w w'
theorem zl {a:Act} {x:Tr.In} {h:Hdl} (hw:Region.wanted o (yielded ops a.tmps)=true)
  (ho:∃ y,o.op = .buildSlice 26 1 #[(0,y)]/\a.eval y = .agg (inA x h))
  (H:∀ w' b,b=w.heap.size->Rg.Own w' b (inA x h) 62->Below w.heap.size w w'->K (a.put o.dst (.slice (some ⟨b,0,none⟩) 1 1)) w'):if Region.wanted o (yielded ops a.tmps)=true then Oper.wp prog o a w K Q else K (a.put o.dst undef) w:=by
 obtain ⟨y,ho,hy⟩:=ho;obtain ⟨i0,hi,hz,hs,hby⟩:=info_parts Fq;refine Rg.want hw (wp_buildSlice 26 62 1 _ ho (inA x h) i0 _ underlying26 hi hz (by rw [hs]; decide) (by rw [hs]; decide) ?_ (H _ _ rfl (Rg.Own.new _ _ _) (al1 _ _)));simp only [List.map_toArray,List.map_cons,List.map_nil,hy,hs];kernel_rfl
theorem yC {xs:List Tr.In} {x:Tr.In} {h:Hdl} (hR:jh B w v xs) (h2:Rg.Own w b2 (inA x h) 62) (hI:BsP (λb=>v.ownBlock≠some b) w h x.1) (hn:xs.length<=1000000) (hB:B<=w.heap.size) :
  ∃ v' w',(Builtin.append_ #[26,26] ty #[v,.slice (some ⟨b2,0,none⟩) 1 1]).run prog w = .ok v' w'/\jh B w' v' (xs++[x])/\w.grownBy w' v.ownBlock:=by
 obtain ⟨i0,z0,hi,hz,hsz,hby,hzc⟩:=CG;obtain ⟨hs',hlen,hown,hi'⟩:=hR;obtain ⟨v',w',hr,h3,h4,_,h5⟩:=run_append_own_at (P:=prog) w B 26 ty 62 i0 z0 2 40 underlying26 hi hz hsz hby hzc (by decide) v xs.length _ hown ⟨b2,0,none⟩ 1 1 (inC x h) rfl
  (λj u hu=>by
   rw [Addr.add_mid,Nat.zero_add,cell_of_row w b2 _ _ _ _ h2.2];unfold inA;simpa [inC] using hu)
  (λu hu=>by unfold inC at hu; simp at hu; rcases hu with rfl | rfl <;> rfl) (by unfold maxLen; omega) (by omega) hB
 exact ⟨v',w',hr,jh.push hlen hi' hI h3 h4 h5,h4⟩
theorem wH {a:Act} {xs:List Tr.In} {x:Tr.In} {h:Hdl} (hw:Region.wanted o (yielded ops a.tmps)=true)
  (ho:∃ s y,o.op = .call { callee:=.builtin .append,args:=#[s,y],argTypes:=#[26,26] }/\a.eval s=v/\a.eval y = .slice (some ⟨b2,0,none⟩) 1 1)
  (hR:jh B w v xs) (h2:Rg.Own w b2 (inA x h) 62) (hI:BsP (λb=>v.ownBlock≠some b) w h x.1) (hn:xs.length<=1000000) (hB:B<=w.heap.size)
  (H:∀ v' w',jh B w' v' (xs++[x])->w.grownBy w' v.ownBlock->K (a.put o.dst v') w'):if Region.wanted o (yielded ops a.tmps)=true then Oper.wp prog o a w K Q else K (a.put o.dst undef) w:=by
 obtain ⟨s,y,ho,hs,hy⟩:=ho;obtain ⟨v',w',hr,h3,h4⟩:=yC (ty:=o.type) hR h2 hI hn hB;refine Rg.want hw ?_;unfold Oper.wp execOp;simp only [ho,resolve,invoke,builtin,Sem.run_bind,Sem.run_pure,Result.andThen_ok,List.map_toArray,List.map_cons,List.map_nil,hs,hy,hr];exact H v' w' h3 h4
theorem Ir {rest:List Oper} {a:Act} {xs:List Tr.In} {x:Tr.In} {h:Hdl} (hgd:o.guard=none)
  (ho:∃ s y,o.op = .call { callee:=.builtin .append,args:=#[s,y],argTypes:=#[26,26] }/\a.eval s=v/\a.eval y = .slice (some ⟨b2,0,none⟩) 1 1)
  (hR:jh B w v xs) (h2:Rg.Own w b2 (inA x h) 62) (hI:BsP (λb=>v.ownBlock≠some b) w h x.1) (hn:xs.length<=1000000) (hB:B<=w.heap.size)
  (H:∀ v' w',jh B w' v' (xs++[x])->w.grownBy w' v.ownBlock->wpList prog ops Q rest (a.put o.dst v') w'):wpList prog ops Q (o::rest) a w:=by
 obtain ⟨s,y,ho,hs,hy⟩:=ho;refine wpList_plain hgd λK hK=>?_;obtain ⟨v',w',hr,h3,h4⟩:=yC (ty:=o.type) hR h2 hI hn hB;unfold Oper.wp execOp;simp only [ho,resolve,invoke,builtin,Sem.run_bind,Sem.run_pure,Result.andThen_ok,List.map_toArray,List.map_cons,List.map_nil,hs,hy,hr];exact hK _ _ (H v' w' h3 h4)
theorem su {xs:List Tr.In} (hR:jh B w v xs) (hb:Below B w0 w) (hB:B<=w.heap.size) (hg:w.grownBy w' v.ownBlock):Below B w0 w':=hb.grown hg hB (λg hg=>(hR.lt g hg).1)
theorem BsP.apart {xs:List Tr.In} {h:Hdl} {l:aM} (hR:jh B w v xs) (g:aZ w0 h.1 h.2.1 h.2.2 l) (hb:Below w0.heap.size w0 w) (hB:w0.heap.size<=B):BsP (λb=>v.ownBlock≠some b) w h l:=by
 have h1:=(BsP.old g).kept hb.size λb hlt _=>hb.block b hlt;exact h1.to λb _ hlt e=>by have:=(hR.lt b e).1; omega
theorem LH {ev:Operand->Value} {o:Oper} {w:World} {b off:Nat} {x:Tr.In} {h:Hdl} (g:QT w b off x h) (ho:∃ y,o.op = .load 62 y/\ev y = .pointer (some ⟨b,off,none⟩)) :
  (execOp ev o).run prog w = .ok (.value (.agg (inA x h))) w:=by
 obtain ⟨y,ho,hx⟩:=ho;have hl:=run_loadAt_mid (P:=prog) w b off 62 (inC x h) _ (λj u hu=>by
  match j,hu with
  | 0,hu=>cases hu; exact g.1
  | 1,hu=>cases hu; exact g.2) underlying62 rfl (by
  obtain ⟨i0,hi,hz,hs,hby⟩:=info_parts Fq;rw [hi];simp [hs,inC])
 unfold execOp;simp only [ho,hx,Sem.run_bind,Sem.run_pure,Result.andThen_ok,hl];rfl
theorem Ro {l:List Tr.In} (h:j<l.length):l.getD j ([],eB)∈l/\l.take (j+1)=l.take j++[l.getD j ([],eB)]:=by
 have e:l.getD j ([],eB)=l[j]:=by simp [List.getD,h]
 rw [e];exact ⟨List.getElem_mem _,List.take_succ_eq_append_getElem h⟩
theorem QW {l:List Tr.In} (h:j<l.length):bN (l.take (j+1)) m=bN (l.take j) m++[((l.getD j ([],eB)).1.drop m,(l.getD j ([],eB)).2)]:=by
 rw [(Ro h).2];unfold bN;rw [List.map_append];rfl
theorem wK (l:List Tr.In) (a:aK) (n c m:Nat) (hm:∀ x∈l,m<=x.1.length) (w:World) (h:iq w a n c l) (hn:n<=1000000) :
  Calls prog 42 #[.slice a n c,.int .i64 m] w (AZ w (bN l m)):=by
 have HH:=hid h;have HL:=hid h.len;have HM:=hid hm;have hcap:=h.1;have hmx:=h.2.1;unfold maxLen at hmx;clear h hm;go_enter func42,ntmps42;go_wp2_with fail
 go_loopw [5,6] (λv i wr=>∃ j:Nat,j<=n/\i = .int .i64 j/\Hid (jh w.heap.size wr v (bN (l.take j) m))/\Hid (Below w.heap.size w wr)) (λ_ i _=>n-(intOf i).toNat)
 case atStart=>exact ⟨0,Nat.zero_le _,rfl,hid (jh.nil _ _),hid aH⟩
 case round =>
  obtain ⟨j,hj,rfl,HR,HB⟩:=hrel;have oA:=HB.out.size;by_cases hlt:j<n
  .obtain ⟨b,off,hd,rfl,hblt,hin,hbs⟩:=HH.out.at' j hlt;have hji:(j:Int)<n:=by omega
   have hjl:j<l.length:=by rw [HL.out]; exact hlt
   have HS:=hid (QW (m:=m) hjl);have mT:=HM.out _ (Ro hjl).1;have hwl:(bN (l.take j) m).length<=j:=by unfold bN; rw [List.length_map,List.length_take]; exact Nat.min_le_left _ _
   obtain ⟨x,hx⟩:=ay (l.getD j ([],eB))
   rw [hx] at HS hin hbs mT;obtain ⟨p,v⟩:=x;obtain ⟨h0,h1,h2⟩:=hd;dsimp only at hbs mT HS;rw [hbs.len] at mT;obtain ⟨W,CH⟩:=ay (bN (l.take j) m)
   rw [CH] at HR HS hwl;have jb:=hid hin;have u4:=hid (tN hbs m mT);clear hx hin hbs CH;go_wp2_with fail
   refine aC (S:=λw'=>Below w.heap.size w w') (below_drewN HB.out 1) λhld=>?_;refine ah 0 ?_;try simp only [Act.put,ak]
   refine ah 1 ?_;try simp only [Act.put,ak]
   refine ah 2 ?_;try simp only [Act.put,ak]
   refine ah 3 ?_ (hy:=by intro wz hSw; have q0:=hji; have q1:=hlt; (try dsimp only at hSw); go_simp <;> with_reducible rfl);try simp only [Act.put,ak]
   refine ah 4 ?_;try simp only [Act.put,ak]
   refine aD 5 (λwz hSw=>aW hSw jb.out.1) ?_;try simp only [Act.put,ak]
   refine ah 6 ?_;try simp only [Act.put,ak]
   refine ah 7 ?_ (hy:=by intro wz hSw; (refine jL (a:=h0) (n:=h1) (c:=h2) (i:=m) gI jv mT ?_; exact ⟨_,_,rfl,rfl,rfl⟩));try simp only [Act.put,ak]
   refine ah 8 ?_;try simp only [Act.put,ak]
   refine ah 9 ?_;try simp only [Act.put,ak]
   refine ah 10 ?_ (hy:=by intro wz hSw; have q0:=hji; have q1:=hlt; (try dsimp only at hSw); go_simp <;> with_reducible rfl);try simp only [Act.put,ak]
   refine ah 11 ?_;try simp only [Act.put,ak]
   refine aD 12 (λwz hSw=>aW hSw jb.out.2) ?_;try simp only [Act.put,ak]
   refine ah 13 ?_;try simp only [Act.put,ak]
   refine aj 14 λK hK=>?_;refine zl (x:=(p.drop m,v)) (h:=(dY h0 h2 m,h1-m,h2-m)) (by rfl) ⟨_,rfl,rfl⟩ ?_;intro w6 b6 hbe hN hb6;have HN:=hid hN;have ap:Hid (Below wr.heap.size wr w6):=hid (Below.trans (show Below wr.heap.size wr wr.drew from below_drewN aH 1) hb6);clear hN hb6 hbe;refine hK.out _ _ (HB.out.trans (ap.out.mono HB.out.size)) λhld=>?_;clear hK K;try simp only [Act.put,ak]
   refine aj 15 λK hK=>?_;refine wH (by rfl) ⟨_,_,rfl,rfl,rfl⟩ (jh.below HR.out ap.out) HN.out (h:=(dY h0 h2 m,h1-m,h2-m)) (x:=(p.drop m,v)) (BsP.apart (jh.below HR.out ap.out) u4.out hld aG) (by omega) (Below.size hld) ?_;intro v7 w7 fc gt;have bc:Hid (Below w.heap.size w w7):=hid (su (jh.below HR.out ap.out) hld (Below.size hld) gt);have cM:=hid fc;clear fc gt;refine hK.out _ _ (bc.out) λhld=>?_;clear hK K;try simp only [Act.put,ak]
   refine ah 16 ?_;try simp only [Act.put,ak]
   refine aB ?_;go_wp2;go_roundw
   case rel=>exact ⟨j+1,by omega,by go_num,hid (by rw [HS.out]; exact cM.out),bc⟩
   case measure=>simp [intOf]; omega
  .obtain rfl:j=n:=by omega
   have HR':=HR.out;rw [List.take_of_length_le (by rw [HL.out]; exact aG)] at HR';obtain ⟨a',n',c',rfl,hd⟩:=HR'.done;have HD:=hid hd;clear HR' hd HR;go_wp2;go_ret;exact ⟨_,_,_,rfl,HD.out,HB.out⟩
theorem Ku {l:List Tr.In} {d:Fin 16} (h:j<l.length):bJ (l.take (j+1)) d=bJ (l.take j) d++if ((l.getD j ([],eB)).1.getD 0 0).toNat=d.val then [l.getD j ([],eB)] else []:=by
 rw [(Ro h).2];unfold bJ;rw [List.filter_append];congr 1;generalize l.getD j ([],eB)=x;by_cases e:(x.1.getD 0 0).toNat=d.val
 .rw [if_pos e]; simp only [List.filter,e,decide_true]
 .rw [if_neg e]; simp only [List.filter,e,decide_false]
theorem DZ (l:List Tr.In) (d:Fin 16) (j:Nat):(bJ (l.take j) d).length<=j:=by
 unfold bJ;exact Nat.le_trans (List.length_filter_le _ _) (by rw [List.length_take]; exact Nat.min_le_left _ _)
theorem Rt {x:Tr.In} {h:Hdl} (b:Nat) (hb:b=w.heap.size) (ho:∃ y,o.op = .buildSlice 26 1 #[(0,y)]/\ev y = .agg (inA x h)) :
  (execOp ev o).run prog w = .ok (.value (.slice (some ⟨b,0,none⟩) 1 1)) (w.alloc (.cells (inA x h) 62)):=by
 obtain ⟨y,ho,hx⟩:=ho;subst hb;unfold execOp;simp only [ho,List.map_toArray,List.map_cons,List.map_nil,hx];kernel_rfl
theorem Ec (l:List Tr.In) (a:aK) (n c:Nat) (d:Fin 16) (hm:∀ x∈l,0<x.1.length) (w:World) (h:iq w a n c l) (hn:n<=1000000) :
  Calls prog 43 #[.slice a n c,.int .i64 d.val] w (AZ w (bJ l d)):=by
 have HH:=hid h;have HL:=hid h.len;have HM:=hid hm;have hcap:=h.1;have hmx:=h.2.1;unfold maxLen at hmx;obtain ⟨D,hD⟩:∃ D:Nat,d.val=D:=⟨_,rfl⟩
 have HD:=hid hD;rw [hD];clear h hm hD;go_enter func43,ntmps43;go_wp2_with fail
 go_loopw [5,6] (λv i wr=>∃ j:Nat,j<=n/\i = .int .i64 j/\Hid (jh w.heap.size wr v (bJ (l.take j) d))/\Hid (Below w.heap.size w wr)) (λ_ i _=>n-(intOf i).toNat)
 case atStart=>exact ⟨0,Nat.zero_le _,rfl,hid (jh.nil _ _),hid aH⟩
 case round =>
  obtain ⟨j,hj,rfl,HR,HB⟩:=hrel;have oA:=HB.out.size;by_cases hlt:j<n
  .obtain ⟨b,off,hd,rfl,hblt,hin,hbs⟩:=HH.out.at' j hlt;have hji:(j:Int)<n:=by omega
   have hjl:j<l.length:=by rw [HL.out]; exact hlt
   have HS:=hid (Ku (d:=d) hjl);have hp0:=HM.out _ (Ro hjl).1;have hwl:=DZ l d j;obtain ⟨x,hx⟩:=ay (l.getD j ([],eB))
   rw [hx] at HS hin hbs hp0;obtain ⟨p,v⟩:=x;obtain ⟨h0,h1,h2⟩:=hd;dsimp only at hbs hp0 HS;rw [hbs.len] at hp0;obtain ⟨W,CH⟩:=ay (bJ (l.take j) d)
   rw [CH] at HR HS hwl;have hin':=hin.below HB.out;have jb:=hid hin';have HAp:=hid (BsP.apart HR.out (h:=(h0,h1,h2)) hbs HB.out aG);obtain ⟨b',off',rfl,s6,hc0⟩:=(hbs.below HB.out).at' 0 hp0;have hcs:=hin'.1;dsimp only at hcs;obtain ⟨u,hu⟩:=ay ((p.getD 0 0).toNat)
   have CI:=UInt8.toNat_lt (p.getD 0 0);rw [hu,HD.out] at HS;rw [hu] at hc0 CI;simp only [Nat.add_zero] at hc0;have hp0i:(0:Int)<h1:=by omega
   clear hx hin hbs CH hin' hu;by_cases he:u=D
   .have cC:Hid (bJ (l.take (j+1)) d=W++[(p,v)]):=hid (by rw [HS.out,if_pos he]);have hd:decide ((u:Int)=(D:Int))=true:=aJ (by omega);have hbq:((u:Int)==(D:Int))=true:=by simp; omega
    clear he HS;go_wp2_with (first
     | (refine aA (LH jb.out ⟨_,rfl,rfl⟩) ?_)
     | (refine aA (Rt wr.heap.size (by simp) ⟨_,rfl,rfl⟩) ?_)
     | (refine Ir rfl ⟨_,_,rfl,rfl,rfl⟩ (jh.below HR.out (al1 _ _)) (Rg.Own.new _ _ _) (h:=(some ⟨b',off',none⟩,h1,h2)) (x:=(p,v)) (BsP.kept HAp.out (by simp) (λb _ hlt=>(al1 _ _).block b hlt)) ?d1 ?d2 ?_))
    case d1=>omega
    case d2=>simp; omega
    intro v7 w7 fc gt;have bc:Hid (Below w.heap.size w w7):=hid (su (jh.below HR.out (al1 _ _)) (HB.out.trans ((al1 _ _).mono oA)) (by simp; omega) gt);have cM:=hid fc;clear fc gt;go_wp2;go_roundw
    case rel=>exact ⟨j+1,by omega,by go_num,hid (by rw [cC.out]; exact cM.out),bc⟩
    case measure=>simp [intOf]; omega
   .have cC:Hid (bJ (l.take (j+1)) d=W):=hid (by rw [HS.out,if_neg he,List.append_nil]);have hd:decide ((u:Int)=(D:Int))=false:=decide_eq_false (by omega);have hbq:((u:Int)==(D:Int))=false:=by simp; omega
    clear he HS;go_wp2_with fail
    go_roundw
    case rel=>exact ⟨j+1,by omega,by go_num,hid (by rw [cC.out]; exact HR.out),HB⟩
    case measure=>simp [intOf]; omega
  .obtain rfl:j=n:=by omega
   have HR':=HR.out;rw [List.take_of_length_le (by rw [HL.out]; exact aG)] at HR';obtain ⟨a',n',c',rfl,hd⟩:=HR'.done;have HD:=hid hd;clear HR' hd HR;go_wp2;go_ret;exact ⟨_,_,_,rfl,HD.out,HB.out⟩
theorem JH:∀ {l:List Tr.In} {k:Nat},1<=k->k<l.length->bE (l.take (k+1))=min (bE (l.take k)) (cp (l.getD 0 ([],eB)).1 (l.getD k ([],eB)).1)
 | [],_,_,h=>absurd h (Nat.not_lt_zero _)
 | _::_,0,h,_=>absurd h (by omega)
 | x::r,k+1,_,h=>by
  have hk:k<r.length:=by simpa using h
  rw [List.take_succ_cons,List.take_succ_cons,List.take_succ_eq_append_getElem hk];have e:(x::r).getD (k+1) ([],eB)=r[k]:=by simp [List.getD,hk]
  rw [e];show List.foldl _ _ (r.take k++[r[k]])=_;rw [List.foldl_append];rfl
theorem rE (l:List Tr.In) (a:aK) (n c:Nat) (hm:∀ x∈l,x.1.length<=1000000) (h1:1<=n) (w:World) (h:iq w a n c l) (hn:n<=1000000) :
  Calls prog 78 #[.slice a n c] w λe w'=>e = .returned (.int .i64 (bE l:Nat))/\Below w.heap.size w w':=by
 have HH:=hid h;have HL:=hid h.len;have HM:=hid hm;have hcap:=h.1;have hmx:=h.2.1;unfold maxLen at hmx;obtain ⟨b,off,hd0,rfl,hblt,n0,n9⟩:=h.at' 0 (by omega);have HF:Hid (bE (l.take 1)=(l.getD 0 ([],eB)).1.length):=hid (by
  match l,h.len,h1 with
  | [],e,h1=>simp at e; omega
  | x::r,_,_=>rfl)
 have ri:=HM.out _ (Ro (l:=l) (j:=0) (by rw [HL.out]; omega)).1;obtain ⟨x0,hx0⟩:=ay (l.getD 0 ([],eB))
 rw [hx0] at n0 n9 HF ri;have HX0:=hid hx0;obtain ⟨p,v0⟩:=x0;obtain ⟨g0,g1,g2⟩:=hd0;dsimp only at n9 HF ri;rw [n9.len] at HF ri;have E6:=ri;simp only [Nat.zero_mul,Nat.add_zero] at n0;have hc0:=n0.1;dsimp only at hc0;have HI0:=hid n0;have HG:=hid n9;have hn0:(0:Int)<n:=by omega
 have li:0<n:=h1;clear h hm hx0 n0 n9 ri;go_enter func78,ntmps78;go_wp2_with fail
 go_loopw [3,4] (λv i wr=>∃ j:Nat,1<=j/\j<=n/\i = .int .i64 j/\v = .int .i64 (bE (l.take j):Nat)/\Hid (Below w.heap.size w wr)) (λ_ i _=>n-(intOf i).toNat)
 case atStart=>exact ⟨1,aG,h1,rfl,by rw [HF.out],hid aH⟩
 case round =>
  obtain ⟨j,hj1,hj,rfl,rfl,HB⟩:=hrel;have oA:=HB.out.size;by_cases hlt:j<n
  .obtain ⟨b',off',hd,hbe,s6,hin,hbs⟩:=HH.out.at' j hlt;cases hbe;have hji:(j:Int)<n:=by omega
   have hjl:j<l.length:=by rw [HL.out]; exact hlt
   have HS:=hid (JH hj1 hjl);have Fi:=HM.out _ (Ro hjl).1;rw [HX0.out] at HS;obtain ⟨x,hx⟩:=ay (l.getD j ([],eB))
   rw [hx] at HS hin hbs Fi;obtain ⟨q,v⟩:=x;obtain ⟨h0,h1,h2⟩:=hd;dsimp only at hbs Fi HS;rw [hbs.len] at Fi;obtain ⟨Kn,hK⟩:=ay (bE (l.take j))
   obtain ⟨C,hC⟩:=ay (cp p q)
   rw [hK,hC] at HS;rw [hK];have HC:=hid hC;have hmin:((min Kn C:Nat):Int)=if (Kn:Int)<(C:Int) then (Kn:Int) else (C:Int):=by split <;> omega
   have jb:=hid hin;have u4:=hid hbs;clear hx hin hbs hK hC;go_wp2_with fail
   refine aC (S:=λw'=>Below w.heap.size w w') (below_drewN HB.out 1) λhld=>?_;refine ah 0 ?_;try simp only [Act.put,ak]
   refine ah 1 ?_;try simp only [Act.put,ak]
   refine ah 2 ?_ (hy:=by intro wz hSw; have q0:=hn0; have q1:=li; (try dsimp only at hSw); go_simp <;> with_reducible rfl);try simp only [Act.put,ak]
   refine ah 3 ?_;try simp only [Act.put,ak]
   refine aD 4 (λwz hSw=>aW hSw HI0.out.1) ?_;try simp only [Act.put,ak]
   refine ah 5 ?_;try simp only [Act.put,ak]
   refine ah 6 ?_;try simp only [Act.put,ak]
   refine ah 7 ?_ (hy:=by intro wz hSw; have q0:=hji; have q1:=hlt; (try dsimp only at hSw); go_simp <;> with_reducible rfl);try simp only [Act.put,ak]
   refine ah 8 ?_;try simp only [Act.put,ak]
   refine aD 9 (λwz hSw=>aW hSw jb.out.1) ?_;try simp only [Act.put,ak]
   refine aj 10 λK hK=>?_;go_simp;go_at_call 55
   (with_reducible refine (Ni.yT g0 h0 g1 h1 g2 h2 p q E6 Fi _ (HG.out.below hld) (u4.out.below hld)).mono ?_)
   rintro e w5 ⟨rfl,q5,rfl⟩;rw [um,HC.out];have ae:Hid (Below w.heap.size w (wr.drewN (1+q5))):=hid (below_drewN HB.out (1+q5));refine hK.out _ _ ?_ (λhld=>?_)
   .first | exact ae.out | exact below_drewN (below_drewN HB.out 1) q5
   clear hK K;try simp only [Act.put,ak]
   refine aj 11 λK hK=>?_;go_simp;go_at_call 122
   (with_reducible refine (Lh.oU (Kn:Int) (C:Int) _).mono ?_)
   rintro e w6 ⟨rfl,rfl⟩;refine hK.out _ _ ?_ (λhld=>?_)
   .first | exact ae.out | exact below_drewN (below_drewN HB.out 1) q5
   clear hK K;try simp only [Act.put,ak]
   refine ah 12 ?_;try simp only [Act.put,ak]
   refine aB ?_;go_wp2;go_roundw
   case rel=>exact ⟨j+1,by omega,by omega,by go_num,by rw [HS.out]; congr 1; split <;> omega,ae⟩
   case measure=>simp [intOf]; omega
  .obtain rfl:j=n:=by omega
   rw [List.take_of_length_le (by rw [HL.out]; exact aG)];go_wp2;go_ret;exact ⟨rfl,HB.out⟩
open No
theorem Eb (k:aM) (hk:k.length=32) (w:World) :
  Calls prog 13 #[.agg (kc k)] w (KO w (cZ k)):=by
 obtain ⟨i0,hi,hz0,hz1,hz2⟩:=info_parts Cc.kX;have HI:Hid (_/\_/\_/\_):=hid ⟨hi,hz0,hz1,hz2⟩;have hcell:∀ q,q<32->(w.alloc (.cells (kc k) 24)).cell? ⟨w.heap.size,q,none⟩=some (.int .u8 (k.getD q 0).toNat):=λq hq=>by
  rw [World.cell?_alloc_mark];simp [kc,List.getD,hk,hq]
 have HC:=hid hcell;have UT:=hid (λj hj V hV=>Xb k hk j hj V hV);have HPL:=hid (jd k hk);obtain ⟨C,hC⟩:=ay (kc k)
 rw [hC] at HC ⊢;clear hcell hi hz0 hz1 hz2 hC hk;go_enter func13,ntmps13;go_wp2;go_loopw [3,4] (λv i wr=>∃ j:Nat,j<=64/\i = .int .i64 j/\Hid (wr.ownsRow (w.heap.size+1) 5 1 v j (pc k j))/\Below (w.heap.size+1) (w.alloc (.cells C 24)) wr) (λ_ i _=>64-(intOf i).toNat)
 case atStart=>exact ⟨0,Nat.zero_le _,rfl,hid (World.ownsRow_nil _ _ _ _),aH⟩
 case round =>
  obtain ⟨j,hj,rfl,HO,hB⟩:=hrel;by_cases hlt:j<64
  .have hc0:=HC.out (j/2) (by omega);have hc:∀ o:Obj,wr.cell? ⟨w.heap.size,j/2,none⟩=some (.int .u8 (k.getD (j/2) 0).toNat):=λ_=>by
    rw [hB.cell (p:=⟨w.heap.size,j/2,none⟩) (by simp)]; exact hc0
   have hc:=hc (.cells #[] 0);have hx:=UInt8.toNat_lt (k.getD (j/2) 0);have hsz:w.heap.size+1<=wr.heap.size:=by have:=hB.size; simp at this; omega
   by_cases hp:j%2=0
   .have HV:=hid (SA k j hp);obtain ⟨x,hxe⟩:=ay ((k.getD (j/2) 0).toNat)
    rw [hxe] at hc hx HV;have HS:=hid (UT.out j hlt ((x:Int)/16%16) (by rw [HV.out]; omega));have hp2:((j:Int)%2==0)=true:=by simp; omega
    clear hc0 hxe hp;go_wp2_with (at_builtin; refine wpList_append_own _ rfl _ _ 40 rfl (w.heap.size+1) 5 i0 (.int .u8 0) 1 1 underlying40 HI.out.1 HI.out.2.1 HI.out.2.2.1 HI.out.2.2.2 rfl (by decide) _ _ _ rfl (HO.out.alloc _) ⟨wr.heap.size,0,none⟩ 1 1 [.int .u8 ((x:Int)/16%16)] rfl rfl ?c1 ?c2 ?c3 ?c4 ?c5 ?_)
    case c1=>exact Bu.cell_one_new' _ _ _ _
    case c2=>intro u hu; simp at hu; subst hu; rfl
    case c3=>unfold maxLen; omega
    case c4=>omega
    case c5=>simp; omega
    intro v' w2 hown2 hgrow _;have hlt':=HO.out.lt;go_wp2;go_roundw
    case rel=>exact ⟨j+1,by omega,by go_num,hid (by rw [HS.out]; exact hown2),(hB.alloc hsz _).grown hgrow (by simp; omega) (λg hg=>(hlt' g hg).1)⟩
    case measure=>simp [intOf]; omega
   .have HV:=hid (WT k j hp);obtain ⟨x,hxe⟩:=ay ((k.getD (j/2) 0).toNat)
    rw [hxe] at hc hx HV;have HS:=hid (UT.out j hlt ((x:Int)%16) (by rw [HV.out]; omega));have hp2:((j:Int)%2==0)=false:=by simp; omega
    clear hc0 hxe hp;go_wp2_with (at_builtin; refine wpList_append_own _ rfl _ _ 40 rfl (w.heap.size+1) 5 i0 (.int .u8 0) 1 1 underlying40 HI.out.1 HI.out.2.1 HI.out.2.2.1 HI.out.2.2.2 rfl (by decide) _ _ _ rfl (HO.out.alloc _) ⟨wr.heap.size,0,none⟩ 1 1 [.int .u8 ((x:Int)%16)] rfl rfl ?d1 ?d2 ?d3 ?d4 ?d5 ?_)
    case d1=>exact Bu.cell_one_new' _ _ _ _
    case d2=>intro u hu; simp at hu; subst hu; rfl
    case d3=>unfold maxLen; omega
    case d4=>omega
    case d5=>simp; omega
    intro v' w2 hown2 hgrow _;have hlt':=HO.out.lt;go_wp2;go_roundw
    case rel=>exact ⟨j+1,by omega,by go_num,hid (by rw [HS.out]; exact hown2),(hB.alloc hsz _).grown hgrow (by simp; omega) (λg hg=>(hlt' g hg).1)⟩
    case measure=>simp [intOf]; omega
  .obtain rfl:j=64:=by omega
   have hO:=HO.out;have e:pc k 64=(cZ k).map λx=>Value.int .u8 x.toNat:=by
    unfold pc; rw [List.take_of_length_le (by rw [HPL.out]; exact aG)]
   rw [e] at hO;obtain ⟨a,cap,rfl,hb⟩:=UL hO;have HB:=hid hb;have ef:Hid (Below w.heap.size w wr):=hid (((Below.refl w.heap.size w).alloc aG _).trans (hB.mono (by omega)));clear hO e hb;go_wp2;go_ret;exact ⟨a,_,cap,rfl,HB.out.weak (by omega),ef.out⟩
theorem XH (l:List Tr.Pair) (a:aK) (n c:Nat) (w:World) (h:nu w a n c l) (hn:n<=1000000) :
  Calls prog 7 #[.slice a n c] w λe w'=>∃ v,e = .returned v/\jh w.heap.size w' v (lG l)/\Below w.heap.size w w':=by
 have HH:=hid h;have HL:=hid h.len;have hcap:=h.1;have hmx:=h.2.1;unfold maxLen at hmx;clear h;go_enter func7,ntmps7;go_wp2_with fail
 go_loopw [3,4] (λv i wr=>∃ (j:Nat) (O:List Tr.In),j<=n/\i = .int .i64 j/\Hid (jh w.heap.size wr v O)/\Hid (lG l=O++lG (l.drop j))/\O.length<=j/\Hid (Below w.heap.size w wr)) (λ_ i _=>n-(intOf i).toNat)
 case atStart=>exact ⟨0,[],Nat.zero_le _,rfl,hid (jh.nil _ _),hid rfl,aG,hid aH⟩
 case round =>
  obtain ⟨wo,hwo⟩:=au wr
  subst hwo;obtain ⟨j,O,hj,rfl,HR,HI,hO,HB⟩:=hrel;by_cases hlt:j<n
  .obtain ⟨b,off,rfl,hblt,N1,hkj⟩:=HH.out.at' j hlt;have hji:(j:Int)<n:=by omega
   have N3:Hid (l.drop j=l.getD j ([],eB)::l.drop (j+1)):=hid (drop_at (by rw [HL.out]; exact hlt));obtain ⟨x,hx⟩:=ay (l.getD j ([],eB))
   rw [hx] at N1 hkj N3;have N5:=hid N1;have CL:=hid hkj;obtain ⟨T,hT⟩:∃ T,(l.drop (j+1)).any (λy=>decide (y.1=x.1))=T:=⟨_,rfl⟩
   have HT:=hid hT;clear hx N1 hkj hT;go_wp2_with fail
   go_loopw [5,6] (λf i wi=>∃ (k:Nat) (f':Bool),j+1<=k/\k<=n/\i = .int .i64 k/\f = .bool f'/\Hid ((f' && !((l.drop k).any (λy=>decide (y.1=x.1)))) = !T)/\Hid (Below wo.heap.size wo wi)) (λ_ i _=>n-(intOf i).toNat)
   case atStart=>exact ⟨j+1,true,aG,by omega,by go_num,rfl,hid (by rw [HT.out,Bool.true_and]),hid aH⟩
   case round =>
    obtain ⟨wi,hwi⟩:=au wr
    subst hwi;obtain ⟨k,f',hjk,hk,rfl,rfl,HF,Fk⟩:=hrel;have wA:Hid (Below w.heap.size w wi):=hid (HB.out.trans (Fk.out.mono HB.out.size));by_cases cI:k<n
    .obtain ⟨b',off',hbe,s6,hpk,hkk⟩:=HH.out.at' k cI;cases hbe;have hki:(k:Int)<n:=by omega
     have UV:Hid (l.drop k=l.getD k ([],eB)::l.drop (k+1)):=hid (drop_at (by rw [HL.out]; exact cI));obtain ⟨y,hy⟩:=ay (l.getD k ([],eB))
     rw [hy] at hpk hkk UV;have eW:=hid hpk;have qv:=hid hkk;clear hy hpk hkk;cases f'
     .have G8:Hid ((false && !((l.drop (k+1)).any (λy=>decide (y.1=x.1)))) = !T):=hid (by rw [<-HF.out]; rfl);clear HF;go_wp2_with fail
      refine aC (S:=λw'=>Below w.heap.size w w') (below_drewN wA.out 1) λhld=>?_;refine ah 0 ?_;try simp only [Act.put,ak]
      refine ah 1 ?_;try simp only [Act.put,ak]
      refine Rg.takeL (i:=2) (v:=undef) rfl (by kernel_rfl) (by kernel_rfl) (by kernel_rfl) (λ_ _ _ h=>h) (Or.inr ⟨by rfl,rfl⟩) (by assumption) ?_;try simp only [Act.put,ak]
      refine Rg.takeL (i:=3) (v:=undef) rfl (by kernel_rfl) (by kernel_rfl) (by kernel_rfl) (λ_ _ _ h=>h) (Or.inr ⟨by rfl,rfl⟩) (by assumption) ?_;try simp only [Act.put,ak]
      refine Rg.takeL (i:=4) (v:=undef) rfl (by kernel_rfl) (by kernel_rfl) (by kernel_rfl) (λ_ _ _ h=>h) (Or.inr ⟨by rfl,rfl⟩) (by assumption) ?_;try simp only [Act.put,ak]
      refine Rg.takeL (i:=5) (v:=undef) rfl (by kernel_rfl) (by kernel_rfl) (by kernel_rfl) (λ_ _ _ h=>h) (Or.inr ⟨by rfl,rfl⟩) (by assumption) ?_;try simp only [Act.put,ak]
      refine Rg.takeL (i:=6) (v:=undef) rfl (by kernel_rfl) (by kernel_rfl) (by kernel_rfl) (λ_ _ _ h=>h) (Or.inr ⟨by rfl,rfl⟩) (by assumption) ?_;try simp only [Act.put,ak]
      refine Rg.takeL (i:=7) (v:=undef) rfl (by kernel_rfl) (by kernel_rfl) (by kernel_rfl) (λ_ _ _ h=>h) (Or.inr ⟨by rfl,rfl⟩) (by assumption) ?_;try simp only [Act.put,ak]
      refine Rg.takeL (i:=8) (v:=undef) rfl (by kernel_rfl) (by kernel_rfl) (by kernel_rfl) (λ_ _ _ h=>h) (Or.inr ⟨by rfl,rfl⟩) (by assumption) ?_;try simp only [Act.put,ak]
      refine Rg.takeL (i:=9) (v:=undef) rfl (by kernel_rfl) (by kernel_rfl) (by kernel_rfl) (λ_ _ _ h=>h) (Or.inr ⟨by rfl,rfl⟩) (by assumption) ?_;try simp only [Act.put,ak]
      refine Rg.takeL (i:=10) (v:=undef) rfl (by kernel_rfl) (by kernel_rfl) (by kernel_rfl) (λ_ _ _ h=>h) (Or.inr ⟨by rfl,rfl⟩) (by assumption) ?_;try simp only [Act.put,ak]
      refine Rg.takeL (i:=11) (v:=undef) rfl (by kernel_rfl) (by kernel_rfl) (by kernel_rfl) (λ_ _ _ h=>h) (Or.inr ⟨by rfl,rfl⟩) (by assumption) ?_;try simp only [Act.put,ak]
      refine Rg.takeL (i:=12) (v:=undef) rfl (by kernel_rfl) (by kernel_rfl) (by kernel_rfl) (λ_ _ _ h=>h) (Or.inr ⟨by rfl,rfl⟩) (by assumption) ?_;try simp only [Act.put,ak]
      refine ah 13 ?_;try simp only [Act.put,ak]
      refine ah 14 ?_;try simp only [Act.put,ak]
      refine aB ?_;go_wp2;go_roundw
      case rel=>exact ⟨k+1,_,by omega,by omega,by go_num,rfl,G8,hid (Fk.out.trans (below_drewN aH 1))⟩
      case measure=>simp [intOf]; omega
     .go_wp2_with fail
      refine aC (S:=λw'=>Below w.heap.size w w') (below_drewN wA.out 1) λhld=>?_;refine ah 0 ?_;try simp only [Act.put,ak]
      refine ah 1 ?_;try simp only [Act.put,ak]
      refine ah 2 ?_;try simp only [Act.put,ak]
      refine ah 3 ?_;try simp only [Act.put,ak]
      refine ah 4 ?_ (hy:=by intro wz hSw; have q0:=hki; have q1:=cI; have q2:=hji; have q3:=hlt; (try dsimp only at hSw); go_simp <;> with_reducible rfl);try simp only [Act.put,ak]
      refine ah 5 ?_;try simp only [Act.put,ak]
      refine ah 6 ?_ (hy:=by intro wz hSw; (refine fF qv.out (dA.below eW.out hSw).key ?_; exact ⟨_,rfl,rfl⟩));try simp only [Act.put,ak]
      refine ah 7 ?_;try simp only [Act.put,ak]
      refine ah 8 ?_;try simp only [Act.put,ak]
      refine ah 9 ?_ (hy:=by intro wz hSw; have q0:=hki; have q1:=cI; have q2:=hji; have q3:=hlt; (try dsimp only at hSw); go_simp <;> with_reducible rfl);try simp only [Act.put,ak]
      refine ah 10 ?_;try simp only [Act.put,ak]
      refine ah 11 ?_ (hy:=by intro wz hSw; (refine fF CL.out (dA.below N5.out hSw).key ?_; exact ⟨_,rfl,rfl⟩));try simp only [Act.put,ak]
      refine ah 12 ?_ (hy:=by intro wz hSw; (refine Ib qv.out CL.out ?_; exact ⟨_,_,_,rfl,rfl,rfl⟩));try simp only [Act.put,ak]
      refine ah 13 ?_;try simp only [Act.put,ak]
      refine ah 14 ?_;try simp only [Act.put,ak]
      refine aB ?_;go_wp2;go_roundw
      case rel=>exact ⟨k+1,_,by omega,by omega,by go_num,rfl,hid (by rw [<-HF.out,UV.out,List.any_cons,Bool.true_and]; cases decide (y.1=x.1) <;> rfl),hid (Fk.out.trans (below_drewN aH 1))⟩
      case measure=>simp [intOf]; omega
    .obtain rfl:k=n:=by omega
     have hT':f' = !T:=by
      have:=HF.out;rw [List.drop_of_length_le (by rw [HL.out]; exact aG)] at this;simpa using this
     subst hT';have pS:Hid (jh w.heap.size wi u3 O):=hid (HR.out.below Fk.out);clear HF;cases T
     .go_wp2_with fail
      refine aC (S:=λw'=>Below w.heap.size w w') (below_drewN wA.out 1) λhld=>?_;refine ah 0 ?_;try simp only [Act.put,ak]
      refine ah 1 ?_;try simp only [Act.put,ak]
      refine ah 2 ?_;try simp only [Act.put,ak]
      refine ah 3 ?_ (hy:=by intro wz hSw; have q2:=hji; have q3:=hlt; (try dsimp only at hSw); go_simp <;> with_reducible rfl);try simp only [Act.put,ak]
      refine ah 4 ?_;try simp only [Act.put,ak]
      refine ah 5 ?_ (hy:=by intro wz hSw; (refine fF CL.out (dA.below N5.out hSw).key ?_; exact ⟨_,rfl,rfl⟩));try simp only [Act.put,ak]
      refine ah 7 ?_;try simp only [Act.put,ak]
      refine ah 8 ?_;try simp only [Act.put,ak]
      refine ah 9 ?_ (hy:=by intro wz hSw; have q2:=hji; have q3:=hlt; (try dsimp only at hSw); go_simp <;> with_reducible rfl);try simp only [Act.put,ak]
      refine ah 10 ?_;try simp only [Act.put,ak]
      refine aD 11 (λwz hSw=>(dA.below N5.out hSw).val CL.out) ?_;try simp only [Act.put,ak]
      refine aj 6 λK hK=>?_;go_simp;go_at_call 13
      (with_reducible refine (Eb x.1 CL.out _).mono ?_)
      rintro e w5 ⟨pa,pn,pc,rfl,hpb,hb5⟩;have ae:Hid (Below wi.heap.size wi w5):=hid (bst (show Below wi.heap.size wi wi.drew from below_drewN aH 1) hb5);have vh:=hid hpb;clear hpb hb5;refine hK.out _ _ (wA.out.trans (ae.out.mono wA.out.size)) λhld=>?_;clear hK K;try simp only [Act.put,ak]
      refine ah 12 ?_;try simp only [Act.put,ak]
      refine aj 13 λK hK=>?_;refine zl (x:=(cZ x.1,x.2)) (h:=(pa,pn,pc)) (by rfl) ⟨_,rfl,rfl⟩ ?_;intro w6 b6 hbe hN hb6;have HN:=hid hN;have ap:Hid (Below w5.heap.size w5 w6):=hid hb6;clear hN hb6 hbe;refine hK.out _ _ (Below.trans hld (ap.out.mono (Below.size hld))) λhld=>?_;clear hK K;try simp only [Act.put,ak]
      refine aj 14 λK hK=>?_;refine wH (by rfl) ⟨_,_,rfl,rfl,rfl⟩ (jh.below (jh.below pS.out ae.out) ap.out) HN.out (h:=(pa,pn,pc)) (x:=(cZ x.1,x.2)) (BsP.kept (p:=λb=>u3.ownBlock≠some b) (w:=w5) ⟨vh.out.1,λad e _ he=>by have h1:=(pS.out.lt _ he).2; have h2:=vh.out.2 ad e; have h3:wi.heap.size<=ad.block:=h2; omega⟩ ap.out.size (λb _ hlt=>ap.out.block b hlt)) (by omega) (Below.size hld) ?_;intro v7 w7 fc gt;have bc:Hid (Below w.heap.size w w7):=hid (su (jh.below (jh.below pS.out ae.out) ap.out) hld (Below.size hld) gt)
      have cM:=hid fc;clear fc gt;refine hK.out _ _ (bc.out) λhld=>?_;clear hK K;try simp only [Act.put,ak]
      refine ah 15 ?_;try simp only [Act.put,ak]
      refine aB ?_;go_wp2;go_roundw
      case rel=>exact ⟨j+1,O++[(cZ x.1,x.2)],by omega,by go_num,cM,hid (by rw [HI.out,N3.out,lG,if_neg (by rw [HT.out]; exact Bool.false_ne_true),List.append_assoc]; rfl),by rw [List.length_append,List.length_singleton]; omega,bc⟩
      case measure=>simp [intOf]; omega
     .go_wp2_with fail
      go_roundw
      case rel=>exact ⟨j+1,O,by omega,by go_num,pS,hid (by rw [HI.out,N3.out,lG,if_pos HT.out]),by omega,wA⟩
      case measure=>simp [intOf]; omega
  .obtain rfl:j=n:=by omega
   have HR':=HR.out;have hi:=HI.out;rw [List.drop_of_length_le (by rw [HL.out]; exact aG)] at hi;have hi':lG l=O:=by rw [hi]; exact List.append_nil _
   obtain ⟨a',n',c',rfl,hd⟩:=HR'.done;have HD:=hid HR';have HE:=hid hi';clear HR' hd HR hi hi' HI;go_wp2;go_ret;exact ⟨_,rfl,by rw [HE.out]; exact HD.out,HB.out⟩
end Tm
end
section
open Go.RowKit
namespace Tm
open Tr Ni Pk Sm
def sz:T->Nat
 | .nil=>0
 | .leaf _ _=>1
 | .ext _ t=>sz t+1
 | .br ks=>((List.finRange 16).map λi=>sz (ks i)).sum+1
 | .stub _=>1
theorem MR:∀ (l:List Nat) (x:Nat),x∈l->x<=l.sum
 | [],_,h=>by cases h
 | y::l,x,h=>by
  rw [List.sum_cons];rcases List.mem_cons.1 h with rfl | h
  .omega
  .have:=MR l x h;omega
theorem YQ (ks:Fin 16->T) (i:Fin 16):sz (ks i)<sz (.br ks):=by
 have h:=MR ((List.finRange 16).map λi=>sz (ks i)) (sz (ks i)) (List.mem_map.2 ⟨i,List.mem_finRange i,rfl⟩);show _<_+1;omega
def FT (w:World) (b:Nat):Prop:=(∀ j v,w.cell? ⟨b,j,none⟩=some v->(∀ x,v ≠ .int .u8 x)/\∀ p,v ≠ .pointer p)/\w.cell? ⟨b,8,none⟩=none
structure dS (M:Mp) (n:Nat) (w:World):Prop where
 lt_:∀ k,M.ft k->k<w.heap.size
 part_:∀ b t,M.at_ b=some t->t ≠ .nil/\M.ft b/\FT w b/\(sz t<n->ru M w b t)
structure FrN (M:Mp) (n:Nat) (w w':World):Prop where
 os:w'.os=w.os
 tape:w'.tape=w.tape
 output:w'.output=w.output
 size:w.heap.size<=w'.heap.size
 block:∀ k,k<w.heap.size->(M.at_ k=none\/∃ t,M.at_ k=some t/\n<=sz t)->w'.heap[k]? = w.heap[k]?
theorem Ed {b:Nat} {t:T} {ka:aK} {kn kc:Nat} (h:w.heap[b]? = some (.cells (iL t a n c ka kn kc d r) 135 (0,0))):FT w b:=by
 refine ⟨λj v hc=>Fa (qw h hc),?_⟩;rw [World.cell?,h];rfl
theorem Inv.toN {M:Mp} (h:Inv M w) (n:Nat):dS M n w:=⟨h.lt_,λb t hm=>by
 obtain ⟨h1,h2,h3⟩:=h.part_ b t hm;obtain ⟨a,n,c,ka,kn,kc,d,r,hb,hr⟩:=h3;exact ⟨h1,h2,Ed hb,λ_=>⟨a,n,c,ka,kn,kc,d,r,hb,hr⟩⟩⟩
theorem dS.mono {M:Mp} (h:dS M n w) (hm:m<=n):dS M m w:=⟨h.lt_,λb t e=>by
 obtain ⟨h1,h2,h3,h4⟩:=h.part_ b t e;exact ⟨h1,h2,h3,λhl=>h4 (by omega)⟩⟩
theorem dS.dH {M:Mp} {n:Nat} {w:World} (h:dS M n w) {b j:Nat} {x:Int} (hc:w.cell? ⟨b,j,none⟩=some (.int .u8 x)):M.at_ b=none:=by
 cases hm:M.at_ b with
 | none=>rfl
 | some t=>exact absurd rfl (((h.part_ b t hm).2.2.1.1 _ _ hc).1 x)
theorem dS.pW {M:Mp} {n:Nat} {w:World} (h:dS M n w) {b j:Nat} {p:aK} (hc:w.cell? ⟨b,j,none⟩=some (.pointer p)):M.at_ b=none:=by
 cases hm:M.at_ b with
 | none=>rfl
 | some t=>exact absurd rfl (((h.part_ b t hm).2.2.1.1 _ _ hc).2 p)
theorem FrN.below (M:Mp) (n:Nat) (h:Below w.heap.size w w'):FrN M n w w':=⟨h.os,h.tape,h.output,h.size,λk hk _=>h.block k hk⟩
theorem FrN.trans {M:Mp} {n:Nat} {w w1 w2:World} (h:FrN M n w w1) (g:FrN M n w1 w2):FrN M n w w2:=⟨g.os.trans h.os,g.tape.trans h.tape,g.output.trans h.output,Nat.le_trans h.size g.size,λk hk hc=>(g.block k (aI hk h.size) hc).trans (h.block k hk hc)⟩
theorem FrN.mono {M:Mp} (h:FrN M n w w') (hm:n<=m):FrN M m w w':=⟨h.os,h.tape,h.output,h.size,λk hk hc=>h.block k hk (hc.imp id (λ⟨t,e,hl⟩=>⟨t,e,by omega⟩))⟩
theorem FrN.cell {M:Mp} (h:FrN M n w w') {b o:Nat} (hc:w.cell? ⟨b,o,none⟩=some v) (hb:M.at_ b=none\/∃ t,M.at_ b=some t/\n<=sz t):w'.cell? ⟨b,o,none⟩=some v:=by
 rw [<-hc];exact World.cell?_of_block (w:=w) (h.block b (World.block_lt_of_cell? w _ hc) hb)
theorem FrN.upd {M:Mp} {w1:World} (h:FrN M n w w1) (hu:Rg.Upd w1 g w') (hg:w.heap.size<=g):FrN M n w w':=⟨hu.os.trans h.os,hu.tape.trans h.tape,hu.output.trans h.output,by rw [hu.size]; exact h.size,λk hk hc=>(hu.block k (by omega)).trans (h.block k hk hc)⟩
theorem FrN.fr {M:Mp} (h:FrN M n w w'):Fr M M w w':=⟨h.os,h.tape,h.output,h.size,λk hk hm=>h.block k hk (Or.inl hm),λ_ _ h=>h,λ_ _ h=>h,λ_ h=>h,λ_ h=>Or.inl h⟩
theorem ru.keep {M:Mp} {b:Nat} {t:T} (h:ru M w b t) (hs:w.heap.size<=w'.heap.size) (hb:w'.heap[b]? = w.heap[b]?)
  (hk:∀ k j v,k<w.heap.size->w.cell? ⟨k,j,none⟩=some v->((∃ x,v = .int .u8 x)\/∃ p,v = .pointer p)->w'.heap[k]? = w.heap[k]?):ru M w' b t:=by
 obtain ⟨a,n,c,ka,kn,kc,d,r,h1,hB,hK,hd⟩:=h;refine ⟨a,n,c,ka,kn,kc,d,r,hb.trans h1,⟨⟨hB.1.1,hB.1.2.1,hB.1.2.2.1,hB.1.2.2.2.1,λj hj=>?_⟩,hB.2⟩,⟨hK.1,hK.2.1,hK.2.2.1,hK.2.2.2.1,λj hj=>?_⟩,hd⟩
 .obtain ⟨b',off,e,hlt,hc⟩:=hB.1.2.2.2.2 j hj;exact ⟨b',off,e,aI hlt hs,by rw [World.cell?_of_block (hk b' _ _ hlt hc (Or.inl ⟨_,rfl⟩))]; exact hc⟩
 .obtain ⟨b',off,p,e,hlt,hf,hc,ht⟩:=hK.at' j hj;exact ⟨b',off,p,e,aI hlt hs,hf,by rw [World.cell?_of_block (hk b' _ _ hlt hc (Or.inr ⟨_,rfl⟩))]; exact hc,ht⟩
theorem FT.keep {b:Nat} (h:FT w b) (hb:w'.heap[b]? = w.heap[b]?):FT w' b:=by
 have hc:∀ j,w'.cell? ⟨b,j,none⟩=w.cell? ⟨b,j,none⟩:=λj=>World.cell?_of_block hb;exact ⟨λj v h1=>h.1 j v (by rw [<-hc j]; exact h1),by rw [hc 8]; exact h.2⟩
theorem dS.after {M:Mp} (h:dS M n w) (f:FrN M m w w') (g:dS M m w'):dS M n w':=by
 refine ⟨λk hk=>aI (h.lt_ k hk) f.size,λb t hm=>?_⟩;obtain ⟨h1,h2,h3,h4⟩:=h.part_ b t hm;obtain ⟨_,_,g3,g4⟩:=g.part_ b t hm;refine ⟨h1,h2,g3,λhl=>?_⟩;by_cases e:sz t<m
 .exact g4 e
 .refine (h4 hl).keep f.size (f.block b (h.lt_ b h2) (Or.inr ⟨t,hm,by omega⟩)) (λk j v hlt hc hv=>f.block k hlt (Or.inl ?_));rcases hv with ⟨x,rfl⟩ | ⟨p,rfl⟩
  .exact h.dH hc
  .exact h.pW hc
theorem dS.below {M:Mp} (h:dS M n w) (hb:Below w.heap.size w w'):dS M n w':=by
 refine ⟨λk hk=>aI (h.lt_ k hk) hb.size,λb t hm=>?_⟩;obtain ⟨h1,h2,h3,h4⟩:=h.part_ b t hm;have hlt:=h.lt_ b h2;exact ⟨h1,h2,h3.keep (hb.block b hlt),λhl=>(h4 hl).keep hb.size (hb.block b hlt) (λk j v hk _ _=>hb.block k hk)⟩
theorem dS.upd {M:Mp} (h:dS M n w) (hu:Rg.Upd w g w') (hg:¬ M.ft g):dS M n w':=by
 refine ⟨λk hk=>by rw [hu.size]; exact h.lt_ k hk,λb t hm=>?_⟩;obtain ⟨h1,h2,h3,h4⟩:=h.part_ b t hm;have hne:∀ k,M.ft k->k≠g:=λk hk e=>hg (by rw [<-e]; exact hk);refine ⟨h1,h2,h3.keep (hu.block b (hne b h2)),λhl=>?_⟩;obtain ⟨a,n,c,ka,kn,kc,d,r,hb,hB,hK,hd⟩:=h4 hl;refine ⟨a,n,c,ka,kn,kc,d,r,(hu.block b (hne b h2)).trans hb,⟨⟨hB.1.1,hB.1.2.1,hB.1.2.2.1,hB.1.2.2.2.1,λj hj=>?_⟩,hB.2⟩,⟨hK.1,hK.2.1,hK.2.2.1,hK.2.2.2.1,λj hj=>?_⟩,hd⟩
 .obtain ⟨b',off,e,hlt,hc⟩:=hB.1.2.2.2.2 j hj;exact ⟨b',off,e,by rw [hu.size]; exact hlt,by rw [World.cell?_of_block (hu.block b' (hne b' (hB.2 _ e (by omega))))]; exact hc⟩
 .obtain ⟨b',off,p,e,hlt,hf,hc,ht⟩:=hK.at' j hj;exact ⟨b',off,p,e,by rw [hu.size]; exact hlt,hf,by rw [World.cell?_of_block (hu.block b' (hne b' hf))]; exact hc,ht⟩
theorem Ih {M:Mp} {n:Nat} {w:World} (h:dS M n w) (hT:Tab w):M.at_ 0=none:=by
 cases hm:M.at_ 0 with
 | none=>rfl
 | some t =>
  have h8:=(h.part_ 0 t hm).2.2.1.2;rw [hT 8 (by omega)] at h8;cases h8
theorem wJ {M:Mp} (h:dS M n w) (f:FrN M n w w') (hT:Tab w):Tab w':=λi hi=>f.cell (hT i hi) (Or.inl (Ih h hT))
theorem GN {M:Mp} {k:Nat} {l:aM} (hi:dS M n w) (h:aZ w a k c l) (f:FrN M n w w'):aZ w' a k c l:=by
 refine ⟨h.1,h.2.1,h.2.2.1,h.2.2.2.1,λj hj=>?_⟩;obtain ⟨b,off,e,hlt,hc⟩:=h.2.2.2.2 j hj;exact ⟨b,off,e,aI hlt f.size,f.cell hc (Or.inl (hi.dH hc))⟩
structure Body (M:Mp) (w:World) (b:Nat) (t:T) (a:aK) (n c:Nat) (ka:aK) (kn kc:Nat):Prop where
 c0:w.cell? ⟨b,0,none⟩=some (.int .i64 (dO t))
 c1:w.cell? ⟨b,1,none⟩=some (.slice a n c)
 c2:w.cell? ⟨b,2,none⟩=some (.string (ER t))
 c3:w.cell? ⟨b,3,none⟩=some (.slice ka kn kc)
 hb:aZ w a n c (bW t)
 hk:Ks M w ka kn kc (fU t)
theorem ru.body {M:Mp} {b:Nat} {t:T} (h:ru M w b t):∃ a n c ka kn kc,Body M w b t a n c ka kn kc:=by
 obtain ⟨a,n,c,ka,kn,kc,d,r,hb,hB,hK,_⟩:=h;obtain ⟨⟨c0,c1,c2,c3⟩,_⟩:=kH hb;exact ⟨a,n,c,ka,kn,kc,c0,c1,c2,c3,hB.1,hK⟩
theorem Ks.frN {M:Mp} {l:List T} (hi:dS M m w) (h:Ks M w a n c l) (f:FrN M m w w'):Ks M w' a n c l:=by
 refine ⟨h.1,h.2.1,h.2.2.1,h.2.2.2.1,λj hj=>?_⟩;obtain ⟨b,off,p,e,hlt,hm,hc,ht⟩:=h.at' j hj;exact ⟨b,off,p,e,aI hlt f.size,hm,f.cell hc (Or.inl (hi.pW hc)),ht⟩
theorem Body.frN {M:Mp} {m:Nat} {w w':World} {b:Nat} {t:T} {a:aK} {n c:Nat} {ka:aK} {kn kc:Nat} (h:Body M w b t a n c ka kn kc) (hi:dS M m w) (f:FrN M m w w') (hm:M.at_ b=some t) (hl:m<=sz t):Body M w' b t a n c ka kn kc :=
 have e:=Or.inr ⟨t,hm,hl⟩
 ⟨f.cell h.c0 e,f.cell h.c1 e,f.cell h.c2 e,f.cell h.c3 e,GN hi h.hb f,h.hk.frN hi f⟩
theorem Body.below {M:Mp} {w w':World} {b:Nat} {t:T} {a:aK} {n c:Nat} {ka:aK} {kn kc:Nat} (h:Body M w b t a n c ka kn kc) (hb:Below w.heap.size w w'):Body M w' b t a n c ka kn kc:=by
 refine ⟨aW hb h.c0,aW hb h.c1,aW hb h.c2,aW hb h.c3,h.hb.below hb,h.hk.1,h.hk.2.1,h.hk.2.2.1,h.hk.2.2.2.1,λj hj=>?_⟩;obtain ⟨b',off,p,e,hlt,hm,hc,ht⟩:=h.hk.at' j hj;exact ⟨b',off,p,e,aI hlt hb.size,hm,aW hb hc,ht⟩
theorem nZ (b:Nat) (k:Int) (w:World) (hc:w.cell? ⟨b,0,none⟩=some (.int .i64 k)) :
  Calls prog 67 #[.agg #[.pointer (some ⟨b,0,none⟩)]] w λe w'=>e = .returned (.int .i64 k)/\Below w.heap.size w w':=by
 have h0:=fG w (some ⟨b,0,none⟩);have HE:=hid (lQ (some ⟨b,0,none⟩) (w.alloc (.cells #[.pointer (some ⟨b,0,none⟩)] 35)));have hk:=MH (o':=.cells #[.pointer (some ⟨b,0,none⟩)] 35) hc;clear hc;go_enter func67,ntmps67;go_wp2_with fail
 refine HE.out.mono ?_;rintro e w2 ⟨rfl,hb⟩;have h1:=aW hb h0;have h2:=aW hb hk;clear h0 hk;go_wp2;go_ret;exact ⟨rfl,bst (al1 _ _) hb⟩
open Rf
open Rl
open No
def nQ (M:Mp) (t:T) (w:World) (e:Ending) (w':World):Prop:=∃ a n c,e = .returned (.agg (ndC (bC t) a n c))/\BsF w.heap.size w' a n c (bC t).p/\FrN M (sz t) w w'/\dS M (sz t) w'
def nD (t:T):Prop:=∀ (M:Mp) (w:World) (p:aK),dS M (sz t+1) w->IsT M p t->Tab w->Calls prog 74 #[.agg #[.pointer p]] w λe w'=>e = .returned (.string (ref t))/\FrN M (sz t+1) w w'/\dS M (sz t+1) w'
theorem Nb (N:Nd) (a:aK) (n c:Nat):∀ (j:Nat) (x:Int),(ndC N a n c)[j]? ≠ some (Value.int .u8 x):=λj x h=>by
 unfold ndC at h
 match j,h with
 | 0,h=>simp at h
 | 1,h=>simp at h
 | 2,h=>simp at h
 | j+3,h=>simp at h
theorem wV (w:World) (p:aK):∃ w2,w2=(w.alloc (.cells #[.pointer p] 35)).alloc (.cells (ndC nd0 none 0 0) 69)/\Rg.Own w2 w.heap.size #[.pointer p] 35/\dI w2 (w.heap.size+1) nd0 none 0 0/\Below w.heap.size w w2/\w2.heap.size=w.heap.size+2:=by
 refine ⟨_,rfl,(Rg.Own.new _ _ _).below (al1 _ _),?_,al2 _ _ _,by simp⟩;have:=Rg.Own.new (w.alloc (.cells #[.pointer p] 35)) (ndC nd0 none 0 0) 69;simpa using this
theorem Sn (M:Mp) (b:Nat) (q:Pa) (v:aL) (hm:M.at_ b=some (.leaf q v)) (w:World) (hi:dS M 1 w) (pa:aK) (pn pc:Nat) (ka:aK) (kn kc:Nat) (hB:Body M w b (.leaf q v) pa pn pc ka kn kc) (hq:q.length<=64) :
  Calls prog 39 #[.agg #[.pointer (some ⟨b,0,none⟩)]] w (nQ M (.leaf q v) w):=by
 obtain ⟨w2,hw2,am,af,hb2,hs2⟩:=wV w (some ⟨b,0,none⟩);have hB2:=hB.below hb2;have h0:=aV (j:=0) am rfl;have hlb:=hi.lt_ b (hi.part_ b _ hm).2.1;have hpn:q.length=pn:=hB.hb.len;have HK:=hid (nZ b 1 w2 hB2.c0);have CM:Hid (∀ w3,Below w2.heap.size w2 w3->(w3.cell? ⟨w.heap.size,0,none⟩=some (.pointer (some ⟨b,0,none⟩))/\w3.cell? ⟨b,1,none⟩=some (.slice pa pn pc)/\w3.cell? ⟨b,2,none⟩=some (.string v))/\
   (∀ wx,Below w3.heap.size w3 wx->Calls prog 72 #[.slice pa pn pc,.string v] wx (Jt wx ⟨1,q,v,zks⟩))/\
   (∀ w6,Below w3.heap.size w3 w6->∀ a6 n6 c6,BsF w3.heap.size w6 a6 n6 c6 q->dI w6 (w.heap.size+1) nd0 none 0 0/\∀ ag,Rg.Upd w6 (w.heap.size+1) ag->nQ M (.leaf q v) w (.returned (.agg (ndC ⟨1,q,v,zks⟩ a6 n6 c6))) ag)):=hid (λw3 hb3 =>
  ⟨⟨aW hb3 h0,aW hb3 hB2.c1,aW hb3 hB2.c2⟩,λwx hbx=>No.oI pa pn pc q (by omega) v wx (hB2.hb.below (bst hb3 hbx)),λw6 hb6 a6 n6 c6 hx=>by
   have cr:=af.below (bst hb3 hb6);have hbw:=bst hb2 (bst hb3 hb6);refine ⟨cr,λag hu=>⟨a6,n6,c6,rfl,⟨vI hx.1 (dH cr (Nb _ _ _ _)) hu,λad e=>Nat.le_trans (Nat.le_trans hb2.size hb3.size) (hx.2 ad e)⟩,(FrN.below M _ hbw).upd hu (by omega),(hi.below hbw).upd hu (λe=>by have:=hi.lt_ _ e; omega)⟩⟩⟩)
 have H0:=hid am;clear am af hb2 hs2 hB hB2 h0 hi hm hpn hq;subst hw2;go_enter func39,ntmps39;go_wp2_with (first | (refine aA (aY _ _ _ (w.heap.size+1) (by simp) rfl) ?_) | (refine aA (aU (aV (j:=0) H0.out rfl) ⟨_,rfl,rfl⟩) ?_))
 refine HK.out.mono ?_;rintro e w3 ⟨rfl,hb3⟩;obtain ⟨⟨d0,d1,d2⟩,HC,HF⟩:=CM.out w3 hb3;replace HC:=hid HC;replace HF:=hid HF;clear hb3 CM HK H0;go_wp2_with fail
 refine aC (S:=λw'=>Bo (w.heap.size+1) w3 w') (Bo.of (below_drewN aH 1)) λhld=>?_;refine ah 0 ?_;try simp only [Act.put,ak]
 refine aD 1 (λwz hSw=>gy hSw (by omega) d0) ?_;try simp only [Act.put,ak]
 refine ah 2 ?_;try simp only [Act.put,ak]
 refine ah 3 ?_;try simp only [Act.put,ak]
 refine aD 4 (λwz hSw=>gy hSw (by omega) d1) ?_;try simp only [Act.put,ak]
 refine ah 5 ?_;try simp only [Act.put,ak]
 refine aD 6 (λwz hSw=>gy hSw (by omega) d0) ?_;try simp only [Act.put,ak]
 refine ah 7 ?_;try simp only [Act.put,ak]
 refine ah 8 ?_;try simp only [Act.put,ak]
 refine aD 9 (λwz hSw=>gy hSw (by omega) d2) ?_;try simp only [Act.put,ak]
 refine aj 10 λK hK=>?_;go_simp;go_at_call 72
 (with_reducible refine (HC.out w3.drew (below_drewN aH 1)).mono ?_)
 intro e w6 hG;obtain ⟨a6,n6,c6,rfl,cA,mw,hb6⟩:=hG;have ua:=hid mw;have H6:=hid (HF.out w6 (bst (below_drewN aH 1) hb6) a6 n6 c6 cA);have CN:Below w3.heap.size w3 w6:=bst (below_drewN aH 1) hb6;have cf:=hid H6.out.1;clear mw hb6 cA;refine hK.out _ _ (Bo.of CN) λhld=>?_;clear hK K;try simp only [Act.put,ak]
 refine aj 11 λK hK=>?_;refine Rg.meetStore (by rfl) cf.out 69 (ndC ⟨1,q,v,zks⟩ a6 n6 c6) ⟨_,_,rfl,rfl,rfl⟩ (kU _ _ _ _ ua.out) (by rw [eF _ _ _ _ gq,eF _ _ _ _ ua.out]) (oV _ _ _ _) ?_;intro ag ai al;have bu:=hid ai;have g9:=hid (H6.out.2 ag al);clear ai;refine hK.out _ _ ((Bo.of CN).upd al) λhld=>?_;clear hK K;try simp only [Act.put,ak]
 refine aB ?_;go_wp2;exact bodyPost_ret (uX rfl _ rfl bu.out ua.out) rfl g9.out
theorem Wn (M:Mp) (b:Nat) (q:Pa) (s:T) (hm:M.at_ b=some (.ext q s)) (w:World) (hi:dS M (sz s+1) w) (pa:aK) (pn pc:Nat) (ka:aK) (kn kc:Nat) (hB:Body M w b (.ext q s) pa pn pc ka kn kc) (hq:q.length<=64) (hT:Tab w) (hR:nD s) :
  Calls prog 39 #[.agg #[.pointer (some ⟨b,0,none⟩)]] w (nQ M (.ext q s) w):=by
 obtain ⟨w2,hw2,am,af,hb2,hs2⟩:=wV w (some ⟨b,0,none⟩);have hB2:=hB.below hb2;have hi2:=hi.below hb2;have h0:=aV (j:=0) am rfl;have hlb:=hi.lt_ b (hi.part_ b _ hm).2.1;have hpn:q.length=pn:=hB.hb.len;obtain ⟨kb,ko,p0,rfl,cI,gm,hk0,hT0⟩:=hB2.hk.at' 0 (by rw [<-hB2.hk.len]; exact Nat.one_pos);have hkn:kn=1:=hB2.hk.len.symm;have hkc:=hB2.hk.1;have hkm:=hB2.hk.2.1;unfold maxLen at hkm;rw [Nat.add_zero] at hk0;have bi:IsT M p0 s:=hT0;have lr:=hi.lt_ kb gm;have HK:=hid (nZ b 2 w2 hB2.c0);have CR:=hT.pos
 have CM:Hid (∀ w3,Below w2.heap.size w2 w3->(w3.cell? ⟨w.heap.size,0,none⟩=some (.pointer (some ⟨b,0,none⟩))/\w3.cell? ⟨b,1,none⟩=some (.slice pa pn pc)/\w3.cell? ⟨b,3,none⟩=some (.slice (some ⟨kb,ko,none⟩) kn kc)/\w3.cell? ⟨kb,ko,none⟩=some (.pointer p0))/\
   Calls prog 74 #[.agg #[.pointer p0]] w3.drew (λe w'=>e = .returned (.string (ref s))/\FrN M (sz s+1) w3.drew w'/\dS M (sz s+1) w')/\
   ∀ w5,FrN M (sz s+1) w3.drew w5->dS M (sz s+1) w5->(((w5.cell? ⟨w.heap.size,0,none⟩=some (.pointer (some ⟨b,0,none⟩))/\w5.cell? ⟨b,1,none⟩=some (.slice pa pn pc))/\w5.cell? ⟨b,3,none⟩=some (.slice (some ⟨kb,ko,none⟩) kn kc))/\w5.cell? ⟨kb,ko,none⟩=some (.pointer p0))/\
    Calls prog 73 #[.slice pa pn pc,.string (ref s)] w5 (Jt w5 ⟨2,q,eB,ref s::List.replicate 15 eB⟩)/\
    ∀ w6,Below w5.heap.size w5 w6->∀ a6 n6 c6,BsF w5.heap.size w6 a6 n6 c6 q->(((w6.cell? ⟨w.heap.size,0,none⟩=some (.pointer (some ⟨b,0,none⟩))/\w6.cell? ⟨b,1,none⟩=some (.slice pa pn pc))/\w6.cell? ⟨b,3,none⟩=some (.slice (some ⟨kb,ko,none⟩) kn kc))/\w6.cell? ⟨kb,ko,none⟩=some (.pointer p0))/\dI w6 (w.heap.size+1) nd0 none 0 0/\
     ∀ ag,Rg.Upd w6 (w.heap.size+1) ag->(((ag.cell? ⟨w.heap.size,0,none⟩=some (.pointer (some ⟨b,0,none⟩))/\ag.cell? ⟨b,1,none⟩=some (.slice pa pn pc))/\ag.cell? ⟨b,3,none⟩=some (.slice (some ⟨kb,ko,none⟩) kn kc))/\ag.cell? ⟨kb,ko,none⟩=some (.pointer p0))/\nQ M (.ext q s) w (.returned (.agg (ndC ⟨2,q,eB,iO (ref s)⟩ a6 n6 c6))) ag):=hid (λw3 hb3=>by
  have dT:Below w2.heap.size w2 w3.drew:=hb3.drew;have hi3:dS M (sz s+1) w3.drew:=hi2.below dT;have e0:=aW dT h0;have e1:=aW dT hB2.c1;have e3:=aW dT hB2.c3;have ek:=aW dT hk0;have ne:M.at_ b=none\/∃ t,M.at_ b=some t/\sz s+1<=sz t:=Or.inr ⟨_,hm,aG⟩;have lj:Tab w3.drew:=hT.below (bst hb2 dT) CR;refine ⟨⟨e0,e1,e3,ek⟩,hR M _ p0 hi3 bi lj,λw5 cG hi5=>?_⟩;have g0:=cG.cell e0 (Or.inl (hi3.pW e0));have g1:=cG.cell e1 ne;have g3:=cG.cell e3 ne;have gk:=cG.cell ek (Or.inl (hi3.pW ek));have hP5:=GN hi3 (hB2.hb.below dT) cG
  have hg1:M.at_ (w.heap.size+1)=none:=by
   cases hmm:M.at_ (w.heap.size+1) with
   | none=>rfl
   | some t=>exact absurd (hi.lt_ _ (hi.part_ _ t hmm).2.1) (by omega)
  have aE:dI w5 (w.heap.size+1) nd0 none 0 0:=⟨aI (af.below dT).1 cG.size,(cG.block _ (af.below dT).1 (Or.inl hg1)).trans (af.below dT).2⟩
  refine ⟨⟨⟨⟨g0,g1⟩,g3⟩,gk⟩,No.Mt pa pn pc q (by omega) (ref s) w5 hP5,λw6 hb6 a6 n6 c6 hx=>?_⟩;have cr:=aE.below hb6;refine ⟨⟨⟨⟨aW hb6 g0,aW hb6 g1⟩,aW hb6 g3⟩,aW hb6 gk⟩,cr,λag hu=>?_⟩;have hc:∀ (b' o:Nat) (v:Value),b'≠w.heap.size+1->w6.cell? ⟨b',o,none⟩=some v->ag.cell? ⟨b',o,none⟩=some v:=λb' o v hne h=>by
   rw [<-h]; exact World.cell?_of_block (w:=w6) (hu.block b' hne)
  have hfw:FrN M (sz s+1) w w6:=((FrN.below M _ (bst hb2 dT)).trans cG).trans (FrN.below M _ hb6);exact ⟨⟨⟨⟨hc _ _ _ (by omega) (aW hb6 g0),hc _ _ _ (by omega) (aW hb6 g1)⟩,hc _ _ _ (by omega) (aW hb6 g3)⟩,hc _ _ _ (by omega) (aW hb6 gk)⟩,
   a6,n6,c6,rfl,⟨vI hx.1 (dH cr (Nb _ _ _ _)) hu,λad e=>Nat.le_trans (Nat.le_trans (Nat.le_trans hb2.size dT.size) cG.size) (hx.2 ad e)⟩,hfw.upd hu (by omega),(hi5.below hb6).upd hu (λe=>by have:=hi.lt_ _ e; omega)⟩)
 have H0:=hid am;clear am af hb2 hs2 hB hB2 h0 hi hi2 hm hpn hq hT hR CR hk0 hT0 bi gm cI;subst hw2;go_enter func39,ntmps39;go_wp2_with (first | (refine aA (aY _ _ _ (w.heap.size+1) (by simp) rfl) ?_) | (refine aA (aU (aV (j:=0) H0.out rfl) ⟨_,rfl,rfl⟩) ?_))
 refine HK.out.mono ?_;rintro e w3 ⟨rfl,hb3⟩;obtain ⟨⟨d0,d1,d3,dk⟩,HC,HF⟩:=CM.out w3 hb3;replace HC:=hid HC;replace HF:=hid HF;clear hb3 CM HK H0;go_wp2_with fail
 refine aC (S:=λw'=>((w'.cell? ⟨w.heap.size,0,none⟩=some (.pointer (some ⟨b,0,none⟩))/\w'.cell? ⟨b,1,none⟩=some (.slice pa pn pc))/\w'.cell? ⟨b,3,none⟩=some (.slice (some ⟨kb,ko,none⟩) kn kc))/\w'.cell? ⟨kb,ko,none⟩=some (.pointer p0)) (⟨⟨⟨d0,d1⟩,d3⟩,dk⟩) λhld=>?_;refine ah 0 ?_;try simp only [Act.put,ak]
 refine aD 1 (λwz hSw=>hSw.1.1.1) ?_;try simp only [Act.put,ak]
 refine ah 2 ?_;try simp only [Act.put,ak]
 refine ah 3 ?_;try simp only [Act.put,ak]
 refine aD 4 (λwz hSw=>hSw.1.1.2) ?_;try simp only [Act.put,ak]
 refine ah 5 ?_;try simp only [Act.put,ak]
 refine aD 6 (λwz hSw=>hSw.1.1.1) ?_;try simp only [Act.put,ak]
 refine ah 7 ?_;try simp only [Act.put,ak]
 refine ah 8 ?_;try simp only [Act.put,ak]
 refine aD 9 (λwz hSw=>hSw.1.2) ?_;try simp only [Act.put,ak]
 refine ah 10 ?_;try simp only [Act.put,ak]
 refine ah 11 ?_ (hy:=by intro wz hSw; (refine aU hSw.2 ?_; exact ⟨_,rfl,rfl⟩));try simp only [Act.put,ak]
 refine aj 12 λK hK=>?_;go_simp;go_at_call 74
 (with_reducible refine HC.out.mono ?_)
 rintro e w5 ⟨rfl,cG,hi5⟩;obtain ⟨hS5,H5⟩:=HF.out w5 cG hi5;replace H5:=hid H5;clear cG hi5;refine hK.out _ _ (hS5) λhld=>?_;clear hK K;try simp only [Act.put,ak]
 refine aj 13 λK hK=>?_;go_simp;go_at_call 73
 (with_reducible refine (H5.out.1).mono ?_)
 intro e w6 hG;obtain ⟨a6,n6,c6,rfl,cA,mw,hb6⟩:=hG;have ua:=hid mw;obtain ⟨ii,cr,xm⟩:=H5.out.2 w6 hb6 a6 n6 c6 cA;have H6:=hid xm;have cf:=hid cr;clear mw hb6 cA xm cr;refine hK.out _ _ (ii) λhld=>?_;clear hK K;try simp only [Act.put,ak]
 refine aj 14 λK hK=>?_;refine Rg.meetStore (by rfl) cf.out 69 (ndC ⟨2,q,eB,ref s::List.replicate 15 eB⟩ a6 n6 c6) ⟨_,_,rfl,rfl,rfl⟩ (kU _ _ _ _ ua.out) (by rw [eF _ _ _ _ gq,eF _ _ _ _ ua.out]) (oV _ _ _ _) ?_;intro ag ai al;have bu:=hid ai;obtain ⟨cH,lh⟩:=H6.out ag al;have g9:=hid lh;clear ai lh;refine hK.out _ _ (cH) λhld=>?_;clear hK K;try simp only [Act.put,ak]
 refine aB ?_;go_wp2;exact bodyPost_ret (uX rfl _ rfl bu.out ua.out) rfl g9.out
theorem Jj (p:aK) (k:Int) (h1:k≠1) (h2:k≠2) (h3:k≠3) (w:World)
  (hK:∀ wx,Below w.heap.size w wx->Calls prog 67 #[.agg #[.pointer p]] wx λe w'=>e = .returned (.int .i64 k)/\Below wx.heap.size wx w') :
  Calls prog 39 #[.agg #[.pointer p]] w λe w'=>e = .returned (.agg (ndC nd0 none 0 0))/\Below w.heap.size w w':=by
 obtain ⟨w2,hw2,am,af,hb2,hs2⟩:=wV w p;have HK:=hid (hK w2 hb2);have H3:Hid (∀ w3,Below w2.heap.size w2 w3->dI w3 (w.heap.size+1) nd0 none 0 0/\Below w.heap.size w w3):=hid (λw3 hb3=>⟨af.below hb3,bst hb2 hb3⟩);have H0:=hid am;have e1:(k==1)=false:=by simp [h1]
 have e2:(k==2)=false:=by simp [h2]
 have e3:(k==3)=false:=by simp [h3]
 clear am af hb2 hs2 hK h1 h2 h3;subst hw2;go_enter func39,ntmps39;go_wp2_with (first | (refine aA (aY _ _ _ (w.heap.size+1) (by simp) rfl) ?_) | (refine aA (aU (aV (j:=0) H0.out rfl) ⟨_,rfl,rfl⟩) ?_))
 refine HK.out.mono ?_;rintro e w3 ⟨rfl,hb3⟩;obtain ⟨hO3,hB3⟩:=H3.out w3 hb3;have aq:=hid hO3;have HB3:=hid hB3;clear hb3 H3 HK H0 hO3 hB3;go_wp2_with (first
  | (refine aA (bV qW ⟨_,rfl,rfl⟩) ?_)
  | (refine bK aq.out gq nd0 none 0 0 gq rfl _ _ rfl rfl rfl rfl ?_))
 exact bodyPost_ret (uX rfl _ rfl (dV aq.out) gq) rfl ⟨rfl,cO HB3.out (by omega) _⟩
theorem nS {b o:Nat} {cs:aN} (h:Rg.Own w b cs t) (ho:o<cs.size) (s:aL):(Instr.storeAt 9 (.pointer (some ⟨b,o,none⟩)) (.string s)).run prog w = .ok () (w.setCell ⟨b,o,none⟩ (.string s)):=by
 have hc:w.cell? ⟨b,o,none⟩=some cs[o]:=aV h (Array.getElem?_eq_getElem ho);have hz:w.frozen? ⟨b,o,none⟩=false:=gV h;simp [go_sem,hc,hz]
theorem BZ (ks:List aL) (i:Nat) (x:aL):(iA ks).setIfInBounds i (.string x)=iA (ks.set i x):=by
 unfold iA;rw [List.map_set];simp
theorem CQ {rest:List Oper} {b i:Nat} {ks:List aL} (h:sV w b ks) (hl:ks.length=16) (hi:i<16) (s:aL)
  (hgd:o.guard=none) (x y:Operand) (ho:o.op = .store 9 x y) (hx:act.eval x = .pointer (some ⟨b,i,none⟩)) (hy:act.eval y = .string s)
  (hQ:∀ w',sV w' b (ks.set i s)->Rg.Upd w b w'->wpList prog ops Q rest (act.put o.dst undef) w'):wpList prog ops Q (o::rest) act w :=
 wpList_plain hgd λK hK=>by
  unfold Oper.wp execOp;simp only [ho,hx,hy,Sem.run_bind,Sem.run_pure,Result.andThen_ok,nS h (o:=i) (by rw [Ef,hl]; exact hi) s];refine hK _ _ (hQ _ ?_ (bO _ _ _ _));have:=dx (o:=i) h (.string s);rwa [BZ] at this
def iV (l:List aL) (j:Nat):List aL:=l.take j++List.replicate (16-j) eB
theorem uJ {l:List aL} (hl:l.length=16) (hj:j<=16):(iV l j).length=16:=by
 unfold iV;rw [List.length_append,List.length_take,List.length_replicate,hl];omega
theorem Co {l:List aL} (hl:l.length=16) (hj:j<16):(iV l j).set j (l.getD j eB)=iV l (j+1):=by
 unfold iV;have h1:(l.take j).length=j:=by rw [List.length_take,hl]; omega
 have h2:List.replicate (16-j) eB=eB::List.replicate (16-(j+1)) eB:=by
  rw [show 16-j=(16-(j+1))+1 by omega,List.replicate_succ]
 have h3:l.take (j+1)=l.take j++[l.getD j eB]:=by
  have e:l.getD j eB=l[j]'(by omega):=by simp [List.getD,hl,hj]
  rw [e,List.take_succ_eq_append_getElem (by omega)]
 rw [h2,h3,List.set_append_right _ _ (by omega),h1,Nat.sub_self,List.set_cons_zero,List.append_assoc];rfl
theorem Ag {l:List aL} (hl:l.length=16):iV l 16=l:=by
 unfold iV;rw [List.take_of_length_le (by omega)];simp
theorem yE (l:List aL):iV l 0=zks:=by
 unfold iV;simp [zks]
theorem dS.zV {M:Mp} {n:Nat} {w:World} (h:dS M n w) {b:Nat} (hb:w.heap.size<=b):M.at_ b=none:=by
 cases hm:M.at_ b with
 | none=>rfl
 | some t=>exact absurd (h.lt_ b (h.part_ b t hm).2.1) (by omega)
theorem zy {M:Mp} {b:Nat} {cs:aN} (h:Rg.Own w b cs t) (f:FrN M n w w') (hb:M.at_ b=none):Rg.Own w' b cs t:=⟨aI h.1 f.size,(f.block b h.1 (Or.inl hb)).trans h.2⟩
theorem YN (M:Mp) (b:Nat) (ks:Fin 16->T) (hm:M.at_ b=some (.br ks)) (w:World) (hi:dS M (sz (.br ks)) w) (pa:aK) (pn pc:Nat) (ka:aK) (kn kc:Nat) (hB:Body M w b (.br ks) pa pn pc ka kn kc) (hT:Tab w) (hR:∀ i,nD (ks i)) :
  Calls prog 39 #[.agg #[.pointer (some ⟨b,0,none⟩)]] w (nQ M (.br ks) w):=by
 obtain ⟨w2,hw2,am,af,hb2,hs2⟩:=wV w (some ⟨b,0,none⟩);have hB2:=hB.below hb2;have hi2:=hi.below hb2;have h0:=aV (j:=0) am rfl;have hlb:=hi.lt_ b (hi.part_ b _ hm).2.1;have hkn:kn=16:=by rw [<-hB2.hk.len]; exact fK ks
 subst hkn;obtain ⟨kb,ko,p0,rfl,cI,gm,hzz⟩:=hB2.hk.at' 0 (by omega);clear hzz;have CT:∀ j (hj:j<16),∃ p,w2.cell? ⟨kb,ko+j,none⟩=some (.pointer p)/\IsT M p (ks ⟨j,hj⟩):=λj hj=>by
  obtain ⟨b',o',p,e,_,_,hc,ht⟩:=hB2.hk.at' j hj;obtain ⟨rfl,rfl⟩:kb=b'/\ko=o':=by simpa using e
  refine ⟨p,hc,?_⟩;have:=kL ks ⟨j,hj⟩;rw [this] at ht;exact ht
 have hkc:=hB2.hk.1;have hkm:=hB2.hk.2.1;unfold maxLen at hkm;have lr:=hi.lt_ kb gm;have CR:=hT.pos;have db:=hT.below hb2 CR;have HK:=hid (nZ b 3 w2 hB2.c0);obtain ⟨L,hL⟩:∃ L,(eD λi=>ref (ks i))=L:=⟨_,rfl⟩
 have Fl:L.length=16:=by rw [<-hL]; exact mM _
 have UX:∀ j (hj:j<16),L.getD j eB=ref (ks ⟨j,hj⟩):=λj hj=>by
  rw [<-hL]; exact pQ (λi=>ref (ks i)) ⟨j,hj⟩
 have hg1:M.at_ (w.heap.size+1)=none:=hi.zV (by omega);have HA:Hid (∀ w3,Below w2.heap.size w2 w3->(w3.cell? ⟨w.heap.size,0,none⟩=some (.pointer (some ⟨b,0,none⟩))/\w3.cell? ⟨b,3,none⟩=some (.slice (some ⟨kb,ko,none⟩) 16 kc))/\
   ((w3.alloc (.cells (iA zks) 67)).cell? ⟨w.heap.size,0,none⟩=some (.pointer (some ⟨b,0,none⟩))/\(w3.alloc (.cells (iA zks) 67)).cell? ⟨b,3,none⟩=some (.slice (some ⟨kb,ko,none⟩) 16 kc))/\
   M.at_ w3.heap.size=none/\w.heap.size+1<w3.heap.size/\sV (w3.alloc (.cells (iA zks) 67)) w3.heap.size (iV L 0)/\FrN M (sz (.br ks)) w2 (w3.alloc (.cells (iA zks) 67))/\dS M (sz (.br ks)) (w3.alloc (.cells (iA zks) 67))):=hid (λw3 hb3=>by
  have hb4:=bst hb3 (al1 w3 (.cells (iA zks) 67));have hsz:=hb3.size;refine ⟨⟨aW hb3 h0,aW hb3 hB2.c3⟩,⟨aW hb4 h0,aW hb4 hB2.c3⟩,hi2.zV (by omega),by omega,?_,FrN.below M _ hb4,hi2.below hb4⟩;rw [yE];exact Rg.Own.new _ _ _)
 have dC:Hid (∀ (bl:Nat) (wr:World),w2.heap.size<=bl->FrN M (sz (.br ks)) w2 wr->dS M (sz (.br ks)) wr->∀ j (hj:j<16),sV wr bl (iV L j)->∃ p,wr.cell? ⟨kb,ko+j,none⟩=some (.pointer p)/\
   ∀ w5,Below wr.heap.size wr w5->Calls prog 74 #[.agg #[.pointer p]] w5 (λe w'=>e = .returned (.string (L.getD j eB))/\FrN M (sz (.br ks)) w5 w'/\dS M (sz (.br ks)) w')/\
   ∀ w6,FrN M (sz (.br ks)) w5 w6->dS M (sz (.br ks)) w6->sV w6 bl (iV L j)/\
   ∀ w7,sV w7 bl ((iV L j).set j (L.getD j eB))->Rg.Upd w6 bl w7->sV w7 bl (iV L (j+1))/\FrN M (sz (.br ks)) w2 w7/\dS M (sz (.br ks)) w7):=hid (λbl wr hbl hf hir j hj ub=>by
  obtain ⟨p,hcp,htp⟩:=CT j hj;have D0:=YQ ks ⟨j,hj⟩;refine ⟨p,hf.cell hcp (Or.inl (hi2.pW hcp)),λw5 hb5=>?_⟩;have hi5:=hir.below hb5;have hTr:=wJ hi2 hf db;have fl:=hTr.below hb5 hTr.pos;refine ⟨(hR ⟨j,hj⟩ M w5 p (hi5.mono D0) htp fl).mono ?_,λw6 dd kB=>?_⟩
  .rintro e w' ⟨rfl,hfe,hie⟩;exact ⟨by rw [UX j hj],hfe.mono D0,hi5.after hfe hie⟩
  .have N7:sV w6 bl (iV L j):=zy (ub.below hb5) dd (hi2.zV hbl);refine ⟨N7,λw7 ei hu=>⟨by rw [<-Co Fl hj]; exact ei,((hf.trans (FrN.below M _ hb5)).trans dd).upd hu hbl,kB.upd hu (λe=>by have:=hi2.lt_ _ e; omega)⟩⟩)
 have bj:Hid (∀ (bl:Nat) (wr:World),FrN M (sz (.br ks)) w2 wr->dS M (sz (.br ks)) wr->sV wr bl (iV L 16)->sV wr bl L/\∀ w6,Below wr.heap.size wr w6->∀ a6 n6 c6,BsF wr.heap.size w6 a6 n6 c6 []->dI w6 (w.heap.size+1) nd0 none 0 0/\
   ∀ ag,Rg.Upd w6 (w.heap.size+1) ag->nQ M (.br ks) w (.returned (.agg (ndC ⟨3,[],eB,L⟩ a6 n6 c6))) ag):=hid (λbl wr hf hir ub=>by
  rw [Ag Fl] at ub;refine ⟨ub,λw6 hb6 a6 n6 c6 hx=>?_⟩;have cr:=(zy af hf hg1).below hb6;refine ⟨cr,λag hu=>⟨a6,n6,c6,by rw [<-hL]; rfl,⟨vI hx.1 (dH cr (Nb _ _ _ _)) hu,λad e=>Nat.le_trans (Nat.le_trans hb2.size hf.size) (hx.2 ad e)⟩,?_,(hir.below hb6).upd hu (λe=>by have:=hi.lt_ _ e; omega)⟩⟩;exact (((FrN.below M _ hb2).trans hf).trans (FrN.below M _ hb6)).upd hu (by omega))
 have D3:=hid Fl;have H0:=hid am;have GO:=hs2;obtain ⟨N,hN⟩:=ay (sz (.br ks))
 rw [hN] at HA dC bj;clear am af hb2 hB hB2 h0 hi hi2 hm hT hR CR db CT gm cI hL UX hg1 hN Fl hs2;have HW2:Hid (_=_):=hid hw2;clear hw2;go_enter func39,ntmps39;have N8:=H0;rw [HW2.out] at N8;go_wp2_with (first | (refine aA (aY _ _ _ (w.heap.size+1) (by simp) rfl) ?_) | (refine aA (aU (aV (j:=0) N8.out rfl) ⟨_,rfl,rfl⟩) ?_))
 rw [<-HW2.out];refine HK.out.mono ?_;rintro e w3 ⟨rfl,hb3⟩;obtain ⟨⟨d0,d3⟩,⟨e0,e3⟩,hnb,hsz3,ub,sm,hi4⟩:=HA.out w3 hb3;have V0:=hid ub;have fL:=hid sm;have HI4:=hid hi4;have hsz2:=hb3.size;clear hb3 HA HK H0 N8 HW2 ub sm hi4;go_wp2_with (refine aA (wF _ _ _ w3.heap.size rfl rfl) ?_)
 clear d0 d3 e0 e3;go_loopw [45] (λi wr=>∃ j:Nat,j<=16/\i = .int .i64 j/\Hid (sV wr w3.heap.size (iV L j))/\Hid (FrN M N w2 wr)/\Hid (dS M N wr)) (λi _=>16-(intOf i).toNat)
 case atStart=>exact ⟨0,Nat.zero_le _,rfl,V0,fL,HI4⟩
 case round =>
  obtain ⟨j,hj,rfl,HO,HF,HI⟩:=hrel;clear V0 fL HI4;by_cases hlt:j<16
  .obtain ⟨p,hkp,H5⟩:=dC.out w3.heap.size wr hsz2 HF.out HI.out j hlt HO.out;replace H5:=hid H5;have hNew:=Rg.Own.new wr #[.pointer none] 35;have HN:=hid hNew;obtain ⟨R,hR⟩:=ay (L.getD j eB)
   rw [hR] at H5;clear hNew HO HF HI dC bj hR;go_wp2_with (first
    | (refine aA (aU hkp ⟨_,rfl,rfl⟩) ?_)
    | (refine aA (aX _ _ _ wr.heap.size rfl rfl) ?_)
    | (refine bg HN.out (by decide) p rfl _ _ rfl rfl rfl ?_; intro w5 aE bd; have bh:=hid aE; have ae:Hid (Below wr.heap.size wr w5):=hid (bd.below (al1 _ _) aG); clear aE bd)
    | (refine aA (aU (aV (j:=0) bh.out rfl) ⟨_,rfl,rfl⟩) ?_))
   obtain ⟨HC,H6⟩:=H5.out w5 ae.out;replace HC:=hid HC;replace H6:=hid H6;clear H5 ae bh HN hkp;refine HC.out.mono ?_;rintro e w6 ⟨rfl,dd,kB⟩;obtain ⟨cr,H7⟩:=H6.out w6 dd kB;replace H7:=hid H7;have cf:=hid cr;clear dd kB H6 HC cr;have hji:(j:Int)<16:=by omega
   go_wp2_with (refine CQ cf.out (uJ D3.out (by omega)) hlt R rfl _ _ rfl rfl rfl ?_; intro w7 ei dc; obtain ⟨g1,g2,g3⟩:=H7.out w7 ei dc; have G1:=hid g1; have G2:=hid g2; have G3:=hid g3; clear g1 g2 g3 ei dc)
   go_roundw
   case rel=>exact ⟨j+1,by omega,by go_num,G1,G2,G3⟩
   case measure=>simp [intOf]; omega
  .obtain rfl:j=16:=by omega
   obtain ⟨V2,H6⟩:=bj.out w3.heap.size wr HF.out HI.out HO.out;have HOL:=hid V2;replace H6:=hid H6;have qi:=hid (No.kF L D3.out wr);clear HO HF HI dC bj V2;go_wp2_with (refine aA (oP HOL.out D3.out ⟨_,rfl,rfl⟩) ?_)
   refine qi.out.mono ?_;rintro e w6 ⟨a6,n6,c6,rfl,cA,mw,hb6⟩;obtain ⟨cr,g9⟩:=H6.out w6 hb6 a6 n6 c6 cA;have cf:=hid cr;replace g9:=hid g9;clear cA mw hb6 cr H6 qi HOL;go_wp2_with (refine bK cf.out gq ⟨3,[],eB,L⟩ a6 n6 c6 D3.out rfl _ _ rfl rfl rfl rfl ?_)
   exact bodyPost_ret (uX rfl _ rfl (dV cf.out) D3.out) rfl (g9.out _ (Rg.Upd.set _ _ _))
end Tm
end
section
open Go.RowKit
namespace On
theorem disable (w:World):(callFunc 202 #[]).run prog w = .ok (.value (.tuple #[])) w:=run_call_mark0 func202 (by kernel_rfl) (by kernel_rfl) (by kernel_rfl) .disable (by kernel_rfl) w
theorem enable (w:World):(callFunc 204 #[]).run prog w = .ok (.value (.tuple #[])) w:=run_call_mark0 func204 (by kernel_rfl) (by kernel_rfl) (by kernel_rfl) .enable (by kernel_rfl) w
theorem acquire (a:Addr) (w:World):(callFunc 205 #[.pointer (some a)]).run prog w = .ok (.value (.tuple #[])) w:=run_call_marked func205 (by kernel_rfl) (by kernel_rfl) (by kernel_rfl) .acquire (by kernel_rfl) a w
theorem releaseMerge (a:Addr) (w:World):(callFunc 207 #[.pointer (some a)]).run prog w = .ok (.value (.tuple #[])) w:=run_call_marked func207 (by kernel_rfl) (by kernel_rfl) (by kernel_rfl) .releaseMerge (by kernel_rfl) a w
theorem Bf (a:Addr) (x:Value) (u:FrameMode) (w:World) (hc:w.cell? a=some x) (hz:w.frozen? a=false) :
  CallsD prog 181 #[.pointer (some a),.bool true] u w λe u' w'=>u'=u/\(e = .returned (.tuple #[])/\w'=w.drew.setCell a (.int .u32 1)):=by
 have hc':w.drew.cell? a=some x:=by go_simp
 have hz':w.drew.frozen? a=false:=by go_simp
 have hst:=run_call_store (P:=prog) func195 (by kernel_rfl) (by kernel_rfl) (by kernel_rfl) (by kernel_rfl) (k:=.u32) (y:=1) hc' hz';go_enter_d func181,ntmps181
 go_wp2;go_region_calls
 all_goals (go_end0; exact ⟨rfl,rfl⟩)
theorem unlock_deferred (a:Addr) (u:FrameMode) (w:World) (hc:w.cell? a=some (.int .i32 1)) (hz:w.frozen? a=false) :
  CallsD prog 180 #[.pointer (some a)] u w λe u' w'=>u'=u/\(e = .returned (.tuple #[])/\w'=w.setCell a (.int .i32 0)):=by
 have hd:=disable;have he:=enable;have hr:=releaseMerge;have hadd:=run_call_add (P:=prog) func208 (by kernel_rfl) (by kernel_rfl) (by kernel_rfl) .i32 (by kernel_rfl) (y := -1) (s:=0) hc hz (by simp [go_sem]; rfl);have hcv:=run_convert_to_unsafe (P:=prog) (src:=267) (dst:=247) underlying267 underlying247 (by kernel_rfl) hc;go_enter_d func180,ntmps180
 go_wp2;go_end0;all_goals (try go_wp2)
 all_goals (try go_end0)
 all_goals exact ⟨rfl,rfl⟩
theorem lock_free (a:Addr) (w:World) (hc:w.cell? a=some (.int .i32 0)) (hz:w.frozen? a=false) :
  Calls prog 179 #[.pointer (some a)] w λe w'=>e = .returned (.tuple #[])/\w'=w.setCell a (.int .i32 1):=by
 have hd:=disable;have he:=enable;have ha:=acquire;have hcas:=run_call_cas_hit (P:=prog) func203 (by kernel_rfl) (by kernel_rfl) (by kernel_rfl) .i32 (by kernel_rfl) (y:=1) hc hz;have hc':(w.setCell a (.int .i32 1)).cell? a=some (.int .i32 1):=World.cell?_setCell_same w a _ hc;have hcv:=run_convert_to_unsafe (P:=prog) (src:=267) (dst:=247) underlying267 underlying247 (by kernel_rfl) hc';go_enter func179,ntmps179;go_wp2
 first | go_end0 | (simp only [Exit.inBlock,Exit.then]; refine bodyPost_ret (results_none rfl _ _ _) rfl ?_) | refine bodyPost_ret (results_none rfl _ _ _) rfl ?_
 all_goals (try go_wp2)
 all_goals (try go_end0)
 all_goals exact ⟨rfl,rfl⟩
def Held (w:World) (b off:Nat):Prop:=(w.cell? ⟨b,off,none⟩=some (.int .u32 0)/\w.frozen? ⟨b,off,none⟩=false)/\w.cell? ⟨b,off+1,none⟩=some (.int .i32 1)/\w.frozen? ⟨b,off+1,none⟩=false
theorem UY (D:FuncId) (caps:aN) (hD:∀ w,(callFunc D caps).run prog w = .ok (.enter D caps) w) (b off:Nat) (w:World) (R:World->Prop)
  (h0:w.cell? ⟨b,off,none⟩=some (.int .u32 0)) (h1:w.cell? ⟨b,off+1,none⟩=some (.int .i32 0)) (f1:w.frozen? ⟨b,off+1,none⟩=false)
  (h:Calls prog D caps (w.setCell ⟨b,off+1,none⟩ (.int .i32 1)) λe w'=>e = .returned (.tuple #[])/\Held w' b off/\R w') :
  Calls prog 161 #[.pointer (some ⟨b,off,none⟩),.func (.func D) #[] caps] w λe w'=>e = .returned (.tuple #[])/\∃ w1,R w1/\w'=(w1.drew.setCell ⟨b,off,none⟩ (.int .u32 1)).setCell ⟨b,off+1,none⟩ (.int .i32 0):=by
 have hl:=run_call_load (P:=prog) func178 (by kernel_rfl) (by kernel_rfl) (by kernel_rfl) .u32 (by kernel_rfl) (w:=w.setCell ⟨b,off+1,none⟩ (.int .i32 1)) (a:=⟨b,off,none⟩) (x:=0) ((World.cell?_setCell_other _ ⟨b,off+1,none⟩ ⟨b,off,none⟩ _ (by simp)).trans h0);have hnot:∀ (x:Bool) (w:World),(Op.unary .not (.bool x)).run prog w = .ok (.bool (!x)) w:=λ_ _=>rfl;have H:=hid h;clear h;go_enter_defers func161,ntmps161
 go_wp2_with (first | (go_at_call 179; refine (lock_free ⟨b,off+1,none⟩ _ h1 f1).mono ?_; rintro e w' ⟨rfl,rfl⟩) | (go_at_call 160; go_in))
 refine H.out.mono ?_;rintro e w1 ⟨rfl,⟨⟨g0,z0⟩,g1,z1⟩,hR⟩;have HR:=hid hR;clear hR H;go_wp2;refine leaves_cons (f:=181) (args:=#[.pointer (some ⟨b,off,none⟩),.bool true]) (by simp) (by simp [go_sem]) ?_;refine (Bf ⟨b,off,none⟩ (.int .u32 0) .returning _ g0 z0).mono ?_;rintro e u' w'' ⟨rfl,rfl,rfl⟩;refine leaves_cons (f:=180) (args:=#[.pointer (some ⟨b,off+1,none⟩)]) (by simp [settle]) (by simp [go_sem]) ?_;refine (unlock_deferred ⟨b,off+1,none⟩ _ _ ?_ (by simp [z1])).mono ?_
 .refine (World.cell?_setCell_other _ ⟨b,off,none⟩ ⟨b,off+1,none⟩ _ (by simp)).trans ?_;rw [World.cell?_drew];exact g1
 rintro e u' w'' ⟨rfl,rfl,rfl⟩;have hR:=HR.out;simp [Leaves,settle,results,Tryz.results161];exact ⟨w1,hR,rfl⟩
theorem RF (D:FuncId) (caps:aN) (hD:∀ w,(callFunc D caps).run prog w = .ok (.enter D caps) w) (b off:Nat) (w:World) (R:World->Prop)
  (h0:w.cell? ⟨b,off,none⟩=some (.int .u32 0)) (h1:w.cell? ⟨b,off+1,none⟩=some (.int .i32 0)) (f1:w.frozen? ⟨b,off+1,none⟩=false)
  (h:Calls prog D caps (w.setCell ⟨b,off+1,none⟩ (.int .i32 1)) λe w'=>e = .returned (.tuple #[])/\Held w' b off/\R w') :
  Calls prog 116 #[.pointer (some ⟨b,off,none⟩),.func (.func D) #[] caps] w λe w'=>e = .returned (.tuple #[])/\∃ w1,R w1/\w'=(w1.drew.setCell ⟨b,off,none⟩ (.int .u32 1)).setCell ⟨b,off+1,none⟩ (.int .i32 0):=by
 have hl:=run_call_load (P:=prog) func178 (by kernel_rfl) (by kernel_rfl) (by kernel_rfl) .u32 (by kernel_rfl) h0;have hnot:∀ (x:Bool) (w:World),(Op.unary .not (.bool x)).run prog w = .ok (.bool (!x)) w:=λ_ _=>rfl;have HS:=hid (UY D caps hD b off w R h0 h1 f1 h);clear h hD;go_enter func116,ntmps116;go_wp2_with (first | (go_at_call 161; refine HS.out.mono ?_; rintro e w' ⟨rfl,hw'⟩; have HW:=hid hw'; clear hw') | (go_at_call 160; go_in))
 go_end0;exact ⟨rfl,HW.out⟩
theorem WH (a:Addr) (fv:Value) (w:World) (h0:w.cell? a=some (.int .u32 1)) :
  Calls prog 116 #[.pointer (some a),fv] w λe w'=>e = .returned (.tuple #[])/\w'=w:=by
 have hl:=run_call_load (P:=prog) func178 (by kernel_rfl) (by kernel_rfl) (by kernel_rfl) .u32 (by kernel_rfl) h0;have hnot:∀ (x:Bool) (w:World),(Op.unary .not (.bool x)).run prog w = .ok (.bool (!x)) w:=λ_ _=>rfl;go_enter func116,ntmps116;go_wp2;go_end0;all_goals exact ⟨rfl,rfl⟩
end On
end
section
open Go.RowKit
namespace Rl
open Pk
theorem NC {w:World} {g:Nat} {x y:It} {A A2:aK} {N C N2 C2:Nat} (hO:Rg.Own w g #[.bool x.l,.string x.s,.slice A N C,.bool y.l,.string y.s,.slice A2 N2 C2] 102)
  (hx:jm w x.xs A N C) (hy:jm w y.xs A2 N2 C2):jm w [x,y] (some ⟨g,0,none⟩) 2 2:=by
 have hc:∀ i,w.cell? ⟨g,i,none⟩=(#[.bool x.l,.string x.s,.slice A N C,.bool y.l,.string y.s,.slice A2 N2 C2]:aN)[i]? := λi=>by simp [World.cell?,hO.2]
 refine jw.mk (λj=>if j=0 then A else A2) (λj=>if j=0 then N else N2) (λj=>if j=0 then C else C2) rfl (by omega) (by unfold maxLen; omega) (by omega) (λe=>by cases e) (λj z hz=>?_) (λj z hz=>?_)
 .match j,hz with
  | 0,hz =>
   cases hz;exact ⟨g,0,rfl,Nat.zero_le _,hO.1,(hc 0),(hc 1),(hc 2)⟩
  | 1,hz =>
   cases hz;exact ⟨g,0,rfl,Nat.zero_le _,hO.1,(hc 3),(hc 4),(hc 5)⟩
 .match j,hz with
  | 0,hz=>cases hz; exact hx
  | 1,hz=>cases hz; exact hy
theorem FK (w:World) (x:It) (h:x.xs=[]):jm w x.xs none 0 0:=by rw [h]; exact bM.nil _ _
end Rl
end
end Go.Proofs.YtoipgepkhomfgaaGreatDoor
