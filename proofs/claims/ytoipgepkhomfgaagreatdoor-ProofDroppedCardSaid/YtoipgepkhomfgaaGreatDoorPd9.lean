/-
 Boxes of texts and of keys: loaded, stored.
-/
import Derived.Test.YtoipgepkhomfgaaGreatDoorPd8
open Go.Lib (hid)
open Go.Proofs.Tryz
set_option linter.unusedSimpArgs false
set_option linter.unusedVariables false
set_option maxHeartbeats 40000000
set_option maxRecDepth 100000
namespace Go.Proofs.YtoipgepkhomfgaaGreatDoor
variable {w w':World} {r x x0:aL} {e t:TypeId} {o:Oper} {a:aK} {K:Act->World->Prop} {Q:Exit->Act->World->Prop} {ops:Array Oper} {act:Act} {ev:Operand->Value} {B c g j m:Nat} {v:Value} {p:Nat->Prop} {d:Int}
section
open Go.RowKit
namespace Tm
open Tr Ni Pk
theorem DJ {b:Nat} (h:Rg.Own w b #[.string x] t) (s:aL):(Instr.storeAt 9 (.pointer (some ⟨b,0,none⟩)) (.string s)).run prog w = .ok () (w.setCell ⟨b,0,none⟩ (.string s)):=by
 have hc:w.cell? ⟨b,0,none⟩=some (.string x):=aV (j:=0) h rfl;have hz:w.frozen? ⟨b,0,none⟩=false:=gJ h;simp [go_sem,hc,hz]
theorem Aa {a:Act} (hw:Region.wanted o (yielded ops a.tmps)=true) {b:Nat} {x:aL} (hg:Rg.Own w b #[.string x] t) (s:aL)
  (ho:∃ x y,o.op = .store 9 x y/\a.eval x = .pointer (some ⟨b,0,none⟩)/\a.eval y = .string s)
  (h:∀ w',Rg.Own w' b #[.string s] t->Rg.Upd w b w'->K (a.put o.dst undef) w'):if Region.wanted o (yielded ops a.tmps)=true then Oper.wp prog o a w K Q else K (a.put o.dst undef) w:=by
 obtain ⟨x,y,ho,hx,hy⟩:=ho;refine Rg.want hw ?_;unfold Oper.wp execOp;simp only [ho,hx,hy,Sem.run_bind,Sem.run_pure,Result.andThen_ok,DJ hg s];exact h _ (dw hg _) (bN _ _ _ _)
theorem BN {rest:List Oper} {b:Nat} (h:Rg.Own w b #[.string x0] t) (s:aL)
  (hgd:o.guard=none) (x y:Operand) (ho:o.op = .store 9 x y) (hx:act.eval x = .pointer (some ⟨b,0,none⟩)) (hy:act.eval y = .string s)
  (hQ:∀ w',Rg.Own w' b #[.string s] t->Rg.Upd w b w'->wpList prog ops Q rest (act.put o.dst undef) w'):wpList prog ops Q (o::rest) act w :=
 wpList_plain hgd λK hK=>by
  unfold Oper.wp execOp;simp only [ho,hx,hy,Sem.run_bind,Sem.run_pure,Result.andThen_ok,DJ h s];exact hK _ _ (hQ _ (dw h _) (bN _ _ _ _))
theorem IQ {b:Nat} {o:Nat} (h:w.cell? ⟨b,o,none⟩=some (.string x)):(Instr.loadAt 9 (.pointer (some ⟨b,o,none⟩))).run prog w = .ok (.string x) w:=by
 simp [go_sem,h]
theorem dV {b off:Nat} {s:aL} (hc:w.cell? ⟨b,off,none⟩=some (.string s)) (ho:∃ x,o.op = .load 9 x/\ev x = .pointer (some ⟨b,off,none⟩)) :
  (execOp ev o).run prog w = .ok (.value (.string s)) w:=by
 obtain ⟨x,ho,hx⟩:=ho;unfold execOp;simp only [ho,hx,Sem.run_bind,Sem.run_pure,Result.andThen_ok,IQ hc]
theorem bX {k:aM} (hk:k.length=32) (hg:w.heap[g]? = some (.cells (Ky.kc k) 24 (0,0))) (ho:∃ x,o.op = .load 24 x/\ev x = .pointer (some ⟨g,0,none⟩)) :
  (execOp ev o).run prog w = .ok (.value (.agg (Ky.kc k))) w:=by
 obtain ⟨x,ho,hx⟩:=ho;exact Ky.Jb ev o x w g k ho hx (Ky.Mq w g k hk hg)
theorem nQ {b:Nat} {cs:aN} (h:Bo g w w') (hO:Rg.Own w b cs t) (hne:b≠g):Rg.Own w' b cs t:=⟨aI hO.1 h.size,(h.block b hO.1 hne).trans hO.2⟩
theorem TQ {fn:Func} {q u:Tmp} (hf:fn.results = #[.cell q 9,.tmp u]) (tmps:aN) {b:Nat} (hp:tmps.getD q undef = .pointer (some ⟨b,0,none⟩)) (h:Rg.Own w b #[.string x] 9) :
  (results fn tmps).run prog w = .ok (.tuple #[.string x,tmps.getD u undef]) w:=by
 have hp':tmps[q]?.getD undef = .pointer (some ⟨b,0,none⟩):=by simpa using hp
 have hc:w.cell? ⟨b,0,none⟩=some (.string x):=aV (j:=0) h rfl;have hagg:(isAgg 9).run prog w = .ok false w:=by kernel_rfl
 have hl:(loadVar 9 ⟨b,0,none⟩).run prog w = .ok (.string x) w:=by
  have:=IQ (b:=b) (o:=0) hc;simpa only [Instr.loadAt,Instr.sureAddr,Sem.run_bind,Sem.run_pure,Result.andThen_ok] using this
 simp [results,hf,hp',asAddr,hl]
open Ky
def iU (x:Tr.Pair):List Value:=(x.1.map λb=>Value.int .u8 b.toNat)++[.string x.2]
def gI (x:Tr.Pair):aN:=(iU x).toArray
theorem fK {x:Tr.Pair} (h:x.1.length=32):(iU x).length=33:=by simp [iU,h]
theorem oL (x:Tr.Pair):∀ u∈iU x,u.oneCell'=true:=λu hu=>by
 unfold iU at hu;rw [List.mem_append] at hu;rcases hu with hu | hu
 .obtain ⟨b,_,rfl⟩:=List.mem_map.1 hu;rfl
 .obtain rfl:=List.mem_singleton.1 hu;rfl
theorem wD:(prog.info? 60).map (λi=>(i.size,i.bytes))=some (33,48):=by kernel_rfl
theorem zR:((prog.info? 60).bind (·.zero)).isSome=true:=by kernel_rfl
theorem yx:((prog.info? 60).bind (·.zero)).map (·.cells.size)=some 33:=by kernel_rfl
theorem yB:∃ i z,prog.info? 60=some i/\i.zero=some z/\i.size=33/\i.bytes=48/\z.cells.size=33:=by
 have h1:=wD;have h2:=zR;have h3:=yx;cases hi:prog.info? 60 with
 | none=>rw [hi] at h1; simp at h1
 | some i =>
  rw [hi] at h1 h2 h3;simp at h1 h2 h3;cases hz:i.zero with
  | none=>rw [hz] at h2; simp at h2
  | some z =>
   rw [hz] at h3;simp at h3;exact ⟨i,z,rfl,hz,h1.1,h1.2,h3⟩
def dK (w:World) (b o:Nat) (x:Tr.Pair):Prop:=w.rangeAt b o (iU x)
theorem dK.below {b o:Nat} {x:Tr.Pair} (h:dK w b o x) (hb:Below w.heap.size w w'):dK w' b o x:=λj v hv=>aW hb (h j v hv)
theorem dK.key {b o:Nat} {x:Tr.Pair} (h:dK w b o x):w.rangeAt b o (x.1.map λb=>Value.int .u8 b.toNat):=λj v hv=>h j v (by
 unfold iU;have:=(List.getElem?_eq_some_iff.1 hv).1;rw [List.getElem?_append_left this]; exact hv)
theorem dK.val {b o:Nat} {x:Tr.Pair} (h:dK w b o x) (hk:x.1.length=32):w.cell? ⟨b,o+32,none⟩=some (.string x.2):=h 32 _ (by
 unfold iU;rw [List.getElem?_append_right (by simp [hk])];simp [hk])
theorem dK.own {b:Nat} {x:Tr.Pair} (h:Rg.Own w b (gI x) t):dK w b 0 x:=λj v hv=>by
 rw [Nat.zero_add];exact aV h (by unfold gI; simpa using hv)
theorem gH {ev:Operand->Value} {o:Oper} {w:World} {b off:Nat} {x:Tr.Pair} (hk:x.1.length=32) (h:dK w b off x) (ho:∃ y,o.op = .load 60 y/\ev y = .pointer (some ⟨b,off,none⟩)) :
  (execOp ev o).run prog w = .ok (.value (.agg (gI x))) w:=by
 obtain ⟨y,ho,hx⟩:=ho;have hl:=run_loadAt_mid (P:=prog) w b off 60 (iU x) _ h underlying60 rfl (by
  have:=wD;rw [fK hk];cases hi:prog.info? 60 with
  | none=>rw [hi] at this; simp at this
  | some i=>rw [hi] at this; simp at this; simp [this.1])
 unfold execOp;simp only [ho,hx,Sem.run_bind,Sem.run_pure,Result.andThen_ok,hl];rfl
theorem iK {b off:Nat} {k:aM} (hk:k.length=32) (h:w.rangeAt b off (k.map λb=>Value.int .u8 b.toNat)) (ho:∃ y,o.op = .load 24 y/\ev y = .pointer (some ⟨b,off,none⟩)) :
  (execOp ev o).run prog w = .ok (.value (.agg (kc k))) w:=by
 obtain ⟨y,ho,hx⟩:=ho;have hl:=run_loadAt_mid (P:=prog) w b off 24 (k.map λb=>Value.int .u8 b.toNat) _ h underlying24 rfl (by rw [Hr]; simp [hk]);unfold execOp;simp only [ho,hx,Sem.run_bind,Sem.run_pure,Result.andThen_ok,hl];rfl
theorem pq {α:Type} (l:List α) (h:l.length=32):∃ a0 a1 a2 a3 a4 a5 a6 a7 b0 b1 b2 b3 b4 b5 b6 b7 c0 c1 c2 c3 c4 c5 c6 c7 d0 d1 d2 d3 d4 d5 d6 d7,l=[a0,a1,a2,a3,a4,a5,a6,a7,b0,b1,b2,b3,b4,b5,b6,b7,c0,c1,c2,c3,c4,c5,c6,c7,d0,d1,d2,d3,d4,d5,d6,d7]:=by
 match l,h with
 | [a0,a1,a2,a3,a4,a5,a6,a7,b0,b1,b2,b3,b4,b5,b6,b7,c0,c1,c2,c3,c4,c5,c6,c7,d0,d1,d2,d3,d4,d5,d6,d7],_=>exact ⟨_,_,_,_,_,_,_,_,_,_,_,_,_,_,_,_,_,_,_,_,_,_,_,_,_,_,_,_,_,_,_,_,rfl⟩
theorem nS (k:aM) (v:aL) (h:k.length=32):prog.built 60 [(0,.agg (kc k)),(1,.string v)]=some (gI (k,v)):=by
 obtain ⟨a0,a1,a2,a3,a4,a5,a6,a7,b0,b1,b2,b3,b4,b5,b6,b7,c0,c1,c2,c3,c4,c5,c6,c7,d0,d1,d2,d3,d4,d5,d6,d7,rfl⟩:=pq k h;kernel_rfl
theorem oq {x:Tr.Pair} (hk:x.1.length=32) (b:Nat) (hb:b=w.heap.size) (ho:∃ y,o.op = .buildSlice 22 1 #[(0,y)]/\ev y = .agg (gI x)) :
  (execOp ev o).run prog w = .ok (.value (.slice (some ⟨b,0,none⟩) 1 1)) (w.alloc (.cells (gI x) 60)):=by
 obtain ⟨y,ho,hx⟩:=ho;obtain ⟨k,v⟩:=x;subst hb;unfold execOp;simp only [ho,List.map_toArray,List.map_cons,List.map_nil,hx];obtain ⟨a0,a1,a2,a3,a4,a5,a6,a7,b0,b1,b2,b3,b4,b5,b6,b7,c0,c1,c2,c3,c4,c5,c6,c7,d0,d1,d2,d3,d4,d5,d6,d7,rfl⟩:=pq k hk;kernel_rfl
def nK (w:World) (a:aK) (n c:Nat) (l:List Tr.Pair):Prop :=
 n<=c/\c<=maxLen/\l.length=n/\(a=none->c=0)/\(∀ x∈l,x.1.length=32)/\∀ j,j<n->∃ b off,a=some ⟨b,off,none⟩/\b<w.heap.size/\dK w b (off+j*33) (l.getD j ([],eB))
theorem nK.len {n:Nat} {l:List Tr.Pair} (h:nK w a n c l):l.length=n:=h.2.2.1
theorem nK.keys {n:Nat} {l:List Tr.Pair} (h:nK w a n c l):∀ x∈l,x.1.length=32:=h.2.2.2.2.1
theorem nK.at' {n:Nat} {l:List Tr.Pair} (h:nK w a n c l) (j:Nat) (hj:j<n):∃ b off,a=some ⟨b,off,none⟩/\b<w.heap.size/\dK w b (off+j*33) (l.getD j ([],eB))/\(l.getD j ([],eB)).1.length=32:=by
 obtain ⟨b,off,e,hlt,hp⟩:=h.2.2.2.2.2 j hj;refine ⟨b,off,e,hlt,hp,h.keys _ ?_⟩;have hl:=h.len;rw [List.getD_eq_getElem?_getD,List.getElem?_eq_getElem (by omega)];exact List.getElem_mem _
theorem nK.below {w w':World} {a:aK} {n c:Nat} {l:List Tr.Pair} (h:nK w a n c l) (hb:Below w.heap.size w w'):nK w' a n c l :=
 ⟨h.1,h.2.1,h.2.2.1,h.2.2.2.1,h.2.2.2.2.1,λj hj=>by
  obtain ⟨b,off,e,hlt,hp⟩:=h.2.2.2.2.2 j hj;exact ⟨b,off,e,aI hlt hb.size,hp.below hb⟩⟩
theorem nK.nil (w:World):nK w none 0 0 []:=⟨aG,Nat.zero_le _,rfl,λ_=>rfl,λ_ h=>(by cases h),λ_ h=>absurd h (Nat.not_lt_zero _)⟩
def rowP (l:List Tr.Pair):List Value:=l.flatMap iU
theorem su (l:List Tr.Pair) (x:Tr.Pair):rowP (l++[x])=rowP l++iU x:=by simp [rowP]
theorem Et:∀ (l:List Tr.Pair),(∀ x∈l,x.1.length=32)->∀ j i,j<l.length->i<33->(rowP l)[j*33+i]? = (iU (l.getD j ([],eB)))[i]?
 | [],_,_,_,h,_=>absurd h (Nat.not_lt_zero _)
 | x::l,h,0,i,_,hi=>by
  show (iU x++rowP l)[0*33+i]? = _;rw [Nat.zero_mul,Nat.zero_add,List.getElem?_append_left (by rw [fK (h x List.mem_cons_self)]; exact hi)];rfl
 | x::l,h,j+1,i,hj,hi=>by
  show (iU x++rowP l)[(j+1)*33+i]? = _;have hx:=fK (h x List.mem_cons_self);rw [List.getElem?_append_right (by omega),hx,show (j+1)*33+i-33=j*33+i by omega,Et l (λy hy=>h y (List.mem_cons_of_mem _ hy)) j i (by simpa using hj) hi];rfl
theorem nK.oF {n:Nat} {l:List Tr.Pair} (hk:∀ x∈l,x.1.length=32) (hl:l.length=n) (h:w.ownsRow B 60 33 v n (rowP l)):∃ a cap,v = .slice a n cap/\nK w a n cap l:=by
 rcases h.2 with ⟨rfl,hz⟩ | ⟨g,cap,cur,rfl,hbg,hg,hnc,hcm,hcs,htake⟩
 .subst hz;obtain rfl:l=[]:=List.eq_nil_of_length_eq_zero hl;exact ⟨none,0,rfl,nK.nil w⟩
 .refine ⟨_,_,rfl,hnc,hcm,hl,λe=>(by cases e),hk,λj hj=>⟨g,0,rfl,(Array.getElem?_eq_some_iff.1 hg).1,λi u hu=>?_⟩⟩;have hkj:(l.getD j ([],eB)).1.length=32:=hk _ (by
   rw [List.getD_eq_getElem?_getD,List.getElem?_eq_getElem (by omega)];exact List.getElem_mem _)
  have hi:i<33:=by
   have:=(List.getElem?_eq_some_iff.1 hu).1;rwa [fK hkj] at this
  have:=h.cells (g:=g) rfl (j*33+i) u (by rw [Et l hk j i (by omega) hi]; exact hu);rw [Addr.add_mid] at this;rw [Nat.add_assoc];exact this
def Yr (w:World) (l:List Tr.Pair) (e:Ending) (w':World):Prop:=∃ a n c,e = .returned (.slice a n c)/\nK w' a n c l/\Below w.heap.size w w'
theorem kI (ev:Operand->Value) (o:Oper) (w:World) (b:Nat) (hb:b=w.heap.size) (ho:o.op = .alloc 60) :
  (execOp ev o).run prog w = .ok (.value (.pointer (some ⟨b,0,none⟩))) (w.alloc (.cells (gI (List.replicate 32 0,eB)) 60)):=by
 subst hb;unfold execOp;rw [ho];kernel_rfl
theorem jN {x:Tr.Pair} (h:x.1.length=32):(gI x).size=33:=by simp [gI,fK h]
theorem wP (x:Tr.Pair):(gI x).all (·.oneCell')=true:=by
 unfold gI;exact all_oneCell_toArray (oL x)
theorem uI {x:Tr.Pair} (h:x.1.length=32):(prog.info? 60).map (·.size)=some (gI x).size:=by
 rw [jN h];have:=wD;cases hi:prog.info? 60 with
 | none=>rw [hi] at this; simp at this
 | some i=>rw [hi] at this; simp at this; simp [this.1]
theorem je {rest:List Oper} {b:Nat} {x:Tr.Pair} (h:Rg.Own w b (gI x) 60) (hx:x.1.length=32) (y:Tr.Pair) (hy:y.1.length=32)
  (hgd:o.guard=none) (p q:Operand) (ho:o.op = .store 60 p q) (hp:act.eval p = .pointer (some ⟨b,0,none⟩)) (hq:act.eval q = .agg (gI y)) (hd:o.dst=none)
  (hQ:∀ w',Rg.Own w' b (gI y) 60->Rg.Upd w b w'->wpList prog ops Q rest act w'):wpList prog ops Q (o::rest) act w :=
 wpList_store_rowTo hgd 60 p q ho hd b _ hp hq 60 _ h.2 (uI hy) (by rw [jN hx,jN hy]) (wP _) (hQ _ ⟨by simp; exact h.1,setRow_heap _ _ _ _ _ _ h.2⟩ (Rg.Upd.set _ _ _))
theorem CJ (k l:aM) (w:World) (d:Nat):∀ is:List Nat,(∀ i∈is,i<k.length/\i<l.length)->(Op.eqItems (d+1) 5 1 (kc k) (kc l) is).run prog w = .ok (is.all λi=>decide (k.getD i 0=l.getD i 0)) w
 | [],_=>by simp [Op.eqItems]
 | i::is,h=>by
  have ih:=CJ k l w d is (λj hj=>h j (List.mem_cons_of_mem _ hj));have hp:=Dj k i (h i (List.mem_cons_self ..)).1 w;have hq:=Dj l i (h i (List.mem_cons_self ..)).2 w;unfold Op.eqItems;rw [Nat.mul_one];simp only [Sem.run_bind,hp,hq,Result.andThen_ok,run_equalIn_int w d 5 .u8 .u8 _ _ underlying5];by_cases e:k.getD i 0=l.getD i 0
  .rw [List.all_cons,aJ e,Bool.true_and,e];simp only [beq_self_eq_true,Bool.not_true,Bool.false_eq_true,if_false];exact ih
  .have hne:(((k.getD i 0).toNat:Int)==((l.getD i 0).toNat:Int))=false:=by
    simp only [beq_eq_false_iff_ne,ne_eq];intro h;exact e (UInt8.toNat_inj.1 (by omega))
   rw [List.all_cons,decide_eq_false e,Bool.false_and,hne];simp
theorem VG {k l:aM} (hk:k.length=32) (hl:l.length=32):((List.range 32).all λi=>decide (k.getD i 0=l.getD i 0))=decide (k=l):=by
 rw [Bool.eq_iff_iff,List.all_eq_true,decide_eq_true_iff];constructor
 .intro h;apply List.ext_getElem (by omega);intro i h1 h2;have:=of_decide_eq_true (h i (List.mem_range.2 (by omega)));simpa [List.getD,h1,h2] using this
 .rintro rfl i _;exact aJ rfl
end Tm
end
section
open Go.RowKit
namespace Tm
open Tr Ni Pk
open Ky
theorem zB {l:List Tr.Pair} (h:j<l.length):l.getD j ([],eB)∈l:=by
 rw [List.getD_eq_getElem?_getD,List.getElem?_eq_getElem h];exact List.getElem_mem _
theorem take_at {l:List Tr.Pair} (h:j<l.length):l.take (j+1)=l.take j++[l.getD j ([],eB)]:=by
 have e:l.getD j ([],eB)=l[j]:=by simp [List.getD,h]
 rw [e,List.take_succ_eq_append_getElem h]
def ze (w:World) (l:List Tr.Pair) (e:Ending) (w':World):Prop:=∃ v,e = .returned v/\w'.ownsRow w.heap.size 60 33 v l.length (rowP l)/\Below w.heap.size w w'
theorem ze.ps {l:List Tr.Pair} {e:Ending} (hk:∀ x∈l,x.1.length=32) (h:ze w l e w'):Yr w l e w':=by
 obtain ⟨v,rfl,ho,hb⟩:=h;obtain ⟨a,cap,rfl,hp⟩:=nK.oF hk rfl ho;exact ⟨a,_,cap,rfl,hp,hb⟩
theorem rR {n sz:Nat} {xs:List Value} (h:w.ownsRow B e sz v n xs) (hb:Below w.heap.size w w'):w'.ownsRow B e sz v n xs:=h.kept (Bu.gL hb) (by cases v.ownBlock <;> simp)
abbrev Hdl:Type:=aK × Nat × Nat
def BsP (p:Nat->Prop) (w:World) (h:Hdl) (l:aM):Prop:=bf w h.1 h.2.1 h.2.2 l/\∀ ad,h.1=some ad->0<h.2.1->p ad.block
theorem BsP.kept {h:Hdl} {l:aM} (g:BsP p w h l) (hs:w.heap.size<=w'.heap.size) (hk:∀ b,p b->b<w.heap.size->w'.heap[b]? = w.heap[b]?):BsP p w' h l:=by
 refine ⟨⟨g.1.1,g.1.2.1,g.1.2.2.1,g.1.2.2.2.1,λj hj=>?_⟩,g.2⟩;obtain ⟨b,off,e,hlt,hc⟩:=g.1.at' j hj;exact ⟨b,off,e,aI hlt hs,by rw [World.cell?_of_block (a:=⟨b,off+j,none⟩) (hk b (g.2 _ e (by omega)) hlt)]; exact hc⟩
theorem BsP.to {q:Nat->Prop} {h:Hdl} {l:aM} (g:BsP p w h l) (hp:∀ b,b<w.heap.size->p b->q b):BsP q w h l:=by
 refine ⟨g.1,λad e hn=>hp _ ?_ (g.2 ad e hn)⟩;obtain ⟨b,off,e2,hlt,_⟩:=g.1.at' 0 hn;rw [e] at e2;cases e2;exact hlt
theorem BsP.old {h:Hdl} {l:aM} (g:bf w h.1 h.2.1 h.2.2 l):BsP (λb=>b<w.heap.size) w h l:=by
 refine ⟨g,λad e hn=>?_⟩;obtain ⟨b,off,e2,hlt,_⟩:=g.at' 0 hn;rw [e] at e2;cases e2;exact hlt
open No
end Tm
end
section
open Go.RowKit
namespace Tm
open Tr Ni Pk Sm
def sz:T->Nat
 | .nil=>0
 | .leaf _ _=>1
 | .ext _ t=>sz t+1
 | .br ks=>((List.finRange 16).map λi=>sz (ks i)).sum+1
 | .stub _=>1
theorem ND:∀ (l:List Nat) (x:Nat),x∈l->x<=l.sum
 | [],_,h=>by cases h
 | y::l,x,h=>by
  rw [List.sum_cons];rcases List.mem_cons.1 h with rfl | h
  .omega
  .have:=ND l x h;omega
theorem Zl (ks:Fin 16->T) (i:Fin 16):sz (ks i)<sz (.br ks):=by
 have h:=ND ((List.finRange 16).map λi=>sz (ks i)) (sz (ks i)) (List.mem_map.2 ⟨i,List.mem_finRange i,rfl⟩);show _<_+1;omega
def El (w:World) (b:Nat):Prop:=(∀ j v,w.cell? ⟨b,j,none⟩=some v->(∀ x,v ≠ .int .u8 x)/\∀ p,v ≠ .pointer p)/\w.cell? ⟨b,8,none⟩=none
structure dS (M:Mp) (n:Nat) (w:World):Prop where
 lt_:∀ k,M.ft k->k<w.heap.size
 part_:∀ b t,M.at_ b=some t->t ≠ .nil/\M.ft b/\El w b/\(sz t<n->qc M w b t)
structure FrN (M:Mp) (n:Nat) (w w':World):Prop where
 os:w'.os=w.os
 tape:w'.tape=w.tape
 output:w'.output=w.output
 size:w.heap.size<=w'.heap.size
 block:∀ k,k<w.heap.size->(M.at_ k=none\/∃ t,M.at_ k=some t/\n<=sz t)->w'.heap[k]? = w.heap[k]?
theorem Db {b:Nat} {t:T} {n:Nat} {ka:aK} {kn kc:Nat} (h:w.heap[b]? = some (.cells (gY t a n c ka kn kc d r) 135 (0,0))):El w b:=by
 refine ⟨λj v hc=>FP (pO h hc),?_⟩;rw [World.cell?,h];rfl
theorem Inv.toN {M:Mp} (h:Inv M w) (n:Nat):dS M n w:=⟨h.lt_,λb t hm=>by
 obtain ⟨h1,h2,h3⟩:=h.part_ b t hm;obtain ⟨a,n,c,ka,kn,kc,d,r,hb,hr⟩:=h3;exact ⟨h1,h2,Db hb,λ_=>⟨a,n,c,ka,kn,kc,d,r,hb,hr⟩⟩⟩
theorem dS.mono {M:Mp} {n:Nat} (h:dS M n w) (hm:m<=n):dS M m w:=⟨h.lt_,λb t e=>by
 obtain ⟨h1,h2,h3,h4⟩:=h.part_ b t e;exact ⟨h1,h2,h3,λhl=>h4 (by omega)⟩⟩
theorem dS.cZ {M:Mp} {n:Nat} {w:World} (h:dS M n w) {b j:Nat} {x:Int} (hc:w.cell? ⟨b,j,none⟩=some (.int .u8 x)):M.at_ b=none:=by
 cases hm:M.at_ b with
 | none=>rfl
 | some t=>exact absurd rfl (((h.part_ b t hm).2.2.1.1 _ _ hc).1 x)
theorem dS.nU {M:Mp} {n:Nat} {w:World} (h:dS M n w) {b j:Nat} {p:aK} (hc:w.cell? ⟨b,j,none⟩=some (.pointer p)):M.at_ b=none:=by
 cases hm:M.at_ b with
 | none=>rfl
 | some t=>exact absurd rfl (((h.part_ b t hm).2.2.1.1 _ _ hc).2 p)
theorem FrN.below (M:Mp) (n:Nat) (h:Below w.heap.size w w'):FrN M n w w':=⟨h.os,h.tape,h.output,h.size,λk hk _=>h.block k hk⟩
theorem FrN.trans {M:Mp} {n:Nat} {w w1 w2:World} (h:FrN M n w w1) (g:FrN M n w1 w2):FrN M n w w2:=⟨g.os.trans h.os,g.tape.trans h.tape,g.output.trans h.output,Nat.le_trans h.size g.size,λk hk hc=>(g.block k (aI hk h.size) hc).trans (h.block k hk hc)⟩
theorem FrN.mono {M:Mp} {n:Nat} (h:FrN M n w w') (hm:n<=m):FrN M m w w':=⟨h.os,h.tape,h.output,h.size,λk hk hc=>h.block k hk (hc.imp id (λ⟨t,e,hl⟩=>⟨t,e,by omega⟩))⟩
theorem FrN.cell {M:Mp} {n:Nat} (h:FrN M n w w') {b o:Nat} (hc:w.cell? ⟨b,o,none⟩=some v) (hb:M.at_ b=none\/∃ t,M.at_ b=some t/\n<=sz t):w'.cell? ⟨b,o,none⟩=some v:=by
 rw [<-hc];exact World.cell?_of_block (w:=w) (h.block b (World.block_lt_of_cell? w _ hc) hb)
theorem FrN.upd {M:Mp} {n:Nat} {w1:World} (h:FrN M n w w1) (hu:Rg.Upd w1 g w') (hg:w.heap.size<=g):FrN M n w w':=⟨hu.os.trans h.os,hu.tape.trans h.tape,hu.output.trans h.output,by rw [hu.size]; exact h.size,λk hk hc=>(hu.block k (by omega)).trans (h.block k hk hc)⟩
theorem FrN.fr {M:Mp} {n:Nat} (h:FrN M n w w'):Fr M M w w':=⟨h.os,h.tape,h.output,h.size,λk hk hm=>h.block k hk (Or.inl hm),λ_ _ h=>h,λ_ _ h=>h,λ_ h=>h,λ_ h=>Or.inl h⟩
theorem qc.keep {M:Mp} {b:Nat} {t:T} (h:qc M w b t) (hs:w.heap.size<=w'.heap.size) (hb:w'.heap[b]? = w.heap[b]?)
  (hk:∀ k j v,k<w.heap.size->w.cell? ⟨k,j,none⟩=some v->((∃ x,v = .int .u8 x)\/∃ p,v = .pointer p)->w'.heap[k]? = w.heap[k]?):qc M w' b t:=by
 obtain ⟨a,n,c,ka,kn,kc,d,r,h1,hB,hK,hd⟩:=h;refine ⟨a,n,c,ka,kn,kc,d,r,hb.trans h1,⟨⟨hB.1.1,hB.1.2.1,hB.1.2.2.1,hB.1.2.2.2.1,λj hj=>?_⟩,hB.2⟩,⟨hK.1,hK.2.1,hK.2.2.1,hK.2.2.2.1,λj hj=>?_⟩,hd⟩
 .obtain ⟨b',off,e,hlt,hc⟩:=hB.1.2.2.2.2 j hj;exact ⟨b',off,e,aI hlt hs,by rw [World.cell?_of_block (hk b' _ _ hlt hc (Or.inl ⟨_,rfl⟩))]; exact hc⟩
 .obtain ⟨b',off,p,e,hlt,hf,hc,ht⟩:=hK.at' j hj;exact ⟨b',off,p,e,aI hlt hs,hf,by rw [World.cell?_of_block (hk b' _ _ hlt hc (Or.inr ⟨_,rfl⟩))]; exact hc,ht⟩
theorem El.keep {b:Nat} (h:El w b) (hb:w'.heap[b]? = w.heap[b]?):El w' b:=by
 have hc:∀ j,w'.cell? ⟨b,j,none⟩=w.cell? ⟨b,j,none⟩:=λj=>World.cell?_of_block hb;exact ⟨λj v h1=>h.1 j v (by rw [<-hc j]; exact h1),by rw [hc 8]; exact h.2⟩
theorem dS.after {M:Mp} {n:Nat} (h:dS M n w) (f:FrN M m w w') (g:dS M m w'):dS M n w':=by
 refine ⟨λk hk=>aI (h.lt_ k hk) f.size,λb t hm=>?_⟩;obtain ⟨h1,h2,h3,h4⟩:=h.part_ b t hm;obtain ⟨_,_,g3,g4⟩:=g.part_ b t hm;refine ⟨h1,h2,g3,λhl=>?_⟩;by_cases e:sz t<m
 .exact g4 e
 .refine (h4 hl).keep f.size (f.block b (h.lt_ b h2) (Or.inr ⟨t,hm,by omega⟩)) (λk j v hlt hc hv=>f.block k hlt (Or.inl ?_));rcases hv with ⟨x,rfl⟩ | ⟨p,rfl⟩
  .exact h.cZ hc
  .exact h.nU hc
theorem dS.below {M:Mp} {n:Nat} (h:dS M n w) (hb:Below w.heap.size w w'):dS M n w':=by
 refine ⟨λk hk=>aI (h.lt_ k hk) hb.size,λb t hm=>?_⟩;obtain ⟨h1,h2,h3,h4⟩:=h.part_ b t hm;have hlt:=h.lt_ b h2;exact ⟨h1,h2,h3.keep (hb.block b hlt),λhl=>(h4 hl).keep hb.size (hb.block b hlt) (λk j v hk _ _=>hb.block k hk)⟩
theorem dS.upd {M:Mp} {n:Nat} (h:dS M n w) (hu:Rg.Upd w g w') (hg:¬ M.ft g):dS M n w':=by
 refine ⟨λk hk=>by rw [hu.size]; exact h.lt_ k hk,λb t hm=>?_⟩;obtain ⟨h1,h2,h3,h4⟩:=h.part_ b t hm;have hne:∀ k,M.ft k->k≠g:=λk hk e=>hg (by rw [<-e]; exact hk);refine ⟨h1,h2,h3.keep (hu.block b (hne b h2)),λhl=>?_⟩;obtain ⟨a,n,c,ka,kn,kc,d,r,hb,hB,hK,hd⟩:=h4 hl;refine ⟨a,n,c,ka,kn,kc,d,r,(hu.block b (hne b h2)).trans hb,⟨⟨hB.1.1,hB.1.2.1,hB.1.2.2.1,hB.1.2.2.2.1,λj hj=>?_⟩,hB.2⟩,⟨hK.1,hK.2.1,hK.2.2.1,hK.2.2.2.1,λj hj=>?_⟩,hd⟩
 .obtain ⟨b',off,e,hlt,hc⟩:=hB.1.2.2.2.2 j hj;exact ⟨b',off,e,by rw [hu.size]; exact hlt,by rw [World.cell?_of_block (hu.block b' (hne b' (hB.2 _ e (by omega))))]; exact hc⟩
 .obtain ⟨b',off,p,e,hlt,hf,hc,ht⟩:=hK.at' j hj;exact ⟨b',off,p,e,by rw [hu.size]; exact hlt,hf,by rw [World.cell?_of_block (hu.block b' (hne b' hf))]; exact hc,ht⟩
theorem Gp {M:Mp} {n:Nat} {w:World} (h:dS M n w) (hT:Tab w):M.at_ 0=none:=by
 cases hm:M.at_ 0 with
 | none=>rfl
 | some t =>
  have h8:=(h.part_ 0 t hm).2.2.1.2;rw [hT 8 (by omega)] at h8;cases h8
theorem uS {M:Mp} {n:Nat} (h:dS M n w) (f:FrN M n w w') (hT:Tab w):Tab w':=λi hi=>f.cell (hT i hi) (Or.inl (Gp h hT))
theorem IW {M:Mp} {n:Nat} {k:Nat} {l:aM} (hi:dS M n w) (h:bf w a k c l) (f:FrN M n w w'):bf w' a k c l:=by
 refine ⟨h.1,h.2.1,h.2.2.1,h.2.2.2.1,λj hj=>?_⟩;obtain ⟨b,off,e,hlt,hc⟩:=h.2.2.2.2 j hj;exact ⟨b,off,e,aI hlt f.size,f.cell hc (Or.inl (hi.cZ hc))⟩
structure Body (M:Mp) (w:World) (b:Nat) (t:T) (a:aK) (n c:Nat) (ka:aK) (kn kc:Nat):Prop where
 c0:w.cell? ⟨b,0,none⟩=some (.int .i64 (dB t))
 c1:w.cell? ⟨b,1,none⟩=some (.slice a n c)
 c2:w.cell? ⟨b,2,none⟩=some (.string (Fu t))
 c3:w.cell? ⟨b,3,none⟩=some (.slice ka kn kc)
 hb:bf w a n c (bU t)
 hk:Ks M w ka kn kc (fq t)
theorem qc.body {M:Mp} {b:Nat} {t:T} (h:qc M w b t):∃ a n c ka kn kc,Body M w b t a n c ka kn kc:=by
 obtain ⟨a,n,c,ka,kn,kc,d,r,hb,hB,hK,_⟩:=h;obtain ⟨⟨c0,c1,c2,c3⟩,_⟩:=jL hb;exact ⟨a,n,c,ka,kn,kc,c0,c1,c2,c3,hB.1,hK⟩
theorem Ks.frN {M:Mp} {n:Nat} {l:List T} (hi:dS M m w) (h:Ks M w a n c l) (f:FrN M m w w'):Ks M w' a n c l:=by
 refine ⟨h.1,h.2.1,h.2.2.1,h.2.2.2.1,λj hj=>?_⟩;obtain ⟨b,off,p,e,hlt,hm,hc,ht⟩:=h.at' j hj;exact ⟨b,off,p,e,aI hlt f.size,hm,f.cell hc (Or.inl (hi.nU hc)),ht⟩
theorem Body.frN {M:Mp} {m:Nat} {w w':World} {b:Nat} {t:T} {a:aK} {n c:Nat} {ka:aK} {kn kc:Nat} (h:Body M w b t a n c ka kn kc) (hi:dS M m w) (f:FrN M m w w') (hm:M.at_ b=some t) (hl:m<=sz t):Body M w' b t a n c ka kn kc :=
 have e:=Or.inr ⟨t,hm,hl⟩
 ⟨f.cell h.c0 e,f.cell h.c1 e,f.cell h.c2 e,f.cell h.c3 e,IW hi h.hb f,h.hk.frN hi f⟩
theorem Body.below {M:Mp} {w w':World} {b:Nat} {t:T} {a:aK} {n c:Nat} {ka:aK} {kn kc:Nat} (h:Body M w b t a n c ka kn kc) (hb:Below w.heap.size w w'):Body M w' b t a n c ka kn kc:=by
 refine ⟨aW hb h.c0,aW hb h.c1,aW hb h.c2,aW hb h.c3,h.hb.below hb,h.hk.1,h.hk.2.1,h.hk.2.2.1,h.hk.2.2.2.1,λj hj=>?_⟩;obtain ⟨b',off,p,e,hlt,hm,hc,ht⟩:=h.hk.at' j hj;exact ⟨b',off,p,e,aI hlt hb.size,hm,aW hb hc,ht⟩
theorem nE (b:Nat) (k:Int) (w:World) (hc:w.cell? ⟨b,0,none⟩=some (.int .i64 k)) :
  Calls prog 67 #[.agg #[.pointer (some ⟨b,0,none⟩)]] w λe w'=>e = .returned (.int .i64 k)/\Below w.heap.size w w':=by
 have h0:=fB w (some ⟨b,0,none⟩);have HE:=hid (lH (some ⟨b,0,none⟩) (w.alloc (.cells #[.pointer (some ⟨b,0,none⟩)] 35)));have hk:=MZ (o':=.cells #[.pointer (some ⟨b,0,none⟩)] 35) hc;clear hc;go_enter func67,ntmps67;go_wp2_with fail
 refine HE.out.mono ?_;rintro e w2 ⟨rfl,hb⟩;have h1:=aW hb h0;have h2:=aW hb hk;clear h0 hk;go_wp2;go_ret;exact ⟨rfl,bst (al1 _ _) hb⟩
open Rf
open Rl
open No
def mQ (M:Mp) (t:T) (w:World) (e:Ending) (w':World):Prop:=∃ a n c,e = .returned (.agg (ndC (bg t) a n c))/\BsF w.heap.size w' a n c (bg t).p/\FrN M (sz t) w w'/\dS M (sz t) w'
def mK (t:T):Prop:=∀ (M:Mp) (w:World) (p:aK),dS M (sz t+1) w->IsT M p t->Tab w->Calls prog 74 #[.agg #[.pointer p]] w λe w'=>e = .returned (.string (ref t))/\FrN M (sz t+1) w w'/\dS M (sz t+1) w'
theorem NP (N:Nd) (a:aK) (n c:Nat):∀ (j:Nat) (x:Int),(ndC N a n c)[j]? ≠ some (Value.int .u8 x):=λj x h=>by
 unfold ndC at h
 match j,h with
 | 0,h=>simp at h
 | 1,h=>simp at h
 | 2,h=>simp at h
 | j+3,h=>simp at h
theorem wC (w:World) (p:aK):∃ w2,w2=(w.alloc (.cells #[.pointer p] 35)).alloc (.cells (ndC nd0 none 0 0) 69)/\Rg.Own w2 w.heap.size #[.pointer p] 35/\dZ w2 (w.heap.size+1) nd0 none 0 0/\Below w.heap.size w w2/\w2.heap.size=w.heap.size+2:=by
 refine ⟨_,rfl,(Rg.Own.new _ _ _).below (al1 _ _),?_,al2 _ _ _,by simp⟩;have:=Rg.Own.new (w.alloc (.cells #[.pointer p] 35)) (ndC nd0 none 0 0) 69;simpa using this
theorem Sr (M:Mp) (b:Nat) (q:Pa) (v:aL) (hm:M.at_ b=some (.leaf q v)) (w:World) (hi:dS M 1 w) (pa:aK) (pn pc:Nat) (ka:aK) (kn kc:Nat) (hB:Body M w b (.leaf q v) pa pn pc ka kn kc) (hq:q.length<=64) :
  Calls prog 39 #[.agg #[.pointer (some ⟨b,0,none⟩)]] w (mQ M (.leaf q v) w):=by
 obtain ⟨w2,hw2,am,ab,hb2,hs2⟩:=wC w (some ⟨b,0,none⟩);have hB2:=hB.below hb2;have h0:=aV (j:=0) am rfl;have hlb:=hi.lt_ b (hi.part_ b _ hm).2.1;have hpn:q.length=pn:=hB.hb.len;have HK:=hid (nE b 1 w2 hB2.c0);have CR:Hid (∀ w3,Below w2.heap.size w2 w3->(w3.cell? ⟨w.heap.size,0,none⟩=some (.pointer (some ⟨b,0,none⟩))/\w3.cell? ⟨b,1,none⟩=some (.slice pa pn pc)/\w3.cell? ⟨b,2,none⟩=some (.string v))/\
   (∀ wx,Below w3.heap.size w3 wx->Calls prog 72 #[.slice pa pn pc,.string v] wx (IJ wx ⟨1,q,v,zks⟩))/\
   (∀ w6,Below w3.heap.size w3 w6->∀ a6 n6 c6,BsF w3.heap.size w6 a6 n6 c6 q->dZ w6 (w.heap.size+1) nd0 none 0 0/\∀ af,Rg.Upd w6 (w.heap.size+1) af->mQ M (.leaf q v) w (.returned (.agg (ndC ⟨1,q,v,zks⟩ a6 n6 c6))) af)):=hid (λw3 hb3 =>
  ⟨⟨aW hb3 h0,aW hb3 hB2.c1,aW hb3 hB2.c2⟩,λwx hbx=>No.nL pa pn pc q (by omega) v wx (hB2.hb.below (bst hb3 hbx)),λw6 hb6 a6 n6 c6 hx=>by
   have cz:=ab.below (bst hb3 hb6);have hbw:=bst hb2 (bst hb3 hb6);refine ⟨cz,λaf hu=>⟨a6,n6,c6,rfl,⟨vX hx.1 (cZ cz (NP _ _ _ _)) hu,λad e=>Nat.le_trans (Nat.le_trans hb2.size hb3.size) (hx.2 ad e)⟩,(FrN.below M _ hbw).upd hu (by omega),(hi.below hbw).upd hu (λe=>by have:=hi.lt_ _ e; omega)⟩⟩⟩)
 have H0:=hid am;clear am ab hb2 hs2 hB hB2 h0 hi hm hpn hq;subst hw2;go_enter func39,ntmps39;go_wp2_with (first | (refine aA (bD _ _ _ (w.heap.size+1) (by simp) rfl) ?_) | (refine aA (aU (aV (j:=0) H0.out rfl) ⟨_,rfl,rfl⟩) ?_))
 refine HK.out.mono ?_;rintro e w3 ⟨rfl,hb3⟩;obtain ⟨⟨d0,d1,d2⟩,HC,HF⟩:=CR.out w3 hb3;replace HC:=hid HC;replace HF:=hid HF;clear hb3 CR HK H0;go_wp2_with fail
 refine aC (S:=λw'=>Bo (w.heap.size+1) w3 w') (Bo.of (below_drewN aH 1)) λhld=>?_;refine ah 0 ?_;try simp only [Act.put,ak]
 refine aD 1 (λwz hSw=>gy hSw (by omega) d0) ?_;try simp only [Act.put,ak]
 refine ah 2 ?_;try simp only [Act.put,ak]
 refine ah 3 ?_;try simp only [Act.put,ak]
 refine aD 4 (λwz hSw=>gy hSw (by omega) d1) ?_;try simp only [Act.put,ak]
 refine ah 5 ?_;try simp only [Act.put,ak]
 refine aD 6 (λwz hSw=>gy hSw (by omega) d0) ?_;try simp only [Act.put,ak]
 refine ah 7 ?_;try simp only [Act.put,ak]
 refine ah 8 ?_;try simp only [Act.put,ak]
 refine aD 9 (λwz hSw=>gy hSw (by omega) d2) ?_;try simp only [Act.put,ak]
 refine aj 10 λK hK=>?_;go_simp;go_at_call 72
 (with_reducible refine (HC.out w3.drew (below_drewN aH 1)).mono ?_)
 intro e w6 hG;obtain ⟨a6,n6,c6,rfl,cI,nj,hb6⟩:=hG;have ub:=hid nj;have H6:=hid (HF.out w6 (bst (below_drewN aH 1) hb6) a6 n6 c6 cI);have CT:Below w3.heap.size w3 w6:=bst (below_drewN aH 1) hb6;have cA:=hid H6.out.1;clear nj hb6 cI;refine hK.out _ _ (Bo.of CT) λhld=>?_;clear hK K;try simp only [Act.put,ak]
 refine aj 11 λK hK=>?_;refine Rg.meetStore (by rfl) cA.out 69 (ndC ⟨1,q,v,zks⟩ a6 n6 c6) ⟨_,_,rfl,rfl,rfl⟩ (mE _ _ _ _ ub.out) (by rw [fQ _ _ _ _ fZ,fQ _ _ _ _ ub.out]) (qw _ _ _ _) ?_;intro af ai al;have cf:=hid ai;have ge:=hid (H6.out.2 af al);clear ai;refine hK.out _ _ ((Bo.of CT).upd al) λhld=>?_;clear hK K;try simp only [Act.put,ak]
 refine aB ?_;go_wp2;exact bodyPost_ret (uD rfl _ rfl cf.out ub.out) rfl ge.out
theorem Yf (M:Mp) (b:Nat) (q:Pa) (s:T) (hm:M.at_ b=some (.ext q s)) (w:World) (hi:dS M (sz s+1) w) (pa:aK) (pn pc:Nat) (ka:aK) (kn kc:Nat) (hB:Body M w b (.ext q s) pa pn pc ka kn kc) (hq:q.length<=64) (hT:Tab w) (hR:mK s) :
  Calls prog 39 #[.agg #[.pointer (some ⟨b,0,none⟩)]] w (mQ M (.ext q s) w):=by
 obtain ⟨w2,hw2,am,ab,hb2,hs2⟩:=wC w (some ⟨b,0,none⟩);have hB2:=hB.below hb2;have hi2:=hi.below hb2;have h0:=aV (j:=0) am rfl;have hlb:=hi.lt_ b (hi.part_ b _ hm).2.1;have hpn:q.length=pn:=hB.hb.len;obtain ⟨kb,ko,p0,rfl,d8,gj,hk0,hT0⟩:=hB2.hk.at' 0 (by rw [<-hB2.hk.len]; exact Nat.one_pos);have hkn:kn=1:=hB2.hk.len.symm;have hkc:=hB2.hk.1;have hkm:=hB2.hk.2.1;unfold maxLen at hkm;rw [Nat.add_zero] at hk0;have bm:IsT M p0 s:=hT0;have m9:=hi.lt_ kb gj;have HK:=hid (nE b 2 w2 hB2.c0);have D0:=hT.pos
 have CR:Hid (∀ w3,Below w2.heap.size w2 w3->(w3.cell? ⟨w.heap.size,0,none⟩=some (.pointer (some ⟨b,0,none⟩))/\w3.cell? ⟨b,1,none⟩=some (.slice pa pn pc)/\w3.cell? ⟨b,3,none⟩=some (.slice (some ⟨kb,ko,none⟩) kn kc)/\w3.cell? ⟨kb,ko,none⟩=some (.pointer p0))/\
   Calls prog 74 #[.agg #[.pointer p0]] w3.drew (λe w'=>e = .returned (.string (ref s))/\FrN M (sz s+1) w3.drew w'/\dS M (sz s+1) w')/\
   ∀ w5,FrN M (sz s+1) w3.drew w5->dS M (sz s+1) w5->(((w5.cell? ⟨w.heap.size,0,none⟩=some (.pointer (some ⟨b,0,none⟩))/\w5.cell? ⟨b,1,none⟩=some (.slice pa pn pc))/\w5.cell? ⟨b,3,none⟩=some (.slice (some ⟨kb,ko,none⟩) kn kc))/\w5.cell? ⟨kb,ko,none⟩=some (.pointer p0))/\
    Calls prog 73 #[.slice pa pn pc,.string (ref s)] w5 (IJ w5 ⟨2,q,eB,ref s::List.replicate 15 eB⟩)/\
    ∀ w6,Below w5.heap.size w5 w6->∀ a6 n6 c6,BsF w5.heap.size w6 a6 n6 c6 q->(((w6.cell? ⟨w.heap.size,0,none⟩=some (.pointer (some ⟨b,0,none⟩))/\w6.cell? ⟨b,1,none⟩=some (.slice pa pn pc))/\w6.cell? ⟨b,3,none⟩=some (.slice (some ⟨kb,ko,none⟩) kn kc))/\w6.cell? ⟨kb,ko,none⟩=some (.pointer p0))/\dZ w6 (w.heap.size+1) nd0 none 0 0/\
     ∀ af,Rg.Upd w6 (w.heap.size+1) af->(((af.cell? ⟨w.heap.size,0,none⟩=some (.pointer (some ⟨b,0,none⟩))/\af.cell? ⟨b,1,none⟩=some (.slice pa pn pc))/\af.cell? ⟨b,3,none⟩=some (.slice (some ⟨kb,ko,none⟩) kn kc))/\af.cell? ⟨kb,ko,none⟩=some (.pointer p0))/\mQ M (.ext q s) w (.returned (.agg (ndC ⟨2,q,eB,fM (ref s)⟩ a6 n6 c6))) af):=hid (λw3 hb3=>by
  have e8:Below w2.heap.size w2 w3.drew:=hb3.drew;have hi3:dS M (sz s+1) w3.drew:=hi2.below e8;have e0:=aW e8 h0;have e1:=aW e8 hB2.c1;have e3:=aW e8 hB2.c3;have ek:=aW e8 hk0;have ne:M.at_ b=none\/∃ t,M.at_ b=some t/\sz s+1<=sz t:=Or.inr ⟨_,hm,aG⟩;have io:Tab w3.drew:=hT.below (bst hb2 e8) D0;refine ⟨⟨e0,e1,e3,ek⟩,hR M _ p0 hi3 bm io,λw5 cq hi5=>?_⟩;have g0:=cq.cell e0 (Or.inl (hi3.nU e0));have g1:=cq.cell e1 ne;have g3:=cq.cell e3 ne;have gk:=cq.cell ek (Or.inl (hi3.nU ek));have hP5:=IW hi3 (hB2.hb.below e8) cq
  have hg1:M.at_ (w.heap.size+1)=none:=by
   cases hmm:M.at_ (w.heap.size+1) with
   | none=>rfl
   | some t=>exact absurd (hi.lt_ _ (hi.part_ _ t hmm).2.1) (by omega)
  have ap:dZ w5 (w.heap.size+1) nd0 none 0 0:=⟨aI (ab.below e8).1 cq.size,(cq.block _ (ab.below e8).1 (Or.inl hg1)).trans (ab.below e8).2⟩
  refine ⟨⟨⟨⟨g0,g1⟩,g3⟩,gk⟩,No.Nb pa pn pc q (by omega) (ref s) w5 hP5,λw6 hb6 a6 n6 c6 hx=>?_⟩;have cz:=ap.below hb6;refine ⟨⟨⟨⟨aW hb6 g0,aW hb6 g1⟩,aW hb6 g3⟩,aW hb6 gk⟩,cz,λaf hu=>?_⟩;have hc:∀ (b' o:Nat) (v:Value),b'≠w.heap.size+1->w6.cell? ⟨b',o,none⟩=some v->af.cell? ⟨b',o,none⟩=some v:=λb' o v hne h=>by
   rw [<-h]; exact World.cell?_of_block (w:=w6) (hu.block b' hne)
  have hfw:FrN M (sz s+1) w w6:=((FrN.below M _ (bst hb2 e8)).trans cq).trans (FrN.below M _ hb6);exact ⟨⟨⟨⟨hc _ _ _ (by omega) (aW hb6 g0),hc _ _ _ (by omega) (aW hb6 g1)⟩,hc _ _ _ (by omega) (aW hb6 g3)⟩,hc _ _ _ (by omega) (aW hb6 gk)⟩,
   a6,n6,c6,rfl,⟨vX hx.1 (cZ cz (NP _ _ _ _)) hu,λad e=>Nat.le_trans (Nat.le_trans (Nat.le_trans hb2.size e8.size) cq.size) (hx.2 ad e)⟩,hfw.upd hu (by omega),(hi5.below hb6).upd hu (λe=>by have:=hi.lt_ _ e; omega)⟩)
 have H0:=hid am;clear am ab hb2 hs2 hB hB2 h0 hi hi2 hm hpn hq hT hR D0 hk0 hT0 bm gj d8;subst hw2;go_enter func39,ntmps39;go_wp2_with (first | (refine aA (bD _ _ _ (w.heap.size+1) (by simp) rfl) ?_) | (refine aA (aU (aV (j:=0) H0.out rfl) ⟨_,rfl,rfl⟩) ?_))
 refine HK.out.mono ?_;rintro e w3 ⟨rfl,hb3⟩;obtain ⟨⟨d0,d1,d3,dk⟩,HC,HF⟩:=CR.out w3 hb3;replace HC:=hid HC;replace HF:=hid HF;clear hb3 CR HK H0;go_wp2_with fail
 refine aC (S:=λw'=>((w'.cell? ⟨w.heap.size,0,none⟩=some (.pointer (some ⟨b,0,none⟩))/\w'.cell? ⟨b,1,none⟩=some (.slice pa pn pc))/\w'.cell? ⟨b,3,none⟩=some (.slice (some ⟨kb,ko,none⟩) kn kc))/\w'.cell? ⟨kb,ko,none⟩=some (.pointer p0)) (⟨⟨⟨d0,d1⟩,d3⟩,dk⟩) λhld=>?_;refine ah 0 ?_;try simp only [Act.put,ak]
 refine aD 1 (λwz hSw=>hSw.1.1.1) ?_;try simp only [Act.put,ak]
 refine ah 2 ?_;try simp only [Act.put,ak]
 refine ah 3 ?_;try simp only [Act.put,ak]
 refine aD 4 (λwz hSw=>hSw.1.1.2) ?_;try simp only [Act.put,ak]
 refine ah 5 ?_;try simp only [Act.put,ak]
 refine aD 6 (λwz hSw=>hSw.1.1.1) ?_;try simp only [Act.put,ak]
 refine ah 7 ?_;try simp only [Act.put,ak]
 refine ah 8 ?_;try simp only [Act.put,ak]
 refine aD 9 (λwz hSw=>hSw.1.2) ?_;try simp only [Act.put,ak]
 refine ah 10 ?_;try simp only [Act.put,ak]
 refine ah 11 ?_ (hy:=by intro wz hSw; (refine aU hSw.2 ?_; exact ⟨_,rfl,rfl⟩));try simp only [Act.put,ak]
 refine aj 12 λK hK=>?_;go_simp;go_at_call 74
 (with_reducible refine HC.out.mono ?_)
 rintro e w5 ⟨rfl,cq,hi5⟩;obtain ⟨hS5,H5⟩:=HF.out w5 cq hi5;replace H5:=hid H5;clear cq hi5;refine hK.out _ _ (hS5) λhld=>?_;clear hK K;try simp only [Act.put,ak]
 refine aj 13 λK hK=>?_;go_simp;go_at_call 73
 (with_reducible refine (H5.out.1).mono ?_)
 intro e w6 hG;obtain ⟨a6,n6,c6,rfl,cI,nj,hb6⟩:=hG;have ub:=hid nj;obtain ⟨im,cz,xb⟩:=H5.out.2 w6 hb6 a6 n6 c6 cI;have H6:=hid xb;have cA:=hid cz;clear nj hb6 cI xb cz;refine hK.out _ _ (im) λhld=>?_;clear hK K;try simp only [Act.put,ak]
 refine aj 14 λK hK=>?_;refine Rg.meetStore (by rfl) cA.out 69 (ndC ⟨2,q,eB,ref s::List.replicate 15 eB⟩ a6 n6 c6) ⟨_,_,rfl,rfl,rfl⟩ (mE _ _ _ _ ub.out) (by rw [fQ _ _ _ _ fZ,fQ _ _ _ _ ub.out]) (qw _ _ _ _) ?_;intro af ai al;have cf:=hid ai;obtain ⟨cP,lO⟩:=H6.out af al;have ge:=hid lO;clear ai lO;refine hK.out _ _ (cP) λhld=>?_;clear hK K;try simp only [Act.put,ak]
 refine aB ?_;go_wp2;exact bodyPost_ret (uD rfl _ rfl cf.out ub.out) rfl ge.out
theorem Jy (p:aK) (k:Int) (h1:k≠1) (h2:k≠2) (h3:k≠3) (w:World)
  (hK:∀ wx,Below w.heap.size w wx->Calls prog 67 #[.agg #[.pointer p]] wx λe w'=>e = .returned (.int .i64 k)/\Below wx.heap.size wx w') :
  Calls prog 39 #[.agg #[.pointer p]] w λe w'=>e = .returned (.agg (ndC nd0 none 0 0))/\Below w.heap.size w w':=by
 obtain ⟨w2,hw2,am,ab,hb2,hs2⟩:=wC w p;have HK:=hid (hK w2 hb2);have H3:Hid (∀ w3,Below w2.heap.size w2 w3->dZ w3 (w.heap.size+1) nd0 none 0 0/\Below w.heap.size w w3):=hid (λw3 hb3=>⟨ab.below hb3,bst hb2 hb3⟩);have H0:=hid am;have e1:(k==1)=false:=by simp [h1]
 have e2:(k==2)=false:=by simp [h2]
 have e3:(k==3)=false:=by simp [h3]
 clear am ab hb2 hs2 hK h1 h2 h3;subst hw2;go_enter func39,ntmps39;go_wp2_with (first | (refine aA (bD _ _ _ (w.heap.size+1) (by simp) rfl) ?_) | (refine aA (aU (aV (j:=0) H0.out rfl) ⟨_,rfl,rfl⟩) ?_))
 refine HK.out.mono ?_;rintro e w3 ⟨rfl,hb3⟩;obtain ⟨hO3,hB3⟩:=H3.out w3 hb3;have ag:=hid hO3;have HB3:=hid hB3;clear hb3 H3 HK H0 hO3 hB3;go_wp2_with (first
  | (refine aA (bL qH ⟨_,rfl,rfl⟩) ?_)
  | (refine bH ag.out fZ nd0 none 0 0 fZ rfl _ _ rfl rfl rfl rfl ?_))
 exact bodyPost_ret (uD rfl _ rfl (dM ag.out) fZ) rfl ⟨rfl,bZ HB3.out (by omega) _⟩
theorem pU {b o:Nat} {cs:aN} (h:Rg.Own w b cs t) (ho:o<cs.size) (s:aL):(Instr.storeAt 9 (.pointer (some ⟨b,o,none⟩)) (.string s)).run prog w = .ok () (w.setCell ⟨b,o,none⟩ (.string s)):=by
 have hc:w.cell? ⟨b,o,none⟩=some cs[o]:=aV h (Array.getElem?_eq_getElem ho);have hz:w.frozen? ⟨b,o,none⟩=false:=gJ h;simp [go_sem,hc,hz]
theorem zi (ks:List aL) (i:Nat) (x:aL):(iA ks).setIfInBounds i (.string x)=iA (ks.set i x):=by
 unfold iA;rw [List.map_set];simp
theorem BR {rest:List Oper} {b i:Nat} {ks:List aL} (h:qL w b ks) (hl:ks.length=16) (hi:i<16) (s:aL)
  (hgd:o.guard=none) (x y:Operand) (ho:o.op = .store 9 x y) (hx:act.eval x = .pointer (some ⟨b,i,none⟩)) (hy:act.eval y = .string s)
  (hQ:∀ w',qL w' b (ks.set i s)->Rg.Upd w b w'->wpList prog ops Q rest (act.put o.dst undef) w'):wpList prog ops Q (o::rest) act w :=
 wpList_plain hgd λK hK=>by
  unfold Oper.wp execOp;simp only [ho,hx,hy,Sem.run_bind,Sem.run_pure,Result.andThen_ok,pU h (o:=i) (by rw [CQ,hl]; exact hi) s];refine hK _ _ (hQ _ ?_ (bN _ _ _ _));have:=dw (o:=i) h (.string s);rwa [zi] at this
def jf (l:List aL) (j:Nat):List aL:=l.take j++List.replicate (16-j) eB
theorem BZ {l:List aL} (hl:l.length=16) (hj:j<=16):(jf l j).length=16:=by
 unfold jf;rw [List.length_append,List.length_take,List.length_replicate,hl];omega
theorem KQ {l:List aL} (hl:l.length=16) (hj:j<16):(jf l j).set j (l.getD j eB)=jf l (j+1):=by
 unfold jf;have h1:(l.take j).length=j:=by rw [List.length_take,hl]; omega
 have h2:List.replicate (16-j) eB=eB::List.replicate (16-(j+1)) eB:=by
  rw [show 16-j=(16-(j+1))+1 by omega,List.replicate_succ]
 have h3:l.take (j+1)=l.take j++[l.getD j eB]:=by
  have e:l.getD j eB=l[j]'(by omega):=by simp [List.getD,hl,hj]
  rw [e,List.take_succ_eq_append_getElem (by omega)]
 rw [h2,h3,List.set_append_right _ _ (by omega),h1,Nat.sub_self,List.set_cons_zero,List.append_assoc];rfl
theorem LY {l:List aL} (hl:l.length=16):jf l 16=l:=by
 unfold jf;rw [List.take_of_length_le (by omega)];simp
theorem JM (l:List aL):jf l 0=zks:=by
 unfold jf;simp [zks]
theorem dS.yK {M:Mp} {n:Nat} {w:World} (h:dS M n w) {b:Nat} (hb:w.heap.size<=b):M.at_ b=none:=by
 cases hm:M.at_ b with
 | none=>rfl
 | some t=>exact absurd (h.lt_ b (h.part_ b t hm).2.1) (by omega)
theorem yI {M:Mp} {n:Nat} {b:Nat} {cs:aN} (h:Rg.Own w b cs t) (f:FrN M n w w') (hb:M.at_ b=none):Rg.Own w' b cs t:=⟨aI h.1 f.size,(f.block b h.1 (Or.inl hb)).trans h.2⟩
theorem YW (M:Mp) (b:Nat) (ks:Fin 16->T) (hm:M.at_ b=some (.br ks)) (w:World) (hi:dS M (sz (.br ks)) w) (pa:aK) (pn pc:Nat) (ka:aK) (kn kc:Nat) (hB:Body M w b (.br ks) pa pn pc ka kn kc) (hT:Tab w) (hR:∀ i,mK (ks i)) :
  Calls prog 39 #[.agg #[.pointer (some ⟨b,0,none⟩)]] w (mQ M (.br ks) w):=by
 obtain ⟨w2,hw2,am,ab,hb2,hs2⟩:=wC w (some ⟨b,0,none⟩);have hB2:=hB.below hb2;have hi2:=hi.below hb2;have h0:=aV (j:=0) am rfl;have hlb:=hi.lt_ b (hi.part_ b _ hm).2.1;have hkn:kn=16:=by rw [<-hB2.hk.len]; exact fD ks
 subst hkn;obtain ⟨kb,ko,p0,rfl,d8,gj,hzz⟩:=hB2.hk.at' 0 (by omega);clear hzz;have D3:∀ j (hj:j<16),∃ p,w2.cell? ⟨kb,ko+j,none⟩=some (.pointer p)/\IsT M p (ks ⟨j,hj⟩):=λj hj=>by
  obtain ⟨b',o',p,e,_,_,hc,ht⟩:=hB2.hk.at' j hj;obtain ⟨rfl,rfl⟩:kb=b'/\ko=o':=by simpa using e
  refine ⟨p,hc,?_⟩;have:=jY ks ⟨j,hj⟩;rw [this] at ht;exact ht
 have hkc:=hB2.hk.1;have hkm:=hB2.hk.2.1;unfold maxLen at hkm;have m9:=hi.lt_ kb gj;have D0:=hT.pos;have eW:=hT.below hb2 D0;have HK:=hid (nE b 3 w2 hB2.c0);obtain ⟨L,hL⟩:∃ L,(dx λi=>ref (ks i))=L:=⟨_,rfl⟩
 have Fm:L.length=16:=by rw [<-hL]; exact oJ _
 have U3:∀ j (hj:j<16),L.getD j eB=ref (ks ⟨j,hj⟩):=λj hj=>by
  rw [<-hL]; exact ow (λi=>ref (ks i)) ⟨j,hj⟩
 have hg1:M.at_ (w.heap.size+1)=none:=hi.yK (by omega);have HA:Hid (∀ w3,Below w2.heap.size w2 w3->(w3.cell? ⟨w.heap.size,0,none⟩=some (.pointer (some ⟨b,0,none⟩))/\w3.cell? ⟨b,3,none⟩=some (.slice (some ⟨kb,ko,none⟩) 16 kc))/\
   ((w3.alloc (.cells (iA zks) 67)).cell? ⟨w.heap.size,0,none⟩=some (.pointer (some ⟨b,0,none⟩))/\(w3.alloc (.cells (iA zks) 67)).cell? ⟨b,3,none⟩=some (.slice (some ⟨kb,ko,none⟩) 16 kc))/\
   M.at_ w3.heap.size=none/\w.heap.size+1<w3.heap.size/\qL (w3.alloc (.cells (iA zks) 67)) w3.heap.size (jf L 0)/\FrN M (sz (.br ks)) w2 (w3.alloc (.cells (iA zks) 67))/\dS M (sz (.br ks)) (w3.alloc (.cells (iA zks) 67))):=hid (λw3 hb3=>by
  have hb4:=bst hb3 (al1 w3 (.cells (iA zks) 67));have hsz:=hb3.size;refine ⟨⟨aW hb3 h0,aW hb3 hB2.c3⟩,⟨aW hb4 h0,aW hb4 hB2.c3⟩,hi2.yK (by omega),by omega,?_,FrN.below M _ hb4,hi2.below hb4⟩;rw [JM];exact Rg.Own.new _ _ _)
 have dd:Hid (∀ (bl:Nat) (wr:World),w2.heap.size<=bl->FrN M (sz (.br ks)) w2 wr->dS M (sz (.br ks)) wr->∀ j (hj:j<16),qL wr bl (jf L j)->∃ p,wr.cell? ⟨kb,ko+j,none⟩=some (.pointer p)/\
   ∀ w5,Below wr.heap.size wr w5->Calls prog 74 #[.agg #[.pointer p]] w5 (λe w'=>e = .returned (.string (L.getD j eB))/\FrN M (sz (.br ks)) w5 w'/\dS M (sz (.br ks)) w')/\
   ∀ w6,FrN M (sz (.br ks)) w5 w6->dS M (sz (.br ks)) w6->qL w6 bl (jf L j)/\
   ∀ w7,qL w7 bl ((jf L j).set j (L.getD j eB))->Rg.Upd w6 bl w7->qL w7 bl (jf L (j+1))/\FrN M (sz (.br ks)) w2 w7/\dS M (sz (.br ks)) w7):=hid (λbl wr hbl hf hir j hj uc=>by
  obtain ⟨p,hcp,htp⟩:=D3 j hj;have D4:=Zl ks ⟨j,hj⟩;refine ⟨p,hf.cell hcp (Or.inl (hi2.nU hcp)),λw5 hb5=>?_⟩;have hi5:=hir.below hb5;have hTr:=uS hi2 hf eW;have eK:=hTr.below hb5 hTr.pos;refine ⟨(hR ⟨j,hj⟩ M w5 p (hi5.mono D4) htp eK).mono ?_,λw6 dg li=>?_⟩
  .rintro e w' ⟨rfl,hfe,hie⟩;exact ⟨by rw [U3 j hj],hfe.mono D4,hi5.after hfe hie⟩
  .have N6:qL w6 bl (jf L j):=yI (uc.below hb5) dg (hi2.yK hbl);refine ⟨N6,λw7 cY hu=>⟨by rw [<-KQ Fm hj]; exact cY,((hf.trans (FrN.below M _ hb5)).trans dg).upd hu hbl,li.upd hu (λe=>by have:=hi2.lt_ _ e; omega)⟩⟩)
 have ae:Hid (∀ (bl:Nat) (wr:World),FrN M (sz (.br ks)) w2 wr->dS M (sz (.br ks)) wr->qL wr bl (jf L 16)->qL wr bl L/\∀ w6,Below wr.heap.size wr w6->∀ a6 n6 c6,BsF wr.heap.size w6 a6 n6 c6 []->dZ w6 (w.heap.size+1) nd0 none 0 0/\
   ∀ af,Rg.Upd w6 (w.heap.size+1) af->mQ M (.br ks) w (.returned (.agg (ndC ⟨3,[],eB,L⟩ a6 n6 c6))) af):=hid (λbl wr hf hir uc=>by
  rw [LY Fm] at uc;refine ⟨uc,λw6 hb6 a6 n6 c6 hx=>?_⟩;have cz:=(yI ab hf hg1).below hb6;refine ⟨cz,λaf hu=>⟨a6,n6,c6,by rw [<-hL]; rfl,⟨vX hx.1 (cZ cz (NP _ _ _ _)) hu,λad e=>Nat.le_trans (Nat.le_trans hb2.size hf.size) (hx.2 ad e)⟩,?_,(hir.below hb6).upd hu (λe=>by have:=hi.lt_ _ e; omega)⟩⟩;exact (((FrN.below M _ hb2).trans hf).trans (FrN.below M _ hb6)).upd hu (by omega))
 have rv:=hid Fm;have H0:=hid am;have GG:=hs2;obtain ⟨N,hN⟩:=ay (sz (.br ks))
 rw [hN] at HA dd ae;clear am ab hb2 hB hB2 h0 hi hi2 hm hT hR D0 eW D3 gj d8 hL U3 hg1 hN Fm hs2;have HW2:Hid (_=_):=hid hw2;clear hw2;go_enter func39,ntmps39;have N7:=H0;rw [HW2.out] at N7;go_wp2_with (first | (refine aA (bD _ _ _ (w.heap.size+1) (by simp) rfl) ?_) | (refine aA (aU (aV (j:=0) N7.out rfl) ⟨_,rfl,rfl⟩) ?_))
 rw [<-HW2.out];refine HK.out.mono ?_;rintro e w3 ⟨rfl,hb3⟩;obtain ⟨⟨d0,d3⟩,⟨e0,e3⟩,hnb,hsz3,uc,sk,hi4⟩:=HA.out w3 hb3;have U4:=hid uc;have jx:=hid sk;have HI4:=hid hi4;have hsz2:=hb3.size;clear hb3 HA HK H0 N7 HW2 uc sk hi4;go_wp2_with (refine aA (uT _ _ _ w3.heap.size rfl rfl) ?_)
 clear d0 d3 e0 e3;go_loopw [45] (λi wr=>∃ j:Nat,j<=16/\i = .int .i64 j/\Hid (qL wr w3.heap.size (jf L j))/\Hid (FrN M N w2 wr)/\Hid (dS M N wr)) (λi _=>16-(intOf i).toNat)
 case atStart=>exact ⟨0,Nat.zero_le _,rfl,U4,jx,HI4⟩
 case round =>
  obtain ⟨j,hj,rfl,HO,HF,HI⟩:=hrel;clear U4 jx HI4;by_cases hlt:j<16
  .obtain ⟨p,hkp,H5⟩:=dd.out w3.heap.size wr hsz2 HF.out HI.out j hlt HO.out;replace H5:=hid H5;have hNew:=Rg.Own.new wr #[.pointer none] 35;have HN:=hid hNew;obtain ⟨R,hR⟩:=ay (L.getD j eB)
   rw [hR] at H5;clear hNew HO HF HI dd ae hR;go_wp2_with (first
    | (refine aA (aU hkp ⟨_,rfl,rfl⟩) ?_)
    | (refine aA (aX _ _ _ wr.heap.size rfl rfl) ?_)
    | (refine aZ HN.out (by decide) p rfl _ _ rfl rfl rfl ?_; intro w5 ap aq; have az:=hid ap; have aa:Hid (Below wr.heap.size wr w5):=hid (aq.below (al1 _ _) aG); clear ap aq)
    | (refine aA (aU (aV (j:=0) az.out rfl) ⟨_,rfl,rfl⟩) ?_))
   obtain ⟨HC,H6⟩:=H5.out w5 aa.out;replace HC:=hid HC;replace H6:=hid H6;clear H5 aa az HN hkp;refine HC.out.mono ?_;rintro e w6 ⟨rfl,dg,li⟩;obtain ⟨cz,H7⟩:=H6.out w6 dg li;replace H7:=hid H7;have cA:=hid cz;clear dg li H6 HC cz;have hji:(j:Int)<16:=by omega
   go_wp2_with (refine BR cA.out (BZ rv.out (by omega)) hlt R rfl _ _ rfl rfl rfl ?_; intro w7 cY cQ; obtain ⟨g1,g2,g3⟩:=H7.out w7 cY cQ; have G1:=hid g1; have G2:=hid g2; have G3:=hid g3; clear g1 g2 g3 cY cQ)
   go_roundw
   case rel=>exact ⟨j+1,by omega,by go_num,G1,G2,G3⟩
   case measure=>simp [intOf]; omega
  .obtain rfl:j=16:=by omega
   obtain ⟨U5,H6⟩:=ae.out w3.heap.size wr HF.out HI.out HO.out;have HOL:=hid U5;replace H6:=hid H6;have C3:=hid (No.jK L rv.out wr);clear HO HF HI dd ae U5;go_wp2_with (refine aA (nY HOL.out rv.out ⟨_,rfl,rfl⟩) ?_)
   refine C3.out.mono ?_;rintro e w6 ⟨a6,n6,c6,rfl,cI,nj,hb6⟩;obtain ⟨cz,ge⟩:=H6.out w6 hb6 a6 n6 c6 cI;have cA:=hid cz;replace ge:=hid ge;clear cI nj hb6 cz H6 C3 HOL;go_wp2_with (refine bH cA.out fZ ⟨3,[],eB,L⟩ a6 n6 c6 rv.out rfl _ _ rfl rfl rfl rfl ?_)
   exact bodyPost_ret (uD rfl _ rfl (dM cA.out) rv.out) rfl (ge.out _ (Rg.Upd.set _ _ _))
end Tm
end
section
open Go.RowKit
namespace On
theorem disable (w:World):(callFunc 202 #[]).run prog w = .ok (.value (.tuple #[])) w:=run_call_mark0 func202 (by kernel_rfl) (by kernel_rfl) (by kernel_rfl) .disable (by kernel_rfl) w
theorem enable (w:World):(callFunc 204 #[]).run prog w = .ok (.value (.tuple #[])) w:=run_call_mark0 func204 (by kernel_rfl) (by kernel_rfl) (by kernel_rfl) .enable (by kernel_rfl) w
theorem acquire (a:Addr) (w:World):(callFunc 205 #[.pointer (some a)]).run prog w = .ok (.value (.tuple #[])) w:=run_call_marked func205 (by kernel_rfl) (by kernel_rfl) (by kernel_rfl) .acquire (by kernel_rfl) a w
theorem releaseMerge (a:Addr) (w:World):(callFunc 207 #[.pointer (some a)]).run prog w = .ok (.value (.tuple #[])) w:=run_call_marked func207 (by kernel_rfl) (by kernel_rfl) (by kernel_rfl) .releaseMerge (by kernel_rfl) a w
theorem Av (a:Addr) (x:Value) (u:FrameMode) (w:World) (hc:w.cell? a=some x) (hz:w.frozen? a=false) :
  CallsD prog 181 #[.pointer (some a),.bool true] u w λe u' w'=>u'=u/\(e = .returned (.tuple #[])/\w'=w.drew.setCell a (.int .u32 1)):=by
 have hc':w.drew.cell? a=some x:=by go_simp
 have hz':w.drew.frozen? a=false:=by go_simp
 have hst:=run_call_store (P:=prog) func195 (by kernel_rfl) (by kernel_rfl) (by kernel_rfl) (by kernel_rfl) (k:=.u32) (y:=1) hc' hz';go_enter_d func181,ntmps181
 go_wp2;go_region_calls
 all_goals (go_end0; exact ⟨rfl,rfl⟩)
theorem unlock_deferred (a:Addr) (u:FrameMode) (w:World) (hc:w.cell? a=some (.int .i32 1)) (hz:w.frozen? a=false) :
  CallsD prog 180 #[.pointer (some a)] u w λe u' w'=>u'=u/\(e = .returned (.tuple #[])/\w'=w.setCell a (.int .i32 0)):=by
 have hd:=disable;have he:=enable;have hr:=releaseMerge;have hadd:=run_call_add (P:=prog) func208 (by kernel_rfl) (by kernel_rfl) (by kernel_rfl) .i32 (by kernel_rfl) (y := -1) (s:=0) hc hz (by simp [go_sem]; rfl);have hcv:=run_convert_to_unsafe (P:=prog) (src:=267) (dst:=247) underlying267 underlying247 (by kernel_rfl) hc;go_enter_d func180,ntmps180
 go_wp2;go_end0;all_goals (try go_wp2)
 all_goals (try go_end0)
 all_goals exact ⟨rfl,rfl⟩
theorem lock_free (a:Addr) (w:World) (hc:w.cell? a=some (.int .i32 0)) (hz:w.frozen? a=false) :
  Calls prog 179 #[.pointer (some a)] w λe w'=>e = .returned (.tuple #[])/\w'=w.setCell a (.int .i32 1):=by
 have hd:=disable;have he:=enable;have ha:=acquire;have hcas:=run_call_cas_hit (P:=prog) func203 (by kernel_rfl) (by kernel_rfl) (by kernel_rfl) .i32 (by kernel_rfl) (y:=1) hc hz;have hc':(w.setCell a (.int .i32 1)).cell? a=some (.int .i32 1):=World.cell?_setCell_same w a _ hc;have hcv:=run_convert_to_unsafe (P:=prog) (src:=267) (dst:=247) underlying267 underlying247 (by kernel_rfl) hc';go_enter func179,ntmps179;go_wp2
 first | go_end0 | (simp only [Exit.inBlock,Exit.then]; refine bodyPost_ret (results_none rfl _ _ _) rfl ?_) | refine bodyPost_ret (results_none rfl _ _ _) rfl ?_
 all_goals (try go_wp2)
 all_goals (try go_end0)
 all_goals exact ⟨rfl,rfl⟩
def Held (w:World) (b off:Nat):Prop:=(w.cell? ⟨b,off,none⟩=some (.int .u32 0)/\w.frozen? ⟨b,off,none⟩=false)/\w.cell? ⟨b,off+1,none⟩=some (.int .i32 1)/\w.frozen? ⟨b,off+1,none⟩=false
theorem Ue (D:FuncId) (caps:aN) (hD:∀ w,(callFunc D caps).run prog w = .ok (.enter D caps) w) (b off:Nat) (w:World) (R:World->Prop)
  (h0:w.cell? ⟨b,off,none⟩=some (.int .u32 0)) (h1:w.cell? ⟨b,off+1,none⟩=some (.int .i32 0)) (f1:w.frozen? ⟨b,off+1,none⟩=false)
  (h:Calls prog D caps (w.setCell ⟨b,off+1,none⟩ (.int .i32 1)) λe w'=>e = .returned (.tuple #[])/\Held w' b off/\R w') :
  Calls prog 161 #[.pointer (some ⟨b,off,none⟩),.func (.func D) #[] caps] w λe w'=>e = .returned (.tuple #[])/\∃ w1,R w1/\w'=(w1.drew.setCell ⟨b,off,none⟩ (.int .u32 1)).setCell ⟨b,off+1,none⟩ (.int .i32 0):=by
 have hl:=run_call_load (P:=prog) func178 (by kernel_rfl) (by kernel_rfl) (by kernel_rfl) .u32 (by kernel_rfl) (w:=w.setCell ⟨b,off+1,none⟩ (.int .i32 1)) (a:=⟨b,off,none⟩) (x:=0) ((World.cell?_setCell_other _ ⟨b,off+1,none⟩ ⟨b,off,none⟩ _ (by simp)).trans h0);have hnot:∀ (x:Bool) (w:World),(Op.unary .not (.bool x)).run prog w = .ok (.bool (!x)) w:=λ_ _=>rfl;have H:=hid h;clear h;go_enter_defers func161,ntmps161
 go_wp2_with (first | (go_at_call 179; refine (lock_free ⟨b,off+1,none⟩ _ h1 f1).mono ?_; rintro e w' ⟨rfl,rfl⟩) | (go_at_call 160; go_in))
 refine H.out.mono ?_;rintro e w1 ⟨rfl,⟨⟨g0,z0⟩,g1,z1⟩,hR⟩;have HR:=hid hR;clear hR H;go_wp2;refine leaves_cons (f:=181) (args:=#[.pointer (some ⟨b,off,none⟩),.bool true]) (by simp) (by simp [go_sem]) ?_;refine (Av ⟨b,off,none⟩ (.int .u32 0) .returning _ g0 z0).mono ?_;rintro e u' w'' ⟨rfl,rfl,rfl⟩;refine leaves_cons (f:=180) (args:=#[.pointer (some ⟨b,off+1,none⟩)]) (by simp [settle]) (by simp [go_sem]) ?_;refine (unlock_deferred ⟨b,off+1,none⟩ _ _ ?_ (by simp [z1])).mono ?_
 .refine (World.cell?_setCell_other _ ⟨b,off,none⟩ ⟨b,off+1,none⟩ _ (by simp)).trans ?_;rw [World.cell?_drew];exact g1
 rintro e u' w'' ⟨rfl,rfl,rfl⟩;have hR:=HR.out;simp [Leaves,settle,results,Tryz.results161];exact ⟨w1,hR,rfl⟩
theorem UK (D:FuncId) (caps:aN) (hD:∀ w,(callFunc D caps).run prog w = .ok (.enter D caps) w) (b off:Nat) (w:World) (R:World->Prop)
  (h0:w.cell? ⟨b,off,none⟩=some (.int .u32 0)) (h1:w.cell? ⟨b,off+1,none⟩=some (.int .i32 0)) (f1:w.frozen? ⟨b,off+1,none⟩=false)
  (h:Calls prog D caps (w.setCell ⟨b,off+1,none⟩ (.int .i32 1)) λe w'=>e = .returned (.tuple #[])/\Held w' b off/\R w') :
  Calls prog 116 #[.pointer (some ⟨b,off,none⟩),.func (.func D) #[] caps] w λe w'=>e = .returned (.tuple #[])/\∃ w1,R w1/\w'=(w1.drew.setCell ⟨b,off,none⟩ (.int .u32 1)).setCell ⟨b,off+1,none⟩ (.int .i32 0):=by
 have hl:=run_call_load (P:=prog) func178 (by kernel_rfl) (by kernel_rfl) (by kernel_rfl) .u32 (by kernel_rfl) h0;have hnot:∀ (x:Bool) (w:World),(Op.unary .not (.bool x)).run prog w = .ok (.bool (!x)) w:=λ_ _=>rfl;have HS:=hid (Ue D caps hD b off w R h0 h1 f1 h);clear h hD;go_enter func116,ntmps116;go_wp2_with (first | (go_at_call 161; refine HS.out.mono ?_; rintro e w' ⟨rfl,hw'⟩; have HW:=hid hw'; clear hw') | (go_at_call 160; go_in))
 go_end0;exact ⟨rfl,HW.out⟩
theorem WS (a:Addr) (fv:Value) (w:World) (h0:w.cell? a=some (.int .u32 1)) :
  Calls prog 116 #[.pointer (some a),fv] w λe w'=>e = .returned (.tuple #[])/\w'=w:=by
 have hl:=run_call_load (P:=prog) func178 (by kernel_rfl) (by kernel_rfl) (by kernel_rfl) .u32 (by kernel_rfl) h0;have hnot:∀ (x:Bool) (w:World),(Op.unary .not (.bool x)).run prog w = .ok (.bool (!x)) w:=λ_ _=>rfl;go_enter func116,ntmps116;go_wp2;go_end0;all_goals exact ⟨rfl,rfl⟩
end On
end
section
open Go.RowKit
namespace Rl
open Pk
theorem Oc {w:World} {g:Nat} {x y:It} {A A2:aK} {N C N2 C2:Nat} (hO:Rg.Own w g #[.bool x.l,.string x.s,.slice A N C,.bool y.l,.string y.s,.slice A2 N2 C2] 102)
  (hx:iR w x.xs A N C) (hy:iR w y.xs A2 N2 C2):iR w [x,y] (some ⟨g,0,none⟩) 2 2:=by
 have hc:∀ i,w.cell? ⟨g,i,none⟩=(#[.bool x.l,.string x.s,.slice A N C,.bool y.l,.string y.s,.slice A2 N2 C2]:aN)[i]? := λi=>by simp [World.cell?,hO.2]
 refine iY.mk (λj=>if j=0 then A else A2) (λj=>if j=0 then N else N2) (λj=>if j=0 then C else C2) rfl (by omega) (by unfold maxLen; omega) (by omega) (λe=>by cases e) (λj z hz=>?_) (λj z hz=>?_)
 .match j,hz with
  | 0,hz =>
   cases hz;exact ⟨g,0,rfl,Nat.zero_le _,hO.1,(hc 0),(hc 1),(hc 2)⟩
  | 1,hz =>
   cases hz;exact ⟨g,0,rfl,Nat.zero_le _,hO.1,(hc 3),(hc 4),(hc 5)⟩
 .match j,hz with
  | 0,hz=>cases hz; exact hx
  | 1,hz=>cases hz; exact hy
theorem FK (w:World) (x:It) (h:x.xs=[]):iR w x.xs none 0 0:=by rw [h]; exact bK.nil _ _
end Rl
end
end Go.Proofs.YtoipgepkhomfgaaGreatDoor
