/-
 slices.Backward over ways: what comes, the last one first.
-/
import Derived.Test.YtnecijeakeklaaaGreatDoorMp20
import Derived.Test.YtnecijeakeklaaaGreatDoorMp19
open Go.Lib (hid)
set_option linter.unusedSimpArgs false
set_option linter.unusedVariables false
set_option maxHeartbeats 40000000
set_option maxRecDepth 100000
namespace Go.Proofs.YtnecijeakeklaaaGreatDoor
section
open Go.RowKit
namespace Rf2
theorem regionW {P:Program} {Q:Exit→Act→World→Prop} {a:Act} {w:World} {l:List Oper} (id k:Nat) (hd:(l.take k).all noDefer=true) (hL:¬ LetsOut Q)
  (h:∀ K:Act→World→Prop,(∀ a w,wpListIn (FW none) 0 P l.toArray Q (l.drop k) a w→K a w)→wpList P l.toArray (Exit.then K Q) (l.take k) a w):(Code.region id l.toArray false).wp P Q a w:=by
 refine (wpIn_wide (n:=0)).1 (wpIn_region_lit ?_);have:=listIn_app (P:=P) (r:=none) (n:=0) (ops:=l.toArray) (Q:=Q) (Q1:=Exit.then (wpListIn (FW none) 0 P l.toArray Q (l.drop k)) Q) (fun _ _ _ h=>h) (lets_then hL) (l.drop k) (fun _ _ h=>h) (l.take k) a w hd (h _ fun _ _ h=>h);rw [List.take_append_drop] at this;exact this
theorem regionWR {P:Program} {r:Option Nat} {n:Nat} {Q:Exit→Act→World→Prop} {a:Act} {w:World} {l:List Oper} (id k:Nat) (hd:(l.take k).all noDefer=true) (hL:¬ LetsOut Q)
  (h:∀ K:Act→World→Prop,(∀ a w,wpListIn (FW r) n P l.toArray Q (l.drop k) a w→K a w)→wpList P l.toArray (Exit.then K Q) (l.take k) a w):(Code.region id l.toArray false).wpIn (FW r) n P Q a w:=by
 refine wpIn_region_lit ?_;have:=listIn_app (P:=P) (r:=r) (n:=n) (ops:=l.toArray) (Q:=Q) (Q1:=Exit.then (wpListIn (FW r) n P l.toArray Q (l.drop k)) Q) (fun _ _ _ h=>h) (lets_then hL) (l.drop k) (fun _ _ h=>h) (l.take k) a w hd (h _ fun _ _ h=>h);rw [List.take_append_drop] at this;exact this
def shutC (c:Code):Code:=c
theorem shut_eq (id:Nat) (ops:Array Oper):Code.region id ops false=shutC (Code.region id ops false):=rfl
theorem wp_shut {P:Program} {c:Code} {Q:Exit→Act→World→Prop} {a:Act} {w:World} (h:c.wp P Q a w):(shutC c).wp P Q a w:=h
theorem run_yield_call {P:Program} {o:Oper} {a:Act} {w:World} {l:Nat} {args:Array Value} (ho:∃ y xs ts,o.op = .call { callee:=.value y,args:=xs,argTypes:=ts }∧a.eval y = .func (.yield l) #[] #[]∧xs.toList.map a.eval=args.toList) :
  (execOp a.eval o).run P w=(Instr.yield l args).run P w:=by
 obtain ⟨y,xs,ts,ho,hy,hz⟩:=ho;have hz':xs.map a.eval=args:=by
  apply Array.ext';rw [Array.toList_map];exact hz
 unfold execOp;simp only [ho,resolve,hy,hz'];simp [Deferred.ofValue,Sem.run_bind,invoke,Result.andThen_ok]
theorem yieldIn' {P:Program} {r:Option Nat} {ops:Array Oper} {Q:Exit→Act→World→Prop} {o:Oper} {rest:List Oper} {a:Act} {w:World} {l:Nat} {args:Array Value} {R:Ending→World→Prop} (hY:YieldAt Fence.wide 0 P l args w R) (hw:Region.wanted o (yielded ops a.tmps)=true) (hd:noDefer o=true)
  (ho:∃ y xs ts,o.op = .call { callee:=.value y,args:=xs,argTypes:=ts }∧a.eval y = .func (.yield l) #[] #[]∧xs.toList.map a.eval=args.toList)
  (h:∀ e w',R e w'→∃ v,e = .returned v∧wpListIn (FW r) 0 P ops Q rest (a.put o.dst v) w'):wpListIn (FW r) 0 P ops Q (o::rest) a w :=
 yieldIn (n:=0) hw hd (run_yield_call ho) hY h
end Rf2
namespace Tm
open Tr Ni Pk Ky No Rf Rl Rf2
open Sm (Tab)
def bk (hs:List Hdl) (m:Nat):List (Nat × Hdl):=(((List.range hs.length).drop m).map fun j=>(j,hs.getD j hd0)).reverse
theorem bk_all (hs:List Hdl):bk hs hs.length=[]:=by simp [bk]
theorem bk_step (hs:List Hdl) {m:Nat} (h:m<hs.length):bk hs m=bk hs (m+1)++[(m,hs.getD m hd0)]:=by
 unfold bk;rw [List.drop_eq_getElem_cons (by rw [List.length_range]; exact h),List.map_cons,List.reverse_cons,List.getElem_range]
theorem bk_pre (hs:List Hdl):∀ m k,k≤m→m≤hs.length→bk hs m<+:bk hs k:=fun m k hk hm=>by
 unfold bk;rw [List.reverse_prefix];refine List.IsSuffix.map _ ?_;exact ⟨((List.range hs.length).drop k).take (m-k),by
  have h1:(List.range hs.length).drop m=((List.range hs.length).drop k).drop (m-k):=by rw [List.drop_drop]; congr 1; omega
  rw [h1,List.take_append_drop]⟩
structure BkPre (M:Mp) (B gb:Nat) (v:Value) (hs:List Hdl) (w:World) (K:Nat→Prop):Prop where
 o:Rg.Own w gb #[v] 126
 r:w.ownsRow B 51 1 v hs.length (hs.map hv)
 kg:¬ K gb
 kr:∀ k,v.ownBlock=some k → ¬ K k
 b:B≤gb
 u:∀ k,B≤k→M.at_ k=none ∧ ¬ M.ft k
theorem BkPre.on {M:Mp} {B gb:Nat} {v:Value} {hs:List Hdl} {w wr:World} {K K':Nat→Prop} (h:BkPre M B gb v hs w K) (f:FrK M K w wr) (hK:∀ k,K' k→K k∨w.heap.size≤k):BkPre M B gb v hs wr K' :=
 ⟨⟨Nat.lt_of_lt_of_le h.o.1 f.size,(f.block gb h.o.1 (h.u gb h.b).1 h.kg).trans h.o.2⟩,owns_same h.r fun k e=>f.block k (h.r.lt k e).2 (h.u k (h.r.lt k e).1).1 (h.kr k e),fun hk=>(hK _ hk).elim h.kg (by have:=h.o.1; omega),fun k e hk=>(hK _ hk).elim (h.kr k e) (by have:=(h.r.lt k e).2; omega),h.b,h.u⟩
theorem BkPre.at' {M:Mp} {B gb:Nat} {v:Value} {hs:List Hdl} {w:World} {K:Nat→Prop} (h:BkPre M B gb v hs w K) {m:Nat} (hm:m<hs.length):∃ g c,v = .slice (some ⟨g,0,none⟩) hs.length c∧w.cell? ⟨g,m,none⟩=some (hv (hs.getD m hd0)):=by
 have hr:=h.r;rcases hr.2 with ⟨_,hn⟩ | ⟨g,cap,cur,rfl,hg,hh,hnc,hcm,hsz,htk⟩
 ·omega
 ·refine ⟨g,cap,rfl,?_⟩;have:=hr.cells (g:=g) rfl m (hv (hs.getD m hd0)) (by
   rw [List.getElem?_map,List.getElem?_eq_getElem hm];simp [List.getD,hm])
  rw [Addr.add_mid,Nat.zero_add] at this;exact this
def bkA (x:Nat × Hdl) (_:World) (args:Array Value):Prop:=args = #[.int .i64 x.1,hv x.2]
theorem wback_any (v:Value) (hv1:v.oneCell'=true) (w:World):Calls Tryz.prog 68 #[v] w fun e w'=>e = .returned (.func (Fn.func 99) #[] #[.pointer (some ⟨w.heap.size,0,none⟩)])∧Rg.Own w' w.heap.size #[v] 126∧Below w.heap.size w w':=by
 have hmf:∀ (fn:Fn) (first cap:Array Value) (w:World),(Instr.makeFunc fn first cap).run Tryz.prog w = .ok (.func fn first cap) w:=fun _ _ _ _=>rfl;have hO:=Rg.Own.new w #[v] 126;have hb:=al1 w (.cells #[v] 126);go_enter Tryz.func68,Tryz.ntmps68;go_wp2;go_ret;exact ⟨rfl,hO,hb⟩
theorem back_seq (M:Mp) (B gb:Nat) (v:Value) (hs:List Hdl) (hn:hs.length≤1000):SeqC M 99 #[.pointer (some ⟨gb,0,none⟩)] bkA (bk hs 0) (BkPre M B gb v hs):=by
 intro l J Js K0 w hJ hJs hP hi hT h0 hY;have HP:=hid hP;have HY:=hid hY;have HJ:=hid hJ;obtain ⟨n,hnn⟩:∃ n,hs.length=n:=⟨_,rfl⟩
 have HN:=hid hnn;obtain ⟨a,c,rfl⟩:=owns_slice hP.r;rw [hnn] at HP hn;show Calls Tryz.prog 99 #[.func (.yield l) #[] #[],.pointer (some ⟨gb,0,none⟩)] w _;have c0:=own_cell (j:=0) HP.out.o rfl;have HS:Hid (J (bk hs n) K0 w∧FrK M K0 w w∧Inv M w∧Tab w∧∀ k,K0 k→K0 k∨w.heap.size≤k):=hid ⟨by rw [← hnn,bk_all]; exact h0,FrK.refl _ _ _,hi,hT,fun k h=>.inl h⟩;have hw1:IntKind.i64.wrap ((n:Int)-1)=(n:Int)-1:=IntWalk.i64_in _ (by omega);clear hP hY hJ hi hT h0 hnn hJs
 go_enter Tryz.func99,Tryz.ntmps99;go_wp2_with fail
 go_loopw [3] (fun i wr=>∃ (m:Nat) (K:Nat→Prop),m≤n∧i = .int .i64 ((m:Int)-1)∧Hid (J (bk hs m) K wr∧FrK M K0 w wr∧Inv M wr∧Tab wr∧∀ k,K k→K0 k∨w.heap.size≤k)) (fun i _=>(intOf i+1).toNat)
 case atStart=>exact ⟨n,K0,Nat.le_refl _,rfl,HS⟩
 case round =>
  obtain ⟨m,K,hm,rfl,HR⟩:=hrel;by_cases h0:m=0
  ·subst h0;have hlt:¬ ((0:Nat):Int)-1≥0:=by omega
   clear HS c0;go_wp2;refine bodyPost_end (results_none rfl _ _ _) rfl ?_;exact ⟨⟨_,rfl⟩,bk hs 0,K,.inl ⟨rfl,HR.out.1⟩,HR.out.2⟩
  ·obtain ⟨j,rfl⟩:∃ j,m=j+1:=⟨m-1,by omega⟩
   have hjl:j<hs.length:=by rw [HN.out]; omega
   have hPr:=HP.out.on HR.out.2.1 HR.out.2.2.2.2;obtain ⟨g,c',e1,cj⟩:=hPr.at' hjl;have cb:=own_cell (j:=0) hPr.o rfl;rw [e1] at cb;rw [HN.out] at cb;have hji:(j:Int)<(n:Int):=by omega
   have hge:((j+1:Nat):Int)-1=(j:Int):=by omega
   have hw2:IntKind.i64.wrap ((j:Int)-1)=(j:Int)-1:=IntWalk.i64_in _ (by omega);have HYj:=hid (HY.out (bk hs (j+1)) K (j,hs.getD j hd0) #[.int .i64 j,hv (hs.getD j hd0)] wr HR.out.1 HR.out.2.1 HR.out.2.2.1 HR.out.2.2.2.1 (by rw [← bk_step hs hjl]; exact bk_pre hs j 0 (Nat.zero_le _) (by omega)) rfl);obtain ⟨z,hz⟩:∃ z,hs.getD j hd0=z:=⟨_,rfl⟩
   rw [hz] at cj HYj;unfold hv at cj HYj;have HZ:Hid (bk hs (j+1)++[(j,z)]=bk hs j):=hid (by rw [bk_step hs hjl,hz]);rw [hge,shut_eq 3];clear HS c0 hPr hge e1 hz;go_wp2_with (first
    | (refine wp_shut (regionW 3 6 rfl (by rintro ⟨_,_,⟨⟨_,h⟩,_⟩⟩; cases h) ?_); intro _ _; dsimp only [List.take_succ_cons,List.take_zero,List.drop_succ_cons,List.drop_zero]))
   refine yieldIn' HYj.out ?_ ?_ ?_ ?_
   ·rfl
   ·rfl
   ·exact ⟨_,_,_,rfl,rfl,rfl⟩
   rintro e w2 ⟨K2,h⟩;rcases h with ⟨rfl,h2⟩ | ⟨rfl,h2⟩
   ·refine ⟨_,rfl,listRest rfl (by rintro ⟨_,_,⟨⟨_,h⟩,_⟩⟩; cases h) ?_⟩;have hs2:=HR.out.2.1.size;have H2:Hid (J (bk hs j) K2 w2∧FrK M K0 w w2∧Inv M w2∧Tab w2∧∀ k,K2 k→K0 k∨w.heap.size≤k):=hid ⟨by rw [← HZ.out]; exact h2.j,HR.out.2.1.trans h2.f HR.out.2.2.2.2,h2.i,h2.t,fun k hk=>(h2.sub k hk).elim (HR.out.2.2.2.2 k) (fun h=>.inr (by omega))⟩;clear h2 HYj HR HZ;go_wp2;go_roundw
    case rel=>exact ⟨j,K2,by omega,by go_num,H2⟩
    case measure=>simp [intOf] <;> omega
   ·refine ⟨_,rfl,listRest rfl (by rintro ⟨_,_,⟨⟨_,h⟩,_⟩⟩; cases h) ?_⟩;have hs2:=HR.out.2.1.size;have H2:Hid (∃ V K,(V=bk hs 0∧J V K w2∨V<+:bk hs 0∧Js V K w2)∧FrK M K0 w w2∧Inv M w2∧Tab w2∧∀ k,K k→K0 k∨w.heap.size≤k):=hid ⟨bk hs j,K2,.inr ⟨bk_pre hs j 0 (Nat.zero_le _) (by omega),by rw [← HZ.out]; exact h2.j⟩,HR.out.2.1.trans h2.f HR.out.2.2.2.2,h2.i,h2.t,fun k hk=>(h2.sub k hk).elim (HR.out.2.2.2.2 k) (fun h=>.inr (by omega))⟩;clear h2 HYj HR HZ;go_wp2;refine bodyPost_ret (results_none rfl _ _ _) rfl ?_;exact ⟨⟨_,rfl⟩,H2.out⟩
end Tm
end
section
open Go.RowKit
namespace Tm
open Tr Ni Pk Ky No Rf Rl Rf2
open Sm (Tab)
theorem tab_upd {w w':World} {g:Nat} (h:Tab w) (hu:Rg.Upd w g w') (hg:1<g):Tab w':=fun i hi=>by
 rw [World.cell?_of_block (hu.block 1 (by omega))];exact h i hi
def goA (M:Mp) (x:Pl) (w:World) (args:Array Value):Prop:=∃ (p:Option Addr) (h:Hdl) (na:Option Addr) (nn nc:Nat),args = #[.agg (plA p x.2.1 h),.agg (ndC (nodeT x.1) na nn nc)]∧IsT M p x.1∧IsBs w h.1 h.2.1 h.2.2 x.2.2∧IsBs w na nn nc (nodeT x.1).p∧PlOk x
structure GoPre (M:Mp) (g0 gi fi:Nat) (cp:Array Value) (p0:Option Addr) (I:Pa→Bool) (w:World) (K:Nat→Prop):Prop where
 c0:w.cell? ⟨g0,0,none⟩=some (.pointer p0)
 ci:w.cell? ⟨gi,0,none⟩=some (.func (Fn.func fi) #[] cp)
 hi:M.at_ gi=none
 ki:¬ K gi
 into:∀ wr,FrK M K w wr→∀ (p:Option Addr) (o:Nat) (h:Hdl) (a:Pa),IsBs wr h.1 h.2.1 h.2.2 a→a.length≤64→Calls Tryz.prog fi (#[.agg (plA p o h)]++cp) wr fun e w'=>e = .returned (.bool (I a))∧Below wr.heap.size wr w'
def rankW (M:Mp) (bx:Nat) (w:World):Nat:=match w.cell? ⟨bx,0,none⟩ with
 | some (.slice (some a) n _)=>((List.range n).map fun j=>match w.cell? (a.add (j*3)) with
  | some (.pointer p)=>cntT (treeP M p)
  | _=>0).sum
 | _=>0
structure Gq (M:Mp) (J:List Pl→(Nat→Prop)→World→Prop) (K0:Nat→Prop) (w0:World) (bx:Nat) (v:Value) (l:List Pc) (V:List Pl) (K:Nat→Prop) (Ds:List Nat) (w:World):Prop where
 ob:Rg.Own w bx #[v] 122
 row:RowPl w0.heap.size w v l
 ok:∀ y∈l,IsT M y.p y.x.1∧PlOk y.x∧BsP (fun b=>w0.heap.size≤b ∧ ¬ K b∧b≠bx∧v.ownBlock≠some b) w y.h y.x.2.2
 j:J V K w
 kb:¬ K bx
 kr:∀ k,v.ownBlock=some k → ¬ K k
 nb:v.ownBlock≠some bx
 bb:w0.heap.size≤bx
 f:FrK M K0 w0 w
 sub:∀ k,K k→K0 k∨w0.heap.size≤k
 i:Inv M w
 t:Tab w
 u:∀ k,w0.heap.size≤k→M.at_ k=none ∧ ¬ M.ft k
 z:1<w0.heap.size
 dn:Ds.Nodup
 dm:∀ D∈Ds,w0.heap.size≤D∧w.heap[D]? = some (.deferred (some [])) ∧ ¬ K D
section
variable {M:Mp} {J:List Pl→(Nat→Prop)→World→Prop} {K0:Nat→Prop} {w0:World} {bx:Nat} {v:Value} {l:List Pc} {V:List Pl} {K:Nat→Prop} {Ds:List Nat} {w w':World}
theorem Gq.keep (h:Gq M J K0 w0 bx v l V K Ds w) {V':List Pl} {K':Nat→Prop} (hz:w.heap.size≤w'.heap.size) (hk:∀ k,w0.heap.size≤k→k<w.heap.size → ¬ K k→w'.heap[k]? = w.heap[k]?) (j':J V' K' w') (hs:∀ k,K' k→K k∨w.heap.size≤k) (f':FrK M K0 w0 w') (i':Inv M w') (t':Tab w') :
  Gq M J K0 w0 bx v l V' K' Ds w':=by
 have hn:∀ k,k<w.heap.size → ¬ K k → ¬ K' k:=fun k hl hk hk'=>(hs k hk').elim hk (by omega);refine ⟨⟨Nat.lt_of_lt_of_le h.ob.1 hz,(hk bx h.bb h.ob.1 h.kb).trans h.ob.2⟩,owns_same h.row fun k e=>hk k (h.row.lt k e).1 (h.row.lt k e).2 (h.kr k e),fun y hy=>⟨(h.ok y hy).1,(h.ok y hy).2.1,?_⟩,j',hn bx h.ob.1 h.kb,fun k e=>hn k (h.row.lt k e).2 (h.kr k e),h.nb,h.bb,f',fun k hk'=>(hs k hk').elim (h.sub k) (fun g=>.inr (Nat.le_trans h.f.size g)),i',t',h.u,h.z,h.dn,fun D hD=>?_⟩
 ·have h2:BsP (fun b=>(w0.heap.size≤b ∧ ¬ K b∧b≠bx∧v.ownBlock≠some b)∧b<w.heap.size) w y.h y.x.2.2:=(h.ok y hy).2.2.to fun b hl hp=>⟨hp,hl⟩
  exact (h2.kept hz fun b hp hl=>hk b hp.1.1 hl hp.1.2.1).to fun b _ hp=>⟨hp.1.1,hn b hp.2 hp.1.2.1,hp.1.2.2⟩
 ·obtain ⟨h1,h2,h3⟩:=h.dm D hD;have hl:=(Array.getElem?_eq_some_iff.1 h2).1;exact ⟨h1,(hk D h1 hl h3).trans h2,hn D hl h3⟩
theorem Gq.below (h:Gq M J K0 w0 bx v l V K Ds w) (hM:Sta M J) (hb:Below w.heap.size w w'):Gq M J K0 w0 bx v l V K Ds w' :=
 h.keep hb.size (fun k _ hl _=>hb.block k hl) (hM.st _ _ _ _ h.j hb.size fun k hk=>hb.block k (hM.lt _ _ _ h.j k hk).1) (fun k hk=>.inl hk) (h.f.below hb h.f.size) (h.i.below hb) (h.t.below hb h.t.pos)
theorem Gq.open_ (h:Gq M J K0 w0 bx v l V K Ds w) (hM:Sta M J) (f:Fr M M w w') (i':Inv M w') (t':Tab w'):Gq M J K0 w0 bx v l V K Ds w' :=
 h.keep f.size (fun k hB hl _=>f.block k hl (h.u k hB).1) (hM.st _ _ _ _ h.j f.size fun k hk=>f.block k (hM.lt _ _ _ h.j k hk).1 (hM.lt _ _ _ h.j k hk).2.1) (fun k hk=>.inl hk) (h.f.trans (FrK.of (K:=fun _=>False) f) fun _ h=>h.elim) i' t'
theorem Gq.yield (h:Gq M J K0 w0 bx v l V K Ds w) {x:Pl} {K':Nat→Prop} (r:Rnd M J V K w.heap.size x w w' K'):Gq M J K0 w0 bx v l (V++[x]) K' Ds w' :=
 h.keep r.f.size (fun k hB hl hn=>r.f.block k hl (h.u k hB).1 hn) r.j r.sub (h.f.trans r.f h.sub) r.i r.t
theorem Gq.box (h:Gq M J K0 w0 bx v l V K Ds w) (hM:Sta M J) {v':Value} {l':List Pc} (hu:Rg.Upd w bx w') (ob':Rg.Own w' bx #[v'] 122) (row':RowPl w0.heap.size w' v' l') (hv:v'.ownBlock=v.ownBlock) (hl:∀ y∈l',y∈l):Gq M J K0 w0 bx v' l' V K Ds w':=by
 have hkb:∀ k,K k→w'.heap[k]? = w.heap[k]? := fun k hk=>hu.block k fun e=>h.kb (by rw [← e]; exact hk);refine ⟨ob',row',fun y hy=>⟨(h.ok y (hl y hy)).1,(h.ok y (hl y hy)).2.1,?_⟩,hM.st _ _ _ _ h.j (by rw [hu.size]; exact Nat.le_refl _) hkb,h.kb,fun k e=>h.kr k (by rw [← hv]; exact e),by rw [hv]; exact h.nb,h.bb,?_,h.sub,h.i.upd hu (h.u bx h.bb).2,tab_upd h.t hu (by have:=h.bb; have:=h.z; omega),h.u,h.z,h.dn,fun D hD=>?_⟩
 ·rw [hv];exact (h.ok y (hl y hy)).2.2.kept (by rw [hu.size]; exact Nat.le_refl _) fun b hp _=>hu.block b hp.2.2.1
 ·have hb:=h.bb;exact ⟨hu.os.trans h.f.os,hu.tape.trans h.f.tape,hu.output.trans h.f.output,by rw [hu.size]; exact h.f.size,fun k hk hm hn=>(hu.block k (by omega)).trans (h.f.block k hk hm hn)⟩
 ·obtain ⟨h1,h2,h3⟩:=h.dm D hD;refine ⟨h1,(hu.block D fun e=>?_).trans h2,h3⟩;rw [e,h.ob.2] at h2;cases h2
structure Ex (w0:World) (K:Nat→Prop) (w:World) (b:Nat) (cs:Array Value) (T:TypeId):Prop where
 o:Rg.Own w b cs T
 g:w0.heap.size≤b
 k:¬ K b
theorem Ex.keep {b:Nat} {cs:Array Value} {T:TypeId} (h:Ex w0 K w b cs T) {K':Nat→Prop} (hz:w.heap.size≤w'.heap.size) (hk:w0.heap.size≤b→b<w.heap.size → ¬ K b→w'.heap[b]? = w.heap[b]?) (hs:∀ k,K' k→K k∨w.heap.size≤k):Ex w0 K' w' b cs T :=
 ⟨⟨Nat.lt_of_lt_of_le h.o.1 hz,(hk h.g h.o.1 h.k).trans h.o.2⟩,h.g,fun hk'=>(hs b hk').elim h.k (by have:=h.o.1; omega)⟩
end
theorem rowPl_at:∀ (l:List Pc) (j:Nat) (hj:j<l.length),(rowPl l)[j*3]? = some (.pointer (l[j]).p)
 | [],_,h=>absurd h (Nat.not_lt_zero _)
 | y::l,0,_=>rfl
 | y::l,j+1,h=>by
  show (y.cs++rowPl l)[(j+1)*3]? = _;have hx:y.cs.length=3:=rfl;rw [List.getElem?_append_right (by omega),hx,show (j+1)*3-3=j*3 by omega,rowPl_at l j (by simpa using h)];rfl
theorem rankW_eq {M:Mp} {bx B:Nat} {w:World} {v:Value} {l:List Pc} (ob:Rg.Own w bx #[v] 122) (row:RowPl B w v l) (ok:∀ y∈l,IsT M y.p y.x.1):rankW M bx w=rankP (l.map (·.x)):=by
 have hc:=own_cell (j:=0) ob rfl;have hr:=row;rcases row.2 with ⟨rfl,hn⟩ | ⟨g,cap,cur,rfl,_⟩
 ·have:l=[]:=List.length_eq_zero_iff.1 hn;subst this;unfold rankW;rw [hc];rfl
 ·unfold rankW;rw [hc];show ((List.range l.length).map _).sum=((l.map (·.x)).map fun x=>cntT x.1).sum;congr 1;apply List.ext_getElem
  ·simp
  ·intro j h1 h2;have hj:j<l.length:=by simpa using h1
   simp only [List.getElem_map,List.getElem_range];have h3:=hr.cells (g:=g) rfl (j*3) (.pointer (l[j]).p) (rowPl_at l j hj);rw [h3];dsimp only;rw [(ok l[j] (List.getElem_mem hj)).treeP]
structure Mv (w0:World) (K:Nat→Prop) (w:World) (K':Nat→Prop) (w':World):Prop where
 sz:w.heap.size≤w'.heap.size
 bl:∀ b,w0.heap.size≤b→b<w.heap.size → ¬ K b→w'.heap[b]? = w.heap[b]?
 sub:∀ k,K' k→K k∨w.heap.size≤k
section
variable {M:Mp} {w0 w w':World} {K K':Nat→Prop}
theorem Mv.below (hb:Below w.heap.size w w'):Mv w0 K w K w':=⟨hb.size,fun b _ hl _=>hb.block b hl,fun _ hk=>.inl hk⟩
theorem Mv.fr (hu:∀ k,w0.heap.size≤k→M.at_ k=none ∧ ¬ M.ft k) (f:Fr M M w w'):Mv w0 K w K w':=⟨f.size,fun b hB hl _=>f.block b hl (hu b hB).1,fun _ hk=>.inl hk⟩
theorem Mv.rnd {α:Type} {J:List α→(Nat→Prop)→World→Prop} {V:List α} {x : α} (hu:∀ k,w0.heap.size≤k→M.at_ k=none ∧ ¬ M.ft k) (r:Rnd M J V K w.heap.size x w w' K'):Mv w0 K w K' w':=⟨r.f.size,fun b hB hl hn=>r.f.block b hl (hu b hB).1 hn,r.sub⟩
theorem Mv.not (m:Mv w0 K w K' w') {b:Nat} (hl:b<w.heap.size) (hn:¬ K b):¬ K' b:=fun h=>(m.sub b h).elim hn (by omega)
theorem Ex.mv {b:Nat} {cs:Array Value} {T:TypeId} (h:Ex w0 K w b cs T) (m:Mv w0 K w K' w'):Ex w0 K' w' b cs T:=h.keep m.sz (fun hB hl hn=>m.bl b hB hl hn) m.sub
def BsK (w0:World) (K:Nat→Prop) (w:World) (h:Hdl) (l:List UInt8):Prop:=BsP (fun b=>w0.heap.size≤b ∧ ¬ K b) w h l
theorem BsK.mv {h:Hdl} {l:List UInt8} (g:BsK w0 K w h l) (m:Mv w0 K w K' w'):BsK w0 K' w' h l:=by
 have h2:BsP (fun b=>(w0.heap.size≤b ∧ ¬ K b)∧b<w.heap.size) w h l:=BsP.to g fun b hl hp=>⟨hp,hl⟩
 exact (h2.kept m.sz fun b hp hl=>m.bl b hp.1.1 hl hp.1.2).to fun b _ hp=>⟨hp.1.1,m.not hp.2 hp.1.2⟩
def KRow (w0:World) (K:Nat→Prop) (w:World) (a:Option Addr) (ps:List (Option Addr)):Prop:=ps=[]∨∃ g cs,a=some ⟨g,0,none⟩∧Ex w0 K w g cs 28∧∀ j,j<ps.length→cs[j]? = some (.pointer (ps.getD j none))
theorem KRow.mv {a:Option Addr} {ps:List (Option Addr)} (h:KRow w0 K w a ps) (m:Mv w0 K w K' w'):KRow w0 K' w' a ps:=h.imp id fun ⟨g,cs,e,hx,hc⟩=>⟨g,cs,e,hx.mv m,hc⟩
theorem KRow.cell {a:Option Addr} {ps:List (Option Addr)} (h:KRow w0 K w a ps) {j:Nat} (hj:j<ps.length):∃ g cs,a=some ⟨g,0,none⟩∧w.cell? ⟨g,j,none⟩=some (.pointer (ps.getD j none))∧w0.heap.size≤g∧Rg.Own w g cs 28:=by
 rcases h with rfl | ⟨g,cs,e,hx,hc⟩
 ·exact absurd hj (Nat.not_lt_zero _)
 ·exact ⟨g,cs,e,own_cell hx.o (hc j hj),hx.g,hx.o⟩
theorem KRow.ofRow {B n kc:Nat} {ka:Option Addr} {ps:List (Option Addr)} (h:RowV B w (.slice ka n kc) ps) (hB:w0.heap.size≤B) (hK:∀ k,K k→k<B):KRow w0 K w ka ps:=by
 rcases h with ⟨_,rfl⟩ | ⟨g,cap,e,hg,cur,ho,_,_,_,hc⟩
 ·exact .inl rfl
 ·injection e with e1;exact .inr ⟨g,cur,e1,⟨ho,Nat.le_trans hB hg,fun hk=>by have:=hK g hk; omega⟩,hc⟩
end
theorem pl_len {x:Pl} (h:PlOk x):(x.2.2.length<64∨(nodeT x.1).kd≠3)∧x.2.2.length+(nodeT x.1).p.length≤64:=by
 obtain ⟨t,o,a⟩:=x;obtain ⟨L,hl,g,f,hn,ho⟩:=h;have hl':a.length+L=64:=hl;cases t with
 | nil=>exact ⟨.inr (by show ¬ (0:Int)=3; decide),by show a.length+0≤64; omega⟩
 | stub r=>exact ⟨.inr (by show ¬ (0:Int)=3; decide),by show a.length+0≤64; omega⟩
 | leaf p v=>exact ⟨.inr (by show ¬ (1:Int)=3; decide),by show a.length+p.length≤64; have:=g.1; omega⟩
 | ext q s=>exact ⟨.inr (by show ¬ (2:Int)=3; decide),by show a.length+q.length≤64; have:=g.2.2.1; omega⟩
 | br ks=>exact ⟨.inl (by show a.length<64; have:=g.1; omega),by show a.length+0≤64; omega⟩
def kidAt (x:Pl) (j:Nat):Pl:=(kidsPl x).getD j (.nil,0,[])
theorem bk_kids {x:Pl} {hs:List Hdl} (h:hs.length=(kidsPl x).length):(bk hs 0).map (fun z=>kidAt x z.1)=(kidsPl x).reverse:=by
 unfold bk;rw [List.drop_zero,← List.map_reverse,List.map_map,List.map_reverse];congr 1;apply List.ext_getElem
 ·simp [h]
 ·intro j h1 h2;simp [kidAt,List.getD,h2]
theorem kids_len16 (x:Pl):(kidsPl x).length≤16:=by
 have:=congrArg List.length (kidsPl_fst x);rw [List.length_map] at this;rw [this];exact kids_len x.1
end Tm
end
section
open Go.RowKit
namespace Tm
open Tr Ni Pk Ky No Rf Rl Rf2
open Sm (Tab)
structure Bo2 (P:Nat→Prop) (w w':World):Prop where
 os:w'.os=w.os
 tape:w'.tape=w.tape
 output:w'.output=w.output
 size:w.heap.size≤w'.heap.size
 block:∀ k,k<w.heap.size → ¬ P k→w'.heap[k]? = w.heap[k]?
theorem Bo2.below {P:Nat→Prop} {w w1 w2:World} (h:Bo2 P w w1) (hb:Below w1.heap.size w1 w2):Bo2 P w w2 :=
 ⟨hb.os.trans h.os,hb.tape.trans h.tape,hb.output.trans h.output,Nat.le_trans h.size hb.size,fun k hk hn=>(hb.block k (Nat.lt_of_lt_of_le hk h.size)).trans (h.block k hk hn)⟩
theorem Bo2.of {P:Nat→Prop} {w w2:World} (hb:Below w.heap.size w w2):Bo2 P w w2:=⟨hb.os,hb.tape,hb.output,hb.size,fun k hk _=>hb.block k hk⟩
theorem Bo2.upd {P:Nat→Prop} {w w1 w2:World} {g:Nat} (h:Bo2 P w w1) (hu:Rg.Upd w1 g w2) (hg:P g):Bo2 P w w2 :=
 ⟨hu.os.trans h.os,hu.tape.trans h.tape,hu.output.trans h.output,by rw [hu.size]; exact h.size,fun k hk hn=>(hu.block k fun e=>hn (by rw [e]; exact hg)).trans (h.block k hk hn)⟩
theorem Bo2.grown {P:Nat→Prop} {w w1 w2:World} {r:Option Nat} (h:Bo2 P w w1) (hg:w1.grownBy w2 r) (hr:∀ k,r=some k→P k):Bo2 P w w2 :=
 ⟨hg.os.trans h.os,hg.tape.trans h.tape,hg.output.trans h.output,Nat.le_trans h.size hg.size,fun k hk hn=>(hg.block k (Nat.lt_of_lt_of_le hk h.size) fun e=>hn (hr k e.symm)).trans (h.block k hk hn)⟩
theorem Bo2.cell {P:Nat→Prop} {w w':World} (h:Bo2 P w w') {b o:Nat} {v:Value} (hc:w.cell? ⟨b,o,none⟩=some v) (hn:¬ P b):w'.cell? ⟨b,o,none⟩=some v:=by
 rw [World.cell?_of_block (h.block b (World.block_lt_of_cell? w _ hc) hn)];exact hc
theorem Bo2.frK {M:Mp} {P:Nat→Prop} {w w':World} (h:Bo2 P w w'):FrK M P w w':=⟨h.os,h.tape,h.output,h.size,fun k hk _ hn=>h.block k hk hn⟩
theorem op_load_pls {ev:Operand→Value} {o:Oper} {w:World} {b off:Nat} {v:Value} (hc:w.cell? ⟨b,off,none⟩=some v) (ho:∃ x,o.op = .load 122 x∧ev x = .pointer (some ⟨b,off,none⟩)) :
  (execOp ev o).run Tryz.prog w = .ok (.value v) w:=by
 obtain ⟨x,ho,hx⟩:=ho;unfold execOp;simp [ho,hx,go_sem,hc]
theorem meet_push_pl {o:Oper} {a:Go.Act} {w:World} {K:Go.Act→World→Prop} {Q:Exit→Go.Act→World→Prop} {ops:Array Oper} {B b2:Nat} {v:Value} {l:List Pc} (y:Pc) (hw:Region.wanted o (yielded ops a.tmps)=true)
  (ho:∃ s y,o.op = .call { callee:=.builtin .append,args:=#[s,y],argTypes:=#[122,122] }∧a.eval s=v∧a.eval y = .slice (some ⟨b2,0,none⟩) 1 1)
  (hR:RowPl B w v l) (h2:Rg.Own w b2 (plA y.p y.x.2.1 y.h) 75) (hn:l.length≤1000000) (hB:B≤w.heap.size)
  (H:∀ v' w',RowPl B w' v' (l++[y])→w.grownBy w' v.ownBlock→(v'.ownBlock=v.ownBlock∨v'.ownBlock=some w.heap.size)→K (a.put o.dst v') w'):if Region.wanted o (yielded ops a.tmps)=true then Oper.wp Tryz.prog o a w K Q else K (a.put o.dst undef) w:=by
 obtain ⟨s,y',ho,hs,hy⟩:=ho;obtain ⟨v',w',hr,h3,h4,h5⟩:=run_push_pl (ty:=o.type) hR h2 hn hB;refine Rg.want hw ?_;unfold Oper.wp execOp;simp only [ho,resolve,invoke,builtin,Sem.run_bind,Sem.run_pure,Result.andThen_ok,List.map_toArray,List.map_cons,List.map_nil,hs,hy,hr];exact H v' w' h3 h4 h5
theorem store_pls {w:World} {b:Nat} {v:Value} (h:Rg.Own w b #[v] 122) (a:Option Addr) (n c:Nat) :
  (Instr.storeAt 122 (.pointer (some ⟨b,0,none⟩)) (.slice a n c)).run Tryz.prog w = .ok () (w.setCell ⟨b,0,none⟩ (.slice a n c)):=by
 have hc:w.cell? ⟨b,0,none⟩=some v:=own_cell (j:=0) h rfl;have hz:w.frozen? ⟨b,0,none⟩=false:=own_free (j:=0) h;simp [go_sem,hc,hz]
theorem meet_store_pls {o:Oper} {a:Go.Act} {w:World} {K:Go.Act→World→Prop} {Q:Exit→Go.Act→World→Prop} {ops:Array Oper} {b:Nat} {v v':Value} (hw:Region.wanted o (yielded ops a.tmps)=true) (hg:Rg.Own w b #[v] 122)
  (ho:∃ x y,o.op = .store 122 x y∧a.eval x = .pointer (some ⟨b,0,none⟩)∧a.eval y=v') (hv:∃ s n c,v' = .slice s n c)
  (h:∀ w',Rg.Own w' b #[v'] 122→Rg.Upd w b w'→K (a.put o.dst undef) w'):if Region.wanted o (yielded ops a.tmps)=true then Oper.wp Tryz.prog o a w K Q else K (a.put o.dst undef) w:=by
 obtain ⟨x,y,ho,hx,hy⟩:=ho;obtain ⟨s,n,c,rfl⟩:=hv;refine Rg.want hw ?_;unfold Oper.wp execOp;simp only [ho,hx,hy,Sem.run_bind,Sem.run_pure,Result.andThen_ok,store_pls hg s n c];exact h _ (own_setCell (o:=0) hg _) (upd_setCell _ _ _ _)
structure PushI (M:Mp) (B bx:Nat) (l:List Pc) (mk:Nat × Hdl→Pc) (V:List (Nat × Hdl)) (K:Nat→Prop) (w:World) (v:Value):Prop where
 o:Rg.Own w bx #[v] 122
 r:RowPl B w v (l++V.map mk)
 k:∀ k,K k↔k=bx∨v.ownBlock=some k
 nb:v.ownBlock≠some bx
 bb:B≤bx
 u:∀ k,B≤k→M.at_ k=none ∧ ¬ M.ft k
def PI (M:Mp) (B bx:Nat) (l:List Pc) (mk:Nat × Hdl→Pc) (V:List (Nat × Hdl)) (K:Nat→Prop) (w:World):Prop:=∃ v,PushI M B bx l mk V K w v
theorem pi_sta (M:Mp) (B bx:Nat) (l:List Pc) (mk:Nat × Hdl→Pc):Sta M (PI M B bx l mk):=by
 refine ⟨fun V K w w' ⟨v,h⟩ hs hk=>⟨v,⟨⟨Nat.lt_of_lt_of_le h.o.1 hs,(hk bx ((h.k bx).2 (.inl rfl))).trans h.o.2⟩,owns_same h.r fun k e=>hk k ((h.k k).2 (.inr e)),h.k,h.nb,h.bb,h.u⟩⟩,fun V K w ⟨v,h⟩ k hk=>?_⟩;rcases (h.k k).1 hk with rfl | e
 ·exact ⟨h.o.1,h.u k h.bb⟩
 ·exact ⟨(h.r.lt k e).2,h.u k (h.r.lt k e).1⟩
theorem no_sta {α:Type} (M:Mp):Sta M (fun (_:List α) (_:Nat→Prop) (_:World)=>False):=⟨fun _ _ _ _ h=>h.elim,fun _ _ _ h=>h.elim⟩
theorem push_rnd {M:Mp} {B bx:Nat} {l:List Pc} {mk:Nat × Hdl→Pc} {V:List (Nat × Hdl)} {K:Nat→Prop} {w w5:World} {v v':Value} {x:Nat × Hdl} {n:Nat} (h:PushI M B bx l mk V K w v) (hi:Inv M w) (ht:Tab w) (hz:1<B) (hn:n≤w.heap.size) (hb:Bo2 K w w5)
  (ho:Rg.Own w5 bx #[v'] 122) (hr:RowPl B w5 v' (l++V.map mk++[mk x])) (hl:v'.ownBlock=v.ownBlock∨∃ k,w.heap.size≤k∧v'.ownBlock=some k):∃ K',Rnd M (PI M B bx l mk) V K n x w w5 K':=by
 refine ⟨fun k=>k=bx∨v'.ownBlock=some k,⟨v',⟨ho,by rw [List.map_append,← List.append_assoc]; exact hr,fun k=>Iff.rfl,fun e=>?_,h.bb,h.u⟩⟩,fun k hk=>?_,hb.frK,hi.keep hb.size fun k hk=>hb.block k (hi.lt_ k hk) fun g=>?_,fun j hj=>?_⟩
 ·rcases hl with e2 | ⟨k,hk,e2⟩
  ·exact h.nb (by rw [← e2]; exact e)
  ·rw [e2] at e;have:=Option.some.inj e;have:=h.o.1;omega
 ·rcases hk with rfl | e
  ·exact .inl ((h.k _).2 (.inl rfl))
  ·rcases hl with e2 | ⟨k',hk',e2⟩
   ·exact .inl ((h.k k).2 (.inr (by rw [← e2]; exact e)))
   ·rw [e2] at e;have:=Option.some.inj e;exact .inr (by omega)
 ·exact ((pi_sta M B bx l mk).lt V K w ⟨v,h⟩ k g).2.2 hk
 ·have hlt:1<w.heap.size:=ht.pos;have hk:¬ K 1:=fun g=>by
   rcases (h.k _).1 g with e | e
   ·have:=h.bb;omega
   ·have:=(h.r.lt _ e).1;omega
  rw [World.cell?_of_block (hb.block 1 hlt hk)];exact ht j hj
theorem bk_mem {hs:List Hdl} {V:List (Nat × Hdl)} {x:Nat × Hdl} (h:V++[x]<+:bk hs 0):x.1<hs.length∧x.2=hs.getD x.1 hd0:=by
 have hx:x∈bk hs 0:=h.subset (by simp);unfold bk at hx;rw [List.mem_reverse] at hx;obtain ⟨j,hj,rfl⟩:=List.mem_map.1 hx;exact ⟨by simpa using hj,rfl⟩
theorem kidAt_over {x:Pl} {j:Nat} (h:j<(kidsPl x).length):(kidAt x j).2.1=x.2.1+1:=kidsPl_over x _ (by
 unfold kidAt;rw [List.getD_eq_getElem?_getD,List.getElem?_eq_getElem h];exact List.getElem_mem h)
theorem kidAt_ok {x:Pl} (hx:PlOk x) {j:Nat} (h:j<(kidsPl x).length):PlOk (kidAt x j):=(hx.kids _ (by
 unfold kidAt;rw [List.getD_eq_getElem?_getD,List.getElem?_eq_getElem h];exact List.getElem_mem h)).1
theorem kidAt_tree {x:Pl} {j:Nat} (h:j<(kidsPl x).length):(kidAt x j).1=(kidsT x.1).getD j .nil:=by
 rw [← kidsPl_fst];unfold kidAt;simp [List.getD,h]
theorem kidAt_way {x:Pl} {j:Nat} (h:j<(kidsPl x).length):(kidAt x j).2.2=((kidsPl x).map (·.2.2)).getD j []:=by
 unfold kidAt;simp [List.getD,h]
theorem Gq.pushed {M:Mp} {J:List Pl→(Nat→Prop)→World→Prop} {K0:Nat→Prop} {w0:World} {bx g n cap:Nat} {l:List Pc} {V:List Pl} {K:Nat→Prop} {Ds:List Nat} {w w':World} (h:Gq M J K0 w0 bx (.slice (some ⟨g,0,none⟩) n cap) l V K Ds w) (hM:Sta M J) {x:Pl} (hx:PlOk x) {qs:List (Option Addr)} (hA:Are M qs (kidsT x.1)) {hs:List Hdl} {B:Nat} {v12:Value}
  (hW:Ways B w v12 hs ((kidsPl x).map (·.2.2))) (hB:w0.heap.size≤B) (hBb:bx<B) (hBg:g<B) (hBK:∀ k,K k→k<B) (hBw:B≤w.heap.size) {Ki:Nat→Prop} {v':Value} (hP:PushI M w0.heap.size bx l (fun z=>⟨qs.getD z.1 none,z.2,kidAt x z.1⟩) (bk hs 0) Ki w' v')
  (f:FrK M (fun k=>k=bx∨(Value.slice (some ⟨g,0,none⟩) n cap).ownBlock=some k) w w') (i':Inv M w') (t':Tab w') (hsub:∀ k,Ki k→(k=bx∨(Value.slice (some ⟨g,0,none⟩) n cap).ownBlock=some k)∨w.heap.size≤k) (hD:w'.heap[w.heap.size]? = some (.deferred (some []))) :
  Gq M J K0 w0 bx v' (l++(bk hs 0).map fun z=>⟨qs.getD z.1 none,z.2,kidAt x z.1⟩) V K (w.heap.size::Ds) w':=by
 have hlen:hs.length=(kidsPl x).length:=by rw [hW.len,List.length_map]
 have hb:∀ k,w0.heap.size≤k→k<w.heap.size→k≠bx→k≠g→w'.heap[k]? = w.heap[k]? := fun k hk hl h1 h2=>f.block k hl (h.u k hk).1 fun e=>e.elim h1 fun e=>h2 (Option.some.inj e).symm;have hv':∀ k,v'.ownBlock=some k→k=g∨w.heap.size≤k:=fun k e=>(hsub k ((hP.k k).2 (.inr e))).elim (fun e2=>e2.elim (fun e3=>absurd (by rw [← e3]; exact e) hP.nb) fun e3=>.inl (Option.some.inj e3).symm) .inr;have hKl:∀ k,K k→k<w.heap.size:=fun k hk=>(hM.lt _ _ _ h.j k hk).1
 have hKn:∀ k,K k→k≠bx∧k≠g:=fun k hk=>⟨fun e=>h.kb (by rw [← e]; exact hk),fun e=>h.kr g rfl (by rw [← e]; exact hk)⟩
 refine ⟨hP.o,hP.r,fun y hy=>?_,hM.st _ _ _ _ h.j f.size fun k hk=>f.block k (hKl k hk) (hM.lt _ _ _ h.j k hk).2.1 fun e=>e.elim (hKn k hk).1 fun e=>(hKn k hk).2 (Option.some.inj e).symm,h.kb,fun k e hk=>?_,hP.nb,h.bb,h.f.trans f fun k e=>.inr ?_,h.sub,i',t',h.u,h.z,List.nodup_cons.2 ⟨fun hd=>?_,h.dn⟩,fun D hd=>?_⟩
 ·rcases List.mem_append.1 hy with hy | hy
  ·obtain ⟨h1,h2,h3⟩:=h.ok y hy;refine ⟨h1,h2,?_⟩;have h4:BsP (fun b=>(w0.heap.size≤b ∧ ¬ K b∧b≠bx∧(Value.slice (some ⟨g,0,none⟩) n cap).ownBlock≠some b)∧b<w.heap.size) w y.h y.x.2.2:=h3.to fun b hl hp=>⟨hp,hl⟩
   exact (h4.kept f.size fun b hp hl=>hb b hp.1.1 hl hp.1.2.2.1 fun e=>hp.1.2.2.2 (by rw [e]; rfl)).to fun b _ hp=>⟨hp.1.1,hp.1.2.1,hp.1.2.2.1,fun e=>(hv' b e).elim (fun e2=>hp.1.2.2.2 (by rw [e2]; rfl)) (by omega)⟩
  ·obtain ⟨z,hz,rfl⟩:=List.mem_map.1 hy;have hzj:z.1<hs.length∧z.2=hs.getD z.1 hd0:=by
    unfold bk at hz;rw [List.mem_reverse] at hz;obtain ⟨j,hj,rfl⟩:=List.mem_map.1 hz;exact ⟨by simpa using hj,rfl⟩
   have hzk:z.1<(kidsPl x).length:=by omega
   have hqs:qs.length=(kidsPl x).length:=by rw [hA.1,← kidsPl_fst,List.length_map]
   refine ⟨?_,kidAt_ok hx hzk,?_⟩
   ·show IsT M (qs.getD z.1 none) (kidAt x z.1).1;rw [kidAt_tree hzk];exact hA.2 z.1 (by omega)
   ·show BsP _ w' z.2 (kidAt x z.1).2.2;rw [kidAt_way hzk,hzj.2];have h3:=hW.bs z.1 hzj.1;have h4:BsP (fun b=>B≤b∧b<w.heap.size) w (hs.getD z.1 hd0) (((kidsPl x).map (·.2.2)).getD z.1 []):=h3.to fun b hl hp=>⟨hp.1,hl⟩
    exact (h4.kept f.size fun b hp hl=>hb b (by omega) hl (by omega) (by omega)).to fun b _ hp=>⟨by omega,fun hk=>by have:=hBK b hk; omega,by omega,fun e=>(hv' b e).elim (by omega) (by omega)⟩
 ·rcases hv' k e with e2 | e2
  ·exact (hKn k hk).2 e2
  ·have:=hKl k hk;omega
 ·rcases e with e | e
  ·rw [e]; exact h.bb
  ·rw [← (Option.some.inj e:g=k)];exact (h.row.lt g rfl).1
 ·have:=(Array.getElem?_eq_some_iff.1 (h.dm _ hd).2.1).1;omega
 ·rcases List.mem_cons.1 hd with rfl | hd
  ·exact ⟨h.f.size,hD,fun hk=>by have:=hKl _ hk; omega⟩
  ·obtain ⟨h1,h2,h3⟩:=h.dm D hd;have hl:=(Array.getElem?_eq_some_iff.1 h2).1;refine ⟨h1,(hb D h1 hl (fun e=>?_) (fun e=>?_)).trans h2,h3⟩
   ·rw [e,h.ob.2] at h2;cases h2
   ·rcases h.row.2 with ⟨e2,_⟩ | ⟨g',_,_,e2,_,hh,_⟩
    ·cases e2
    ·injection e2 with e3;injection e3 with e3;injection e3 with e3;rw [e,e3,hh] at h2;cases h2
end Tm
end
section
open Go.RowKit
namespace Tm
open Tr Ni Pk Ky No Rf Rl Rf2
open Sm (Tab)
theorem under_pls:Tryz.prog.underlying 122=some (.slice (Tryz.prog.elem 122)):=by kernel_rfl
theorem size_pl (w:World):(sizeOf (Tryz.prog.elem 122)).run Tryz.prog w = .ok 3 w:=by kernel_rfl
theorem op_load_fn {ev:Operand→Value} {o:Oper} {w:World} {b off:Nat} {v:Value} (hc:w.cell? ⟨b,off,none⟩=some v) (ho:∃ x,o.op = .load 73 x∧ev x = .pointer (some ⟨b,off,none⟩)) :
  (execOp ev o).run Tryz.prog w = .ok (.value v) w:=by
 obtain ⟨x,ho,hx⟩:=ho;unfold execOp;simp [ho,hx,go_sem,hc]
def SeqEnd {α:Type} (M:Mp) (J Js:List α→(Nat→Prop)→World→Prop) (G:List α) (K0:Nat→Prop) (w:World) (e:Ending) (w':World):Prop :=
 (∃ v,e = .returned v)∧∃ V K,(V=G∧J V K w'∨V<+:G∧Js V K w')∧FrK M K0 w w'∧Inv M w'∧Tab w'∧∀ k,K k→K0 k∨w.heap.size≤k
theorem shut_end {α:Type} {M:Mp} {J Js:List α→(Nat→Prop)→World→Prop} {G:List α} {K0:Nat→Prop} {w wr:World} {V:List α} {K:Nat→Prop} {Ds:List Nat} (hJ:Sta M J) (hJs:Sta M Js) (hV:V=G∧J V K wr∨V<+:G∧Js V K wr) (f:FrK M K0 w wr) (i:Inv M wr) (t:Tab wr)
  (hs:∀ k,K k→K0 k∨w.heap.size≤k) (hu:∀ k,w.heap.size≤k→M.at_ k=none ∧ ¬ M.ft k) (hz:1<w.heap.size) (hd:∀ D∈Ds,w.heap.size≤D∧wr.heap[D]? = some (.deferred (some [])) ∧ ¬ K D) (v:Value):SeqEnd M J Js G K0 w (.returned v) (shut wr Ds):=by
 have hb:=shut_block Ds wr;have hsz:=shut_size Ds wr;have hK:∀ k,K k→(shut wr Ds).heap[k]? = wr.heap[k]? := fun k hk=>hb k fun h=>(hd k h).2.2 hk;obtain ⟨s1,s2,s3⟩:=shut_same Ds wr;refine ⟨⟨v,rfl⟩,V,K,hV.imp (fun h=>⟨h.1,hJ.st _ _ _ _ h.2 (by omega) hK⟩) (fun h=>⟨h.1,hJs.st _ _ _ _ h.2 (by omega) hK⟩),⟨s1.trans f.os,s2.trans f.tape,s3.trans f.output,by have:=f.size; omega,fun k hk hm hn=>(hb k fun h=>by have:=(hd k h).1; omega).trans (f.block k hk hm hn)⟩,i.keep (by omega) fun k hk=>hb k fun h=>(hu k (hd k h).1).2 hk,fun j hj=>?_,hs⟩
 rw [World.cell?_of_block (hb 1 fun h=>by have:=(hd _ h).1; omega)];exact t j hj
theorem goer_seq (M:Mp) (g0 gi fi:Nat) (cp:Array Value) (p0:Option Addr) (t:T) (I:Pa→Bool) (eI:∀ args w,(callFunc fi args).run Tryz.prog w = .ok (.enter fi args) w) (hg:Tr.Good t 64) (hf:Fine t) (hc:cntT t≤200000) (ht:IsT M p0 t) :
  SeqC M 67 #[.pointer (some ⟨g0,0,none⟩),.pointer (some ⟨gi,0,none⟩)] (goA M) (goL I t 0 []) (GoPre M g0 gi fi cp p0 I):=by
 intro lp J Js K0 w hJ hJs hP hi hT h0 hY;show Calls Tryz.prog 67 #[.func (.yield lp) #[] #[],.pointer (some ⟨g0,0,none⟩),.pointer (some ⟨gi,0,none⟩)] w (SeqEnd M J Js (goL I t 0 []) K0 w);have hout:∀ k,w.heap.size≤k→M.at_ k=none ∧ ¬ M.ft k:=fun k hk=>⟨hi.out hk,hi.free hk⟩
 obtain ⟨w1,hw1⟩:∃ w1,w1=w.alloc (.cells (plA p0 0 (none,0,0)) 75):=⟨_,rfl⟩
 have hb1:Below w.heap.size w w1:=by rw [hw1]; exact al1 _ _
 have hs1:w1.heap.size=w.heap.size+1:=by rw [hw1]; simp
 have hR1:RowPl w.heap.size w1 (.slice (some ⟨w.heap.size,0,none⟩) 1 1) [⟨p0,(none,0,0),(t,0,[])⟩]:=by
  rw [hw1];exact World.ownsRow_lit (e:=75) (size:=3) (base:=w.heap.size) w (plA p0 0 (none,0,0)) 1 (Nat.le_refl _) (by unfold maxLen; decide) rfl
 obtain ⟨w3,hw3⟩:∃ w3,w3=w1.alloc (.cells #[.slice (some ⟨w.heap.size,0,none⟩) 1 1] 122):=⟨_,rfl⟩
 have hb2':=al1 w1 (.cells #[.slice (some ⟨w.heap.size,0,none⟩) 1 1] 122);rw [← hw3] at hb2';have hb3:Below w.heap.size w w3:=bst hb1 hb2';have hO3:Rg.Own w3 (w.heap.size+1) #[.slice (some ⟨w.heap.size,0,none⟩) 1 1] 122:=by rw [hw3,← hs1]; exact Rg.Own.new _ _ _
 have hR3:RowPl w.heap.size w3 (.slice (some ⟨w.heap.size,0,none⟩) 1 1) [⟨p0,(none,0,0),(t,0,[])⟩]:=owns_same hR1 fun k e=>hb2'.block k (hR1.lt k e).2;have HG0:Hid (Gq M J K0 w (w.heap.size+1) (.slice (some ⟨w.heap.size,0,none⟩) 1 1) [⟨p0,(none,0,0),(t,0,[])⟩] [] K0 [] w3):=hid (by
  have hK:=hJ.lt _ _ _ h0;refine ⟨hO3,hR3,fun y hy=>?_,hJ.st _ _ _ _ h0 hb3.size fun k hk=>hb3.block k (hK k hk).1,fun hk=>by have:=(hK _ hk).1; omega,fun k e hk=>?_,fun e=>?_,by omega,(FrK.refl M K0 w).below hb3 (Nat.le_refl _),fun k hk=>.inl hk,hi.below hb3,hT.below hb3 hT.pos,hout,hT.pos,List.nodup_nil,fun D hD=>by cases hD⟩
  ·obtain rfl:=List.mem_singleton.1 hy;exact ⟨ht,PlOk.root hg hf,IsBs.nil _,fun ad e=>by cases e⟩
  ·have e2:w.heap.size=k:=Option.some.inj e;have:=(hK _ hk).1;omega
  ·have e2:w.heap.size=w.heap.size+1:=Option.some.inj e;omega)
 have HP:=hid hP;have HY:=hid hY;have HJ:=hid hJ;have HJs:=hid hJs;have HC:=hid hc;have HOut:=hid hout;have hcell0:=hP.c0;clear hP hY hJ hJs hc hout hi hT h0 hb1 hs1 hR1 hb2' hO3 hb3 hR3 hg hf ht;refine calls_marks Tryz.func67 rfl ?_;simp only [Tryz.ntmps67,List.size_toArray,List.length_cons,List.length_nil,Nat.reduceAdd,Nat.reduceSub,Array.replicate_succ,Array.replicate_zero,List.push_toArray,List.append_toArray,List.nil_append,List.cons_append]
 obtain ⟨INV,hINV⟩:∃ INV:Go.Act→World→Prop,INV=fun a' wr=>∃ (Ds:List Nat) (v:Value) (l:List Pc) (V:List Pl) (K:Nat→Prop),Hid (Gq M J K0 w (w.heap.size+1) v l V K Ds wr)∧Hid (V++stackP I (l.map (·.x))=goL I t 0 []∧rankP (l.map (·.x))≤200000) ∧
   ∃ u3 u5 u6 u7 u8 u9 u10 u11 u12 u13 u14 u15 u16 u17 u18 u19 u20 u21 u22 u23 u24 u25 u26 u27 u28 u29 u30 u31 u32 u33 u34 u35 u36 u37 u38 u39 u40 u41 u42 u43 u44 u45 u46 u47 u48 u49 u50 u51 u52 u53 u54 u55 u56 u57 u58 u59:Value,a'={ tmps:=#[.func (.yield lp) #[] #[],.pointer (some ⟨g0,0,none⟩),.pointer (some ⟨gi,0,none⟩),u3,.pointer (some ⟨w.heap.size+1,0,none⟩),u5,u6,u7,u8,u9,u10,u11,u12,u13,u14,u15,u16,u17,u18,u19,u20,u21,u22,u23,u24,u25,u26,u27,u28,u29,u30,u31,u32,u33,u34,u35,u36,u37,u38,u39,u40,u41,u42,u43,u44,u45,u46,u47,u48,u49,u50,u51,u52,u53,u54,u55,u56,u57,u58,u59],defers:=marks Ds }:=⟨_,rfl⟩
 have HInv:=hid hINV;clear hINV;go_wp2_with (first
  | (refine Rg.run rfl _ _ (op_load_tree hcell0 ⟨_,rfl,rfl⟩) ?_)
  | (refine Rg.run rfl _ _ (op_build (built_pl1 p0) ⟨_,rfl,rfl⟩) ?_)
  | (refine Rg.run rfl _ _ (op_lit_pl w.heap.size rfl ⟨_,rfl,rfl⟩) ?_)
  | (refine wp_loop INV (fun _ wr=>rankW M (w.heap.size+1) wr) ?_ ?_))
 ·rw [← hw1,← hw3,HInv.out];refine ⟨[],_,_,_,_,HG0,hid ⟨by rw [List.nil_append]; exact stackP_one I (t,0,[]),by show cntT t+0≤200000; exact HC.out⟩,?_⟩
  (repeat apply Exists.intro)
  rfl
 ·intro a' wr hinv;rw [HInv.out] at hinv;obtain ⟨Ds,v,l,V,K,HG,HE,u3,u5,u6,u7,u8,u9,u10,u11,u12,u13,u14,u15,u16,u17,u18,u19,u20,u21,u22,u23,u24,u25,u26,u27,u28,u29,u30,u31,u32,u33,u34,u35,u36,u37,u38,u39,u40,u41,u42,u43,u44,u45,u46,u47,u48,u49,u50,u51,u52,u53,u54,u55,u56,u57,u58,u59,rfl⟩:=hinv;clear HG0 hcell0 hw1 hw3 w1 w3 HC;try dsimp only
  rw [shut_eq 6];have hcb:=own_cell (j:=0) HG.out.ob rfl;by_cases hl:l=[]
  ·subst hl;obtain ⟨a,c,rfl⟩:=owns_slice HG.out.row;have HEnd:Hid (SeqEnd M J Js (goL I t 0 []) K0 w (.returned (.tuple #[])) (shut wr Ds)):=hid (shut_end HJ.out HJs.out (.inl ⟨by have:=HE.out.1; simpa [stackP] using this,HG.out.j⟩) HG.out.f HG.out.i HG.out.t HG.out.sub HG.out.u HG.out.z HG.out.dm _);have HD:=hid (And.intro HG.out.dn HG.out.dm);clear HG HE HP HY;go_wp2;refine leaves_marks Ds wr HD.out.1 (fun D hD=>(HD.out.2 D hD).2.1) ⟨_,results_none rfl _ _ _,HEnd.out⟩
  ·obtain ⟨l,y,rfl⟩:∃ l' y,l=l'++[y]:=⟨_,_,(List.dropLast_concat_getLast hl).symm⟩
   obtain ⟨g,cap,rfl,hgB,hgl,hcap,hcm,hAt⟩:=HG.out.row.last;have hrk:=rankW_eq HG.out.ob HG.out.row (fun z hz=>(HG.out.ok z hz).1);have hlen:l.length≤200000:=by
    have h1:=rankP_len ((l++[y]).map (·.x));have h2:=HE.out.2;rw [List.length_map,List.length_append] at h1;omega
   have HRk:=hid hrk;unfold maxLen at hcm;obtain ⟨n,hn⟩:∃ n,l.length=n:=⟨_,rfl⟩
   have HN:=hid hn;rw [hn] at hcb hcap hAt hlen;rw [hn] at HG;have hpos:(0:Int)<((n+1:Nat):Int):=by omega
   have hsub:IntKind.i64.wrap (((n+1:Nat):Int)-1)=(n:Int):=by rw [show ((n+1:Nat):Int)-1=(n:Int) by omega]; exact IntWalk.i64_in _ (by omega)
   have hnc:n≤cap:=by omega
   have hn1:n<n+1:=Nat.lt_succ_self n;have HAt:=hid hAt;have hO5:=Rg.Own.new wr (plA none 0 (none,0,0)) 75;have HO5:=hid hO5;have hal5:=al1 wr (.cells (plA none 0 (none,0,0)) 75);obtain ⟨hyT,hyP,hyB⟩:=HG.out.ok y (by simp);have hrow:=HG.out.row;rw [← HN.out] at hrow;have hgi:w.heap.size≤wr.heap.size:=HG.out.f.size
   have HGs:Hid (∀ w5,Rg.Upd (wr.alloc (.cells (plA none 0 (none,0,0)) 75)) wr.heap.size w5→Rg.Own w5 wr.heap.size (plA y.p y.x.2.1 y.h) 75→w5.cell? ⟨w.heap.size+1,0,none⟩=some (.slice (some ⟨g,0,none⟩) (n+1) cap)∧w5.frozen? ⟨w.heap.size+1,0,none⟩=false ∧
     ∃ w6,w6=w5.setCell ⟨w.heap.size+1,0,none⟩ (.slice (some ⟨g,0,none⟩) n cap)∧(w6.cell? ⟨gi,0,none⟩=some (.func (Fn.func fi) #[] cp)∧Gq M J K0 w (w.heap.size+1) (.slice (some ⟨g,0,none⟩) n cap) l V K Ds w6∧Ex w K w6 wr.heap.size (plA y.p y.x.2.1 y.h) 75∧BsK w K w6 y.h y.x.2.2)):=hid (fun w5 hu h5=>by
    have hb5:Below wr.heap.size wr w5:=hu.below hal5 (Nat.le_refl _);have hg5:=HG.out.below HJ.out hb5;have hu6:=upd_setCell w5 (w.heap.size+1) 0 (.slice (some ⟨g,0,none⟩) n cap);have ho6:Rg.Own (w5.setCell ⟨w.heap.size+1,0,none⟩ (.slice (some ⟨g,0,none⟩) n cap)) (w.heap.size+1) #[.slice (some ⟨g,0,none⟩) n cap] 122:=own_setCell (o:=0) hg5.ob _;have hrow5:=owns_same hrow fun k e=>hb5.block k (hrow.lt k e).2;have hne:g≠w.heap.size+1:=fun e=>HG.out.nb (by rw [← e]; rfl)
    have hrow6:RowPl w.heap.size (w5.setCell ⟨w.heap.size+1,0,none⟩ (.slice (some ⟨g,0,none⟩) n cap)) (.slice (some ⟨g,0,none⟩) n cap) l:=by
     have:=owns_same (RowPl.init hrow5) fun k e=>hu6.block k (by have e2:g=k:=Option.some.inj e; omega);rw [HN.out] at this;unfold RowPl;rw [HN.out];exact this
    have hg6:=hg5.box HJ.out hu6 ho6 hrow6 rfl (fun z hz=>by simp [hz]);refine ⟨own_cell (j:=0) hg5.ob rfl,own_free hg5.ob,_,rfl,?_,hg6,⟨h5.upd hu6 (by have:=HG.out.ob.1; omega),hgi,fun hk=>by have:=(HJ.out.lt _ _ _ HG.out.j _ hk).1; omega⟩,?_⟩
    ·have hlt:=World.block_lt_of_cell? w _ HP.out.ci;have hlt':gi<w.heap.size:=hlt;rw [World.cell?_of_block (hg6.f.block gi hlt' HP.out.hi HP.out.ki)];exact HP.out.ci
    ·have h2:=hyB.kept hb5.size fun b _ hl=>hb5.block b hl;exact (h2.kept (by rw [hu6.size]; exact Nat.le_refl _) fun b hp _=>hu6.block b hp.2.2.1).to fun b _ hp=>⟨hp.1,hp.2.1⟩)
   have HY1:=hid (And.intro hyT hyP);clear hyT hyP hyB hrow hgi;clear hl hrk hn hAt hO5 hal5;go_wp2_with (first
    | (refine Rg.run rfl _ _ (op_index_pl hn1 ⟨_,_,rfl,rfl,rfl⟩) ?_)
    | (refine Rg.run rfl _ _ (op_load_pl HAt.out ⟨_,rfl,rfl⟩) ?_)
    | (refine Rg.run rfl _ _ (run_alloc_pl _ _ _ wr.heap.size rfl rfl) ?_)
    | (refine wpl_store_pl HO5.out y.p y.x.2.1 y.h rfl _ _ rfl rfl rfl rfl ?_; intro w5 hO5 hu5; obtain ⟨hc5,hz5,w6,hw6,hS6⟩:=HGs.out w5 hu5 hO5; have hci6:=hS6.1; have HS6:=hid hS6; clear hO5 hu5 hcb hS6)
    | (refine Rg.run rfl _ _ (op_uptoB under_pls size_pl hnc ⟨_,_,rfl,rfl,rfl⟩) ?_)
    | ((try rw [← hw6]); refine Rg.run rfl _ _ (op_load_pl (PlAt.own HS6.out.2.2.1.o) ⟨_,rfl,rfl⟩) ?_)
    | ((try rw [← hw6]); refine Rg.run rfl (.func (Fn.func fi) #[] cp) _ (op_load_fn hci6 ⟨_,rfl,rfl⟩) ?_))
   rw [← hw6];have hyl:y.x.2.2.length≤64:=by
    obtain ⟨L,h,_⟩:=HY1.out.2;omega
   refine (HP.out.into w6 HS6.out.2.1.f y.p y.x.2.1 y.h y.x.2.2 HS6.out.2.2.2.1 hyl).mono ?_;rintro e w7 ⟨rfl,hb7⟩;have hm7:Mv w K w6 K w7:=Mv.below hb7;have HG7:=hid (HS6.out.2.1.below HJ.out hb7);have HX7:=hid (HS6.out.2.2.1.mv hm7);have HW7:=hid (HS6.out.2.2.2.mv hm7);have HSt:Hid (stackP I ((l++[y]).map (·.x))=stackP I (l.map (·.x)++[y.x])):=hid (by rw [List.map_append]; rfl);clear hw6 HS6 hb7 hm7 hc5 hz5 hci6 HGs HO5 HAt w6 w5;by_cases hI:I y.x.2.2=true
   ·rw [hI];obtain ⟨L,hL,hgd,hfn,_⟩:=HY1.out.2;go_wp2_with (first
     | (refine Rg.run rfl _ _ (op_load_tree (own_cell (j:=0) HX7.out.o rfl) ⟨_,rfl,rfl⟩) ?_))
    refine (open_all M y.p y.x.1 L hgd (by omega) hfn w7 HG7.out.i HY1.out.1 HG7.out.t).mono ?_;rintro e w8 ⟨na,nn,nc,ka,kc,qs,rfl,hrow8,hnp8,_,hare,_,f8,i8,t8⟩;have hm8:Mv w K w7 K w8:=Mv.fr HOut.out f8;have HG8:=hid (HG7.out.open_ HJ.out f8 i8 t8);have HX8:=hid (HX7.out.mv hm8);have h58:wr.heap.size<w8.heap.size:=HX8.out.o.1;have HW8:=hid (HW7.out.mv hm8);have hK7:∀ k,K k→k<w7.heap.size:=fun k hk=>(HJ.out.lt _ _ _ HG7.out.j k hk).1;have hK8:∀ k,K k→k<w8.heap.size:=fun k hk=>(HJ.out.lt _ _ _ HG8.out.j k hk).1
    have HKr8:Hid (KRow w K w8 ka qs):=hid (KRow.ofRow hrow8 HG7.out.f.size hK7);have HNp8:Hid (BsK w K w8 (na,nn,nc) (nodeT y.x.1).p):=hid ⟨hnp8.1,fun ad e _=>⟨Nat.le_trans HG7.out.f.size (hnp8.2 ad e),fun hk=>by have:=hK7 _ hk; have:=hnp8.2 ad e; omega⟩⟩;have HAre:=hid hare;have HNl:=hid (nodeT_length y.x.1);obtain ⟨N,hN⟩:∃ N,nodeT y.x.1=N:=⟨_,rfl⟩
    have HNN:=hid hN;rw [hN] at HNl HNp8 ⊢;obtain ⟨A8,hA8⟩:∃ A8,A8=(w8.alloc (.cells (ndC nd0 none 0 0) 56)).alloc (.cells #[.slice none 0 0] 57):=⟨_,rfl⟩
    have hal8:Below w8.heap.size w8 A8:=by rw [hA8]; exact al2 _ _ _
    have hO8:OwnN A8 w8.heap.size nd0 none 0 0:=by rw [hA8]; exact (Rg.Own.new _ _ _).below (al1 _ _)
    have hO8':Rg.Own A8 (w8.heap.size+1) #[.slice none 0 0] 57:=by
     have:=Rg.Own.new (w8.alloc (.cells (ndC nd0 none 0 0) 56)) #[.slice none 0 0] 57;rw [hA8];simpa using this
    have HO8:=hid hO8;have HGs8:Hid (∀ w9,Rg.Upd A8 w8.heap.size w9→OwnN w9 w8.heap.size N na nn nc→w9.cell? ⟨w8.heap.size+1,0,none⟩=some (.slice none 0 0)∧w9.frozen? ⟨w8.heap.size+1,0,none⟩=false ∧
      ∃ w10,w10=w9.setCell ⟨w8.heap.size+1,0,none⟩ (.slice ka qs.length kc)∧Below w8.heap.size w8 w10∧Ex w K w10 w8.heap.size (ndC N na nn nc) 56∧Ex w K w10 (w8.heap.size+1) #[.slice ka qs.length kc] 57):=hid (fun w9 hu h9=>by
     have ho:=hO8'.upd hu (by omega);have hu10:=upd_setCell w9 (w8.heap.size+1) 0 (.slice ka qs.length kc);have hs8:=HG8.out.f.size;exact ⟨own_cell (j:=0) ho rfl,own_free ho,_,rfl,hu10.below (hu.below hal8 (Nat.le_refl _)) (by omega),⟨h9.upd hu10 (by omega),hs8,fun hk=>by have:=hK8 _ hk; omega⟩,⟨own_setCell (o:=0) ho _,by omega,fun hk=>by have:=hK8 _ hk; omega⟩⟩)
    clear hrow8 hnp8 hare f8 i8 t8 hm8 hK7 hK8 hN hal8 hO8 hO8' HG7 HX7 HW7 hgd hfn hL;go_wp2_with (first
     | (refine Rg.run rfl _ _ (run_alloc_nd _ _ _ w8.heap.size rfl rfl) ?_)
     | (rw [← hA8]; refine wpl_store_ndL HO8.out zks_length N na nn nc HNl.out rfl _ _ rfl rfl rfl rfl ?_; intro w9 hO9 hu9; obtain ⟨hc9,hz9,w10,hw10,hb10,hn10,hk10⟩:=HGs8.out w9 hu9 hO9; have HB10:=hid hb10; have HN10:=hid hn10; have HK10:=hid hk10; clear hO9 hu9 hb10 hn10 hk10)
     | (refine wp_shut (regionW 6 3 rfl (by rintro ⟨_,_,⟨⟨_,h⟩,_⟩⟩; cases h) ?_); intro _ _; dsimp only [List.take_succ_cons,List.take_zero,List.drop_succ_cons,List.drop_zero])
     | ((try rw [← hw10]); refine Rg.run rfl _ _ (op_load_pl (PlAt.own (HX8.out.mv (Mv.below HB10.out)).o) ⟨_,rfl,rfl⟩) ?_)
     | ((try rw [← hw10]); refine Rg.run rfl _ _ (op_load_nd HN10.out.o HNl.out ⟨_,rfl,rfl⟩) ?_))
    have hm10:Mv w K w8 K w10:=Mv.below HB10.out;have HG10:=hid (HG8.out.below HJ.out HB10.out);have HX10:=hid (HX8.out.mv hm10);have HW10:=hid (HW8.out.mv hm10);have HKr10:=hid (HKr8.out.mv hm10);have HNp10:=hid (HNp8.out.mv hm10);have hst:V++y.x::stackP I (l.map (·.x)++(kidsPl y.x).reverse)=goL I t 0 []:=by rw [← HE.out.1,HSt.out,stackP_in _ hI]
    have hpre:V++[y.x]<+:goL I t 0 []:=⟨stackP I (l.map (·.x)++(kidsPl y.x).reverse),by rw [← hst]; simp⟩
    have HSt2:=hid hst;have HYy:=hid (HY.out V K y.x #[.agg (plA y.p y.x.2.1 y.h),.agg (ndC N na nn nc)] w10 HG10.out.j HG10.out.f HG10.out.i HG10.out.t hpre ⟨y.p,y.h,na,nn,nc,by rw [HNN.out],HY1.out.1,HW10.out.1,by rw [HNN.out]; exact HNp10.out.1,HY1.out.2⟩);have HPre:=hid hpre;try rw [← hw10]
    clear hm10 hst hpre HG8 HX8 HW8 HKr8 HNp8 HGs8 HO8 hw10 hA8 hc9 hz9;refine yieldIn' HYy.out ?_ ?_ ?_ ?_
    ·rfl
    ·rfl
    ·exact ⟨_,_,_,rfl,rfl,rfl⟩
    rintro e w11 ⟨K',h⟩;rcases h with ⟨rfl,h11⟩ | ⟨rfl,h11⟩
    ·refine ⟨_,rfl,listRest rfl (by rintro ⟨_,_,⟨⟨_,h⟩,_⟩⟩; cases h) ?_⟩;have hm11:Mv w K w10 K' w11:=Mv.rnd HOut.out h11;have HG11:=hid (HG10.out.yield h11);have HX11:=hid (HX10.out.mv hm11);have HW11:=hid (HW10.out.mv hm11);have HKr11:=hid (HKr10.out.mv hm11);have HNp11:=hid (HNp10.out.mv hm11);have HN11:=hid (HN10.out.mv hm11);have HK11:=hid (HK10.out.mv hm11);have HP2:=hid (pl_len HY1.out.2);rw [HNN.out] at HP2;clear hm11 h11 HYy HG10 HX10 HW10 HKr10 HNp10 HN10 HK10 HB10;go_wp2_with (first
      | (refine Rg.run rfl _ _ (op_load_pl (PlAt.own HX11.out.o) ⟨_,rfl,rfl⟩) ?_)
      | (refine Rg.run rfl _ _ (op_load_nd HN11.out.o HNl.out ⟨_,rfl,rfl⟩) ?_))
     refine (ways_any y.p y.x.2.1 y.h y.x.2.2 N na nn nc HNl.out w11 HW11.out.1 HNp11.out.1 HP2.out.1 HP2.out.2).mono ?_;rintro e w12 ⟨v12,hs,rfl,hW12,hb12⟩;have HWs12:=hid hW12;have hv12:v12.oneCell'=true:=by
      obtain ⟨_,_,rfl⟩:=owns_slice hW12.row;rfl
     clear hW12;go_wp2_with fail
     refine (wback_any v12 hv12 w12).mono ?_;rintro e w13 ⟨rfl,hO13,hb13⟩;go_wp2_with fail
     have hb11:Below w11.heap.size w11 w13:=bst hb12 hb13;have hm13:Mv w K' w11 K' w13:=Mv.below hb11;have HG13:=hid (HG11.out.below HJ.out hb11);have HX13:=hid (HX11.out.mv hm13);have HKr13:=hid (HKr11.out.mv hm13);have HK13:=hid (HK11.out.mv hm13);have hwk:waysK N y.x.2.2 16=(kidsPl y.x).map (·.2.2):=by rw [← HNN.out]; exact ways_tree HY1.out.2
     have hW13:=HWs12.out.keep hb13.size fun b _ hl=>hb13.block b hl;rw [hwk] at hW13;have HW13:=hid hW13;have hhs:hs.length=(kidsPl y.x).length:=by rw [hW13.len,List.length_map]
     have hqs:qs.length=(kidsPl y.x).length:=by rw [HAre.out.1,← kidsPl_fst,List.length_map]
     have h16:=kids_len16 y.x;have hgr:g<w11.heap.size:=(HG11.out.row.lt g rfl).2;have hbx:w.heap.size+1<w11.heap.size:=HG11.out.ob.1;have hs11:w.heap.size≤w11.heap.size:=HG11.out.f.size;have hs12:w11.heap.size≤w12.heap.size:=hb12.size;have hs13:w12.heap.size<w13.heap.size:=hO13.1;have hK11:∀ k,K' k→k<w11.heap.size:=fun k hk=>(HJ.out.lt _ _ _ HG11.out.j k hk).1;have hbxr:w.heap.size+1<wr.heap.size:=HG.out.ob.1;have HO13:=hid hO13;clear hO13 hb11 hm13 hwk hW13 HG11 HX11 HW11 HKr11 HNp11 HN11 HK11 hb12 hb13
     refine wp_range (gf:=99) (lb:=#[.pointer (some ⟨w12.heap.size,0,none⟩)]) (K0:=fun k=>k=w.heap.size+1∨(Value.slice (some ⟨g,0,none⟩) n cap).ownBlock=some k) rfl (enters_of Tryz.func99 (by kernel_rfl) rfl) (back_seq M w11.heap.size w12.heap.size v12 hs (by omega)) (fun x W args e=>by rw [show args=_ from e]; rfl) ?pre HG13.out.i HG13.out.t (pi_sta M w.heap.size (w.heap.size+1) l (fun z=>⟨qs.getD z.1 none,z.2,kidAt y.x z.1⟩)) (Ix:=fun _ _ _ _=>False) (fun _=>no_sta M) ?start ?round ?done ?stop
     case pre =>
      intro W1 K1 hb1 hK1;have hk0:∀ k,w11.heap.size≤k→k<w13.heap.size → ¬ K1 k:=fun k h1 h2 hk=>(hK1 k hk).elim (fun e=>e.elim (by omega) fun e=>by have:=Option.some.inj e; have e2:g=k:=this; omega) (by omega);exact ⟨HO13.out.below hb1,owns_same HW13.out.row fun k e=>hb1.block k (HW13.out.row.lt k e).2,hk0 _ hs12 hs13,fun k e=>hk0 k (HW13.out.row.lt k e).1 (HW13.out.row.lt k e).2,hs12,fun k hk=>HOut.out k (by omega)⟩
     case start=>exact ⟨_,HG13.out.ob,by rw [List.map_nil,List.append_nil]; exact HG13.out.row,fun k=>Iff.rfl,HG13.out.nb,HG13.out.bb,HG13.out.u⟩
     case stop =>
      intro c V1 K1 W _ h;exact h.elim
     case done =>
      intro Ki Wd ⟨vd,hPd⟩ hfd hjd htd hsd hDd _;have HGn:=hid (HG13.out.pushed HJ.out HY1.out.2 HAre.out HW13.out hs11 hbx hgr hK11 (by omega) hPd hfd hjd htd hsd hDd);have hms:((l++(bk hs 0).map fun z=>(⟨qs.getD z.1 none,z.2,kidAt y.x z.1⟩:Pc)).map (·.x))=l.map (·.x)++(kidsPl y.x).reverse:=by
       rw [List.map_append,List.map_map,← bk_kids hhs];rfl
      have HEn:Hid (V++[y.x]++stackP I ((l++(bk hs 0).map fun z=>(⟨qs.getD z.1 none,z.2,kidAt y.x z.1⟩:Pc)).map (·.x))=goL I t 0 []∧rankP ((l++(bk hs 0).map fun z=>(⟨qs.getD z.1 none,z.2,kidAt y.x z.1⟩:Pc)).map (·.x))≤200000):=hid (by
       rw [hms];refine ⟨by rw [← HSt2.out]; simp,?_⟩;have h1:=rankP_in (l.map (·.x)) y.x;have h2:=HE.out.2;rw [List.map_append] at h2;have h3:rankP (l.map (·.x)++[y.x])≤200000:=h2;omega)
      have HRn:Hid (rankW M (w.heap.size+1) Wd<rankW M (w.heap.size+1) wr):=hid (by
       have hr:=rankW_eq HGn.out.ob HGn.out.row (fun z hz=>(HGn.out.ok z hz).1);rw [hr,HRk.out,hms,List.map_append];exact rankP_in _ _)
      clear hPd hfd hjd htd hsd hDd;simp only [Exit.inBlock];refine ⟨?_,HRn.out⟩;rw [HInv.out];refine ⟨w13.heap.size::Ds,_,_,_,_,HGn,HEn,?_⟩
      (repeat apply Exists.intro)
      rfl
     case round =>
      intro l1 V1 K1 x args W S hl1 hl1' hKl hI hf hsub hiW hTW hpf hA hS;obtain ⟨vW,hPI⟩:=hI;obtain ⟨j,z⟩:=x;have hj:j<hs.length:=(bk_mem hpf).1;have hA':args = #[.int .i64 j,hv z]:=hA;subst hA';have HS:=hid hS;have hjk:j<(kidsPl y.x).length:=by rw [← hhs]; exact hj
      obtain ⟨gk,ck,eka,hck,hgk,hok⟩:=HKr13.out.cell (j:=j) (by rw [hqs]; exact hjk);have hkb:gk≠w.heap.size+1:=fun e=>by
       have h1:=hok.2;rw [e,HG13.out.ob.2] at h1;simp at h1
      have hkg:gk≠g:=fun e=>by
       have h1:=hok.2;rcases HG13.out.row.2 with ⟨e2,_⟩ | ⟨g',_,_,e2,_,hh,_⟩
       ·cases e2
       ·injection e2 with e3;injection e3 with e3;injection e3 with e3;rw [e,e3,hh] at h1;simp at h1
      have hk0:∀ b,b≠w.heap.size+1→b≠g → ¬ (b=w.heap.size+1∨(Value.slice (some ⟨g,0,none⟩) n cap).ownBlock=some b):=fun b h1 h2 e=>e.elim h1 fun e=>h2 (Option.some.inj e).symm;have hk1:∀ b,b≠w.heap.size+1→b≠g→b<w13.heap.size → ¬ K1 b:=fun b h1 h2 h3 hk=>(hsub b hk).elim (hk0 b h1 h2) (by omega);have hcell:∀ b o v,w.heap.size≤b→b<w13.heap.size→b≠w.heap.size+1→b≠g→w13.cell? ⟨b,o,none⟩=some v→W.cell? ⟨b,o,none⟩=some v:=fun b o v h0 h1 h2 h3 hc=>by
       rw [World.cell?_of_block (hf.block b h1 (HOut.out b h0).1 (hk0 b h2 h3))];exact hc
      have c5:W.cell? ⟨wr.heap.size,1,none⟩=some (.int .i64 y.x.2.1):=hcell _ 1 _ HX13.out.g HX13.out.o.1 (by omega) (by omega) (own_cell (j:=1) HX13.out.o rfl);have c7:W.cell? ⟨w8.heap.size+1,0,none⟩=some (.slice ka qs.length kc):=hcell _ 0 _ HK13.out.g HK13.out.o.1 (by omega) (by omega) (own_cell (j:=0) HK13.out.o rfl);have ct:=hcell _ j _ hgk hok.1 hkb hkg hck;have n5:¬ K1 wr.heap.size:=hk1 _ (by omega) (by omega) HX13.out.o.1;have n7:¬ K1 (w8.heap.size+1):=hk1 _ (by omega) (by omega) HK13.out.o.1;have nk:¬ K1 gk:=hk1 _ hkb hkg hok.1
      have HC:=hid (And.intro c5 (And.intro c7 (And.intro ct (And.intro n5 (And.intro n7 nk)))));have HPI:=hid hPI;clear hS hf hcell c5 c7 ct n5 n7 nk hk0 hk1 hck hok hkb hkg;have hVl:V1.length≤16:=by
       have h1:=hpf.length_le;have h2:(bk hs 0).length=hs.length:=by simp [bk]
       rw [List.length_append] at h1;omega
      have HJk:=hid hjk;have HHs:=hid hhs;have hji:(j:Int)<(qs.length:Int):=by omega
      have hov:y.x.2.1≤64:=by
       obtain ⟨L,h1,_,_,_,h2⟩:=HY1.out.2;omega
      subst eka;clear hqs hhs hjk hj hpf hA;unfold hv;refine wpIn_seq_k ?_;intro K8 hK8;refine regionIn rfl (fun ⟨_,_,h⟩=>h) ?_;go_wp2;refine regionIn rfl (fun ⟨_,_,h⟩=>h) ?_;go_wp2;refine HS.out _ _ (Below.refl _ _) (fun W2 hT2=>?_);obtain ⟨hd5,hd7,hdt,n5,n7,nk⟩:=HC.out;have c5:=hT2.cell hd5;have c7:=hT2.cell hd7;have ct:=hT2.cell hdt;have hs2:W2.heap.size=W.heap.size:=hT2.u.size
      have HPI2:Hid (PushI M w.heap.size (w.heap.size+1) l (fun z=>⟨qs.getD z.1 none,z.2,kidAt y.x z.1⟩) V1 K1 W2 vW):=hid ⟨hT2.own HPI.out.o,owns_same HPI.out.r fun k e=>hT2.u.block k fun e2=>hKl (by rw [← e2]; exact (HPI.out.k k).2 (.inr e)),HPI.out.k,HPI.out.nb,HPI.out.bb,HPI.out.u⟩;have hi2:=hid (hiW.upd hT2.u (HOut.out l1 (by omega)).2);have ht2:=hid (tab_upd hTW hT2.u (by have:=HG13.out.z; omega));have cb:W2.drew.cell? ⟨w.heap.size+1,0,none⟩=some vW:=own_cell (j:=0) HPI2.out.o rfl
      have hal:=al1 W2.drew (.cells (plA (qs.getD j none) (y.x.2.1+1) z) 75);have hwrap:IntKind.i64.wrap ((y.x.2.1:Int)+1)=((y.x.2.1+1:Nat):Int):=by rw [show (y.x.2.1:Int)+1=((y.x.2.1+1:Nat):Int) by omega]; exact IntWalk.i64_in _ (by omega)
      have hoa:Rg.Own (W2.drew.alloc (.cells (plA (qs.getD j none) (y.x.2.1+1) z) 75)) W2.heap.size (plA (qs.getD j none) (kidAt y.x j).2.1 z) 75:=by
       rw [kidAt_over HJk.out];exact Rg.Own.new W2.drew _ _
      have HOa:=hid hoa;have hbl:w.heap.size+1<W2.heap.size:=HPI2.out.o.1;have HRa:Hid (RowPl w.heap.size (W2.drew.alloc (.cells (plA (qs.getD j none) (y.x.2.1+1) z) 75)) vW (l++V1.map fun z=>⟨qs.getD z.1 none,z.2,kidAt y.x z.1⟩)):=hid (owns_same (w:=W2.drew) HPI2.out.r fun k e=>hal.block k (HPI2.out.r.lt k e).2);have HOb:Hid (Rg.Own (W2.drew.alloc (.cells (plA (qs.getD j none) (y.x.2.1+1) z) 75)) (w.heap.size+1) #[vW] 122):=hid (Rg.Own.below (w:=W2.drew) HPI2.out.o hal)
      have hln:(l++V1.map fun z=>(⟨qs.getD z.1 none,z.2,kidAt y.x z.1⟩:Pc)).length≤1000000:=by
       rw [List.length_append,List.length_map,HN.out];omega
      have hB3:w.heap.size≤(W2.drew.alloc (.cells (plA (qs.getD j none) (y.x.2.1+1) z) 75)).heap.size:=by
       have:=hal.size;have e:W2.drew.heap.size=W2.heap.size:=rfl;omega
      clear hoa hd5 hd7 hdt HS HPI hT2;refine wpIn_block ?_;refine drawIn (S:=fun w'=>Bo2 K1 W2 w') (by kernel_rfl) rfl (fun ⟨_,_,h⟩=>h) (Bo2.of (Below.refl _ _).drew) (fun hld=>?_);refine Rg.tk (i:=1) rfl ?_ (hy:=by intro wz hSw; (have hc:=Bo2.cell hSw c7 n7; go_simp <;> with_reducible rfl));try simp only [Act.put,Rg.s]
      refine Rg.tk (i:=2) rfl ?_;try simp only [Act.put,Rg.s]
      refine Rg.tk (i:=3) rfl ?_ (hy:=by intro wz hSw; (have q0:=hji; go_simp <;> with_reducible rfl));try simp only [Act.put,Rg.s]
      refine Rg.tk (i:=4) rfl ?_ (hy:=by intro wz hSw; (refine op_load_tree (off:=j) (Bo2.cell hSw ct nk) ?_; exact ⟨_,rfl,rfl⟩));try simp only [Act.put,Rg.s]
      refine Rg.tk (i:=5) rfl ?_;try simp only [Act.put,Rg.s]
      refine Rg.tk (i:=6) rfl ?_ (hy:=by intro wz hSw; (have hc:=Bo2.cell hSw c5 n5; go_simp <;> with_reducible rfl));try simp only [Act.put,Rg.s]
      refine Rg.tk (i:=7) rfl ?_ (hy:=by intro wz hSw; (have hw:=hwrap; go_simp <;> with_reducible rfl));try simp only [Act.put,Rg.s]
      refine Rg.tk (i:=8) rfl ?_;try simp only [Act.put,Rg.s]
      refine Rg.tk (i:=9) rfl ?_ (hy:=by intro wz hSw; (refine op_build (built_pl (qs.getD j none) (y.x.2.1+1) z) ?_; exact ⟨_,rfl,rfl⟩));try simp only [Act.put,Rg.s]
      refine wpAnyH_ready (rs:=[0,10]) (by kernel_rfl) (by simp) ?_;refine Rg.readyC (i:=0) rfl (fun K hK=>?_) (Rg.readyL (i:=10) rfl (fun K hK=>?_))
      ·refine Rg.meet (by rfl) _ _ (op_load_pls (cb) ?_) ?_
       ·exact ⟨_,rfl,rfl⟩
       refine hK.out _ _ ?_ (fun hld=>?_)
       ·exact hld
       clear hK K;try simp only [Act.put,Rg.s]
       refine Rg.rd (i:=10) rfl fun K hK=>?_;refine Rg.meet (by rfl) _ _ (op_lit_pl (p:=qs.getD j none) (n:=y.x.2.1+1) (h:=z) _ rfl ?_) ?_
       ·exact ⟨_,rfl,rfl⟩
       refine hK.out _ _ ?_ (fun hld=>?_)
       ·exact Bo2.below (Bo2.of (Below.refl _ _).drew) hal
       clear hK K;try simp only [Act.put,Rg.s]
       refine Rg.rd (i:=11) rfl fun K hK=>?_;refine meet_push_pl ⟨qs.getD j none,z,kidAt y.x j⟩ (by rfl) ?_ HRa.out HOa.out hln hB3 ?_
       ·exact ⟨_,_,rfl,rfl,rfl⟩
       intro v4 w4 hr4 hg4 hl4;refine hK.out _ _ ?_ (fun hld=>?_)
       ·exact hld.grown hg4 (fun k e=>(HPI2.out.k k).2 (.inr e))
       clear hK K;try simp only [Act.put,Rg.s]
       refine Rg.rd (i:=12) rfl fun K hK=>?_;have hob4:Rg.Own w4 (w.heap.size+1) #[vW] 122:=⟨Nat.lt_of_lt_of_le HOb.out.1 hg4.size,(hg4.block _ HOb.out.1 (fun e=>HPI2.out.nb e.symm)).trans HOb.out.2⟩
       have hv4:∃ s n c,v4 = .slice s n c:=by obtain ⟨a,c,e⟩:=owns_slice hr4; exact ⟨_,_,_,e⟩
       refine meet_store_pls (by rfl) hob4 ?_ hv4 ?_
       ·exact ⟨_,_,rfl,rfl,rfl⟩
       intro w5 ho5 hu5;refine hK.out _ _ ?_ (fun hld=>?_)
       ·exact hld.upd hu5 ((HPI2.out.k _).2 (.inl rfl))
       clear hK K;refine wpAnyH_done (by kernel_rfl) ?_ _;have hs3:W2.heap.size≤(W2.drew.alloc (.cells (plA (qs.getD j none) (y.x.2.1+1) z) 75)).heap.size:=hal.size;have hl5:v4.ownBlock=vW.ownBlock∨∃ k,W2.heap.size≤k∧v4.ownBlock=some k:=hl4.imp id fun e=>⟨_,hs3,e⟩
       have hne:∀ k,v4.ownBlock=some k→k≠w.heap.size+1:=fun k e e2=>by
        rcases hl5 with e3 | ⟨k',hk',e3⟩
        ·exact HPI2.out.nb (by rw [← e3,← e2]; exact e)
        ·rw [e3] at e;have:=Option.some.inj e;omega
       exact push_rnd HPI2.out hi2.out ht2.out HG13.out.z (by omega) hld ho5 (owns_same hr4 fun k e=>hu5.block k (hne k e)) hl5
      ·refine Rg.meet (by rfl) _ _ (op_lit_pl (p:=qs.getD j none) (n:=y.x.2.1+1) (h:=z) _ rfl ?_) ?_
       ·exact ⟨_,rfl,rfl⟩
       refine hK.out _ _ ?_ (fun hld=>?_)
       ·exact Bo2.below (Bo2.of (Below.refl _ _).drew) hal
       clear hK K;try simp only [Act.put,Rg.s]
       refine Rg.rd (i:=0) rfl fun K hK=>?_;refine Rg.meet (by rfl) _ _ (op_load_pls (cell_on hal cb) ?_) ?_
       ·exact ⟨_,rfl,rfl⟩
       refine hK.out _ _ ?_ (fun hld=>?_)
       ·exact hld
       clear hK K;try simp only [Act.put,Rg.s]
       refine Rg.rd (i:=11) rfl fun K hK=>?_;refine meet_push_pl ⟨qs.getD j none,z,kidAt y.x j⟩ (by rfl) ?_ HRa.out HOa.out hln hB3 ?_
       ·exact ⟨_,_,rfl,rfl,rfl⟩
       intro v4 w4 hr4 hg4 hl4;refine hK.out _ _ ?_ (fun hld=>?_)
       ·exact hld.grown hg4 (fun k e=>(HPI2.out.k k).2 (.inr e))
       clear hK K;try simp only [Act.put,Rg.s]
       refine Rg.rd (i:=12) rfl fun K hK=>?_;have hob4:Rg.Own w4 (w.heap.size+1) #[vW] 122:=⟨Nat.lt_of_lt_of_le HOb.out.1 hg4.size,(hg4.block _ HOb.out.1 (fun e=>HPI2.out.nb e.symm)).trans HOb.out.2⟩
       have hv4:∃ s n c,v4 = .slice s n c:=by obtain ⟨a,c,e⟩:=owns_slice hr4; exact ⟨_,_,_,e⟩
       refine meet_store_pls (by rfl) hob4 ?_ hv4 ?_
       ·exact ⟨_,_,rfl,rfl,rfl⟩
       intro w5 ho5 hu5;refine hK.out _ _ ?_ (fun hld=>?_)
       ·exact hld.upd hu5 ((HPI2.out.k _).2 (.inl rfl))
       clear hK K;refine wpAnyH_done (by kernel_rfl) ?_ _;have hs3:W2.heap.size≤(W2.drew.alloc (.cells (plA (qs.getD j none) (y.x.2.1+1) z) 75)).heap.size:=hal.size;have hl5:v4.ownBlock=vW.ownBlock∨∃ k,W2.heap.size≤k∧v4.ownBlock=some k:=hl4.imp id fun e=>⟨_,hs3,e⟩
       have hne:∀ k,v4.ownBlock=some k→k≠w.heap.size+1:=fun k e e2=>by
        rcases hl5 with e3 | ⟨k',hk',e3⟩
        ·exact HPI2.out.nb (by rw [← e3,← e2]; exact e)
        ·rw [e3] at e;have:=Option.some.inj e;omega
       exact push_rnd HPI2.out hi2.out ht2.out HG13.out.z (by omega) hld ho5 (owns_same hr4 fun k e=>hu5.block k (hne k e)) hl5
    ·refine ⟨_,rfl,listRest rfl (by rintro ⟨_,_,⟨⟨_,h⟩,_⟩⟩; cases h) ?_⟩;have hm11:Mv w K w10 K' w11:=Mv.rnd HOut.out h11;have hdm:∀ D∈Ds,w.heap.size≤D∧w11.heap[D]? = some (.deferred (some [])) ∧ ¬ K' D:=fun D hD=>by
      obtain ⟨h1,h2,h3⟩:=HG10.out.dm D hD;have hl:=(Array.getElem?_eq_some_iff.1 h2).1;exact ⟨h1,(hm11.bl D h1 hl h3).trans h2,hm11.not hl h3⟩
     have HEnd:Hid (SeqEnd M J Js (goL I t 0 []) K0 w (.returned (.tuple #[])) (shut w11 Ds)):=hid (shut_end HJ.out HJs.out (.inr ⟨HPre.out,h11.j⟩) (HG10.out.f.trans h11.f HG10.out.sub) h11.i h11.t (fun k hk=>(h11.sub k hk).elim (HG10.out.sub k) (fun h=>.inr (Nat.le_trans HG10.out.f.size h))) HOut.out HG10.out.z hdm _);have HD:=hid (And.intro HG10.out.dn hdm);clear hm11 h11 HYy HG10 HX10 HW10 HKr10 HNp10 HN10 HK10 HB10 hdm;go_wp2;refine leaves_marks Ds w11 HD.out.1 (fun D hD=>(HD.out.2 D hD).2.1) ⟨_,results_none rfl _ _ _,HEnd.out⟩
   ·have hI':I y.x.2.2=false:=by
     cases h:I y.x.2.2 with
     | true=>exact absurd h hI
     | false=>rfl
    rw [hI'];have HE7:Hid (V++stackP I (l.map (·.x))=goL I t 0 []∧rankP (l.map (·.x))≤200000):=hid (by
     have h1:=HE.out;rw [HSt.out,stackP_out _ hI',List.map_append] at h1;exact ⟨h1.1,by have:=rankP_out (l.map (·.x)) y.x; have h2:rankP (l.map (·.x)++[y.x])≤200000:=h1.2; omega⟩)
    have HR7:Hid (rankW M (w.heap.size+1) w7<rankW M (w.heap.size+1) wr):=hid (by
     have hr:=rankW_eq HG7.out.ob HG7.out.row (fun z hz=>(HG7.out.ok z hz).1);rw [hr,HRk.out,List.map_append];exact rankP_out _ _)
    clear HW7 HX7 hI HE HG HY1;go_wp2;refine ⟨?_,HR7.out⟩;rw [HInv.out];refine ⟨Ds,_,l,V,K,HG7,HE7,?_⟩
    (repeat apply Exists.intro)
    rfl
end Tm
end
section
open Go.RowKit
namespace Tm
open Tr Ni Pk Ky No Rf Rl Rf2
open Sm (Tab)
def pr0:Tr.Pair:=(List.replicate 32 0,eB)
theorem pr0_len:pr0.1.length=32:=rfl
theorem built_pair0:Tryz.prog.built 33 []=some (pairA pr0):=by kernel_rfl
theorem res_pair1 {fn:Func} {p u:Tmp} (hf:fn.results = #[.cell p 33,.tmp u]) (tmps:Array Value) {w:World} {b:Nat} {x:Tr.Pair} (hk:x.1.length=32) (hp:tmps.getD p undef = .pointer (some ⟨b,0,none⟩)) (h:Rg.Own w b (pairA x) 33) :
  (results fn tmps).run Tryz.prog w = .ok (.tuple #[.agg (pairA x),tmps.getD u undef]) w:=by
 have hp':tmps[p]?.getD undef = .pointer (some ⟨b,0,none⟩):=by simpa using hp
 have hl:=run_loadVar_row (P:=Tryz.prog) w b 33 33 (pairA x) (0,0) _ h.2 Tryz.underlying33 rfl (info_pairA hk);simp [results,hf,hp',asAddr,hl]
theorem pair_none (p:Option Addr) (o:Nat) (h:Hdl) (N:Nd) (na:Option Addr) (nn nc:Nat) (hkd:N.kd≠1) (w:World) :
  Calls Tryz.prog 33 #[.agg (plA p o h),.agg (ndC N na nn nc)] w fun e w'=>e = .returned (.tuple #[.agg (pairA pr0),.bool false])∧Below w.heap.size w w':=by
 obtain ⟨w2,hw2⟩:∃ w2,w2=(w.alloc (.cells (plA p o h) 75)).alloc (.cells (ndC N na nn nc) 56):=⟨_,rfl⟩
 have hb2:Below w.heap.size w w2:=by rw [hw2]; exact al2 _ _ _
 have hs2:w2.heap.size=w.heap.size+2:=by rw [hw2]; simp
 have hN2:OwnN w2 (w.heap.size+1) N na nn nc:=by
  have:=Rg.Own.new (w.alloc (.cells (plA p o h) 75)) (ndC N na nn nc) 56;rw [hw2];simpa using this
 obtain ⟨w3,hw3⟩:∃ w3,w3=w2.alloc (.cells (pairA pr0) 33):=⟨_,rfl⟩
 have hal:=al1 w2 (.cells (pairA pr0) 33);rw [← hw3] at hal;have hP3:Rg.Own w3 w2.heap.size (pairA pr0) 33:=by rw [hw3]; exact Rg.Own.new _ _ _
 have HP3:=hid hP3;have HB3:=hid (bst hb2 hal);have hc0:w3.cell? ⟨w.heap.size+1,0,none⟩=some (.int .i64 N.kd):=own_cell (j:=0) (hN2.below hal) rfl;have hk:(N.kd==1)=false:=by simp [hkd]
 have hk2:(N.kd != 1)=true:=by simp [hkd]
 have HW2:=hid hw2;have HW3:=hid hw3;have HS2:=hid hs2;clear hb2 hN2 hal hP3 hw2 hw3;rw [hs2] at HP3;go_enter Tryz.func33,Tryz.ntmps33;go_wp2_with (first
  | (rw [← HW2.out]; refine Rg.run rfl _ _ (run_alloc_pair _ _ _ (w.heap.size+2) HS2.out.symm rfl) ?_; change wpList _ _ _ _ _ (w2.alloc (.cells (pairA pr0) 33)); rw [← HW3.out])
  | (refine Rg.run rfl _ _ (op_build built_pair0 ?_) ?_; · exact ⟨_,rfl,rfl⟩)
  | (refine wpl_store_pair HP3.out pr0_len pr0 pr0_len rfl _ _ rfl rfl rfl rfl ?_; intro w4 hO4 hu4; have HO4:=hid hO4; have HB4:=hid (hu4.below HB3.out (by omega)); clear hO4 hu4))
 exact bodyPost_ret (res_pair1 (p:=4) (u:=5) rfl _ pr0_len rfl HO4.out) rfl ⟨rfl,HB4.out⟩
theorem pair_leaf (p:Option Addr) (o:Nat) (h:Hdl) (a:Pa) (N:Nd) (na:Option Addr) (nn nc:Nat) (hkd:N.kd=1) (w:World) (ha:IsBs w h.1 h.2.1 h.2.2 a) (hN:IsBs w na nn nc N.p) (hl:a.length+N.p.length=64) (hr:Nib (a++N.p)) :
  Calls Tryz.prog 33 #[.agg (plA p o h),.agg (ndC N na nn nc)] w fun e w'=>e = .returned (.tuple #[.agg (pairA (keyL (a++N.p),N.v)),.bool true])∧Below w.heap.size w w':=by
 obtain ⟨w2,hw2⟩:∃ w2,w2=(w.alloc (.cells (plA p o h) 75)).alloc (.cells (ndC N na nn nc) 56):=⟨_,rfl⟩
 have hb2:Below w.heap.size w w2:=by rw [hw2]; exact al2 _ _ _
 have hs2:w2.heap.size=w.heap.size+2:=by rw [hw2]; simp
 have hP2:Rg.Own w2 w.heap.size (plA p o h) 75:=by rw [hw2]; exact (Rg.Own.new _ _ _).below (al1 _ _)
 have hN2:OwnN w2 (w.heap.size+1) N na nn nc:=by
  have:=Rg.Own.new (w.alloc (.cells (plA p o h) 75)) (ndC N na nn nc) 56;rw [hw2];simpa using this
 obtain ⟨w3,hw3⟩:∃ w3,w3=w2.alloc (.cells (pairA pr0) 33):=⟨_,rfl⟩
 have hal:=al1 w2 (.cells (pairA pr0) 33);rw [← hw3] at hal;have hP3:Rg.Own w3 w2.heap.size (pairA pr0) 33:=by rw [hw3]; exact Rg.Own.new _ _ _
 have HP3:=hid hP3;have hb3:=bst hb2 hal;have HB3:=hid hb3;have hc0:w3.cell? ⟨w.heap.size+1,0,none⟩=some (.int .i64 1):=by rw [← hkd]; exact own_cell (j:=0) (hN2.below hal) rfl
 have hc1:w3.cell? ⟨w.heap.size+1,1,none⟩=some (.slice na nn nc):=own_cell (j:=1) (hN2.below hal) rfl;have hc2:w3.cell? ⟨w.heap.size,2,none⟩=some (.slice h.1 h.2.1 h.2.2):=own_cell (j:=2) (hP2.below hal) rfl;have HN3:=hid (hN2.below hal);have halj:=al1 w3 (.cells #[.slice h.1 h.2.1 h.2.2,.slice na nn nc] 51);have HAl:=hid halj;have HJ:=hid (join_new _ 2 2 _ (by omega) (by simp; omega) _ (rows_two (ha.below hb3) (hN.below hb3)));rw [show [a,N.p].flatten=a++N.p by simp] at HJ;have hs3:w3.heap.size=w.heap.size+3:=by rw [hw3]; simp; omega
 have HS3:=hid hs3;have hll:(a++N.p).length=64:=by rw [List.length_append]; exact hl
 have HR:=hid (right_of hr);have HKl:=hid (keyL_length (a++N.p));obtain ⟨A,hA⟩:∃ A,a++N.p=A:=⟨_,rfl⟩
 rw [hA] at HJ HR HKl hll ⊢;rw [hs2] at HP3;have HW2:=hid hw2;have HW3:=hid hw3;have HS2:=hid hs2;clear hb2 hN2 hP2 hal hP3 hb3 halj ha hN hl hr hA hw2 hw3 hs2 hs3;go_enter Tryz.func33,Tryz.ntmps33;go_wp2_with (first
  | (rw [← HW2.out]; refine Rg.run rfl _ _ (run_alloc_pair _ _ _ (w.heap.size+2) HS2.out.symm rfl) ?_; change wpList _ _ _ _ _ (w2.alloc (.cells (pairA pr0) 33)); rw [← HW3.out]))
 refine HJ.out.mono ?_;rintro e w4 ⟨r,rfl,hx,hb4⟩;have hrl:r.2.1=64:=by rw [← hx.1.len]; exact hll
 have hK:=key_ok r.1 r.2.2 A HR.out w4 (by have:=hx.1; rw [hrl] at this; exact this);have HK:=hid hK;have hb34:=bst HAl.out hb4;have HB34:=hid hb34;rw [hrl];clear hx hK hb4 hrl HJ HAl hc0 hc1 hc2 hb34;go_wp2_with fail
 refine HK.out.mono ?_;rintro e w5 ⟨rfl,hb5⟩;have HB35:=hid (bst HB34.out hb5);obtain ⟨w6,hw6'⟩:∃ w6,w6=w5.alloc (.cells (kc zk) 24):=⟨_,rfl⟩
 have hK6:Rg.Own w6 w5.heap.size (kc zk) 24:=by rw [hw6']; exact Rg.Own.new _ _ _
 have HK6:=hid hK6;have hal6:=al1 w5 (.cells (kc zk) 24);rw [← hw6'] at hal6;have HB36:=hid (bst HB35.out hal6);obtain ⟨kk,hkk⟩:∃ kk,keyL A=kk:=⟨_,rfl⟩
 have HKk:=hid hkk;rw [hkk] at HKl ⊢;have hs5:=HB35.out.size;have hs3:=HS3.out;have HW6:=hid hw6';clear hb5 HK hK6 hal6 hkk hw6';go_wp2_with (first
  | (refine Rg.run rfl _ _ (Ky.run_alloc_key _ _ rfl _) ?_; rw [← HW6.out])
  | (refine wpl_store_key HK6.out rfl kk HKl.out rfl _ _ rfl rfl rfl rfl ?_; intro w7 hO7 hu7; have HO7:=hid hO7; have HB7:Hid (Below w3.heap.size w3 w7):=hid (hu7.below HB36.out (by omega)); have hc2:w7.cell? ⟨w.heap.size+1,2,none⟩=some (.string N.v):=own_cell (j:=2) (HN3.out.below HB7.out) rfl; have HP7:=hid (HP3.out.below HB7.out); clear hO7 hu7)
  | (refine Rg.run rfl _ _ (op_load_key HKl.out HO7.out.2 ⟨_,rfl,rfl⟩) ?_)
  | (refine Rg.run rfl _ _ (op_load_str hc2 ⟨_,rfl,rfl⟩) ?_)
  | (refine Rg.run rfl _ _ (op_build (built_pair kk N.v HKl.out) ?_) ?_; · exact ⟨_,rfl,rfl⟩)
  | (refine wpl_store_pair HP7.out pr0_len (kk,N.v) HKl.out rfl _ _ rfl rfl rfl rfl ?_; intro w8 hO8 hu8; have HO8:=hid hO8; have HB8:=hid (hu8.below (bst HB3.out HB7.out) (by omega)); clear hO8 hu8))
 exact bodyPost_ret (res_pair1 (p:=4) (u:=5) (x:=(kk,N.v)) rfl _ HKl.out rfl HO8.out) rfl ⟨by rw [HKk.out]; rfl,HB8.out⟩
end Tm
end
section
open Go.RowKit
namespace Tm
open Tr Ni Pk Ky No Rf Rl Rf2
open Sm (Tab)
theorem zip2 (t:Array Value) (i j:Nat) (a b:Value):(#[i,j].zip #[a,b]).foldl (fun t (p,v)=>t.setIfInBounds p v) t=(t.setIfInBounds i a).setIfInBounds j b:=by simp
theorem zip1 (t:Array Value) (i:Nat) (a:Value):(#[i].zip #[a]).foldl (fun t (p,v)=>t.setIfInBounds p v) t=t.setIfInBounds i a:=by simp
def TellV (M:Mp) (w:World) (v:Value) (e:Ending) (w':World):Prop:=e = .returned v∧Fr M M w w'∧Inv M w'∧Tab w'
theorem fr_shut {M:Mp} {w wd:World} {K:Nat→Prop} {D:Nat} {w4:World} (hb:Below w.heap.size w w4) (f:FrK M K w4 wd) (i:Inv M wd) (t:Tab wd) (hi:Inv M w) (hz:1<w.heap.size) (hK:∀ k,K k→w.heap.size≤k) (hD:w.heap.size≤D):Fr M M w (shut wd [D])∧Inv M (shut wd [D])∧Tab (shut wd [D]):=by
 have hu:Rg.Upd wd D (shut wd [D]):=⟨rfl,rfl,rfl,shut_size _ _,fun k hk=>shut_block [D] wd k (by simpa using hk)⟩
 have hsz:=hb.size;refine ⟨⟨hu.os.trans (f.os.trans hb.os),hu.tape.trans (f.tape.trans hb.tape),hu.output.trans (f.output.trans hb.output),by rw [hu.size]; exact Nat.le_trans hb.size f.size,fun k hk hm=>?_,fun _ _ h=>h,fun _ _ h=>h,fun _ h=>h,fun _ h=>Or.inl h⟩,i.upd hu (hi.free hD),tab_upd t hu (by omega)⟩;rw [hu.block k (by omega),f.block k (by omega) hm (fun h=>by have:=hK k h; omega),hb.block k hk]
theorem leaves_one {P:Program} {fn:Func} {tmps:Array Value} {R:Ending→World→Prop} {D:Nat} {w:World} (hD:w.heap[D]? = some (.deferred (some []))) (h:LeavesIn Fence.wide 0 P fn tmps R [] .returning (shut w [D])):LeavesInM Fence.wide 0 P fn tmps R [{ target:=.collected D,args:=#[] }] .returning w :=
 leaves_marks [D] w (by simp) (fun E hE=>by rw [List.mem_singleton.1 hE]; exact hD) h
def BoxI {α:Type} (M:Mp) (b:Nat) (T:TypeId) (f:List α→Value) (V:List α) (K:Nat→Prop) (w:World):Prop:=Rg.Own w b #[f V] T∧(∀ k,K k↔k=b)∧M.at_ b=none ∧ ¬ M.ft b
theorem box_sta {α:Type} (M:Mp) (b:Nat) (T:TypeId) (f:List α→Value):Sta M (BoxI M b T f) :=
 ⟨fun V K w w' h hs hk=>⟨⟨Nat.lt_of_lt_of_le h.1.1 hs,(hk b ((h.2.1 b).2 rfl)).trans h.1.2⟩,h.2⟩,fun V K w h k hk=>by rw [(h.2.1 k).1 hk]; exact ⟨h.1.1,h.2.2⟩⟩
theorem box_rnd {α:Type} {M:Mp} {b:Nat} {T:TypeId} {f:List α→Value} {V:List α} {K:Nat→Prop} {w w1 w2:World} {x : α} {n:Nat} (h:BoxI M b T f V K w) (hi:Inv M w) (ht:Tab w) (hg:1<b) (hb:Below w.heap.size w w1) (ho:Rg.Own w2 b #[f (V++[x])] T) (hu:Rg.Upd w1 b w2):∃ K',Rnd M (BoxI M b T f) V K n x w w2 K':=by
 have hk:K b:=(h.2.1 b).2 rfl;exact ⟨K,⟨⟨ho,h.2⟩,fun k hk=>.inl hk,⟨hu.os.trans hb.os,hu.tape.trans hb.tape,hu.output.trans hb.output,by rw [hu.size]; exact hb.size,fun k hl _ hn=>(hu.block k fun e=>hn (by rw [e]; exact hk)).trans (hb.block k hl)⟩,(hi.below hb).upd hu h.2.2.2,tab_upd (ht.below hb ht.pos) hu hg⟩⟩
theorem box_same {α:Type} {M:Mp} {b:Nat} {T:TypeId} {f:List α→Value} {V:List α} {K:Nat→Prop} {w w1:World} {x : α} {n:Nat} (h:BoxI M b T f V K w) (hi:Inv M w) (ht:Tab w) (hb:Below w.heap.size w w1) (he:f (V++[x])=f V):∃ K',Rnd M (BoxI M b T f) V K n x w w1 K' :=
 ⟨K,⟨⟨by rw [he]; exact h.1.below hb,h.2⟩,fun k hk=>.inl hk,⟨hb.os,hb.tape,hb.output,hb.size,fun k hl _ _=>hb.block k hl⟩,hi.below hb,ht.below hb ht.pos⟩⟩
theorem node_is {t:T}:(nodeT t).kd=0↔isNode t=false:=by
 cases t with
 | nil=>exact ⟨fun _=>rfl,fun _=>rfl⟩
 | stub r=>exact ⟨fun _=>rfl,fun _=>rfl⟩
 | leaf p v=>exact ⟨fun h=>absurd (show (1:Int)=0 from h) (by decide),fun h=>by cases h⟩
 | ext q s=>exact ⟨fun h=>absurd (show (2:Int)=0 from h) (by decide),fun h=>by cases h⟩
 | br ks=>exact ⟨fun h=>absurd (show (3:Int)=0 from h) (by decide),fun h=>by cases h⟩
theorem goA_size {M:Mp} {x:Pl} {W:World} {args:Array Value} (h:goA M x W args):args.size=2:=by
 obtain ⟨_,_,_,_,_,rfl,_⟩:=h;rfl
theorem depth_any (M:Mp) (p:Option Addr) (t:T) (hg:Tr.Good t 64) (hf:Fine t) (hc:cntT t≤200000) (w:World) (hi:Inv M w) (ht:IsT M p t) (hT:Tab w) :
  Calls Tryz.prog 16 #[tv p] w (TellV M w (.int .i64 (depthT t))):=by
 have hout:∀ k,w.heap.size≤k→M.at_ k=none ∧ ¬ M.ft k:=fun k hk=>⟨hi.out hk,hi.free hk⟩
 obtain ⟨w2,hw2⟩:∃ w2,w2=(w.alloc (.cells #[.pointer p] 28)).alloc (.cells #[.int .i64 0] 3):=⟨_,rfl⟩
 have hb2:Below w.heap.size w w2:=by rw [hw2]; exact al2 _ _ _
 have hs2:w2.heap.size=w.heap.size+2:=by rw [hw2]; simp
 have hO2:Rg.Own w2 (w.heap.size+1) #[.int .i64 0] 3:=by
  have:=Rg.Own.new (w.alloc (.cells #[.pointer p] 28)) #[.int .i64 0] 3;rw [hw2];simpa using this
 have hc2:w2.cell? ⟨w.heap.size,0,none⟩=some (.pointer p):=by rw [hw2]; exact cell_on (al1 _ _) (box_tree w p)
 have HW2:=hid hw2;have HS2:=hid hs2;have HB2:=hid hb2;have HO2:=hid hO2;have HOut:=hid hout;have HI:=hid hi;have HT:=hid hT;have HGo:=hid (fun g0 gi=>goer_seq M g0 gi 32 #[] p t yes (enters_of Tryz.func32 (by kernel_rfl) rfl) hg hf hc ht);have HDp:=hid (depth_le t 64 hg);have HDe:=hid (go_depth t);clear hb2 hO2 hw2 hout hi hT hg hf hc ht hs2;refine calls_marks Tryz.func16 rfl ?_
 simp only [Tryz.ntmps16,List.size_toArray,List.length_cons,List.length_nil,Nat.reduceAdd,Nat.reduceSub,Array.replicate_succ,Array.replicate_zero,List.push_toArray,List.append_toArray,List.nil_append,List.cons_append];go_wp2_with (first
  | (rw [← HW2.out]; refine Rg.run rfl _ _ (op_load_tree hc2 ⟨_,rfl,rfl⟩) ?_))
 refine (wgoer_any p w2).mono ?_;rintro e w3 ⟨rfl,h3,hb3⟩;have HO3:=hid h3;have HB3:=hid hb3;clear h3 hb3;go_wp2_with fail
 refine (wgoer1_any (.func (Fn.func 32) #[] #[]) w2.heap.size w3 rfl).mono ?_;rintro e w4 ⟨rfl,h4,hb4⟩;have HO4:=hid h4;have HB4:=hid hb4;have hb14:=bst (bst HB2.out HB3.out) hb4;have HB14:=hid hb14;have hs3:w2.heap.size<w3.heap.size:=HO3.out.1;have hs4:w3.heap.size<w4.heap.size:=h4.1;have hO14:Rg.Own w4 (w.heap.size+1) #[.int .i64 0] 3:=(HO2.out.below HB3.out).below hb4;clear h4 hb4 hb14 hc2;go_wp2_with fail
 refine wp_range (gf:=67) (lb:=#[.pointer (some ⟨w2.heap.size,0,none⟩),.pointer (some ⟨w3.heap.size,0,none⟩)]) (K0:=fun k=>k=w.heap.size+1) rfl (enters_of Tryz.func67 (by kernel_rfl) rfl) (HGo.out _ _) (fun x W args h=>by rw [goA_size h]; rfl) ?pre (HI.out.below HB14.out) (HT.out.below HB14.out HT.out.pos) (box_sta M (w.heap.size+1) 3 (fun V:List Pl=>.int .i64 (V.foldl deepP 0:Nat))) (Ix:=fun _ _ _ _=>False) (fun _=>no_sta M) ?start ?round ?done ?stop
 case pre =>
  intro W1 K1 hb hK;have hs2:=HS2.out;exact ⟨own_cell (j:=0) ((HO3.out.below HB4.out).below hb) rfl,own_cell (j:=0) (HO4.out.below hb) rfl,(HOut.out _ (by omega)).1,fun hk=>(hK _ hk).elim (by omega) (by omega),fun wr _ p o h a _ _=>all_any p o h wr⟩
 case start=>exact ⟨hO14,fun k=>Iff.rfl,HOut.out _ (by omega)⟩
 case stop =>
  intro c V K W _ h;exact h.elim
 case done =>
  intro K Wd hJ hfd hjd htd hsd hDd _;have hs2:=HS2.out;have hFr:=fr_shut HB14.out hfd hjd htd HI.out HT.out.pos (fun k hk=>by omega) (by omega:w.heap.size≤w4.heap.size);have hJ1:Rg.Own Wd (w.heap.size+1) #[.int .i64 (depthT t)] 3:=by
   have h:=hJ.1;simp only [HDe.out] at h;exact h
  have hcd:Wd.cell? ⟨w.heap.size+1,0,none⟩=some (.int .i64 (depthT t)):=own_cell (j:=0) hJ1 rfl;have HD:=hid hDd;have HF:=hid hFr;clear hJ hfd hjd htd hsd hDd hJ1 hFr hs2;simp only [Exit.inBlock];go_wp2;exact leaves_one HD.out ⟨_,results_tmp rfl _ _ _,rfl,HF.out⟩
 case round =>
  intro l V K x args W S hl hlW hKl hI hfW hsW hiW hTW hpf hA hS;obtain ⟨pp,hh,na,nn,nc,rfl,_,_,_,hok⟩:=hA;have HS:=hid hS;clear hfW hsW hpf;rw [zip2];simp only [List.setIfInBounds_toArray,List.set_cons_zero,List.set_cons_succ];refine wpIn_seq_k ?_;intro K8 hK8;refine regionIn rfl (fun ⟨_,_,h⟩=>h) ?_;have hal3:=al1 W (.cells (plA none 0 (none,0,0)) 75);have HA3:=hid (Rg.Own.new W (plA none 0 (none,0,0)) 75);go_wp2_with (first
   | (refine Rg.run rfl _ _ (run_alloc_pl _ _ _ W.heap.size rfl rfl) ?_)
   | (refine wpl_store_pl HA3.out pp x.2.1 hh rfl _ _ rfl rfl rfl rfl ?_; intro W3 hO hu; have HP3:=hid hO; have HB3':=hid (hu.below hal3 (Nat.le_refl _)); clear hO hu))
  refine regionIn rfl (fun ⟨_,_,h⟩=>h) ?_;have hal4:=al1 W3 (.cells (ndC nd0 none 0 0) 56);have HA4:=hid (Rg.Own.new W3 (ndC nd0 none 0 0) 56);have HNl:=hid (nodeT_length x.1);obtain ⟨N,hN⟩:∃ N,nodeT x.1=N:=⟨_,rfl⟩
  have HNN:=hid hN;rw [hN] at HNl ⊢;clear hN;go_wp2_with (first
   | (refine Rg.run rfl _ _ (run_alloc_nd _ _ _ W3.heap.size rfl rfl) ?_)
   | (refine wpl_store_ndL HA4.out zks_length N na nn nc HNl.out rfl _ _ rfl rfl rfl rfl ?_; intro W4 hO hu; have HN4:=hid hO; have HB4':=hid (hu.below hal4 (Nat.le_refl _)); clear hO hu))
  have hbW:=bst HB3'.out HB4'.out;have HBW:=hid hbW;refine HS.out _ _ hbW (fun W5 hT5=>?_);have HP5:=hid (hT5.own (HP3.out.below HB4'.out));have HN5:=hid (hT5.own HN4.out);have HT5:=hid hT5;have hs5:W5.heap.size=W4.heap.size:=hT5.u.size;have hsW:=hbW.size;have hI5:Hid (BoxI M (w.heap.size+1) 3 (fun V:List Pl=>.int .i64 (V.foldl deepP 0:Nat)) V K W5):=hid ⟨HT5.out.own (hI.1.below HBW.out),hI.2⟩;have hcb:W5.cell? ⟨w.heap.size+1,0,none⟩=some (.int .i64 (V.foldl deepP 0:Nat)):=own_cell (j:=0) hI5.out.1 rfl
  have hzb:W5.frozen? ⟨w.heap.size+1,0,none⟩=false:=own_free (j:=0) hI5.out.1;have hck:W5.cell? ⟨W3.heap.size,0,none⟩=some (.int .i64 N.kd):=own_cell (j:=0) HN5.out rfl;have hco:W5.cell? ⟨W.heap.size,1,none⟩=some (.int .i64 x.2.1):=own_cell (j:=1) HP5.out rfl;have HI5:=hid ((hiW.below HBW.out).upd HT5.out.u (HOut.out l (by have:=HB14.out.size; omega)).2);have hzz:=HT.out.pos;have HT5':=hid (tab_upd (hTW.below HBW.out hTW.pos) HT5.out.u (by have:=HB14.out.size; omega));have hov:x.2.1≤64:=by
   obtain ⟨L,h1,_,_,_,h2⟩:=hok;omega
  have hmx:V.foldl deepP 0≤64+V.foldl deepP 0:=Nat.le_add_left _ _;have hfl:(V++[x]).foldl deepP 0=deepP (V.foldl deepP 0) x:=by simp
  obtain ⟨m,hm⟩:∃ m,V.foldl deepP 0=m:=⟨_,rfl⟩
  rw [hm] at hcb hfl;clear hS;refine wpIn_block ?_;refine wpIn_seq_k ?_;intro K9 hK9;refine regionIn rfl (fun ⟨_,_,h⟩=>h) ?_;by_cases hx:isNode x.1=true
  ·have hkd:(N.kd != 0)=true:=by
    rw [← HNN.out];have:(nodeT x.1).kd≠0:=fun e=>by rw [node_is.1 e] at hx; cases hx
    simp [this]
   have hwr:IntKind.i64.wrap ((x.2.1:Int)+1)=(x.2.1:Int)+1:=IntWalk.i64_in _ (by omega);go_wp2;refine wpIn_cond_true rfl ?_;refine regionIn rfl (fun ⟨_,_,h⟩=>h) ?_;go_wp2;rw [show max (m:Int) ((x.2.1:Int)+1)=((max m (x.2.1+1):Nat):Int) by omega];exact box_rnd hI5.out HI5.out HT5'.out (by omega) (Below.refl _ _) (by
    have h:=own_setCell (o:=0) hI5.out.1 (Value.int .i64 (max m (x.2.1+1):Nat));show Rg.Own _ _ #[Value.int .i64 ((V++[x]).foldl deepP 0:Nat)] _;rw [hfl];unfold deepP;rw [if_pos hx];exact h) (upd_setCell _ _ _ _)
  ·have hkd:(N.kd != 0)=false:=by
    rw [← HNN.out];have:(nodeT x.1).kd=0:=node_is.2 (by cases e:isNode x.1 with
     | true=>exact absurd e hx
     | false=>rfl)
    simp [this]
   go_wp2;refine wpIn_cond_false rfl ?_;refine wpIn_skip ?_;refine box_same hI5.out HI5.out HT5'.out (Below.refl _ _) ?_;show Value.int .i64 ((V++[x]).foldl deepP 0:Nat)=Value.int .i64 (V.foldl deepP 0:Nat);rw [hfl,hm];unfold deepP;rw [if_neg hx]
end Tm
end
end Go.Proofs.YtnecijeakeklaaaGreatDoor
