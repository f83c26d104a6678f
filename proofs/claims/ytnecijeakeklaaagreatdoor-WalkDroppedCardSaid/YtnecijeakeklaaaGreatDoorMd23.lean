/-
 Rows of nodes in a box; walk.Path's length.
-/
import Derived.Test.YtnecijeakeklaaaGreatDoorMd22
import Derived.Test.YtnecijeakeklaaaGreatDoorMd20
import Derived.Test.YtnecijeakeklaaaGreatDoorMd13
import Derived.Test.YtnecijeakeklaaaGreatDoorMd18
import Derived.Maps.AppendAt
import Derived.Laws.AppendOwnNone
import Derived.Test.YtnecijeakeklaaaGreatDoorMd3
open Go.Lib (hid)
set_option linter.unusedSimpArgs false
set_option linter.unusedVariables false
set_option maxHeartbeats 40000000
set_option maxRecDepth 100000
namespace Go.Proofs.YtnecijeakeklaaaGreatDoor
section
open Go.RowKit
namespace Tm
open Tr Ni Pk Ky No Rf Rl Rf2
open Sm (Tab)
theorem rowD_snoc (z:List Nz) (N:Nd) (h:Hdl):rowD (z++[(N,h)])=rowD z++ndL N h:=by simp [rowD]
def RowNd (B:Nat) (w:World) (v:Value) (z:List Nz):Prop:=w.ownsRow B 56 19 v z.length (rowD z)
theorem run_push_nd {w:World} {ty:TypeId} {B b2:Nat} {v:Value} {z:List Nz} {N:Nd} {h:Hdl} (hR:RowNd B w v z) (h2:Rg.Own w b2 (ndC N h.1 h.2.1 h.2.2) 56) (hl:N.ks.length=16) (hn:z.length≤1000000) (hB:B≤w.heap.size) :
  ∃ v' w',(Builtin.append_ #[48,48] ty #[v,.slice (some ⟨b2,0,none⟩) 1 1]).run Tryz.prog w = .ok v' w'∧RowNd B w' v' (z++[(N,h)])∧w.grownBy w' v.ownBlock∧(v'.ownBlock=v.ownBlock∨v'.ownBlock=some w.heap.size):=by
 obtain ⟨i0,z0,hi,hz,hsz,hby,hzc⟩:=info_nd_parts;obtain ⟨v',w',hr,h3,h4,_,h5⟩:=run_append_own_at (P:=Tryz.prog) w B 48 ty 56 i0 z0 19 304 Tryz.underlying48 hi hz hsz hby hzc (by decide) v z.length _ hR ⟨b2,0,none⟩ 1 1 (ndL N h) (ndL_len hl)
  (fun j u hu=>by
   rw [Addr.add_mid,Nat.zero_add];have:(ndC N h.1 h.2.1 h.2.2)[j]? = some u:=by
    rw [← hu];unfold ndC ndL;simp
   exact own_cell h2 this)
  (ndL_one N h) (by unfold maxLen; omega) (by omega) hB
 exact ⟨v',w',hr,by unfold RowNd; rw [List.length_append,rowD_snoc]; exact h3,h4,h5⟩
theorem wpl_push_nd {ops:Array Oper} {rest:List Oper} {o:Oper} {a:Go.Act} {w:World} {Q:Exit→Go.Act→World→Prop} {B b2:Nat} {v:Value} {z:List Nz} {N:Nd} {h:Hdl} (hR:RowNd B w v z) (h2:Rg.Own w b2 (ndC N h.1 h.2.1 h.2.2) 56) (hl:N.ks.length=16) (hn:z.length≤1000000) (hB:B≤w.heap.size) (hgd:o.guard=none)
  (ho:∃ s y,o.op = .call { callee:=.builtin .append,args:=#[s,y],argTypes:=#[48,48] }∧a.eval s=v∧a.eval y = .slice (some ⟨b2,0,none⟩) 1 1)
  (H:∀ v' w',RowNd B w' v' (z++[(N,h)])→w.grownBy w' v.ownBlock→(v'.ownBlock=v.ownBlock∨v'.ownBlock=some w.heap.size)→wpList Tryz.prog ops Q rest (a.put o.dst v') w'):wpList Tryz.prog ops Q (o::rest) a w:=by
 obtain ⟨s,y',ho,hs,hy⟩:=ho;obtain ⟨v',w',hr,h3,h4,h5⟩:=run_push_nd (ty:=o.type) hR h2 hl hn hB;refine wpList_run hgd v' w' ?_ (H v' w' h3 h4 h5);unfold execOp;simp only [ho,resolve,invoke,builtin,Sem.run_bind,Sem.run_pure,Result.andThen_ok,List.map_toArray,List.map_cons,List.map_nil,hs,hy,hr]
theorem op_load_nds {ev:Operand→Value} {o:Oper} {w:World} {b off:Nat} {v:Value} (hc:w.cell? ⟨b,off,none⟩=some v) (ho:∃ x,o.op = .load 48 x∧ev x = .pointer (some ⟨b,off,none⟩)) :
  (execOp ev o).run Tryz.prog w = .ok (.value v) w:=by
 obtain ⟨x,ho,hx⟩:=ho;unfold execOp;simp [ho,hx,go_sem,hc]
structure NdI (M:Mp) (B bx:Nat) (z:List Nz) (K:Nat→Prop) (w:World) (v:Value):Prop where
 o:Rg.Own w bx #[v] 48
 r:RowNd B w v z
 k:∀ k,K k↔k=bx∨v.ownBlock=some k
 nb:v.ownBlock≠some bx
 bb:B≤bx
 u:∀ k,B≤k→M.at_ k=none ∧ ¬ M.ft k
theorem NdI.keep {M:Mp} {B bx:Nat} {z:List Nz} {K:Nat→Prop} {w w':World} {v:Value} (h:NdI M B bx z K w v) (hs:w.heap.size≤w'.heap.size) (hk:∀ k,K k→w'.heap[k]? = w.heap[k]?):NdI M B bx z K w' v :=
 ⟨⟨Nat.lt_of_lt_of_le h.o.1 hs,(hk bx ((h.k bx).2 (.inl rfl))).trans h.o.2⟩,owns_same h.r fun k e=>hk k ((h.k k).2 (.inr e)),h.k,h.nb,h.bb,h.u⟩
theorem NdI.lt {M:Mp} {B bx:Nat} {z:List Nz} {K:Nat→Prop} {w:World} {v:Value} (h:NdI M B bx z K w v):∀ k,K k→k<w.heap.size∧M.at_ k=none ∧ ¬ M.ft k:=fun k hk=>by
 rcases (h.k k).1 hk with rfl | e
 ·exact ⟨h.o.1,h.u k h.bb⟩
 ·exact ⟨(h.r.lt k e).2,h.u k (h.r.lt k e).1⟩
def ndsOf (V:List Pl):List Nd:=(V.filter fun x=>isNode x.1).map fun x=>nodeT x.1
theorem ndsOf_snoc (V:List Pl) (x:Pl):ndsOf (V++[x])=ndsOf V++if isNode x.1 then [nodeT x.1] else []:=by
 unfold ndsOf;rw [List.filter_append,List.map_append];cases h:isNode x.1 <;> simp [h]
def NdB (M:Mp) (B bx:Nat) (V:List Pl) (K:Nat→Prop) (w:World):Prop:=∃ z v,z.map Prod.fst=ndsOf V∧NdI M B bx z K w v
theorem ndb_sta (M:Mp) (B bx:Nat):Sta M (NdB M B bx):=⟨fun _ _ _ _ ⟨z,v,e,h⟩ hs hk=>⟨z,v,e,h.keep hs hk⟩,fun _ _ _ ⟨_,_,_,h⟩=>h.lt⟩
theorem ndI_push {M:Mp} {B bx:Nat} {z z':List Nz} {K:Nat→Prop} {w w5:World} {v v':Value} (h:NdI M B bx z K w v) (hi:Inv M w) (ht:Tab w) (hz:1<B) (hb:Bo2 K w w5)
  (ho:Rg.Own w5 bx #[v'] 48) (hr:RowNd B w5 v' z') (hl:v'.ownBlock=v.ownBlock∨∃ k,w.heap.size≤k∧v'.ownBlock=some k):∃ K',NdI M B bx z' K' w5 v'∧(∀ k,K' k→K k∨w.heap.size≤k)∧Inv M w5∧Tab w5:=by
 refine ⟨fun k=>k=bx∨v'.ownBlock=some k,⟨ho,hr,fun k=>Iff.rfl,fun e=>?_,h.bb,h.u⟩,fun k hk=>?_,hi.keep hb.size fun k hk=>hb.block k (hi.lt_ k hk) fun g=>?_,fun j hj=>?_⟩
 ·rcases hl with e2 | ⟨k,hk,e2⟩
  ·exact h.nb (by rw [← e2]; exact e)
  ·rw [e2] at e;have:=Option.some.inj e;have:=h.o.1;omega
 ·rcases hk with rfl | e
  ·exact .inl ((h.k _).2 (.inl rfl))
  ·rcases hl with e2 | ⟨k',hk,e2⟩
   ·exact .inl ((h.k _).2 (.inr (by rw [← e2]; exact e)))
   ·rw [e2] at e;have:=Option.some.inj e;exact .inr (by omega)
 ·rcases (h.k k).1 g with rfl | e
  ·exact (h.u _ h.bb).2 hk
  ·exact (h.u k (h.r.lt k e).1).2 hk
 ·have hlt:1<w.heap.size:=Nat.lt_of_lt_of_le hz (Nat.le_trans h.bb (Nat.le_of_lt h.o.1));have hnk:¬ K 1:=fun g=>by
   rcases (h.k _).1 g with e | e
   ·have:=h.bb; omega
   ·have:=(h.r.lt _ e).1; omega
  rw [World.cell?_of_block (hb.block 1 hlt hnk)];exact ht j hj
theorem go_sub (I:Pa→Bool):∀ (t:T) (o:Nat) (a:Pa),(goL I t o a).length≤cntT t
 | .nil,_,a=>by unfold goL; split <;> simp [cntT]
 | .leaf _ _,_,a=>by unfold goL; split <;> simp [cntT]
 | .stub _,_,a=>by unfold goL; split <;> simp [cntT]
 | .ext q s,o,a=>by
  have ih:=go_sub I s (o+1) (a++q);unfold goL;split
  ·show (goL I s (o+1) (a++q)).length+1≤1+cntT s;omega
  ·exact Nat.zero_le _
 | .br ks,o,a=>by
  unfold goL;split
  ·show (((kidsOf ks).map fun i=>goL I (ks i) (o+1) (a++[nibOf i])).flatten).length+1≤1+((kidsOf ks).map fun i=>cntT (ks i)).sum;have e:((kidsOf ks).map fun i=>goL I (ks i) (o+1) (a++[nibOf i])).map List.length=(kidsOf ks).map fun i=>(goL I (ks i) (o+1) (a++[nibOf i])).length:=by
    rw [List.map_map];rfl
   rw [List.length_flatten,e];have:=sum_le (f:=fun i=>(goL I (ks i) (o+1) (a++[nibOf i])).length) (g:=fun i=>cntT (ks i)) (kidsOf ks) fun i _=>go_sub I (ks i) (o+1) (a++[nibOf i]);omega
  ·exact Nat.zero_le _
theorem wpath_len (M:Mp) (p:Option Addr) (t:T) (k:List UInt8) (hk:k.length=32) (hg:Tr.Good t 64) (hf:Fine t) (hc:cntT t≤200000) (w:World) (hi:Inv M w) (ht:IsT M p t) (hT:Tab w) :
  Calls Tryz.prog 22 #[tv p,.agg (kc k)] w fun e w'=>∃ a c,e = .returned (.slice a (nodesAt t (pathK k)).length c)∧Fr M M w w'∧Inv M w'∧Tab w':=by
 have hout:∀ k,w.heap.size≤k→M.at_ k=none ∧ ¬ M.ft k:=fun k hk=>⟨hi.out hk,hi.free hk⟩
 have hnib:Nib (pathK k):=fun c hc=>by
  have h:=path_right k;unfold rightB at h;have:=List.all_eq_true.1 h c hc;have:=of_decide_eq_true this;omega
 obtain ⟨w1,hw1⟩:∃ w1,w1=(w.alloc (.cells #[.pointer p] 28)).alloc (.cells (kc k) 24):=⟨_,rfl⟩
 have hb1:Below w.heap.size w w1:=by rw [hw1]; exact al2 _ _ _
 have hs1:w1.heap.size=w.heap.size+2:=by rw [hw1]; simp
 have hT1:Rg.Own w1 w.heap.size #[.pointer p] 28:=by
  have:=(Rg.Own.new w #[.pointer p] 28).below (al1 _ (.cells (kc k) 24));rw [hw1];exact this
 have hK1:Rg.Own w1 (w.heap.size+1) (kc k) 24:=by
  have:=Rg.Own.new (w.alloc (.cells #[.pointer p] 28)) (kc k) 24;rw [hw1];simpa using this
 have HW1:=hid hw1;have HB1:=hid hb1;have HS1:=hid hs1;have HT1:=hid hT1;have HOut:=hid hout;have HI:=hid hi;have HT:=hid hT;have HK1:=hid hK1;have HKl:=hid hk;have HPa:=hid (path_new k hk w1);have HPl:=hid (pathK_length k hk);have HGp:=hid (go_path t 0 [] (pathK k) hnib);have HCn:Hid ((goL (leads (pathK k)) t 0 []).length≤200000):=hid (Nat.le_trans (go_sub (leads (pathK k)) t 0 []) hc);obtain ⟨P,hPP⟩:∃ P,pathK k=P:=⟨_,rfl⟩
 rw [hPP] at HPa HPl HGp HCn ⊢;have HGo:=hid (fun g0 gi bp=>goer_seq M g0 gi 44 #[.pointer (some ⟨bp,0,none⟩)] p t (leads P) (enters_of Tryz.func44 (by kernel_rfl) rfl) hg hf hc ht);obtain ⟨C,hC⟩:∃ C,kc k=C:=⟨_,rfl⟩
 have HC:=hid hC;rw [hC] at hw1 HW1 HK1 HPa ⊢;have hmf:∀ (fn:Fn) (first cap:Array Value) (w:World),(Instr.makeFunc fn first cap).run Tryz.prog w = .ok (.func fn first cap) w:=fun _ _ _ _=>rfl;clear hC hb1 hs1 hT1 hw1 hout hi hT hg hf hc ht hK1 hk hnib hPP;refine calls_marks Tryz.func22 rfl ?_;simp only [Tryz.ntmps22,List.size_toArray,List.length_cons,List.length_nil,Nat.reduceAdd,Nat.reduceSub,Array.replicate_succ,Array.replicate_zero,List.push_toArray,List.append_toArray,List.nil_append,List.cons_append];go_wp2_with (first
  | ((try rw [← HW1.out]); refine Rg.run rfl (.agg C) _ (by rw [← HC.out]; exact op_load_key HKl.out (by rw [HC.out]; exact HK1.out.2) ⟨_,rfl,rfl⟩) ?_))
 refine HPa.out.mono ?_;rintro e w2 ⟨r,rfl,hr,hb2⟩;obtain ⟨w3,hw3⟩:∃ w3,w3=w2.alloc (.cells #[.slice r.1 r.2.1 r.2.2] 51):=⟨_,rfl⟩
 have hal3:=al1 w2 (.cells #[.slice r.1 r.2.1 r.2.2] 51);have hO3:=Rg.Own.new w2 #[.slice r.1 r.2.1 r.2.2] 51;rw [← hw3] at hal3 hO3;obtain ⟨w4,hw4⟩:∃ w4,w4=w3.alloc (.cells #[.slice none 0 0] 48):=⟨_,rfl⟩
 have hal4:=al1 w3 (.cells #[.slice none 0 0] 48);have hO4:=Rg.Own.new w3 #[.slice none 0 0] 48;rw [← hw4] at hal4 hO4;rw [show w3.heap.size=w2.heap.size+1 by rw [hw3]; simp] at hO4;have hb14:=bst (bst hb2 hal3) hal4;have hc4:w4.cell? ⟨w.heap.size,0,none⟩=some (.pointer p):=own_cell (j:=0) (HT1.out.below hb14) rfl;have hr4:BsP (fun b=>w1.heap.size≤b∧b<w2.heap.size) w4 r P:=by
  have h2:BsP (fun b=>w1.heap.size≤b∧b<w2.heap.size) w2 r P:=hr.to fun b hl hp=>⟨hp,hl⟩
  have hb24:=bst hal3 hal4;exact h2.kept hb24.size fun b _ hl=>hb24.block b hl
 have HW3:=hid hw3;have HW4:=hid hw4;have HR4:=hid hr4;have HOp4:=hid (hO3.below hal4);have HO4:=hid hO4;have HB14:=hid (bst HB1.out hb14);have HSz:Hid (w1.heap.size≤w2.heap.size∧w2.heap.size<w2.heap.size+1∧w2.heap.size+1<w4.heap.size):=hid ⟨hb2.size,Nat.lt_succ_self _,hO4.1⟩;clear hr hb2 hal3 hO3 hal4 hO4 hb14 hr4 hw3 hw4;go_wp2_with (first
  | ((try rw [← HW3.out]); (try rw [← HW4.out]); refine Rg.run rfl _ _ (op_load_tree hc4 ⟨_,rfl,rfl⟩) ?_))
 refine (wgoer_any p w4).mono ?_;rintro e w5 ⟨rfl,h5,hb5⟩;have HO5:=hid h5;have HB5:=hid hb5;clear h5 hb5 hc4;go_wp2_with fail
 refine (wgoer1_any (.func (Fn.func 44) #[] #[.pointer (some ⟨w2.heap.size,0,none⟩)]) w4.heap.size w5 rfl).mono ?_;rintro e w6 ⟨rfl,h6,hb6⟩;have HO6:=hid h6;have HB6:=hid hb6;have hb46:=bst HB5.out hb6;have HB46:=hid hb46;have HB16:=hid (bst HB14.out hb46);have HO46:=hid (HO4.out.below hb46);have HOp6:=hid (HOp4.out.below hb46);have HR6:Hid (BsP (fun b=>w1.heap.size≤b∧b<w2.heap.size) w6 r P):=hid (HR4.out.kept hb46.size fun b _ hl=>hb46.block b hl);clear h6 hb6 hb46;go_wp2_with fail
 refine wp_range (gf:=67) (lb:=#[.pointer (some ⟨w4.heap.size,0,none⟩),.pointer (some ⟨w5.heap.size,0,none⟩)]) (K0:=fun k=>k=w2.heap.size+1) rfl (enters_of Tryz.func67 (by kernel_rfl) rfl) (HGo.out _ _ w2.heap.size) (fun x W args h=>by rw [goA_size h]; rfl) ?pre (HI.out.below HB16.out) (HT.out.below HB16.out HT.out.pos) (ndb_sta M w.heap.size (w2.heap.size+1)) (Ix:=fun _ _ _ _=>False) (fun _=>no_sta M) ?start ?round ?done ?stop
 case pre =>
  intro W1 K1 hb hK;obtain ⟨z1,z2,z3⟩:=HSz.out;have z0:=HS1.out;have z5:w4.heap.size<w5.heap.size:=HO5.out.1;have z6:w5.heap.size<w6.heap.size:=HO6.out.1;have hKn:∀ b,b<w6.heap.size→b≠w2.heap.size+1 → ¬ K1 b:=fun b h1 h2 h3=>(hK b h3).elim h2 (by omega);have hq:BsP (fun b=>M.at_ b=none ∧ ¬ K1 b) W1 r P:=by
   exact (HR6.out.kept hb.size fun b _ hl=>hb.block b hl).to fun b _ hp=>⟨(HOut.out b (by omega)).1,hKn b (by omega) (by omega)⟩
  refine ⟨own_cell (j:=0) ((HO5.out.below HB6.out).below hb) rfl,own_cell (j:=0) (HO6.out.below hb) rfl,(HOut.out _ (by omega)).1,hKn _ (by omega) (by omega),fun wr f pp o h a ha hl=>?_⟩;exact into_path w2.heap.size r P HPl.out wr (own_cell (j:=0) (own_frK f (HOp6.out.below hb) ⟨(HOut.out _ (by omega)).1,hKn _ (by omega) (by omega)⟩) rfl) (hq.kept f.size fun b hp hl=>f.block b hl hp.1 hp.2).1 pp o h a ha hl
 case start=>exact ⟨[],.slice none 0 0,rfl,HO46.out,World.ownsRow_nil _ _ _ _,fun k=>by simp [Value.ownBlock],by simp [Value.ownBlock],by have:=HSz.out; have:=HS1.out; omega,HOut.out⟩
 case stop =>
  intro c V K W _ h;exact h.elim
 case done =>
  rintro K Wd ⟨z,v,hz,hJ⟩ hfd hjd htd hsd hDd hKd;obtain ⟨z1,z2,z3⟩:=HSz.out;have z0:=HS1.out;have hFr:=fr_shut HB16.out hfd hjd htd HI.out HT.out.pos (fun k hk=>by omega) HB16.out.size;have hcd:=own_cell (j:=0) hJ.o rfl;have HD:=hid hDd;have HF:=hid hFr;obtain ⟨av,cv,rfl⟩:=owns_slice hJ.r;have HLn:Hid (z.length=(nodesAt t P).length):=hid (by
   have h1:=congrArg List.length hz;have h2:=congrArg List.length HGp.out;rw [List.length_map] at h1;rw [h1];exact h2)
  rw [HLn.out] at hcd;clear hJ hfd hjd htd hsd hDd hFr hKd hz z1 z2 z3 z0;simp only [Exit.inBlock];go_wp2;exact leaves_one HD.out ⟨_,results_tmp (t:=4) rfl _ _ _,av,cv,rfl,HF.out⟩
 case round =>
  rintro l V K x args W S hl hlW hKl ⟨z,v,hz,hI⟩ hfW hsW hiW hTW hpf ⟨pp,hh,na,nn,nc,rfl,htp,hbW,hbN,hok⟩ hS;have HS:=hid hS;have HZ:=hid hz;have hVn:z.length≤1000000:=by
   have h1:=hpf.length_le;have h2:=HCn.out;have h3:=congrArg List.length hz;have h4:(ndsOf V).length≤V.length:=by unfold ndsOf; rw [List.length_map]; exact List.length_filter_le _ _
   rw [List.length_append] at h1;rw [List.length_map] at h3;omega
  clear hfW hsW hpf hS hz hbW hbN htp hok;rw [zip2];simp only [List.setIfInBounds_toArray,List.set_cons_zero,List.set_cons_succ];have hal3:=al1 W (.cells (ndC nd0 none 0 0) 56);have HA3:=hid (Rg.Own.new W (ndC nd0 none 0 0) 56);have HNl:=hid (nodeT_length x.1);obtain ⟨N,hN⟩:∃ N,nodeT x.1=N:=⟨_,rfl⟩
  have HNN:=hid hN;rw [hN] at HNl ⊢;clear hN;refine regionIn rfl (fun ⟨_,_,h⟩=>h) ?_;go_wp2_with (first
   | (refine Rg.run rfl _ _ (run_alloc_nd _ _ _ W.heap.size rfl rfl) ?_)
   | (refine wpl_store_ndL HA3.out zks_length N na nn nc HNl.out rfl _ _ rfl rfl rfl rfl ?_; intro W3 hO hu; have HN3:=hid hO; have HB3:=hid (hu.below hal3 (Nat.le_refl _)); clear hO hu))
  refine HS.out _ _ HB3.out (fun W5 hT5=>?_);have HN5:=hid (hT5.own HN3.out);have hs5:W5.heap.size=W3.heap.size:=hT5.u.size;obtain ⟨z1,z2,z3⟩:=HSz.out;have z0:=HS1.out;have z6:=HB16.out.size;have hzz:=HT.out.pos;have hsW:=HB3.out.size;have HI5:=hid ((hiW.below HB3.out).upd hT5.u (HOut.out l (by omega)).2);have HT5':=hid (tab_upd (hTW.below HB3.out hTW.pos) hT5.u (by omega));have hPI:=hI.keep (w':=W5) (by omega) (fun k hk=>(hT5.u.block k fun e=>hKl (by rw [← e]; exact hk)).trans (HB3.out.block k (hI.lt k hk).1));have HPI:=hid hPI
  have hcb:W5.cell? ⟨w2.heap.size+1,0,none⟩=some v:=own_cell (j:=0) hPI.o rfl;have hB5:w.heap.size≤W5.heap.size:=Nat.le_trans hPI.bb (Nat.le_of_lt hPI.o.1);have hck:W5.cell? ⟨W.heap.size,0,none⟩=some (.int .i64 N.kd):=own_cell (j:=0) HN5.out rfl;obtain ⟨av,cv,rfl⟩:=owns_slice hPI.r;clear HS hiW hTW hI hT5 hPI hal3 z1 z2 z3 z0 z6;refine wpIn_block ?_;refine wpIn_seq_k ?_;intro K9 hK9;refine regionIn rfl (fun ⟨_,_,h⟩=>h) ?_;by_cases hx:isNode x.1=true
  ·have hkd:(N.kd != 0)=true:=by
    rw [← HNN.out];have:(nodeT x.1).kd≠0:=fun e=>by rw [node_is.1 e] at hx; cases hx
    simp [this]
   have HX:=hid hx;have hal6:=al1 W5 (.cells (ndC N na nn nc) 56);have HO7:=hid (Rg.Own.new W5 (ndC N na nn nc) 56);have HR7:Hid (RowNd w.heap.size (W5.alloc (.cells (ndC N na nn nc) 56)) (.slice av z.length cv) z):=hid (owns_same HPI.out.r fun k e=>hal6.block k (HPI.out.r.lt k e).2);have HOb:=hid (HPI.out.o.below hal6);have HAl:=hid hal6;have hB7:w.heap.size≤(W5.alloc (.cells (ndC N na nn nc) 56)).heap.size:=Nat.le_trans hB5 hal6.size;clear hal6 hx;go_wp2;refine wpIn_cond_true rfl ?_
   refine regionIn rfl (fun ⟨_,_,h⟩=>h) ?_;go_wp2_with (first
    | (refine Rg.run rfl _ _ (op_load_nd HN5.out HNl.out ⟨_,rfl,rfl⟩) ?_)
    | (refine Rg.run rfl _ _ (op_load_nds hcb ⟨_,rfl,rfl⟩) ?_)
    | (refine Rg.run rfl _ _ (op_lit_nd (h:=(na,nn,nc)) HNl.out W5.heap.size rfl ⟨_,rfl,rfl⟩) ?_)
    | (refine wpl_push_nd (h:=(na,nn,nc)) HR7.out HO7.out HNl.out hVn hB7 rfl ⟨_,_,rfl,rfl,rfl⟩ ?_; intro v4 w4' hr4 hg4 hl4; have hob4:Rg.Own w4' (w2.heap.size+1) #[.slice av z.length cv] 48:=⟨Nat.lt_of_lt_of_le HOb.out.1 hg4.size,(hg4.block _ HOb.out.1 (fun e=>HPI.out.nb e.symm)).trans HOb.out.2⟩; have HR4':=hid hr4; have HG4:=hid hg4; have HL4:=hid hl4; obtain ⟨s4,c4,e4⟩:=owns_slice hr4; obtain ⟨n4,hn4⟩:∃ n4,(z++[(N,(na,nn,nc))]).length=n4:=⟨_,rfl⟩; rw [hn4] at e4; subst e4; clear hn4; have HOb4:=hid hob4; have c4b:=own_cell (j:=0) hob4 rfl; have z4b:=own_free (j:=0) hob4; clear hr4 hg4 hl4 hob4))
   have HO5':=hid (own_setCell (o:=0) HOb4.out (Value.slice s4 n4 c4));have HU5:=hid (upd_setCell w4' (w2.heap.size+1) 0 (Value.slice s4 n4 c4));have hs3:=HAl.out.size;have hl5:(Value.slice s4 n4 c4).ownBlock=(Value.slice av z.length cv).ownBlock∨∃ k,W5.heap.size≤k∧(Value.slice s4 n4 c4).ownBlock=some k:=HL4.out.imp id fun e=>⟨_,hs3,e⟩
   have hne:∀ k,(Value.slice s4 n4 c4).ownBlock=some k→k≠w2.heap.size+1:=fun k e e2=>by
    rcases hl5 with e3 | ⟨k',hk',e3⟩
    ·exact HPI.out.nb (by rw [← e3,← e2]; exact e)
    ·rw [e3] at e;have:=Option.some.inj e;have:=HPI.out.o.1;omega
   have hbo:=(((Bo2.of (Below.refl _ _)).below HAl.out).grown HG4.out (fun k e=>(HPI.out.k k).2 (.inr e))).upd HU5.out ((HPI.out.k _).2 (.inl rfl));obtain ⟨K',h1,h2,h3,h4⟩:=ndI_push HPI.out HI5.out HT5'.out HT.out.pos hbo HO5'.out (owns_same HR4'.out fun k e=>HU5.out.block k (hne k e)) hl5;exact ⟨K',⟨_,_,by rw [List.map_append,HZ.out,ndsOf_snoc,if_pos HX.out,HNN.out]; rfl,h1⟩,fun k hk=>(h2 k hk).imp id fun h=>by omega,hbo.frK,h3,h4⟩
  ·have hkd:(N.kd != 0)=false:=by
    rw [← HNN.out];have:(nodeT x.1).kd=0:=node_is.2 (by cases e:isNode x.1 with
     | true=>exact absurd e hx
     | false=>rfl)
    simp [this]
   have HX:=hid hx;clear hx;go_wp2;refine wpIn_cond_false rfl ?_;refine wpIn_skip ?_;exact ⟨K,⟨z,_,by rw [HZ.out,ndsOf_snoc,if_neg HX.out,List.append_nil],HPI.out⟩,fun k hk=>.inl hk,FrK.refl _ _ _,HI5.out,HT5'.out⟩
end Tm
end
section
namespace Tr
open Rf Rl Ni No
def pairsOf (t:T):List Pair:=(pathsT t []).map fun x=>(Ky.keyL x.1,x.2)
theorem path_pathK (k:Key):path k=Ky.pathK k:=rfl
theorem pairsOf_sorted {t:T} {l:List Pair} (h:Has t (lastL l)) (hk:∀ x∈l,x.1.length=32):pairsOf t=sortL l:=by
 have hs:∀ z∈sortL l,z.1.length=32:=fun z hz=>by
  have:=((Tr.sorted l.length l rfl hk).2 z).1 hz;rcases Classical.em (∀ y∈l,y.1≠z.1) with g | g
  ·rw [last_none.2 g] at this; cases this
  ·rw [Classical.not_forall] at g;obtain ⟨y,g⟩:=g;rw [Classical.not_imp] at g;have e:y.1=z.1:=Classical.byContradiction g.2;rw [← e];exact hk y g.1
 unfold pairsOf;rw [h.sorted hk,List.map_map];have:(sortL l).map (fun x=>(Ky.keyL (path x.1),x.2))=(sortL l).map id:=List.map_congr_left fun x hx=>by
  show (Ky.keyL (path x.1),x.2)=x;rw [path_pathK,Ky.key_path x.1 (hs x hx)]
 rw [List.map_id] at this;exact this
theorem pairsOf_drop (t:T) (k:Nat):(pairsOf (dropT t k)).Sublist (pairsOf t):=(drop_paths t k []).map _
theorem pairsOf_less {t:T} {L:Nat} (g:Good t L) (f:Full t) (k:Nat) (hk:k<(kidsT t).length):(pairsOf (dropT t k)).length<(pairsOf t).length:=by
 unfold pairsOf;rw [List.length_map,List.length_map];exact drop_less g f k hk []
theorem pairsOf_ext (q:Pa) (s:T) (k:Nat):pairsOf (dropT (.ext q s) k)=[]:=rfl
theorem sort_rising {l:List Pair} (hk:∀ x∈l,x.1.length=32):Rising (sortL l):=(Tr.sorted l.length l rfl hk).1
theorem rising_apart {l:List Pair} (h:Rising l):Apart l:=h.imp fun {a b} g e=>by
 rw [e,ltP_irrefl] at g;cases g
theorem first_of:∀ {l:List Pair},Apart l→∀ z∈l,firstL l z.1=some z.2
 | [],_,_,h=>by cases h
 | x::r,h,z,hz=>by
  obtain ⟨h1,h2⟩:=List.pairwise_cons.1 h;unfold firstL;rcases List.mem_cons.1 hz with rfl | hz
  ·rw [if_pos rfl]
  ·rw [if_neg (h1 z hz)];exact first_of h2 z hz
theorem find_sorted {l m:List Pair} (hk:∀ x∈l,x.1.length=32) (hs:m.Sublist (sortL l)):∀ z∈m,firstL (sortL l) z.1=some z.2:=fun z hz=>first_of (rising_apart (sort_rising hk)) z (hs.subset hz)
theorem sub_rising {l m:List Pair} (hk:∀ x∈l,x.1.length=32) (hs:m.Sublist (sortL l)):Rising m:=List.Pairwise.sublist hs (sort_rising hk)
end Tr
namespace Tm
open Tr Ni Pk Ky No
def lBA:List Tr.Pair:=[(kb,sy),(ka,sx)]
theorem okBA:OkPs lBA:=⟨fun x hx=>by rcases List.mem_cons.1 hx with rfl | hx; exact kb_len; rw [List.mem_singleton.1 hx]; exact ka_len,fun x hx=>by rcases List.mem_cons.1 hx with rfl | hx; exact ⟨by decide,by decide⟩; rw [List.mem_singleton.1 hx]; exact ⟨by decide,by decide⟩⟩
theorem lastBA (k:List UInt8):lastL lBA k=lastL lAB k:=by
 rw [lastAB];show (match (if ka=k then some sx else none) with | some v=>some v | none=>if kb=k then some sy else none)=_;by_cases h:ka=k
 ·have:¬ kb=k:=fun e=>ka_ne (h.trans e.symm);rw [if_pos h,if_neg this,if_neg this]
 ·rw [if_neg h]
theorem treeBA:putAll .nil lBA=putAll .nil lAB:=okBA.has.one (hasAB.congr fun k _=>(lastBA k).symm)
theorem sortBA:sortL lBA=lAB:=by decide
theorem depthAB:depthT (putAll .nil lAB)=2:=by kernel_rfl
theorem wayAB:(nodesAt (putAll .nil lAB) (path ka)).length=2:=by kernel_rfl
theorem lessAB:ltP ka kb=true:=by decide
theorem stubsAB:stubsN (putAll .nil lAB)=0:=stubs_full _ hasAB.full
end Tm
end
section
open Go.RowKit
namespace Tm
open Tr Ni Pk Ky No Rf Rl Rf2
open Sm (Tab)
theorem run_alloc_key10 (ev:Operand→Value) (o:Oper) (w:World) (b:Nat) (hb:b=w.heap.size) (ho:o.op = .alloc 24):(execOp ev o).run Tryz.prog w = .ok (.value (.pointer (some ⟨b,0,none⟩))) (w.alloc (.cells (kc zk) 24)):=by
 subst hb;exact run_alloc_key ev o ho w
theorem fromL_pairs (t:T):fromL t zk=pairsOf t:=fromL_all t
theorem pairsAB:pairsOf (putAll .nil lAB)=lAB:=by
 rw [← treeBA,pairsOf_sorted okBA.has okBA.1,sortBA]
theorem fromAB:fromL (putAll .nil lAB) zk=lAB:=by rw [fromL_pairs,pairsAB]
theorem nextAB:fndL (fun x=>ltP ka x.1) lAB=((kb,⟨#[121]⟩),true):=by
 have h1:ltP ka ka=false:=ltP_irrefl ka;have h2:ltP ka kb=true:=lessAB;unfold fndL lAB;simp only [List.find?_cons,h1,h2];rfl
theorem cntAB:cntT (putAll .nil lAB)≤200000:=by
 have h:cntT (putAll .nil lAB)=3:=by kernel_rfl
 omega
theorem lenAB:(pathsT (putAll .nil lAB) []).length=2:=by
 have h:=congrArg List.length pairsAB;unfold pairsOf at h;rw [List.length_map] at h;rw [h];rfl
def Cx (M:Mp) (w:World) (g off:Nat) (v:Value):Prop:=w.cell? ⟨g,off,none⟩=some v∧M.at_ g=none
theorem Cx.below {M:Mp} {w w':World} {g off:Nat} {v:Value} (h:Cx M w g off v) (hb:Below w.heap.size w w'):Cx M w' g off v:=⟨cell_on hb h.1,h.2⟩
theorem Cx.fr {M:Mp} {w w':World} {g off:Nat} {v:Value} (h:Cx M w g off v) (f:Fr M M w w'):Cx M w' g off v:=⟨by
 rw [World.cell?_of_block (f.block g (World.block_lt_of_cell? w _ h.1) h.2)];exact h.1,h.2⟩
structure A10 (w0:World) (M:Mp) (w:World) (ga gb g3:Nat) (p:Option Addr) (t:T) (A B:List UInt8):Prop where
 l:Lw w0 M w
 ka:Rg.Own w ga (kc A) 24
 kb:Rg.Own w gb (kc B) 24
 kla:A.length=32
 klb:B.length=32
 bT:Bx M w g3 #[.pointer p] 28
 hT:IsT M p t
namespace A10
variable {w0:World} {M:Mp} {w w':World} {ga gb g3:Nat} {p:Option Addr} {t:T} {A B:List UInt8}
theorem below (h:A10 w0 M w ga gb g3 p t A B) (hb:Below w.heap.size w w'):A10 w0 M w' ga gb g3 p t A B:=⟨h.l.below hb,h.ka.below hb,h.kb.below hb,h.kla,h.klb,h.bT.below hb,h.hT⟩
theorem fr (h:A10 w0 M w ga gb g3 p t A B) (f:Fr M M w w') (i:Inv M w') (tt:Tab w'):A10 w0 M w' ga gb g3 p t A B:=⟨h.l.fr f i tt,own_byte_fr h.ka (kc_byte h.kla) h.l.i f,own_byte_fr h.kb (kc_byte h.klb) h.l.i f,h.kla,h.klb,h.bT.frm h.l.i f,h.hT.mono f.mono⟩
theorem say {v:Value} {e:Ending} (h:A10 w0 M w ga gb g3 p t A B) (g:TellV M w v e w'):e = .returned v∧A10 w0 M w' ga gb g3 p t A B∧Fr M M w w':=⟨g.1,h.fr g.2.1 g.2.2.1 g.2.2.2,g.2.1⟩
end A10
theorem awake10_any (w:World) (hT:Tab w):Calls Tryz.prog 13 #[] w fun e w'=>e = .returned (.bool true)∧Below w.heap.size w w':=by
 obtain ⟨w1,hw1⟩:∃ w1,w1=(w.alloc (.cells (kc zk) 24)).alloc (.cells (kc zk) 24):=⟨_,rfl⟩
 have hb1:Below w.heap.size w w1:=by rw [hw1]; exact al2 _ _ _
 have hA:Rg.Own w1 w.heap.size (kc ka) 24:=by rw [hw1]; exact (Rg.Own.new _ _ _).below (al1 _ _)
 have hB:Rg.Own w1 (w.heap.size+1) (kc zk) 24:=by
  have:=Rg.Own.new (w.alloc (.cells (kc zk) 24)) (kc zk) 24;rw [hw1];simpa using this
 have HL1:=hid ((Lw.start hT).below hb1);have HA1:=hid hA;have HB1:=hid hB;have hne1:w.heap.size≠w.heap.size+1:=by omega
 have HAl:=hid run_alloc_key10;have HSet:Hid ((kc zk).setIfInBounds 0 (.int .u8 16)=kc kb):=hid (kc_set zk 0 16);have HBa:=hid (built_pair ka sx ka_len);have HBb:=hid (built_pair kb sy kb_len);have HLa:Hid (ka.length=32):=hid ka_len;have HLb:Hid (kb.length=32):=hid kb_len;have HZs:Hid ((kc zk).size=32):=hid zk_size;have HAll:Hid (∀ (b:Nat) w3,Rg.Own w3 b (rowP lBA).toArray 33→Lw w M0 w3→Calls Tryz.prog 7 #[.slice (some ⟨b,0,none⟩) 2 2] w3 (GotT M0 w3 (putAll .nil lAB))):=hid (fun b w3 h hl=>by
  have:=of_any M0 _ 2 2 lBA okBA w3 hl.i (isPs_lit (l:=lBA) h okBA.1 (by decide)) (by decide);rw [treeBA] at this;exact this)
 have HPs:Hid (∀ (M:Mp) (W:World) p,Inv M W→IsT M p (putAll .nil lAB)→Tab W→Calls Tryz.prog 15 #[tv p] W (GotPr M W [(ka,⟨#[120]⟩),(kb,⟨#[121]⟩)])):=hid (fun M W p hi ht h=>by
  have:=wPairs_any M p _ hasAB.good hasAB.fine cntAB W hi ht h;rw [fromAB] at this;exact this)
 have HNx:Hid (∀ (M:Mp) (W:World) p,Inv M W→IsT M p (putAll .nil lAB)→Tab W→Calls Tryz.prog 11 #[tv p,.agg (kc ka)] W (TellV M W (.tuple #[.agg (pairA (kb,⟨#[121]⟩)),.bool true]))):=hid (fun M W p hi ht h=>by
  have:=wnext_any M p _ ka ka_len hasAB.good hasAB.fine cntAB W hi ht h;rw [show fromL (putAll .nil lAB) ka=lAB from fromAB,nextAB] at this;exact this)
 have HCo:Hid (∀ (M:Mp) (W:World) p,Inv M W→IsT M p (putAll .nil lAB)→Tab W→Calls Tryz.prog 9 #[tv p] W (TellV M W (.tuple #[.int .i64 2,.int .i64 0]))):=hid (fun M W p hi ht h=>by
  have:=count_any M p _ hasAB.good hasAB.fine cntAB W hi ht h;rw [lenAB,stubsAB] at this;exact this)
 have HDe:Hid (∀ (M:Mp) (W:World) p,Inv M W→IsT M p (putAll .nil lAB)→Tab W→Calls Tryz.prog 16 #[tv p] W (TellV M W (.int .i64 2))):=hid (fun M W p hi ht h=>by
  have:=depth_any M p _ hasAB.good hasAB.fine cntAB W hi ht h;rw [depthAB] at this;exact this)
 have HPt:Hid (∀ (M:Mp) (W:World) p,Inv M W→IsT M p (putAll .nil lAB)→Tab W→Calls Tryz.prog 22 #[tv p,.agg (kc ka)] W (fun e w'=>∃ a c,e = .returned (.slice a 2 c)∧Fr M M W w'∧Inv M w'∧Tab w')):=hid (fun M W p hi ht h=>by
  have:=wpath_len M p _ ka ka_len hasAB.good hasAB.fine cntAB W hi ht h;rw [show (nodesAt (putAll .nil lAB) (pathK ka)).length=2 from wayAB] at this;exact this)
 have HLs:Hid (∀ W:World,Calls Tryz.prog 20 #[.agg (kc ka),.agg (kc kb)] W fun e w'=>e = .returned (.bool true)∧Below W.heap.size W w'):=hid (fun W=>by
  have:=wless_any ka kb ka_len kb_len W;rw [lessAB] at this;exact this)
 generalize putAll .nil lAB=TT at *
 clear hA hB hb1 hT;have HW:Hid (_=_):=hid hw1;clear hw1;have HLit:Hid (rowP [(kb,sy),(ka,sx)]=rowP lBA):=hid rfl;obtain ⟨ROW,hROW⟩:∃ R,rowP lBA=R:=⟨_,rfl⟩
 rw [hROW] at HAll HLit;generalize ka=A at *
 generalize kb=B at *
 generalize zk=Z at *
 go_enter Tryz.func13,Tryz.ntmps13;go_wp2_with (first
  | (refine Rg.run rfl _ _ (HAl.out _ _ _ w.heap.size rfl rfl) ?_)
  | (refine Rg.run rfl _ _ (HAl.out _ _ _ (w.heap.size+1) (by simp) rfl) ?_)
  | (rw [← HW.out]; refine wpl_store_u8 HB1.out (by rw [HZs.out]; decide) 16 rfl _ _ rfl rfl rfl ?_; intro w2 hO2 hu2; have HB2:Hid (Rg.Own w2 (w.heap.size+1) (kc B) 24):=hid (by rw [← HSet.out]; exact hO2); have HA2:=hid (HA1.out.upd hu2 hne1); have HL2:=hid (HL1.out.upd hu2 (by omega) (fun h=>h)); clear hO2 hu2)
  | (refine Rg.run rfl _ _ (op_load_key HLb.out HB2.out.2 ⟨_,rfl,rfl⟩) ?_)
  | (refine Rg.run rfl _ _ (op_load_key HLa.out HA2.out.2 ⟨_,rfl,rfl⟩) ?_)
  | (refine Rg.run rfl _ _ (op_build HBb.out ⟨_,rfl,rfl⟩) ?_)
  | (refine Rg.run rfl _ _ (op_build HBa.out ⟨_,rfl,rfl⟩) ?_)
  | (refine Rg.run rfl _ _ (op_lit_pairs (x:=(B,sy)) (z:=(A,sx)) HLb.out HLa.out w2.heap.size rfl ⟨_,_,rfl,rfl,rfl⟩) ?_))
 rw [HLit.out];have hL3:=HL2.out.below (al1 w2 (.cells ROW.toArray 33));refine (HAll.out w2.heap.size _ (Rg.Own.new _ _ _) hL3).mono ?_;intro e w4 hG;obtain ⟨p4,M4,rfl,hT4,hL4,hf4,hb4⟩:=hL3.got hG;have HA4:=hid ((HA2.out.below (al1 _ _)).below hb4);have HB4:=hid ((HB2.out.below (al1 _ _)).below hb4);have HL4:=hid hL4;have HT4:=hid hT4;have HN:=hid (Rg.Own.new w4 #[.pointer none] 28);have HFr4:=hid (hL4.i.free (Nat.le_refl _));have hz4:=hL4.b.size;clear hG hT4 hL4 hf4 hb4 hL3 HA1 HB1 HL1 HA2 HB2 HL2 HW HAl HSet HBa HBb HAll HLit HZs
 go_wp2_with (first
  | (refine Rg.run rfl _ _ (run_alloc_tree _ _ _ w4.heap.size rfl rfl) ?_)
  | (refine wpl_store_tree HN.out (by decide) p4 rfl _ _ rfl rfl rfl ?_; intro w5 hO5 hu5; have HB5:=hid (hu5.below (al1 w4 (.cells #[.pointer none] 28)) (Nat.le_refl _)); have HA0:Hid (A10 w M4 w5 w.heap.size (w.heap.size+1) w4.heap.size p4 TT A B):=hid ⟨(HL4.out.below (al1 _ _)).upd hu5 hz4 HFr4.out,HA4.out.below HB5.out,HB4.out.below HB5.out,HLa.out,HLb.out,⟨hO5,HFr4.out,one_no p4⟩,HT4.out⟩; clear hO5 hu5)
  | (refine Rg.run rfl _ _ (op_load_tree (own_cell (j:=0) HA0.out.bT.o rfl) ⟨_,rfl,rfl⟩) ?_))
 obtain ⟨g3,hg3⟩:∃ g3,w4.heap.size=g3:=⟨_,rfl⟩
 rw [hg3] at HA0;rw [hg3];clear HN HL4 HT4 HFr4 hz4 hg3 HB5 HA4 HB4;refine (HPs.out M4 w5 p4 HA0.out.l.i HA0.out.hT HA0.out.l.t).mono ?_;rintro e w6 ⟨v6,rfl,hr,f6,i6,t6⟩;have HA6:=hid (HA0.out.fr f6 i6 t6);obtain ⟨g,c6,e6,hcx⟩:∃ g c,v6 = .slice (some ⟨g,0,none⟩) 2 c∧Cx M4 w6 g 32 (.string ⟨#[120]⟩):=by
  have hr':=hr;rcases hr.2 with ⟨_,h2⟩ | ⟨g,cap,cur,rfl,hg,_⟩
  ·cases h2
  ·refine ⟨g,cap,rfl,?_,HA0.out.l.i.out hg⟩;have hk:∀ x∈([(A,⟨#[120]⟩),(B,⟨#[121]⟩)]:List Tr.Pair),x.1.length=32:=fun x hx=>by
    rcases List.mem_cons.1 hx with rfl | hx
    ·exact HLa.out
    ·rw [List.mem_singleton.1 hx]; exact HLb.out
   have h3:=rowP_at _ hk 0 32 (by simp) (by omega);have h4:=hr'.cells (g:=g) rfl (0*33+32) (.string ⟨#[120]⟩) (by
    rw [h3];show (pairC (A,⟨#[120]⟩))[32]? = _;unfold pairC;rw [List.getElem?_append_right (by simp [HLa.out])];simp [HLa.out])
   rw [Addr.add_mid] at h4;exact h4
 subst e6;have HX6:=hid hcx;clear hr f6 i6 t6 hcx HA0 HPs;go_wp2_with (first
  | (refine Rg.run rfl _ _ (op_load_tree (own_cell (j:=0) HA6.out.bT.o rfl) ⟨_,rfl,rfl⟩) ?_)
  | (refine Rg.run rfl _ _ (op_load_key HLa.out HA6.out.ka.2 ⟨_,rfl,rfl⟩) ?_))
 refine (HNx.out M4 w6 p4 HA6.out.l.i HA6.out.hT HA6.out.l.t).mono ?_;intro e w7 hG;obtain ⟨rfl,hA7,f7⟩:=HA6.out.say hG;have HA7:=hid hA7;have HX7:=hid (HX6.out.fr f7);have hal7:=al1 w7 (.cells (pairA pr0) 33);have HP7:=hid (Rg.Own.new w7 (pairA pr0) 33);clear hG hA7 f7 HA6 HX6 HNx;go_wp2_with (first
  | (refine Rg.run rfl _ _ (run_alloc_pair _ _ _ w7.heap.size rfl rfl) ?_)
  | (refine wpl_store_pair HP7.out pr0_len (B,⟨#[121]⟩) HLb.out rfl _ _ rfl rfl rfl rfl ?_; intro w8 hO8 hu8; have hb8:=hu8.below hal7 (Nat.le_refl _); have HA8:=hid (HA7.out.below hb8); have HX8:=hid (HX7.out.below hb8); have HY8:Hid (Cx M4 w8 w7.heap.size 32 (.string ⟨#[121]⟩)):=hid ⟨(PairAt.own hO8).val HLb.out,HA7.out.l.i.out (Nat.le_refl _)⟩; clear hO8 hu8 hb8)
  | (refine Rg.run rfl _ _ (op_load_tree (own_cell (j:=0) HA8.out.bT.o rfl) ⟨_,rfl,rfl⟩) ?_))
 obtain ⟨g5,hg5⟩:∃ g5,w7.heap.size=g5:=⟨_,rfl⟩
 rw [hg5] at HY8;rw [hg5];clear hg5 HA7 HX7 HP7 hal7;refine (HCo.out M4 w8 p4 HA8.out.l.i HA8.out.hT HA8.out.l.t).mono ?_;intro e w9 hG;obtain ⟨rfl,hA9,f9⟩:=HA8.out.say hG;have HA9:=hid hA9;have hx9:=(HX8.out.fr f9).1;have hy9:=(HY8.out.fr f9).1;clear hG hA9 f9 HA8 HX8 HY8 HCo;go_wp2_with (first
  | (refine Rg.runW (by rfl) _ _ (op_load_tree (own_cell (j:=0) HA9.out.bT.o rfl) ⟨_,rfl,rfl⟩) ?_)
  | (refine Rg.run rfl _ _ (op_load_tree (own_cell (j:=0) HA9.out.bT.o rfl) ⟨_,rfl,rfl⟩) ?_))
 refine (HDe.out M4 w9 p4 HA9.out.l.i HA9.out.hT HA9.out.l.t).mono ?_;intro e w10 hG;obtain ⟨rfl,hA10,f10⟩:=HA9.out.say hG;have HA10:=hid hA10;clear hG hA10 f10 HA9 HDe hx9 hy9;go_wp2_with (first
  | (refine Rg.runW (by rfl) _ _ (op_load_tree (own_cell (j:=0) HA10.out.bT.o rfl) ⟨_,rfl,rfl⟩) ?_)
  | (refine Rg.runW (by rfl) _ _ (op_load_key HLa.out HA10.out.ka.2 ⟨_,rfl,rfl⟩) ?_))
 refine (HPt.out M4 w10 p4 HA10.out.l.i HA10.out.hT HA10.out.l.t).mono ?_;rintro e w11 ⟨a11,c11,rfl,f11,i11,t11⟩;have HA11:=hid (HA10.out.fr f11 i11 t11);clear f11 i11 t11 HA10 HPt;go_wp2_with (first
  | (refine Rg.runW (by rfl) _ _ (op_load_key HLa.out HA11.out.ka.2 ⟨_,rfl,rfl⟩) ?_)
  | (refine Rg.runW (by rfl) _ _ (op_load_key HLb.out HA11.out.kb.2 ⟨_,rfl,rfl⟩) ?_))
 refine (HLs.out w11).mono ?_;rintro e w12 ⟨rfl,hb12⟩;have HB:=hid (HA11.out.l.below hb12).b;clear hb12 HA11 HLs;go_wp2;go_ret;exact ⟨rfl,HB.out⟩
end Tm
end
section
open Go.RowKit
namespace Tm
open Tr Ni Pk Ky
theorem under_pairs:Tryz.prog.underlying 22=some (.slice (Tryz.prog.elem 22)):=by kernel_rfl
theorem size_pair (w:World):(sizeOf (Tryz.prog.elem 22)).run Tryz.prog w = .ok 33 w:=by kernel_rfl
def fromB (s:Nat) (a:Option Addr) (c i:Nat):Option Addr:=if c=i then a else a.map (·.add (i*s))
section
variable {P:Program} {t:TypeId} {a:Option Addr} {n c s:Nat}
theorem run_fromB (ht:P.underlying t=some (.slice (P.elem t))) (hs:∀ w,(sizeOf (P.elem t)).run P w = .ok s w) (i:Nat) (hi:i≤n) (w:World) :
  (Instr.sliceAt t (.slice a n c) (some (.int .i64 i)) none none).run P w = .ok (.slice (fromB s a c i) (n-i) (c-i)) w:=by
 rw [run_sliceAt_slice (h:=ht),run_slice_l w t a n c ht .i64 i (by omega) (by omega),hs];simp [Result.andThen,sliced,fromB]
theorem run_uptoB (ht:P.underlying t=some (.slice (P.elem t))) (hs:∀ w,(sizeOf (P.elem t)).run P w = .ok s w) (j:Nat) (hj:j≤c) (w:World) :
  (Instr.sliceAt t (.slice a n c) none (some (.int .i64 j)) none).run P w = .ok (.slice a j c) w:=by
 rw [run_sliceAt_slice (h:=ht),run_slice_h w t a n c ht .i64 j (by omega) (by omega),hs];have:a.map (fun x=>x.add 0)=a:=by cases a <;> simp [Addr.add]
 simp [Result.andThen,sliced,this]
end
theorem op_fromB {P:Program} {t:TypeId} {a:Option Addr} {n c s:Nat} {ev:Operand→Value} {o:Oper} {w:World} {i:Nat} (ht:P.underlying t=some (.slice (P.elem t))) (hs:∀ w,(sizeOf (P.elem t)).run P w = .ok s w) (hi:i≤n)
  (ho:∃ x lo,o.op = .slice t x (some lo) none none∧ev x = .slice a n c∧ev lo = .int .i64 i):(execOp ev o).run P w = .ok (.value (.slice (fromB s a c i) (n-i) (c-i))) w:=by
 obtain ⟨x,lo,ho,hx,hl⟩:=ho;unfold execOp;simp only [ho,hx,hl,Option.map_some,Option.map_none,Sem.run_bind,Sem.run_pure,Result.andThen_ok,run_fromB ht hs i hi]
theorem op_uptoB {P:Program} {t:TypeId} {a:Option Addr} {n c s:Nat} {ev:Operand→Value} {o:Oper} {w:World} {j:Nat} (ht:P.underlying t=some (.slice (P.elem t))) (hs:∀ w,(sizeOf (P.elem t)).run P w = .ok s w) (hj:j≤c)
  (ho:∃ x hi,o.op = .slice t x none (some hi) none∧ev x = .slice a n c∧ev hi = .int .i64 j):(execOp ev o).run P w = .ok (.value (.slice a j c)) w:=by
 obtain ⟨x,lo,ho,hx,hl⟩:=ho;unfold execOp;simp only [ho,hx,hl,Option.map_some,Option.map_none,Sem.run_bind,Sem.run_pure,Result.andThen_ok,run_uptoB ht hs j hj]
theorem getD_drop {α:Type} {l:List α} {d : α} (i j:Nat):(l.drop i).getD j d=l.getD (i+j) d:=by simp [List.getD]
theorem getD_take {α:Type} {l:List α} {d : α} {i j:Nat} (h:j<i):(l.take i).getD j d=l.getD j d:=by simp [List.getD,h]
theorem IsPs.from' {w:World} {a:Option Addr} {n c:Nat} {l:List Tr.Pair} (h:IsPs w a n c l) (i:Nat) (hi:i≤n):IsPs w (fromB 33 a c i) (n-i) (c-i) (l.drop i):=by
 have h1:=h.1;have h2:=h.2.1;refine ⟨by omega,by omega,by rw [List.length_drop,h.len],fun e=>?_,fun x hx=>h.keys x (List.mem_of_mem_drop hx),fun j hj=>?_⟩
 ·unfold fromB at e;split at e
  ·omega
  ·have:a=none:=by simpa using e
   have:=h.2.2.2.1 this;omega
 ·obtain ⟨b,off,e,hlt,hp⟩:=h.2.2.2.2.2 (i+j) (by omega);refine ⟨b,off+i*33,?_,hlt,?_⟩
  ·unfold fromB;rw [if_neg (by omega),e];simp [Addr.add_mid]
  ·rw [getD_drop,show off+i*33+j*33=off+(i+j)*33 by omega];exact hp
theorem IsPs.upto {w:World} {a:Option Addr} {n c:Nat} {l:List Tr.Pair} (h:IsPs w a n c l) (i:Nat) (hi:i≤n):IsPs w a i c (l.take i):=by
 have h1:=h.1;refine ⟨by omega,h.2.1,by rw [List.length_take,h.len]; omega,h.2.2.2.1,fun x hx=>h.keys x (List.mem_of_mem_take hx),fun j hj=>?_⟩;obtain ⟨b,off,e,hlt,hp⟩:=h.2.2.2.2.2 j (by omega);exact ⟨b,off,e,hlt,by rw [getD_take hj]; exact hp⟩
theorem wpl_append_pairs {ops:Array Oper} {rest:List Oper} {o:Oper} {a:Go.Act} {w:World} {Q:Exit→Go.Act→World→Prop} {B:Nat} {v:Value} {ad:Option Addr} {nx m c:Nat} {xs ys:List Tr.Pair} (hgd:o.guard=none) (s x:Operand) (ho:o.op = .call { callee:=.builtin .append,args:=#[s,x],argTypes:=#[22,22] })
  (hs:a.eval s=v) (hx:a.eval x = .slice ad m c) (hR:w.ownsRow B 33 33 v nx (rowP xs)) (hS:IsPs w ad m c ys) (hn:nx+m≤1000000) (hB:B≤w.heap.size)
  (h:∀ v' w',w'.ownsRow B 33 33 v' (nx+m) (rowP (xs++ys))→w.grownBy w' v.ownBlock→(v'.ownBlock=v.ownBlock∨v'.ownBlock=some w.heap.size)→wpList Tryz.prog ops Q rest (a.put o.dst v') w'):wpList Tryz.prog ops Q (o::rest) a w:=by
 obtain ⟨i0,z0,hi,hz,hsz,hby,hzc⟩:=info_pair_parts;have hl:=hS.len;rcases ad with _ | ad
 ·have hc:c=0:=hS.2.2.2.1 rfl;have hm:m=0:=by have:=hS.1; omega
  subst hc;subst hm;have hy:ys=[]:=List.length_eq_zero_iff.1 hl;subst hy;refine wpList_append_own_none hgd s x 22 ho B 33 i0 33 Tryz.underlying22 hi v nx (rowP xs) hs hR hx (h v w ?_ ⟨rfl,rfl,rfl,Nat.le_refl _,fun _ _ _=>rfl⟩ (.inl rfl));rw [List.append_nil];exact hR
 ·refine wpList_append_own_at w hgd s x 22 ho B 33 i0 z0 33 48 Tryz.underlying22 hi hz hsz hby hzc (by decide) v nx (rowP xs) hs hR ad m c (rowP ys) hx (by rw [rowP_len ys hS.keys,hl]) (fun j u hu=>?_) (rowP_one ys) (by unfold maxLen; omega) (by omega) hB (fun v' w' h1 h2 _ h4=>h v' w' ?_ h2 h4)
  ·have hj:j<ys.length*33:=by
    have:=(List.getElem?_eq_some_iff.1 hu).1;rwa [rowP_len ys hS.keys] at this
   obtain ⟨b,off,e,_,hp⟩:=hS.2.2.2.2.2 (j/33) (by omega);obtain rfl:=Option.some.inj e;have hk:(rowP ys)[j/33*33+j%33]? = (pairC (ys.getD (j/33) ([],eB)))[j%33]? := rowP_at ys hS.keys (j/33) (j%33) (by omega) (Nat.mod_lt _ (by decide));rw [show j/33*33+j%33=j by omega,hu] at hk;have:=hp (j%33) u hk.symm;rw [Addr.add_mid,show off+j=off+j/33*33+j%33 by omega];exact this
  ·rw [show rowP (xs++ys)=rowP xs++rowP ys by simp [rowP]];exact h1
theorem op_lit_none {ev:Operand→Value} {o:Oper} {w:World} (b:Nat) (hb:b=w.heap.size) (ho:o.op = .buildSlice 22 0 #[]) :
  (execOp ev o).run Tryz.prog w = .ok (.value (.slice (some ⟨b,0,none⟩) 0 0)) (w.alloc (.cells #[] 33)):=by
 subst hb;unfold execOp;rw [ho];kernel_rfl
theorem ins_stop:∀ (S:List Tr.Pair) (x:Tr.Pair) (k:Nat),k≤S.length→(∀ y∈S.take k,ltP y.1 x.1=true)→(k<S.length→ltP (S.getD k ([],eB)).1 x.1=false) →
  insP S x=(S.take k++[x])++S.drop (if k<S.length∧(S.getD k ([],eB)).1=x.1 then k+1 else k)
 | [],x,k,hk,_,_=>by
  obtain rfl:k=0:=by simpa using hk
  rfl
 | y::r,x,0,_,_,h2=>by
  have h:=h2 (by simp);have h':ltP y.1 x.1=false:=h;unfold insP;rw [if_neg (by rw [h']; decide)];by_cases e:y.1=x.1
  ·rw [if_pos e,if_pos ⟨by simp,e⟩];rfl
  ·rw [if_neg e,if_neg (fun g=>e g.2)];rfl
 | y::r,x,k+1,hk,h1,h2=>by
  have hy:=h1 y (by simp);have ih:=ins_stop r x k (by simpa using hk) (fun z hz=>h1 z (by rw [List.take_succ_cons]; exact List.mem_cons_of_mem _ hz)) (fun g=>h2 (by simpa using g));unfold insP;rw [if_pos hy,ih];have e:(k+1<(y::r).length∧((y::r).getD (k+1) ([],eB)).1=x.1)↔(k<r.length∧(r.getD k ([],eB)).1=x.1):=by simp [List.getD]
  by_cases g:k<r.length∧(r.getD k ([],eB)).1=x.1
  ·rw [if_pos g,if_pos (e.2 g)];rfl
  ·rw [if_neg g,if_neg (fun g'=>g (e.1 g'))];rfl
theorem ins_len1:∀ (S:List Tr.Pair) (x:Tr.Pair),(insP S x).length≤S.length+1
 | [],_=>Nat.le_refl _
 | y::r,x=>by
  have:=ins_len1 r x;unfold insP;split
  ·simp only [List.length_cons]; omega
  ·split
   ·simp
   ·simp
theorem ins_keys:∀ (S:List Tr.Pair) (x:Tr.Pair),(∀ y∈S,y.1.length=32)→x.1.length=32→∀ y∈insP S x,y.1.length=32
 | [],x,_,hx,y,hy=>by rw [List.mem_singleton.1 hy]; exact hx
 | z::r,x,h,hx,y,hy=>by
  unfold insP at hy;split at hy
  ·rcases List.mem_cons.1 hy with rfl | hy
   ·exact h _ List.mem_cons_self
   ·exact ins_keys r x (fun y hy=>h y (List.mem_cons_of_mem _ hy)) hx y hy
  ·split at hy
   ·rcases List.mem_cons.1 hy with rfl | hy
    ·exact hx
    ·exact h _ (List.mem_cons_of_mem _ hy)
   ·rcases List.mem_cons.1 hy with rfl | hy
    ·exact hx
    ·exact h _ hy
theorem sort_take {l:List Tr.Pair} {j:Nat} (h:j<l.length):sortL (l.take (j+1))=insP (sortL (l.take j)) (l.getD j ([],eB)):=by rw [take_at h,sortL_snoc]
theorem sort_len (l:List Tr.Pair):∀ j,(sortL (l.take j)).length≤j
 | 0=>Nat.le_refl _
 | j+1=>by
  have:=sort_len l j;by_cases h:j<l.length
  ·rw [sort_take h];exact Nat.le_trans (ins_len1 _ _) (by omega)
  ·rw [List.take_of_length_le (by omega),← List.take_of_length_le (i:=j) (l:=l) (by omega)];omega
theorem sort_keys {l:List Tr.Pair} (hl:∀ x∈l,x.1.length=32):∀ j,∀ y∈sortL (l.take j),y.1.length=32
 | 0,y,hy=>by cases hy
 | j+1,y,hy=>by
  have ih:=sort_keys hl j;by_cases h:j<l.length
  ·rw [sort_take h] at hy;exact ins_keys _ _ ih (hl _ (getD_mem h)) y hy
  ·rw [List.take_of_length_le (by omega),← List.take_of_length_le (i:=j) (l:=l) (by omega)] at hy;exact ih y hy
end Tm
end
section
open Go.RowKit
namespace Tm
open Tr Ni Pk Ky No Rf Rl Rf2
theorem sort32 {l:List Tr.Pair} (hk:∀ x∈l,x.1.length=32):∀ z∈sortL l,z.1.length=32:=by
 have h:=sort_keys hk l.length;rwa [List.take_of_length_le (Nat.le_refl _)] at h
theorem sortlen (l:List Tr.Pair):(sortL l).length≤l.length:=by
 have h:=sort_len l l.length;rwa [List.take_of_length_le (Nat.le_refl _)] at h
theorem cnt_few {t:T} {l:List Tr.Pair} (h:Has t (lastL l)) (h1:∀ x∈l,x.1.length=32) (h2:∀ x∈l,x.2.size≠0∧x.2.size≤65552) (hl:l.length≤24):cntT t≤200000:=by
 by_cases hn:t = .nil
 ·subst hn;show 1≤200000;omega
 ·rw [cnt_nodes t 64 h.good h.full hn,h.built h1 h2];have h3:=nodes_few 64 (insL l) (ok_ins h1);have h4:(insL l).length≤24:=Nat.le_trans (ins_len _) hl;have h5:(64+1)*(insL l).length≤65*24:=Nat.mul_le_mul (Nat.le_refl _) h4;omega
end Tm
end
section
open Go.RowKit
namespace Tm
open Tr Ni Pk Ky
theorem less_at {a b:List UInt8} {j:Nat} (ha:j<a.length) (hb:j<b.length) (h:a.take j=b.take j) (hne:a.getD j 0≠b.getD j 0):ltP a b=decide ((a.getD j 0).toNat<(b.getD j 0).toNat):=by
 have e1:a=a.take j++a.getD j 0::a.drop (j+1):=by
  have:a.getD j 0=a[j]:=by simp [List.getD,ha]
  rw [this,List.getElem_cons_drop,List.take_append_drop]
 have e2:b=a.take j++b.getD j 0::b.drop (j+1):=by
  have:b.getD j 0=b[j]:=by simp [List.getD,hb]
  rw [this,List.getElem_cons_drop,h,List.take_append_drop]
 generalize a.getD j 0=x at *
 generalize b.getD j 0=y at *
 rw [e1,e2,ltP_append];simp [ltP,hne]
theorem take_eq {a b:List UInt8} {j:Nat} (ha:j<a.length) (hb:j<b.length) (h:a.take j=b.take j) (he:a.getD j 0=b.getD j 0):a.take (j+1)=b.take (j+1):=by
 have e1:a.getD j 0=a[j]:=by simp [List.getD,ha]
 have e2:b.getD j 0=b[j]:=by simp [List.getD,hb]
 rw [List.take_succ_eq_append_getElem ha,List.take_succ_eq_append_getElem hb,h,← e1,← e2,he]
theorem rless_any (a b:List UInt8) (ha:a.length=32) (hb:b.length=32) (w:World) :
  Calls Tryz.prog 12 #[.agg (kc a),.agg (kc b)] w fun e w'=>e = .returned (.bool (ltP a b))∧Below w.heap.size w w':=by
 obtain ⟨w2,hw2⟩:∃ w2,w2=(w.alloc (.cells (kc a) 24)).alloc (.cells (kc b) 24):=⟨_,rfl⟩
 have hB2:Below w.heap.size w w2:=by rw [hw2]; exact ((Below.refl _ _).alloc (Nat.le_refl _) _).alloc (by simp) _
 have hs2:w2.heap.size=w.heap.size+2:=by rw [hw2]; simp
 have h1:∀ q,q<32→w2.cell? ⟨w.heap.size,q,none⟩=some (.int .u8 (a.getD q 0).toNat):=fun q hq=>by
  have hb:Below (w.alloc (.cells (kc a) 24)).heap.size (w.alloc (.cells (kc a) 24)) w2:=by rw [hw2]; exact (Below.refl _ _).alloc (Nat.le_refl _) _
  rw [hb.cell (p:=⟨w.heap.size,q,none⟩) (by simp),World.cell?_alloc_mark];simp [kc,List.getD,ha,hq]
 have h2:∀ q,q<32→w2.cell? ⟨w.heap.size+1,q,none⟩=some (.int .u8 (b.getD q 0).toNat):=fun q hq=>by
  rw [hw2];rw [show w.heap.size+1=(w.alloc (.cells (kc a) 24)).heap.size by simp,World.cell?_alloc_mark];simp [kc,List.getD,hb,hq]
 have H1:=hid h1;have H2:=hid h2;have HB2:=hid hB2;have HW:Hid (_=_):=hid hw2;have HLa:=hid ha;have HLb:=hid hb;obtain ⟨A,hA⟩:∃ C,kc a=C:=⟨_,rfl⟩
 obtain ⟨B,hB⟩:∃ C,kc b=C:=⟨_,rfl⟩
 rw [hA,hB] at HW;rw [hA,hB];clear hA hB hw2 h1 h2 hB2 ha hb hs2;go_enter Tryz.func12,Tryz.ntmps12;go_wp2_with fail
 rw [← HW.out];clear HW;go_loopw [5] (fun i wr=>∃ j:Nat,j≤32∧i = .int .i64 j∧Hid (a.take j=b.take j)∧∃ q,wr=w2.drewN q) (fun i _=>32-(intOf i).toNat)
 case atStart=>exact ⟨0,Nat.zero_le _,rfl,hid rfl,0,rfl⟩
 case round =>
  obtain ⟨j,hj,rfl,HT,q,rfl⟩:=hrel;by_cases hlt:j<32
  ·have c1:=H1.out j hlt;have c2:=H2.out j hlt;obtain ⟨x,hx⟩:∃ x,a.getD j 0=x:=⟨_,rfl⟩
   obtain ⟨y,hy⟩:∃ y,b.getD j 0=y:=⟨_,rfl⟩
   rw [hx] at c1;rw [hy] at c2;have hx8:=x.toNat_lt;have hy8:=y.toNat_lt;by_cases he:x=y
   ·have HN:=hid (take_eq (by rw [HLa.out]; exact hlt) (by rw [HLb.out]; exact hlt) HT.out (hx.trans (he.trans hy.symm)));subst he;clear hx hy;obtain ⟨u,hu⟩:∃ u,x.toNat=u:=⟨_,rfl⟩
    rw [hu] at c1 c2 hx8;clear hu hy8;go_wp2_with fail
    go_quiet (fail)
    go_wp2;go_roundw
    case rel=>exact ⟨j+1,by omega,by go_num,HN,(by first | exact ⟨_,rfl⟩ | exact ⟨_,World.drewN_drewN ..⟩)⟩
    case measure=>simp [intOf]; omega
   ·have HE:Hid (ltP a b=decide (x.toNat<y.toNat)):=hid (by
     have:=less_at (a:=a) (b:=b) (j:=j) (by rw [HLa.out]; exact hlt) (by rw [HLb.out]; exact hlt) HT.out (by rw [hx,hy]; exact he);rw [hx,hy] at this;exact this)
    have hne:x.toNat≠y.toNat:=fun k=>he (UInt8.toNat_inj.1 k);clear hx hy he;obtain ⟨u,hu⟩:∃ u,x.toNat=u:=⟨_,rfl⟩
    obtain ⟨v,hv⟩:∃ v,y.toNat=v:=⟨_,rfl⟩
    rw [hu] at c1 hx8 hne HE;rw [hv] at c2 hy8 hne HE;clear hu hv;have hd:((u:Int) != (v:Int))=true:=by simp; omega
    have hr:decide ((u:Int)<(v:Int))=decide (u<v):=by
     by_cases h:u<v
     ·rw [decide_eq_true h,decide_eq_true (by omega)]
     ·rw [decide_eq_false h,decide_eq_false (by omega)]
    have HR:=hid hr;clear hr;go_wp2_with fail
    go_quiet (fail)
    go_wp2_with fail
    go_quiet (fail)
    go_wp2;go_ret;refine ⟨by rw [HE.out,← HR.out]; rfl,?_⟩;repeat rw [World.drewN_drewN]
    exact below_drewN HB2.out _
  ·obtain rfl:j=32:=by omega
   have HE:Hid (ltP a b=false):=hid (by
    have:a=b:=by
     have h:=HT.out;rwa [List.take_of_length_le (by rw [HLa.out]; exact Nat.le_refl _),List.take_of_length_le (by rw [HLb.out]; exact Nat.le_refl _)] at h
    rw [this,ltP_irrefl])
   go_wp2;go_ret;exact ⟨by rw [HE.out]; rfl,below_drewN HB2.out _⟩
end Tm
end
end Go.Proofs.YtnecijeakeklaaaGreatDoor
