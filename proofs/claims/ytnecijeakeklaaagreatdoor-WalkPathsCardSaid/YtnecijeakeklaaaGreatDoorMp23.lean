/-
 Rows of nodes in a box; walk.Path's length.
-/
import Derived.Test.YtnecijeakeklaaaGreatDoorMp22
import Derived.Test.YtnecijeakeklaaaGreatDoorMp20
import Derived.Test.YtnecijeakeklaaaGreatDoorMp13
import Derived.Test.YtnecijeakeklaaaGreatDoorMp18
import Derived.Maps.AppendAt
import Derived.Laws.AppendOwnNone
import Derived.Test.YtnecijeakeklaaaGreatDoorMp21
open Go.Lib (hid)
set_option linter.unusedSimpArgs false
set_option linter.unusedVariables false
set_option maxHeartbeats 40000000
set_option maxRecDepth 100000
namespace Go.Proofs.YtnecijeakeklaaaGreatDoor
section
open Go.RowKit
namespace Tm
open Tr Ni Pk Ky No Rf Rl Rf2
open Sm (Tab)
theorem rowD_snoc (z:List Nz) (N:Nd) (h:Hdl):rowD (z++[(N,h)])=rowD z++ndL N h:=by simp [rowD]
def RowNd (B:Nat) (w:World) (v:Value) (z:List Nz):Prop:=w.ownsRow B 56 19 v z.length (rowD z)
theorem run_push_nd {w:World} {ty:TypeId} {B b2:Nat} {v:Value} {z:List Nz} {N:Nd} {h:Hdl} (hR:RowNd B w v z) (h2:Rg.Own w b2 (ndC N h.1 h.2.1 h.2.2) 56) (hl:N.ks.length=16) (hn:z.length≤1000000) (hB:B≤w.heap.size) :
  ∃ v' w',(Builtin.append_ #[48,48] ty #[v,.slice (some ⟨b2,0,none⟩) 1 1]).run Tryz.prog w = .ok v' w'∧RowNd B w' v' (z++[(N,h)])∧w.grownBy w' v.ownBlock∧(v'.ownBlock=v.ownBlock∨v'.ownBlock=some w.heap.size):=by
 obtain ⟨i0,z0,hi,hz,hsz,hby,hzc⟩:=info_nd_parts;obtain ⟨v',w',hr,h3,h4,_,h5⟩:=run_append_own_at (P:=Tryz.prog) w B 48 ty 56 i0 z0 19 304 Tryz.underlying48 hi hz hsz hby hzc (by decide) v z.length _ hR ⟨b2,0,none⟩ 1 1 (ndL N h) (ndL_len hl)
  (fun j u hu=>by
   rw [Addr.add_mid,Nat.zero_add];have:(ndC N h.1 h.2.1 h.2.2)[j]? = some u:=by
    rw [← hu];unfold ndC ndL;simp
   exact own_cell h2 this)
  (ndL_one N h) (by unfold maxLen; omega) (by omega) hB
 exact ⟨v',w',hr,by unfold RowNd; rw [List.length_append,rowD_snoc]; exact h3,h4,h5⟩
theorem wpl_push_nd {ops:Array Oper} {rest:List Oper} {o:Oper} {a:Go.Act} {w:World} {Q:Exit→Go.Act→World→Prop} {B b2:Nat} {v:Value} {z:List Nz} {N:Nd} {h:Hdl} (hR:RowNd B w v z) (h2:Rg.Own w b2 (ndC N h.1 h.2.1 h.2.2) 56) (hl:N.ks.length=16) (hn:z.length≤1000000) (hB:B≤w.heap.size) (hgd:o.guard=none)
  (ho:∃ s y,o.op = .call { callee:=.builtin .append,args:=#[s,y],argTypes:=#[48,48] }∧a.eval s=v∧a.eval y = .slice (some ⟨b2,0,none⟩) 1 1)
  (H:∀ v' w',RowNd B w' v' (z++[(N,h)])→w.grownBy w' v.ownBlock→(v'.ownBlock=v.ownBlock∨v'.ownBlock=some w.heap.size)→wpList Tryz.prog ops Q rest (a.put o.dst v') w'):wpList Tryz.prog ops Q (o::rest) a w:=by
 obtain ⟨s,y',ho,hs,hy⟩:=ho;obtain ⟨v',w',hr,h3,h4,h5⟩:=run_push_nd (ty:=o.type) hR h2 hl hn hB;refine wpList_run hgd v' w' ?_ (H v' w' h3 h4 h5);unfold execOp;simp only [ho,resolve,invoke,builtin,Sem.run_bind,Sem.run_pure,Result.andThen_ok,List.map_toArray,List.map_cons,List.map_nil,hs,hy,hr]
theorem op_load_nds {ev:Operand→Value} {o:Oper} {w:World} {b off:Nat} {v:Value} (hc:w.cell? ⟨b,off,none⟩=some v) (ho:∃ x,o.op = .load 48 x∧ev x = .pointer (some ⟨b,off,none⟩)) :
  (execOp ev o).run Tryz.prog w = .ok (.value v) w:=by
 obtain ⟨x,ho,hx⟩:=ho;unfold execOp;simp [ho,hx,go_sem,hc]
structure NdI (M:Mp) (B bx:Nat) (z:List Nz) (K:Nat→Prop) (w:World) (v:Value):Prop where
 o:Rg.Own w bx #[v] 48
 r:RowNd B w v z
 k:∀ k,K k↔k=bx∨v.ownBlock=some k
 nb:v.ownBlock≠some bx
 bb:B≤bx
 u:∀ k,B≤k→M.at_ k=none ∧ ¬ M.ft k
theorem NdI.keep {M:Mp} {B bx:Nat} {z:List Nz} {K:Nat→Prop} {w w':World} {v:Value} (h:NdI M B bx z K w v) (hs:w.heap.size≤w'.heap.size) (hk:∀ k,K k→w'.heap[k]? = w.heap[k]?):NdI M B bx z K w' v :=
 ⟨⟨Nat.lt_of_lt_of_le h.o.1 hs,(hk bx ((h.k bx).2 (.inl rfl))).trans h.o.2⟩,owns_same h.r fun k e=>hk k ((h.k k).2 (.inr e)),h.k,h.nb,h.bb,h.u⟩
theorem NdI.lt {M:Mp} {B bx:Nat} {z:List Nz} {K:Nat→Prop} {w:World} {v:Value} (h:NdI M B bx z K w v):∀ k,K k→k<w.heap.size∧M.at_ k=none ∧ ¬ M.ft k:=fun k hk=>by
 rcases (h.k k).1 hk with rfl | e
 ·exact ⟨h.o.1,h.u k h.bb⟩
 ·exact ⟨(h.r.lt k e).2,h.u k (h.r.lt k e).1⟩
def ndsOf (V:List Pl):List Nd:=(V.filter fun x=>isNode x.1).map fun x=>nodeT x.1
theorem ndsOf_snoc (V:List Pl) (x:Pl):ndsOf (V++[x])=ndsOf V++if isNode x.1 then [nodeT x.1] else []:=by
 unfold ndsOf;rw [List.filter_append,List.map_append];cases h:isNode x.1 <;> simp [h]
def NdB (M:Mp) (B bx:Nat) (V:List Pl) (K:Nat→Prop) (w:World):Prop:=∃ z v,z.map Prod.fst=ndsOf V∧NdI M B bx z K w v
theorem ndb_sta (M:Mp) (B bx:Nat):Sta M (NdB M B bx):=⟨fun _ _ _ _ ⟨z,v,e,h⟩ hs hk=>⟨z,v,e,h.keep hs hk⟩,fun _ _ _ ⟨_,_,_,h⟩=>h.lt⟩
theorem ndI_push {M:Mp} {B bx:Nat} {z z':List Nz} {K:Nat→Prop} {w w5:World} {v v':Value} (h:NdI M B bx z K w v) (hi:Inv M w) (ht:Tab w) (hz:1<B) (hb:Bo2 K w w5)
  (ho:Rg.Own w5 bx #[v'] 48) (hr:RowNd B w5 v' z') (hl:v'.ownBlock=v.ownBlock∨∃ k,w.heap.size≤k∧v'.ownBlock=some k):∃ K',NdI M B bx z' K' w5 v'∧(∀ k,K' k→K k∨w.heap.size≤k)∧Inv M w5∧Tab w5:=by
 refine ⟨fun k=>k=bx∨v'.ownBlock=some k,⟨ho,hr,fun k=>Iff.rfl,fun e=>?_,h.bb,h.u⟩,fun k hk=>?_,hi.keep hb.size fun k hk=>hb.block k (hi.lt_ k hk) fun g=>?_,fun j hj=>?_⟩
 ·rcases hl with e2 | ⟨k,hk,e2⟩
  ·exact h.nb (by rw [← e2]; exact e)
  ·rw [e2] at e;have:=Option.some.inj e;have:=h.o.1;omega
 ·rcases hk with rfl | e
  ·exact .inl ((h.k _).2 (.inl rfl))
  ·rcases hl with e2 | ⟨k',hk,e2⟩
   ·exact .inl ((h.k _).2 (.inr (by rw [← e2]; exact e)))
   ·rw [e2] at e;have:=Option.some.inj e;exact .inr (by omega)
 ·rcases (h.k k).1 g with rfl | e
  ·exact (h.u _ h.bb).2 hk
  ·exact (h.u k (h.r.lt k e).1).2 hk
 ·have hlt:1<w.heap.size:=Nat.lt_of_lt_of_le hz (Nat.le_trans h.bb (Nat.le_of_lt h.o.1));have hnk:¬ K 1:=fun g=>by
   rcases (h.k _).1 g with e | e
   ·have:=h.bb; omega
   ·have:=(h.r.lt _ e).1; omega
  rw [World.cell?_of_block (hb.block 1 hlt hnk)];exact ht j hj
theorem go_sub (I:Pa→Bool):∀ (t:T) (o:Nat) (a:Pa),(goL I t o a).length≤cntT t
 | .nil,_,a=>by unfold goL; split <;> simp [cntT]
 | .leaf _ _,_,a=>by unfold goL; split <;> simp [cntT]
 | .stub _,_,a=>by unfold goL; split <;> simp [cntT]
 | .ext q s,o,a=>by
  have ih:=go_sub I s (o+1) (a++q);unfold goL;split
  ·show (goL I s (o+1) (a++q)).length+1≤1+cntT s;omega
  ·exact Nat.zero_le _
 | .br ks,o,a=>by
  unfold goL;split
  ·show (((kidsOf ks).map fun i=>goL I (ks i) (o+1) (a++[nibOf i])).flatten).length+1≤1+((kidsOf ks).map fun i=>cntT (ks i)).sum;have e:((kidsOf ks).map fun i=>goL I (ks i) (o+1) (a++[nibOf i])).map List.length=(kidsOf ks).map fun i=>(goL I (ks i) (o+1) (a++[nibOf i])).length:=by
    rw [List.map_map];rfl
   rw [List.length_flatten,e];have:=sum_le (f:=fun i=>(goL I (ks i) (o+1) (a++[nibOf i])).length) (g:=fun i=>cntT (ks i)) (kidsOf ks) fun i _=>go_sub I (ks i) (o+1) (a++[nibOf i]);omega
  ·exact Nat.zero_le _
theorem wpath_len (M:Mp) (p:Option Addr) (t:T) (k:List UInt8) (hk:k.length=32) (hg:Tr.Good t 64) (hf:Fine t) (hc:cntT t≤200000) (w:World) (hi:Inv M w) (ht:IsT M p t) (hT:Tab w) :
  Calls Tryz.prog 22 #[tv p,.agg (kc k)] w fun e w'=>∃ a c,e = .returned (.slice a (nodesAt t (pathK k)).length c)∧Fr M M w w'∧Inv M w'∧Tab w':=by
 have hout:∀ k,w.heap.size≤k→M.at_ k=none ∧ ¬ M.ft k:=fun k hk=>⟨hi.out hk,hi.free hk⟩
 have hnib:Nib (pathK k):=fun c hc=>by
  have h:=path_right k;unfold rightB at h;have:=List.all_eq_true.1 h c hc;have:=of_decide_eq_true this;omega
 obtain ⟨w1,hw1⟩:∃ w1,w1=(w.alloc (.cells #[.pointer p] 28)).alloc (.cells (kc k) 24):=⟨_,rfl⟩
 have hb1:Below w.heap.size w w1:=by rw [hw1]; exact al2 _ _ _
 have hs1:w1.heap.size=w.heap.size+2:=by rw [hw1]; simp
 have hT1:Rg.Own w1 w.heap.size #[.pointer p] 28:=by
  have:=(Rg.Own.new w #[.pointer p] 28).below (al1 _ (.cells (kc k) 24));rw [hw1];exact this
 have hK1:Rg.Own w1 (w.heap.size+1) (kc k) 24:=by
  have:=Rg.Own.new (w.alloc (.cells #[.pointer p] 28)) (kc k) 24;rw [hw1];simpa using this
 have HW1:=hid hw1;have HB1:=hid hb1;have HS1:=hid hs1;have HT1:=hid hT1;have HOut:=hid hout;have HI:=hid hi;have HT:=hid hT;have HK1:=hid hK1;have HKl:=hid hk;have HPa:=hid (path_new k hk w1);have HPl:=hid (pathK_length k hk);have HGp:=hid (go_path t 0 [] (pathK k) hnib);have HCn:Hid ((goL (leads (pathK k)) t 0 []).length≤200000):=hid (Nat.le_trans (go_sub (leads (pathK k)) t 0 []) hc);obtain ⟨P,hPP⟩:∃ P,pathK k=P:=⟨_,rfl⟩
 rw [hPP] at HPa HPl HGp HCn ⊢;have HGo:=hid (fun g0 gi bp=>goer_seq M g0 gi 44 #[.pointer (some ⟨bp,0,none⟩)] p t (leads P) (enters_of Tryz.func44 (by kernel_rfl) rfl) hg hf hc ht);obtain ⟨C,hC⟩:∃ C,kc k=C:=⟨_,rfl⟩
 have HC:=hid hC;rw [hC] at hw1 HW1 HK1 HPa ⊢;have hmf:∀ (fn:Fn) (first cap:Array Value) (w:World),(Instr.makeFunc fn first cap).run Tryz.prog w = .ok (.func fn first cap) w:=fun _ _ _ _=>rfl;clear hC hb1 hs1 hT1 hw1 hout hi hT hg hf hc ht hK1 hk hnib hPP;refine calls_marks Tryz.func22 rfl ?_;simp only [Tryz.ntmps22,List.size_toArray,List.length_cons,List.length_nil,Nat.reduceAdd,Nat.reduceSub,Array.replicate_succ,Array.replicate_zero,List.push_toArray,List.append_toArray,List.nil_append,List.cons_append];go_wp2_with (first
  | ((try rw [← HW1.out]); refine Rg.run rfl (.agg C) _ (by rw [← HC.out]; exact op_load_key HKl.out (by rw [HC.out]; exact HK1.out.2) ⟨_,rfl,rfl⟩) ?_))
 refine HPa.out.mono ?_;rintro e w2 ⟨r,rfl,hr,hb2⟩;obtain ⟨w3,hw3⟩:∃ w3,w3=w2.alloc (.cells #[.slice r.1 r.2.1 r.2.2] 51):=⟨_,rfl⟩
 have hal3:=al1 w2 (.cells #[.slice r.1 r.2.1 r.2.2] 51);have hO3:=Rg.Own.new w2 #[.slice r.1 r.2.1 r.2.2] 51;rw [← hw3] at hal3 hO3;obtain ⟨w4,hw4⟩:∃ w4,w4=w3.alloc (.cells #[.slice none 0 0] 48):=⟨_,rfl⟩
 have hal4:=al1 w3 (.cells #[.slice none 0 0] 48);have hO4:=Rg.Own.new w3 #[.slice none 0 0] 48;rw [← hw4] at hal4 hO4;rw [show w3.heap.size=w2.heap.size+1 by rw [hw3]; simp] at hO4;have hb14:=bst (bst hb2 hal3) hal4;have hc4:w4.cell? ⟨w.heap.size,0,none⟩=some (.pointer p):=own_cell (j:=0) (HT1.out.below hb14) rfl;have hr4:BsP (fun b=>w1.heap.size≤b∧b<w2.heap.size) w4 r P:=by
  have h2:BsP (fun b=>w1.heap.size≤b∧b<w2.heap.size) w2 r P:=hr.to fun b hl hp=>⟨hp,hl⟩
  have hb24:=bst hal3 hal4;exact h2.kept hb24.size fun b _ hl=>hb24.block b hl
 have HW3:=hid hw3;have HW4:=hid hw4;have HR4:=hid hr4;have HOp4:=hid (hO3.below hal4);have HO4:=hid hO4;have HB14:=hid (bst HB1.out hb14);have HSz:Hid (w1.heap.size≤w2.heap.size∧w2.heap.size<w2.heap.size+1∧w2.heap.size+1<w4.heap.size):=hid ⟨hb2.size,Nat.lt_succ_self _,hO4.1⟩;clear hr hb2 hal3 hO3 hal4 hO4 hb14 hr4 hw3 hw4;go_wp2_with (first
  | ((try rw [← HW3.out]); (try rw [← HW4.out]); refine Rg.run rfl _ _ (op_load_tree hc4 ⟨_,rfl,rfl⟩) ?_))
 refine (wgoer_any p w4).mono ?_;rintro e w5 ⟨rfl,h5,hb5⟩;have HO5:=hid h5;have HB5:=hid hb5;clear h5 hb5 hc4;go_wp2_with fail
 refine (wgoer1_any (.func (Fn.func 44) #[] #[.pointer (some ⟨w2.heap.size,0,none⟩)]) w4.heap.size w5 rfl).mono ?_;rintro e w6 ⟨rfl,h6,hb6⟩;have HO6:=hid h6;have HB6:=hid hb6;have hb46:=bst HB5.out hb6;have HB46:=hid hb46;have HB16:=hid (bst HB14.out hb46);have HO46:=hid (HO4.out.below hb46);have HOp6:=hid (HOp4.out.below hb46);have HR6:Hid (BsP (fun b=>w1.heap.size≤b∧b<w2.heap.size) w6 r P):=hid (HR4.out.kept hb46.size fun b _ hl=>hb46.block b hl);clear h6 hb6 hb46;go_wp2_with fail
 refine wp_range (gf:=67) (lb:=#[.pointer (some ⟨w4.heap.size,0,none⟩),.pointer (some ⟨w5.heap.size,0,none⟩)]) (K0:=fun k=>k=w2.heap.size+1) rfl (enters_of Tryz.func67 (by kernel_rfl) rfl) (HGo.out _ _ w2.heap.size) (fun x W args h=>by rw [goA_size h]; rfl) ?pre (HI.out.below HB16.out) (HT.out.below HB16.out HT.out.pos) (ndb_sta M w.heap.size (w2.heap.size+1)) (Ix:=fun _ _ _ _=>False) (fun _=>no_sta M) ?start ?round ?done ?stop
 case pre =>
  intro W1 K1 hb hK;obtain ⟨z1,z2,z3⟩:=HSz.out;have z0:=HS1.out;have z5:w4.heap.size<w5.heap.size:=HO5.out.1;have z6:w5.heap.size<w6.heap.size:=HO6.out.1;have hKn:∀ b,b<w6.heap.size→b≠w2.heap.size+1 → ¬ K1 b:=fun b h1 h2 h3=>(hK b h3).elim h2 (by omega);have hq:BsP (fun b=>M.at_ b=none ∧ ¬ K1 b) W1 r P:=by
   exact (HR6.out.kept hb.size fun b _ hl=>hb.block b hl).to fun b _ hp=>⟨(HOut.out b (by omega)).1,hKn b (by omega) (by omega)⟩
  refine ⟨own_cell (j:=0) ((HO5.out.below HB6.out).below hb) rfl,own_cell (j:=0) (HO6.out.below hb) rfl,(HOut.out _ (by omega)).1,hKn _ (by omega) (by omega),fun wr f pp o h a ha hl=>?_⟩;exact into_path w2.heap.size r P HPl.out wr (own_cell (j:=0) (own_frK f (HOp6.out.below hb) ⟨(HOut.out _ (by omega)).1,hKn _ (by omega) (by omega)⟩) rfl) (hq.kept f.size fun b hp hl=>f.block b hl hp.1 hp.2).1 pp o h a ha hl
 case start=>exact ⟨[],.slice none 0 0,rfl,HO46.out,World.ownsRow_nil _ _ _ _,fun k=>by simp [Value.ownBlock],by simp [Value.ownBlock],by have:=HSz.out; have:=HS1.out; omega,HOut.out⟩
 case stop =>
  intro c V K W _ h;exact h.elim
 case done =>
  rintro K Wd ⟨z,v,hz,hJ⟩ hfd hjd htd hsd hDd hKd;obtain ⟨z1,z2,z3⟩:=HSz.out;have z0:=HS1.out;have hFr:=fr_shut HB16.out hfd hjd htd HI.out HT.out.pos (fun k hk=>by omega) HB16.out.size;have hcd:=own_cell (j:=0) hJ.o rfl;have HD:=hid hDd;have HF:=hid hFr;obtain ⟨av,cv,rfl⟩:=owns_slice hJ.r;have HLn:Hid (z.length=(nodesAt t P).length):=hid (by
   have h1:=congrArg List.length hz;have h2:=congrArg List.length HGp.out;rw [List.length_map] at h1;rw [h1];exact h2)
  rw [HLn.out] at hcd;clear hJ hfd hjd htd hsd hDd hFr hKd hz z1 z2 z3 z0;simp only [Exit.inBlock];go_wp2;exact leaves_one HD.out ⟨_,results_tmp (t:=4) rfl _ _ _,av,cv,rfl,HF.out⟩
 case round =>
  rintro l V K x args W S hl hlW hKl ⟨z,v,hz,hI⟩ hfW hsW hiW hTW hpf ⟨pp,hh,na,nn,nc,rfl,htp,hbW,hbN,hok⟩ hS;have HS:=hid hS;have HZ:=hid hz;have hVn:z.length≤1000000:=by
   have h1:=hpf.length_le;have h2:=HCn.out;have h3:=congrArg List.length hz;have h4:(ndsOf V).length≤V.length:=by unfold ndsOf; rw [List.length_map]; exact List.length_filter_le _ _
   rw [List.length_append] at h1;rw [List.length_map] at h3;omega
  clear hfW hsW hpf hS hz hbW hbN htp hok;rw [zip2];simp only [List.setIfInBounds_toArray,List.set_cons_zero,List.set_cons_succ];have hal3:=al1 W (.cells (ndC nd0 none 0 0) 56);have HA3:=hid (Rg.Own.new W (ndC nd0 none 0 0) 56);have HNl:=hid (nodeT_length x.1);obtain ⟨N,hN⟩:∃ N,nodeT x.1=N:=⟨_,rfl⟩
  have HNN:=hid hN;rw [hN] at HNl ⊢;clear hN;refine regionIn rfl (fun ⟨_,_,h⟩=>h) ?_;go_wp2_with (first
   | (refine Rg.run rfl _ _ (run_alloc_nd _ _ _ W.heap.size rfl rfl) ?_)
   | (refine wpl_store_ndL HA3.out zks_length N na nn nc HNl.out rfl _ _ rfl rfl rfl rfl ?_; intro W3 hO hu; have HN3:=hid hO; have HB3:=hid (hu.below hal3 (Nat.le_refl _)); clear hO hu))
  refine HS.out _ _ HB3.out (fun W5 hT5=>?_);have HN5:=hid (hT5.own HN3.out);have hs5:W5.heap.size=W3.heap.size:=hT5.u.size;obtain ⟨z1,z2,z3⟩:=HSz.out;have z0:=HS1.out;have z6:=HB16.out.size;have hzz:=HT.out.pos;have hsW:=HB3.out.size;have HI5:=hid ((hiW.below HB3.out).upd hT5.u (HOut.out l (by omega)).2);have HT5':=hid (tab_upd (hTW.below HB3.out hTW.pos) hT5.u (by omega));have hPI:=hI.keep (w':=W5) (by omega) (fun k hk=>(hT5.u.block k fun e=>hKl (by rw [← e]; exact hk)).trans (HB3.out.block k (hI.lt k hk).1));have HPI:=hid hPI
  have hcb:W5.cell? ⟨w2.heap.size+1,0,none⟩=some v:=own_cell (j:=0) hPI.o rfl;have hB5:w.heap.size≤W5.heap.size:=Nat.le_trans hPI.bb (Nat.le_of_lt hPI.o.1);have hck:W5.cell? ⟨W.heap.size,0,none⟩=some (.int .i64 N.kd):=own_cell (j:=0) HN5.out rfl;obtain ⟨av,cv,rfl⟩:=owns_slice hPI.r;clear HS hiW hTW hI hT5 hPI hal3 z1 z2 z3 z0 z6;refine wpIn_block ?_;refine wpIn_seq_k ?_;intro K9 hK9;refine regionIn rfl (fun ⟨_,_,h⟩=>h) ?_;by_cases hx:isNode x.1=true
  ·have hkd:(N.kd != 0)=true:=by
    rw [← HNN.out];have:(nodeT x.1).kd≠0:=fun e=>by rw [node_is.1 e] at hx; cases hx
    simp [this]
   have HX:=hid hx;have hal6:=al1 W5 (.cells (ndC N na nn nc) 56);have HO7:=hid (Rg.Own.new W5 (ndC N na nn nc) 56);have HR7:Hid (RowNd w.heap.size (W5.alloc (.cells (ndC N na nn nc) 56)) (.slice av z.length cv) z):=hid (owns_same HPI.out.r fun k e=>hal6.block k (HPI.out.r.lt k e).2);have HOb:=hid (HPI.out.o.below hal6);have HAl:=hid hal6;have hB7:w.heap.size≤(W5.alloc (.cells (ndC N na nn nc) 56)).heap.size:=Nat.le_trans hB5 hal6.size;clear hal6 hx;go_wp2;refine wpIn_cond_true rfl ?_
   refine regionIn rfl (fun ⟨_,_,h⟩=>h) ?_;go_wp2_with (first
    | (refine Rg.run rfl _ _ (op_load_nd HN5.out HNl.out ⟨_,rfl,rfl⟩) ?_)
    | (refine Rg.run rfl _ _ (op_load_nds hcb ⟨_,rfl,rfl⟩) ?_)
    | (refine Rg.run rfl _ _ (op_lit_nd (h:=(na,nn,nc)) HNl.out W5.heap.size rfl ⟨_,rfl,rfl⟩) ?_)
    | (refine wpl_push_nd (h:=(na,nn,nc)) HR7.out HO7.out HNl.out hVn hB7 rfl ⟨_,_,rfl,rfl,rfl⟩ ?_; intro v4 w4' hr4 hg4 hl4; have hob4:Rg.Own w4' (w2.heap.size+1) #[.slice av z.length cv] 48:=⟨Nat.lt_of_lt_of_le HOb.out.1 hg4.size,(hg4.block _ HOb.out.1 (fun e=>HPI.out.nb e.symm)).trans HOb.out.2⟩; have HR4':=hid hr4; have HG4:=hid hg4; have HL4:=hid hl4; obtain ⟨s4,c4,e4⟩:=owns_slice hr4; obtain ⟨n4,hn4⟩:∃ n4,(z++[(N,(na,nn,nc))]).length=n4:=⟨_,rfl⟩; rw [hn4] at e4; subst e4; clear hn4; have HOb4:=hid hob4; have c4b:=own_cell (j:=0) hob4 rfl; have z4b:=own_free (j:=0) hob4; clear hr4 hg4 hl4 hob4))
   have HO5':=hid (own_setCell (o:=0) HOb4.out (Value.slice s4 n4 c4));have HU5:=hid (upd_setCell w4' (w2.heap.size+1) 0 (Value.slice s4 n4 c4));have hs3:=HAl.out.size;have hl5:(Value.slice s4 n4 c4).ownBlock=(Value.slice av z.length cv).ownBlock∨∃ k,W5.heap.size≤k∧(Value.slice s4 n4 c4).ownBlock=some k:=HL4.out.imp id fun e=>⟨_,hs3,e⟩
   have hne:∀ k,(Value.slice s4 n4 c4).ownBlock=some k→k≠w2.heap.size+1:=fun k e e2=>by
    rcases hl5 with e3 | ⟨k',hk',e3⟩
    ·exact HPI.out.nb (by rw [← e3,← e2]; exact e)
    ·rw [e3] at e;have:=Option.some.inj e;have:=HPI.out.o.1;omega
   have hbo:=(((Bo2.of (Below.refl _ _)).below HAl.out).grown HG4.out (fun k e=>(HPI.out.k k).2 (.inr e))).upd HU5.out ((HPI.out.k _).2 (.inl rfl));obtain ⟨K',h1,h2,h3,h4⟩:=ndI_push HPI.out HI5.out HT5'.out HT.out.pos hbo HO5'.out (owns_same HR4'.out fun k e=>HU5.out.block k (hne k e)) hl5;exact ⟨K',⟨_,_,by rw [List.map_append,HZ.out,ndsOf_snoc,if_pos HX.out,HNN.out]; rfl,h1⟩,fun k hk=>(h2 k hk).imp id fun h=>by omega,hbo.frK,h3,h4⟩
  ·have hkd:(N.kd != 0)=false:=by
    rw [← HNN.out];have:(nodeT x.1).kd=0:=node_is.2 (by cases e:isNode x.1 with
     | true=>exact absurd e hx
     | false=>rfl)
    simp [this]
   have HX:=hid hx;clear hx;go_wp2;refine wpIn_cond_false rfl ?_;refine wpIn_skip ?_;exact ⟨K,⟨z,_,by rw [HZ.out,ndsOf_snoc,if_neg HX.out,List.append_nil],HPI.out⟩,fun k hk=>.inl hk,FrK.refl _ _ _,HI5.out,HT5'.out⟩
end Tm
end
section
namespace Tr
open Rf Rl Ni No
def pairsOf (t:T):List Pair:=(pathsT t []).map fun x=>(Ky.keyL x.1,x.2)
theorem path_pathK (k:Key):path k=Ky.pathK k:=rfl
theorem pairsOf_sorted {t:T} {l:List Pair} (h:Has t (lastL l)) (hk:∀ x∈l,x.1.length=32):pairsOf t=sortL l:=by
 have hs:∀ z∈sortL l,z.1.length=32:=fun z hz=>by
  have:=((Tr.sorted l.length l rfl hk).2 z).1 hz;rcases Classical.em (∀ y∈l,y.1≠z.1) with g | g
  ·rw [last_none.2 g] at this; cases this
  ·rw [Classical.not_forall] at g;obtain ⟨y,g⟩:=g;rw [Classical.not_imp] at g;have e:y.1=z.1:=Classical.byContradiction g.2;rw [← e];exact hk y g.1
 unfold pairsOf;rw [h.sorted hk,List.map_map];have:(sortL l).map (fun x=>(Ky.keyL (path x.1),x.2))=(sortL l).map id:=List.map_congr_left fun x hx=>by
  show (Ky.keyL (path x.1),x.2)=x;rw [path_pathK,Ky.key_path x.1 (hs x hx)]
 rw [List.map_id] at this;exact this
end Tr
namespace Tm
open Tr Ni Pk Ky No
def lBA:List Tr.Pair:=[(kb,sy),(ka,sx)]
theorem okBA:OkPs lBA:=⟨fun x hx=>by rcases List.mem_cons.1 hx with rfl | hx; exact kb_len; rw [List.mem_singleton.1 hx]; exact ka_len,fun x hx=>by rcases List.mem_cons.1 hx with rfl | hx; exact ⟨by decide,by decide⟩; rw [List.mem_singleton.1 hx]; exact ⟨by decide,by decide⟩⟩
theorem lastBA (k:List UInt8):lastL lBA k=lastL lAB k:=by
 rw [lastAB];show (match (if ka=k then some sx else none) with | some v=>some v | none=>if kb=k then some sy else none)=_;by_cases h:ka=k
 ·have:¬ kb=k:=fun e=>ka_ne (h.trans e.symm);rw [if_pos h,if_neg this,if_neg this]
 ·rw [if_neg h]
theorem treeBA:putAll .nil lBA=putAll .nil lAB:=okBA.has.one (hasAB.congr fun k _=>(lastBA k).symm)
theorem sortBA:sortL lBA=lAB:=by decide
theorem depthAB:depthT (putAll .nil lAB)=2:=by kernel_rfl
theorem wayAB:(nodesAt (putAll .nil lAB) (path ka)).length=2:=by kernel_rfl
theorem lessAB:ltP ka kb=true:=by decide
theorem stubsAB:stubsN (putAll .nil lAB)=0:=stubs_full _ hasAB.full
end Tm
end
section
open Go.RowKit
namespace Tm
open Tr Ni Pk Ky No Rf Rl Rf2
open Sm (Tab)
theorem run_alloc_key10 (ev:Operand→Value) (o:Oper) (w:World) (b:Nat) (hb:b=w.heap.size) (ho:o.op = .alloc 24):(execOp ev o).run Tryz.prog w = .ok (.value (.pointer (some ⟨b,0,none⟩))) (w.alloc (.cells (kc zk) 24)):=by
 subst hb;exact run_alloc_key ev o ho w
theorem fromL_pairs (t:T):fromL t zk=pairsOf t:=fromL_all t
theorem pairsAB:pairsOf (putAll .nil lAB)=lAB:=by
 rw [← treeBA,pairsOf_sorted okBA.has okBA.1,sortBA]
theorem fromAB:fromL (putAll .nil lAB) zk=lAB:=by rw [fromL_pairs,pairsAB]
theorem nextAB:fndL (fun x=>ltP ka x.1) lAB=((kb,⟨#[121]⟩),true):=by
 have h1:ltP ka ka=false:=ltP_irrefl ka;have h2:ltP ka kb=true:=lessAB;unfold fndL lAB;simp only [List.find?_cons,h1,h2];rfl
theorem cntAB:cntT (putAll .nil lAB)≤200000:=by
 have h:cntT (putAll .nil lAB)=3:=by kernel_rfl
 omega
theorem lenAB:(pathsT (putAll .nil lAB) []).length=2:=by
 have h:=congrArg List.length pairsAB;unfold pairsOf at h;rw [List.length_map] at h;rw [h];rfl
def Cx (M:Mp) (w:World) (g off:Nat) (v:Value):Prop:=w.cell? ⟨g,off,none⟩=some v∧M.at_ g=none
theorem Cx.below {M:Mp} {w w':World} {g off:Nat} {v:Value} (h:Cx M w g off v) (hb:Below w.heap.size w w'):Cx M w' g off v:=⟨cell_on hb h.1,h.2⟩
theorem Cx.fr {M:Mp} {w w':World} {g off:Nat} {v:Value} (h:Cx M w g off v) (f:Fr M M w w'):Cx M w' g off v:=⟨by
 rw [World.cell?_of_block (f.block g (World.block_lt_of_cell? w _ h.1) h.2)];exact h.1,h.2⟩
structure A10 (w0:World) (M:Mp) (w:World) (ga gb g3:Nat) (p:Option Addr) (t:T) (A B:List UInt8):Prop where
 l:Lw w0 M w
 ka:Rg.Own w ga (kc A) 24
 kb:Rg.Own w gb (kc B) 24
 kla:A.length=32
 klb:B.length=32
 bT:Bx M w g3 #[.pointer p] 28
 hT:IsT M p t
namespace A10
variable {w0:World} {M:Mp} {w w':World} {ga gb g3:Nat} {p:Option Addr} {t:T} {A B:List UInt8}
theorem below (h:A10 w0 M w ga gb g3 p t A B) (hb:Below w.heap.size w w'):A10 w0 M w' ga gb g3 p t A B:=⟨h.l.below hb,h.ka.below hb,h.kb.below hb,h.kla,h.klb,h.bT.below hb,h.hT⟩
theorem fr (h:A10 w0 M w ga gb g3 p t A B) (f:Fr M M w w') (i:Inv M w') (tt:Tab w'):A10 w0 M w' ga gb g3 p t A B:=⟨h.l.fr f i tt,own_byte_fr h.ka (kc_byte h.kla) h.l.i f,own_byte_fr h.kb (kc_byte h.klb) h.l.i f,h.kla,h.klb,h.bT.frm h.l.i f,h.hT.mono f.mono⟩
theorem say {v:Value} {e:Ending} (h:A10 w0 M w ga gb g3 p t A B) (g:TellV M w v e w'):e = .returned v∧A10 w0 M w' ga gb g3 p t A B∧Fr M M w w':=⟨g.1,h.fr g.2.1 g.2.2.1 g.2.2.2,g.2.1⟩
end A10
theorem awake10_any (w:World) (hT:Tab w):Calls Tryz.prog 13 #[] w fun e w'=>e = .returned (.bool true)∧Below w.heap.size w w':=by
 obtain ⟨w1,hw1⟩:∃ w1,w1=(w.alloc (.cells (kc zk) 24)).alloc (.cells (kc zk) 24):=⟨_,rfl⟩
 have hb1:Below w.heap.size w w1:=by rw [hw1]; exact al2 _ _ _
 have hA:Rg.Own w1 w.heap.size (kc ka) 24:=by rw [hw1]; exact (Rg.Own.new _ _ _).below (al1 _ _)
 have hB:Rg.Own w1 (w.heap.size+1) (kc zk) 24:=by
  have:=Rg.Own.new (w.alloc (.cells (kc zk) 24)) (kc zk) 24;rw [hw1];simpa using this
 have HL1:=hid ((Lw.start hT).below hb1);have HA1:=hid hA;have HB1:=hid hB;have hne1:w.heap.size≠w.heap.size+1:=by omega
 have HAl:=hid run_alloc_key10;have HSet:Hid ((kc zk).setIfInBounds 0 (.int .u8 16)=kc kb):=hid (kc_set zk 0 16);have HBa:=hid (built_pair ka sx ka_len);have HBb:=hid (built_pair kb sy kb_len);have HLa:Hid (ka.length=32):=hid ka_len;have HLb:Hid (kb.length=32):=hid kb_len;have HZs:Hid ((kc zk).size=32):=hid zk_size;have HAll:Hid (∀ (b:Nat) w3,Rg.Own w3 b (rowP lBA).toArray 33→Lw w M0 w3→Calls Tryz.prog 7 #[.slice (some ⟨b,0,none⟩) 2 2] w3 (GotT M0 w3 (putAll .nil lAB))):=hid (fun b w3 h hl=>by
  have:=of_any M0 _ 2 2 lBA okBA w3 hl.i (isPs_lit (l:=lBA) h okBA.1 (by decide)) (by decide);rw [treeBA] at this;exact this)
 have HPs:Hid (∀ (M:Mp) (W:World) p,Inv M W→IsT M p (putAll .nil lAB)→Tab W→Calls Tryz.prog 15 #[tv p] W (GotPr M W [(ka,⟨#[120]⟩),(kb,⟨#[121]⟩)])):=hid (fun M W p hi ht h=>by
  have:=wPairs_any M p _ hasAB.good hasAB.fine cntAB W hi ht h;rw [fromAB] at this;exact this)
 have HNx:Hid (∀ (M:Mp) (W:World) p,Inv M W→IsT M p (putAll .nil lAB)→Tab W→Calls Tryz.prog 11 #[tv p,.agg (kc ka)] W (TellV M W (.tuple #[.agg (pairA (kb,⟨#[121]⟩)),.bool true]))):=hid (fun M W p hi ht h=>by
  have:=wnext_any M p _ ka ka_len hasAB.good hasAB.fine cntAB W hi ht h;rw [show fromL (putAll .nil lAB) ka=lAB from fromAB,nextAB] at this;exact this)
 have HCo:Hid (∀ (M:Mp) (W:World) p,Inv M W→IsT M p (putAll .nil lAB)→Tab W→Calls Tryz.prog 9 #[tv p] W (TellV M W (.tuple #[.int .i64 2,.int .i64 0]))):=hid (fun M W p hi ht h=>by
  have:=count_any M p _ hasAB.good hasAB.fine cntAB W hi ht h;rw [lenAB,stubsAB] at this;exact this)
 have HDe:Hid (∀ (M:Mp) (W:World) p,Inv M W→IsT M p (putAll .nil lAB)→Tab W→Calls Tryz.prog 16 #[tv p] W (TellV M W (.int .i64 2))):=hid (fun M W p hi ht h=>by
  have:=depth_any M p _ hasAB.good hasAB.fine cntAB W hi ht h;rw [depthAB] at this;exact this)
 have HPt:Hid (∀ (M:Mp) (W:World) p,Inv M W→IsT M p (putAll .nil lAB)→Tab W→Calls Tryz.prog 22 #[tv p,.agg (kc ka)] W (fun e w'=>∃ a c,e = .returned (.slice a 2 c)∧Fr M M W w'∧Inv M w'∧Tab w')):=hid (fun M W p hi ht h=>by
  have:=wpath_len M p _ ka ka_len hasAB.good hasAB.fine cntAB W hi ht h;rw [show (nodesAt (putAll .nil lAB) (pathK ka)).length=2 from wayAB] at this;exact this)
 have HLs:Hid (∀ W:World,Calls Tryz.prog 20 #[.agg (kc ka),.agg (kc kb)] W fun e w'=>e = .returned (.bool true)∧Below W.heap.size W w'):=hid (fun W=>by
  have:=wless_any ka kb ka_len kb_len W;rw [lessAB] at this;exact this)
 generalize putAll .nil lAB=TT at *
 clear hA hB hb1 hT;have HW:Hid (_=_):=hid hw1;clear hw1;have HLit:Hid (rowP [(kb,sy),(ka,sx)]=rowP lBA):=hid rfl;obtain ⟨ROW,hROW⟩:∃ R,rowP lBA=R:=⟨_,rfl⟩
 rw [hROW] at HAll HLit;generalize ka=A at *
 generalize kb=B at *
 generalize zk=Z at *
 go_enter Tryz.func13,Tryz.ntmps13;go_wp2_with (first
  | (refine Rg.run rfl _ _ (HAl.out _ _ _ w.heap.size rfl rfl) ?_)
  | (refine Rg.run rfl _ _ (HAl.out _ _ _ (w.heap.size+1) (by simp) rfl) ?_)
  | (rw [← HW.out]; refine wpl_store_u8 HB1.out (by rw [HZs.out]; decide) 16 rfl _ _ rfl rfl rfl ?_; intro w2 hO2 hu2; have HB2:Hid (Rg.Own w2 (w.heap.size+1) (kc B) 24):=hid (by rw [← HSet.out]; exact hO2); have HA2:=hid (HA1.out.upd hu2 hne1); have HL2:=hid (HL1.out.upd hu2 (by omega) (fun h=>h)); clear hO2 hu2)
  | (refine Rg.run rfl _ _ (op_load_key HLb.out HB2.out.2 ⟨_,rfl,rfl⟩) ?_)
  | (refine Rg.run rfl _ _ (op_load_key HLa.out HA2.out.2 ⟨_,rfl,rfl⟩) ?_)
  | (refine Rg.run rfl _ _ (op_build HBb.out ⟨_,rfl,rfl⟩) ?_)
  | (refine Rg.run rfl _ _ (op_build HBa.out ⟨_,rfl,rfl⟩) ?_)
  | (refine Rg.run rfl _ _ (op_lit_pairs (x:=(B,sy)) (z:=(A,sx)) HLb.out HLa.out w2.heap.size rfl ⟨_,_,rfl,rfl,rfl⟩) ?_))
 rw [HLit.out];have hL3:=HL2.out.below (al1 w2 (.cells ROW.toArray 33));refine (HAll.out w2.heap.size _ (Rg.Own.new _ _ _) hL3).mono ?_;intro e w4 hG;obtain ⟨p4,M4,rfl,hT4,hL4,hf4,hb4⟩:=hL3.got hG;have HA4:=hid ((HA2.out.below (al1 _ _)).below hb4);have HB4:=hid ((HB2.out.below (al1 _ _)).below hb4);have HL4:=hid hL4;have HT4:=hid hT4;have HN:=hid (Rg.Own.new w4 #[.pointer none] 28);have HFr4:=hid (hL4.i.free (Nat.le_refl _));have hz4:=hL4.b.size;clear hG hT4 hL4 hf4 hb4 hL3 HA1 HB1 HL1 HA2 HB2 HL2 HW HAl HSet HBa HBb HAll HLit HZs
 go_wp2_with (first
  | (refine Rg.run rfl _ _ (run_alloc_tree _ _ _ w4.heap.size rfl rfl) ?_)
  | (refine wpl_store_tree HN.out (by decide) p4 rfl _ _ rfl rfl rfl ?_; intro w5 hO5 hu5; have HB5:=hid (hu5.below (al1 w4 (.cells #[.pointer none] 28)) (Nat.le_refl _)); have HA0:Hid (A10 w M4 w5 w.heap.size (w.heap.size+1) w4.heap.size p4 TT A B):=hid ⟨(HL4.out.below (al1 _ _)).upd hu5 hz4 HFr4.out,HA4.out.below HB5.out,HB4.out.below HB5.out,HLa.out,HLb.out,⟨hO5,HFr4.out,one_no p4⟩,HT4.out⟩; clear hO5 hu5)
  | (refine Rg.run rfl _ _ (op_load_tree (own_cell (j:=0) HA0.out.bT.o rfl) ⟨_,rfl,rfl⟩) ?_))
 obtain ⟨g3,hg3⟩:∃ g3,w4.heap.size=g3:=⟨_,rfl⟩
 rw [hg3] at HA0;rw [hg3];clear HN HL4 HT4 HFr4 hz4 hg3 HB5 HA4 HB4;refine (HPs.out M4 w5 p4 HA0.out.l.i HA0.out.hT HA0.out.l.t).mono ?_;rintro e w6 ⟨v6,rfl,hr,f6,i6,t6⟩;have HA6:=hid (HA0.out.fr f6 i6 t6);obtain ⟨g,c6,e6,hcx⟩:∃ g c,v6 = .slice (some ⟨g,0,none⟩) 2 c∧Cx M4 w6 g 32 (.string ⟨#[120]⟩):=by
  have hr':=hr;rcases hr.2 with ⟨_,h2⟩ | ⟨g,cap,cur,rfl,hg,_⟩
  ·cases h2
  ·refine ⟨g,cap,rfl,?_,HA0.out.l.i.out hg⟩;have hk:∀ x∈([(A,⟨#[120]⟩),(B,⟨#[121]⟩)]:List Tr.Pair),x.1.length=32:=fun x hx=>by
    rcases List.mem_cons.1 hx with rfl | hx
    ·exact HLa.out
    ·rw [List.mem_singleton.1 hx]; exact HLb.out
   have h3:=rowP_at _ hk 0 32 (by simp) (by omega);have h4:=hr'.cells (g:=g) rfl (0*33+32) (.string ⟨#[120]⟩) (by
    rw [h3];show (pairC (A,⟨#[120]⟩))[32]? = _;unfold pairC;rw [List.getElem?_append_right (by simp [HLa.out])];simp [HLa.out])
   rw [Addr.add_mid] at h4;exact h4
 subst e6;have HX6:=hid hcx;clear hr f6 i6 t6 hcx HA0 HPs;go_wp2_with (first
  | (refine Rg.run rfl _ _ (op_load_tree (own_cell (j:=0) HA6.out.bT.o rfl) ⟨_,rfl,rfl⟩) ?_)
  | (refine Rg.run rfl _ _ (op_load_key HLa.out HA6.out.ka.2 ⟨_,rfl,rfl⟩) ?_))
 refine (HNx.out M4 w6 p4 HA6.out.l.i HA6.out.hT HA6.out.l.t).mono ?_;intro e w7 hG;obtain ⟨rfl,hA7,f7⟩:=HA6.out.say hG;have HA7:=hid hA7;have HX7:=hid (HX6.out.fr f7);have hal7:=al1 w7 (.cells (pairA pr0) 33);have HP7:=hid (Rg.Own.new w7 (pairA pr0) 33);clear hG hA7 f7 HA6 HX6 HNx;go_wp2_with (first
  | (refine Rg.run rfl _ _ (run_alloc_pair _ _ _ w7.heap.size rfl rfl) ?_)
  | (refine wpl_store_pair HP7.out pr0_len (B,⟨#[121]⟩) HLb.out rfl _ _ rfl rfl rfl rfl ?_; intro w8 hO8 hu8; have hb8:=hu8.below hal7 (Nat.le_refl _); have HA8:=hid (HA7.out.below hb8); have HX8:=hid (HX7.out.below hb8); have HY8:Hid (Cx M4 w8 w7.heap.size 32 (.string ⟨#[121]⟩)):=hid ⟨(PairAt.own hO8).val HLb.out,HA7.out.l.i.out (Nat.le_refl _)⟩; clear hO8 hu8 hb8)
  | (refine Rg.run rfl _ _ (op_load_tree (own_cell (j:=0) HA8.out.bT.o rfl) ⟨_,rfl,rfl⟩) ?_))
 obtain ⟨g5,hg5⟩:∃ g5,w7.heap.size=g5:=⟨_,rfl⟩
 rw [hg5] at HY8;rw [hg5];clear hg5 HA7 HX7 HP7 hal7;refine (HCo.out M4 w8 p4 HA8.out.l.i HA8.out.hT HA8.out.l.t).mono ?_;intro e w9 hG;obtain ⟨rfl,hA9,f9⟩:=HA8.out.say hG;have HA9:=hid hA9;have hx9:=(HX8.out.fr f9).1;have hy9:=(HY8.out.fr f9).1;clear hG hA9 f9 HA8 HX8 HY8 HCo;go_wp2_with (first
  | (refine Rg.runW (by rfl) _ _ (op_load_tree (own_cell (j:=0) HA9.out.bT.o rfl) ⟨_,rfl,rfl⟩) ?_)
  | (refine Rg.run rfl _ _ (op_load_tree (own_cell (j:=0) HA9.out.bT.o rfl) ⟨_,rfl,rfl⟩) ?_))
 refine (HDe.out M4 w9 p4 HA9.out.l.i HA9.out.hT HA9.out.l.t).mono ?_;intro e w10 hG;obtain ⟨rfl,hA10,f10⟩:=HA9.out.say hG;have HA10:=hid hA10;clear hG hA10 f10 HA9 HDe hx9 hy9;go_wp2_with (first
  | (refine Rg.runW (by rfl) _ _ (op_load_tree (own_cell (j:=0) HA10.out.bT.o rfl) ⟨_,rfl,rfl⟩) ?_)
  | (refine Rg.runW (by rfl) _ _ (op_load_key HLa.out HA10.out.ka.2 ⟨_,rfl,rfl⟩) ?_))
 refine (HPt.out M4 w10 p4 HA10.out.l.i HA10.out.hT HA10.out.l.t).mono ?_;rintro e w11 ⟨a11,c11,rfl,f11,i11,t11⟩;have HA11:=hid (HA10.out.fr f11 i11 t11);clear f11 i11 t11 HA10 HPt;go_wp2_with (first
  | (refine Rg.runW (by rfl) _ _ (op_load_key HLa.out HA11.out.ka.2 ⟨_,rfl,rfl⟩) ?_)
  | (refine Rg.runW (by rfl) _ _ (op_load_key HLb.out HA11.out.kb.2 ⟨_,rfl,rfl⟩) ?_))
 refine (HLs.out w11).mono ?_;rintro e w12 ⟨rfl,hb12⟩;have HB:=hid (HA11.out.l.below hb12).b;clear hb12 HA11 HLs;go_wp2;go_ret;exact ⟨rfl,HB.out⟩
end Tm
end
section
open Go.RowKit
namespace Tm
open Tr Ni Pk Ky
section
variable {P:Program} {t:TypeId} {a:Option Addr} {n c s:Nat}
theorem run_uptoB (ht:P.underlying t=some (.slice (P.elem t))) (hs:∀ w,(sizeOf (P.elem t)).run P w = .ok s w) (j:Nat) (hj:j≤c) (w:World) :
  (Instr.sliceAt t (.slice a n c) none (some (.int .i64 j)) none).run P w = .ok (.slice a j c) w:=by
 rw [run_sliceAt_slice (h:=ht),run_slice_h w t a n c ht .i64 j (by omega) (by omega),hs];have:a.map (fun x=>x.add 0)=a:=by cases a <;> simp [Addr.add]
 simp [Result.andThen,sliced,this]
end
theorem op_uptoB {P:Program} {t:TypeId} {a:Option Addr} {n c s:Nat} {ev:Operand→Value} {o:Oper} {w:World} {j:Nat} (ht:P.underlying t=some (.slice (P.elem t))) (hs:∀ w,(sizeOf (P.elem t)).run P w = .ok s w) (hj:j≤c)
  (ho:∃ x hi,o.op = .slice t x none (some hi) none∧ev x = .slice a n c∧ev hi = .int .i64 j):(execOp ev o).run P w = .ok (.value (.slice a j c)) w:=by
 obtain ⟨x,lo,ho,hx,hl⟩:=ho;unfold execOp;simp only [ho,hx,hl,Option.map_some,Option.map_none,Sem.run_bind,Sem.run_pure,Result.andThen_ok,run_uptoB ht hs j hj]
end Tm
end
section
open Go.RowKit
namespace Tm
open Tr Ni Pk Ky No Rf Rl Rf2
theorem cnt_few {t:T} {l:List Tr.Pair} (h:Has t (lastL l)) (h1:∀ x∈l,x.1.length=32) (h2:∀ x∈l,x.2.size≠0∧x.2.size≤65552) (hl:l.length≤24):cntT t≤200000:=by
 by_cases hn:t = .nil
 ·subst hn;show 1≤200000;omega
 ·rw [cnt_nodes t 64 h.good h.full hn,h.built h1 h2];have h3:=nodes_few 64 (insL l) (ok_ins h1);have h4:(insL l).length≤24:=Nat.le_trans (ins_len _) hl;have h5:(64+1)*(insL l).length≤65*24:=Nat.mul_le_mul (Nat.le_refl _) h4;omega
end Tm
end
section
open Go.RowKit
namespace Tm
open Tr Ni Pk Ky No Rf Rl Rf2
open Sm (Tab)
structure RndG {α:Type} (M:Mp) (J:List α→(Nat→Prop)→World→Prop) (V:List α) (K:Nat→Prop) (N:Nat→Prop) (x : α) (w w':World) (K':Nat→Prop):Prop where
 j:J (V++[x]) K' w'
 sub:∀ k,K' k→K k∨N k
 f:FrK M K w w'
 i:Inv M w'
 t:Tab w'
def NewG {α:Type} (gv : α→Array Value→Nat→Prop) (x : α) (args:Array Value) (n:Nat) (k:Nat):Prop:=n≤k∨gv x args k
def SeqG {α:Type} (M:Mp) (gf:Nat) (lb:Array Value) (A : α→World→Array Value→Prop) (gv : α→Array Value→Nat→Prop) (G:List α) (Pre:World→(Nat→Prop)→Prop):Prop :=
 ∀ (l:Nat) (J Js:List α→(Nat→Prop)→World→Prop) (K0:Nat→Prop) (w:World),Sta M J→Sta M Js→Pre w K0→Inv M w→Tab w→J [] K0 w →
  (∀ V K x args wx,J V K wx→FrK M K0 w wx→Inv M wx→Tab wx→V++[x]<+:G→A x wx args→(∀ k,gv x args k→w.heap.size≤k∧k<wx.heap.size ∧ ¬ K k)→YieldAt Fence.wide 0 Tryz.prog l args wx fun e w'=>∃ K',(e = .returned (.bool true)∧RndG M J V K (NewG gv x args wx.heap.size) x wx w' K')∨(e = .returned (.bool false)∧RndG M Js V K (NewG gv x args wx.heap.size) x wx w' K')) →
  Calls Tryz.prog gf (#[.func (.yield l) #[] #[]]++lb) w fun e w'=>(∃ v,e = .returned v)∧∃ V K,(V=G∧J V K w'∨V<+:G∧Js V K w')∧FrK M K0 w w'∧Inv M w'∧Tab w'∧∀ k,K k→K0 k∨w.heap.size≤k
def RndPostG {α:Type} (M:Mp) (I:List α→(Nat→Prop)→World→Prop) (Ix:Code→List α→(Nat→Prop)→World→Prop) (V:List α) (K:Nat→Prop) (n:Nat→Prop) (x : α) (w:World):Exit→Go.Act→World→Prop
 | .normal,_,w3=>∃ K',RndG M I V K n x w w3 K'
 | .ret,_,w3=>∃ K',RndG M (Ix .ret) V K n x w w3 K'
 | .exit id,_,w3=>∃ K',RndG M (Ix (.exit id)) V K n x w w3 K'
 | .goto t,_,w3=>∃ K',RndG M (Ix (.goto t)) V K n x w w3 K'
 | .panic _,_,_=>False
 | .outgrown,_,_=>False
theorem wp_rangeG {α:Type} {M:Mp} {g:Operand} {ps:Array Tmp} {assign body:Code} {Q:Exit→Go.Act→World→Prop} {a:Go.Act} {w:World} {gf:Nat} {lb:Array Value} (hg:a.eval g = .func (.func gf) #[] lb) (eg:∀ args w,(callFunc gf args).run Tryz.prog w = .ok (.enter gf args) w)
  {A : α→World→Array Value→Prop} {gv : α→Array Value→Nat→Prop} {G:List α} {Pre:World→(Nat→Prop)→Prop} (hseq:SeqG M gf lb A gv G Pre) (hps:∀ x W args,A x W args→args.size=ps.size) {K0:Nat→Prop} (hpre:∀ W1 K1,Below w.heap.size w W1→(∀ k,K1 k→K0 k∨w.heap.size≤k)→Pre W1 K1) (hi:Inv M w) (hT:Tab w)
  {I:List α→(Nat→Prop)→World→Prop} (hI:Sta M I) {Ix:Code→List α→(Nat→Prop)→World→Prop} (hIx:∀ c,Sta M (Ix c)) (h0:I [] K0 w)
  (hround:∀ (l:Nat) (V:List α) (K:Nat→Prop) (x : α) (args:Array Value) (W:World) (S:Go.Act→World→Prop),w.heap.size≤l→l<W.heap.size → ¬ K l→I V K W→FrK M K0 w W→(∀ k,K k→K0 k∨w.heap.size≤k)→Inv M W→Tab W→V++[x]<+:G→A x W args→(∀ k,gv x args k→w.heap.size<k∧k<W.heap.size∧k≠l ∧ ¬ K k) →
   (∀ a' W',Below W.heap.size W W'→(∀ W2,Turn l W' W2→body.wpIn (FW (some l)) 0 Tryz.prog (RndPostG M I Ix V K (NewG gv x args W.heap.size) x W2) a' W2)→S a' W') →
   assign.wpIn (FW (some l)) 0 Tryz.prog (Exit.then S (fun _ _ _=>False)) { tmps:=(ps.zip args).foldl (fun t (p,v)=>t.setIfInBounds p v) a.tmps,defers:=[] } W)
  (hdone:∀ K W,I G K W→FrK M K0 w W→Inv M W→Tab W→(∀ k,K k→K0 k∨w.heap.size≤k)→W.heap[w.heap.size]? = some (.deferred (some [])) → ¬ K w.heap.size→Q .normal { a with defers:={ target:=.collected w.heap.size,args:=#[] }::a.defers } W)
  (hstop:∀ c V K W,V<+:G→Ix c V K W→FrK M K0 w W→Inv M W→Tab W→(∀ k,K k→K0 k∨w.heap.size≤k)→W.heap[w.heap.size]? = some (.deferred (some [])) → ¬ K w.heap.size→c.wp Tryz.prog Q { a with defers:={ target:=.collected w.heap.size,args:=#[] }::a.defers } W) :
  (Code.rangeFunc g ps assign body).wp Tryz.prog Q a w:=by
 refine (wpIn_wide (n:=0)).1 (wpIn_rangeFunc fun fn hfn=>?_);obtain ⟨rec,hrec⟩:∃ rec:LoopState→Option Code→Loop,rec=fun st pe=>{ state:=st,pending:=pe,fn,tmps:=a.tmps,params:=ps,assign,body,defers:=w.heap.size }:=⟨_,rfl⟩
 obtain ⟨W1,hW1⟩:∃ W1,(w.alloc (.deferred (some []))).alloc (.loop (rec .ready none))=W1:=⟨_,rfl⟩
 have hL1:W1.heap[w.heap.size+1]? = some (.loop (rec .ready none)):=by
  rw [← hW1]; have:=World.alloc_heap_new (w.alloc (.deferred (some []))) (.loop (rec .ready none)); rwa [World.size_alloc] at this
 have hK1:W1.heap[w.heap.size]? = some (.deferred (some [])):=by
  rw [← hW1]; exact (Below.heap_alloc _ _ _ (by simp)).trans (World.alloc_heap_new w _)
 have hb1:Below w.heap.size w W1:=by rw [← hW1]; exact ((Below.refl _ w).alloc (Nat.le_refl _) _).alloc (by simp) _
 have hs1:W1.heap.size=w.heap.size+2:=by rw [← hW1]; simp
 obtain ⟨D,hD⟩:∃ D,w.heap.size=D:=⟨_,rfl⟩
 have hout:∀ k,D≤k→M.at_ k=none ∧ ¬ M.ft k:=fun k hk=>⟨hi.out (by omega),hi.free (by omega)⟩
 have hz:1<D:=by rw [← hD]; exact hT.pos
 have hK0:=hI.lt _ _ _ h0;refine ⟨w.heap.size+1,[{ target:=.collected w.heap.size,args:=#[] }],W1,{ target:=.fn (.func gf) lb,args:=#[.func (.yield (w.heap.size+1)) #[] #[]] },W1,gf,
  #[.func (.yield (w.heap.size+1)) #[] #[]]++lb,W1,?_,?_,fun _ _=>trivial,?_,fun hh=>(by cases hh),?_⟩
 ·rw [← hW1,hrec]; exact run_enterLoop_outer _ _ _ _ _
 ·simp only [resolve,hg];simp [go_sem]
 ·simp [invoke,go_sem,eg]
 ·rw [hD] at hL1 hK1 hb1 hs1 ⊢;simp only [hD] at hround hdone hstop hpre hrec hT;have hBk:∀ (I:List α→(Nat→Prop)→World→Prop) (st:LoopState) (pe:Option Code),Sta M I→Sta M (fun V K' W=>∃ K,I V K W∧(∀ k,K' k↔K k∨k=D∨k=D+1) ∧ ¬ K D ∧ ¬ K (D+1)∧(∀ k,K k→K0 k∨D≤k)∧W.heap[D+1]? = some (.loop (rec st pe))∧W.heap[D]? = some (.deferred (some []))):=fun I st pe hI=>by
   refine ⟨fun V K' W W' ⟨K,h1,h2,h3,h4,h5,h6,h7⟩ hs hk=>⟨K,hI.st _ _ _ _ h1 hs fun k hk'=>hk k ((h2 k).2 (.inl hk')),h2,h3,h4,h5,(hk _ ((h2 _).2 (.inr (.inr rfl)))).trans h6,(hk _ ((h2 _).2 (.inr (.inl rfl)))).trans h7⟩,fun V K' W ⟨K,h1,h2,h3,h4,h5,h6,h7⟩ k hk=>?_⟩;rcases (h2 k).1 hk with h | rfl | rfl
   ·exact hI.lt _ _ _ h1 k h
   ·exact ⟨(Array.getElem?_eq_some_iff.1 h7).1,hout _ (Nat.le_refl _)⟩
   ·exact ⟨(Array.getElem?_eq_some_iff.1 h6).1,hout _ (Nat.le_succ _)⟩
  have hSx:Sta M (fun V K' W=>∃ c K,Ix c V K W∧(∀ k,K' k↔K k∨k=D∨k=D+1) ∧ ¬ K D ∧ ¬ K (D+1)∧(∀ k,K k→K0 k∨D≤k)∧W.heap[D+1]? = some (.loop (rec .done (some c)))∧W.heap[D]? = some (.deferred (some []))) :=
   ⟨fun V K' W W' ⟨c,h⟩ hs hk=>⟨c,(hBk (Ix c) .done (some c) (hIx c)).st V K' W W' h hs hk⟩,fun V K' W ⟨c,h⟩=>(hBk (Ix c) .done (some c) (hIx c)).lt V K' W h⟩
  have hi1:Inv M W1:=hi.keep hb1.size fun k hk=>hb1.block k (by rw [← hD]; exact hi.lt_ k hk);have hT1:Tab W1:=hT.below hb1 hz;refine callsIn_wide.2 ((hseq (D+1) _ _ (fun k=>K0 k∨k=D∨k=D+1) W1 (hBk I .ready none hI) hSx (hpre W1 _ hb1 fun k hk=>hk.elim Or.inl fun h=>.inr (by omega)) hi1 hT1
   ⟨K0,hI.st _ _ _ _ h0 hb1.size fun k hk=>hb1.block k (by have:=(hK0 k hk).1; omega),fun k=>Iff.rfl,fun h=>by have:=(hK0 _ h).1; omega,fun h=>by have:=(hK0 _ h).1; omega,fun k hk=>.inl hk,hL1,hK1⟩ ?_).mono ?_)
  ·-- one round
   rintro V K' x args W ⟨K,hj,hKK,hKD,hKL,hKs,hl,hd⟩ hfW hiW hTW hpf hA hgv;have hgk:∀ k,gv x args k→D+2≤k:=fun k hk=>by have:=(hgv k hk).1; omega
   have hf0:FrK M K0 w W:=⟨hfW.os.trans hb1.os,hfW.tape.trans hb1.tape,hfW.output.trans hb1.output,by have:=hfW.size; omega,fun k hk hm hn=>by
    have hkD:k<D:=by omega
    rw [hfW.block k (by omega) hm (fun g=>g.elim hn (by omega)),hb1.block k (by omega)]⟩
   have hlt:D+1<W.heap.size:=(Array.getElem?_eq_some_iff.1 hl).1;have hy:=run_yield (P:=Tryz.prog) (args:=args) hl (by rw [hrec]; exact hps x W args hA);rw [hrec] at hy;refine ⟨fn,_,assign,body,hy,roundIn_of_wpIn trivial (hround (D+1) V K x args W _ (Nat.le_succ _) hlt hKL hj hf0 hKs hiW hTW hpf hA (fun k hk=>⟨by have:=hgk k hk; omega,(hgv k hk).2.1,by have:=hgk k hk; omega,fun hkk=>(hgv k hk).2.2 ((hKK k).2 (.inl hkk))⟩) fun a' W' hb' hbody=>?_)⟩;have hl':W'.heap[D+1]? = some (.loop (rec .ready none)):=(hb'.block _ hlt).trans hl
   have hd':W'.heap[D]? = some (.deferred (some [])):=(hb'.block _ (by omega)).trans hd;refine ⟨_,run_beginRound hl' (by rw [hrec]),?_⟩;have hu2:Rg.Upd W' (D+1) (W'.putObj (D+1) (.loop { rec .ready none with state:=.busy })):=⟨rfl,rfl,rfl,World.putObj_size,fun k hk=>World.putObj_heap_other hk⟩
   have hl2:(W'.putObj (D+1) (.loop { rec .ready none with state:=.busy })).heap[D+1]? = some (.loop { rec .ready none with state:=.busy }):=World.putObj_heap_same (Array.getElem?_eq_some_iff.1 hl').1;have hd2:=(hu2.block D (by omega)).trans hd';refine wpIn_mono (hbody _ ⟨hu2,_,hl'⟩) ?_;generalize hW2:W'.putObj (D+1) (.loop { rec .ready none with state:=.busy })=W2 at hu2 hl2 hd2;have fin:∀ (c:Option Code) (I':List α→(Nat→Prop)→World→Prop) (W3:World) (K3:Nat→Prop),Sta M I'→RndG M I' V K (NewG gv x args W.heap.size) x W2 W3 K3 →
     (Instr.endRound (D+1) c).run Tryz.prog W3 = .ok (.bool c.isNone) (W3.putObj (D+1) (.loop (rec (if c.isNone then .ready else .done) c))) ∧
     RndG M (fun V K' W=>∃ K,I' V K W∧(∀ k,K' k↔K k∨k=D∨k=D+1) ∧ ¬ K D ∧ ¬ K (D+1)∧(∀ k,K k→K0 k∨D≤k)∧W.heap[D+1]? = some (.loop (rec (if c.isNone then .ready else .done) c))∧W.heap[D]? = some (.deferred (some []))) V K' (NewG gv x args W.heap.size) x W (W3.putObj (D+1) (.loop (rec (if c.isNone then .ready else .done) c))) (fun k=>K3 k∨k=D∨k=D+1):=fun c I' W3 K3 hI' h=>by
    have hs2:W2.heap.size=W'.heap.size:=hu2.size;have hs':=hb'.size;have hl3:W3.heap[D+1]? = some (.loop { rec .ready none with state:=.busy }):=(h.f.block _ (by omega) (hout _ (by omega)).1 hKL).trans hl2;have hd3:W3.heap[D]? = some (.deferred (some [])):=(h.f.block _ (by omega) (hout _ (by omega)).1 hKD).trans hd2;have hr:=run_endRound (P:=Tryz.prog) c hl3;rw [hrec] at hr ⊢
    have hu3:Rg.Upd W3 (D+1) (W3.putObj (D+1) (.loop { state:=(if c.isNone then .ready else .done),pending:=c,fn,tmps:=a.tmps,params:=ps,assign,body,defers:=D })):=⟨rfl,rfl,rfl,World.putObj_size,fun k hk=>World.putObj_heap_other hk⟩
    have hnD:¬ K3 D:=fun hk=>(h.sub _ hk).elim hKD fun g=>g.elim (by omega) fun g=>by have:=hgk _ g; omega
    have hnL:¬ K3 (D+1):=fun hk=>(h.sub _ hk).elim hKL fun g=>g.elim (by omega) fun g=>by have:=hgk _ g; omega
    refine ⟨hr,⟨⟨K3,hI'.st _ _ _ _ h.j (by rw [hu3.size]; exact Nat.le_refl _) fun k hk=>hu3.block k fun e=>hnL (by rw [← e]; exact hk),fun k=>Iff.rfl,hnD,hnL,fun k hk=>(h.sub k hk).elim (hKs k) fun g=>g.elim (by omega) fun g=>.inr (by have:=hgk _ g; omega),World.putObj_heap_same (Array.getElem?_eq_some_iff.1 hl3).1,(hu3.block D (by omega)).trans hd3⟩,fun k hk=>?_,?_,h.i.upd hu3 (hout _ (by omega)).2,fun j hj=>?_⟩⟩
    ·rcases hk with hk | hk
     ·exact (h.sub k hk).elim (fun g=>.inl ((hKK k).2 (.inl g))) .inr
     ·exact .inl ((hKK k).2 (.inr hk))
    ·refine ⟨hu3.os.trans (h.f.os.trans (hu2.os.trans hb'.os)),hu3.tape.trans (h.f.tape.trans (hu2.tape.trans hb'.tape)),hu3.output.trans (h.f.output.trans (hu2.output.trans hb'.output)),by rw [hu3.size]; exact Nat.le_trans (by omega) h.f.size,fun k hk hm hn=>?_⟩;have hne:k≠D+1:=fun e=>hn ((hKK k).2 (.inr (.inr e)));rw [hu3.block k hne,h.f.block k (by omega) hm (fun g=>hn ((hKK k).2 (.inl g))),hu2.block k hne,hb'.block k hk]
    ·rw [World.cell?_of_block (hu3.block 1 (by omega))];exact h.t j hj
   rintro e a3 W3 hp;cases e with
   | normal =>
    obtain ⟨K3,hp⟩:=hp;obtain ⟨h1,h2⟩:=fin none I W3 K3 hI hp;exact ⟨_,_,h1,_,.inl ⟨rfl,h2⟩⟩
   | ret =>
    obtain ⟨K3,hp⟩:=hp;obtain ⟨h1,h2⟩:=fin (some .ret) (Ix .ret) W3 K3 (hIx _) hp;exact ⟨_,_,h1,_,.inr ⟨rfl,⟨_,h2.j⟩,h2.sub,h2.f,h2.i,h2.t⟩⟩
   | exit id =>
    obtain ⟨K3,hp⟩:=hp;obtain ⟨h1,h2⟩:=fin (some (.exit id)) (Ix (.exit id)) W3 K3 (hIx _) hp;exact ⟨_,_,h1,_,.inr ⟨rfl,⟨_,h2.j⟩,h2.sub,h2.f,h2.i,h2.t⟩⟩
   | goto t =>
    obtain ⟨K3,hp⟩:=hp;obtain ⟨h1,h2⟩:=fin (some (.goto t)) (Ix (.goto t)) W3 K3 (hIx _) hp;exact ⟨_,_,h1,_,.inr ⟨rfl,⟨_,h2.j⟩,h2.sub,h2.f,h2.i,h2.t⟩⟩
   | panic ch=>exact hp.elim
   | outgrown=>exact hp.elim
  ·-- behind the iterator
   rintro e W2 ⟨⟨v,rfl⟩,V,K',hV,f2,i2,t2,hsub⟩;have key:∀ (c:Option Code) (st:LoopState) (I':List α→(Nat→Prop)→World→Prop),Sta M I'→st ≠ .busy→(∃ K,I' V K W2∧(∀ k,K' k↔K k∨k=D∨k=D+1) ∧ ¬ K D ∧ ¬ K (D+1)∧(∀ k,K k→K0 k∨D≤k)∧W2.heap[D+1]? = some (.loop (rec st c))∧W2.heap[D]? = some (.deferred (some []))) →
     ∃ W4 K,(Instr.endLoop (D+1)).run Tryz.prog W2 = .ok c W4∧I' V K W4∧FrK M K0 w W4∧Inv M W4∧Tab W4∧(∀ k,K k→K0 k∨D≤k)∧W4.heap[D]? = some (.deferred (some [])) ∧ ¬ K D:=fun c st I' hI' hst ⟨K,hj,hKK,hKD,hKL,hKs,hl,hd⟩=>by
    have hr:=run_endLoop (P:=Tryz.prog) hl (by rw [hrec]; exact hst);rw [hrec] at hr;have hu3:Rg.Upd W2 (D+1) (W2.putObj (D+1) (.loop { state:=.exhausted,pending:=c,fn,tmps:=a.tmps,params:=ps,assign,body,defers:=D })):=⟨rfl,rfl,rfl,World.putObj_size,fun k hk=>World.putObj_heap_other hk⟩
    refine ⟨_,K,hr,hI'.st _ _ _ _ hj (by rw [hu3.size]; exact Nat.le_refl _) (fun k hk=>hu3.block k fun e=>hKL (by rw [← e]; exact hk)),?_,i2.upd hu3 (hout _ (by omega)).2,fun j hj=>?_,hKs,(hu3.block D (by omega)).trans hd,hKD⟩
    ·have hs2:=f2.size;refine ⟨hu3.os.trans (f2.os.trans hb1.os),hu3.tape.trans (f2.tape.trans hb1.tape),hu3.output.trans (f2.output.trans hb1.output),by rw [hu3.size]; omega,fun k hk hm hn=>?_⟩;have hkD:k<D:=by omega
     rw [hu3.block k (by omega),f2.block k (by omega) hm (fun g=>g.elim hn (by omega)),hb1.block k (by omega)]
    ·rw [World.cell?_of_block (hu3.block 1 (by omega))];exact t2 j hj
   rcases hV with ⟨rfl,h⟩ | ⟨hpf,c,h⟩
   ·obtain ⟨W4,K,hr,g1,g2,g3,g4,g5,g6,g7⟩:=key none .ready I hI (by simp) h;exact ⟨none,W4,hr,hdone K W4 g1 g2 g3 g4 g5 g6 g7⟩
   ·obtain ⟨W4,K,hr,g1,g2,g3,g4,g5,g6,g7⟩:=key (some c) .done (Ix c) (hIx c) (by simp) h;exact ⟨some c,W4,hr,(wpIn_wide (n:=0)).2 (hstop c V K W4 hpf g1 g2 g3 g4 g5 g6 g7)⟩
end Tm
end
section
open Go.RowKit
namespace Tm
open Tr Ni Pk Ky No Rf Rl Rf2
open Sm (Tab)
def gvP (_:Pl) (args:Array Value) (k:Nat):Prop:=∃ (cs:Array Value) (ad:Addr) (n c:Nat),args[1]? = some (.agg cs)∧cs[1]? = some (.slice (some ad) n c)∧0<n∧k=ad.block
theorem gvP_nd {x:Pl} {u:Value} {N:Nd} {a:Option Addr} {n c k:Nat} (h:gvP x #[u,.agg (ndC N a n c)] k):∃ ad,a=some ad∧0<n∧k=ad.block:=by
 obtain ⟨cs,ad,n',c',h1,h2,h3,h4⟩:=h;have h5:some (Value.agg (ndC N a n c))=some (Value.agg cs):=h1;injection h5 with h5;injection h5 with h5;subst h5;have h6:(ndC N a n c)[1]? = some (.slice a n c):=by simp [ndC]
 rw [h6] at h2;injection h2 with h2;injection h2 with e1 e2 e3;exact ⟨ad,e1,by omega,h4⟩
theorem gvP_of {x:Pl} {u:Value} {N:Nd} {ad:Addr} {n c:Nat} (hn:0<n):gvP x #[u,.agg (ndC N (some ad) n c)] ad.block :=
 ⟨ndC N (some ad) n c,ad,n,c,rfl,by simp [ndC],hn,rfl⟩
theorem gvP_lt {x:Pl} {u:Value} {N:Nd} {a:Option Addr} {n c k B:Nat} {w:World} {l:List UInt8} (hb:IsBs w a n c l) (hB:∀ ad,a=some ad→B≤ad.block) (h:gvP x #[u,.agg (ndC N a n c)] k):B≤k∧k<w.heap.size:=by
 obtain ⟨ad,rfl,hn,rfl⟩:=gvP_nd h;obtain ⟨b,off,e,hlt,_⟩:=hb.at' 0 hn;injection e with e;refine ⟨hB _ rfl,?_⟩;rw [e];exact hlt
section
variable {α:Type} {M:Mp} {J:List α→(Nat→Prop)→World→Prop} {gv : α→Array Value→Nat→Prop} {V:List α} {K K':Nat→Prop} {x : α} {args:Array Value} {w w7 w8 wa wb:World}
theorem mv_F {N:Nat→Prop} (hu:∀ k,w.heap.size≤k→M.at_ k=none ∧ ¬ M.ft k) (r:RndG M J V K N x wa wb K'):Mv w K wa (fun _=>False) wb:=⟨r.f.size,fun b hB hl hn=>r.f.block b hl (hu b hB).1 hn,fun _ h=>h.elim⟩
theorem mv_G (hu:∀ k,w.heap.size≤k→M.at_ k=none ∧ ¬ M.ft k) (m:Mv w K w7 K w8) (hb:Below w8.heap.size w8 wa) (r:RndG M J V K (NewG gv x args wa.heap.size) x wa wb K') (hg:∀ k,gv x args k→w7.heap.size≤k∧k<w8.heap.size):Mv w K w7 K' wb:=by
 have h1:=m.sz;have h2:=hb.size;have h3:=r.f.size;refine ⟨by omega,fun b hB hl hn=>((r.f.block b (by omega) (hu b hB).1 hn).trans (hb.block b (by omega))).trans (m.bl b hB hl hn),fun k hk=>(r.sub k hk).imp id fun g=>?_⟩;rcases g with g | g
 ·omega
 ·exact (hg k g).1
end
theorem goer_seqG (M:Mp) (g0 gi fi:Nat) (cp:Array Value) (p0:Option Addr) (t:T) (I:Pa→Bool) (eI:∀ args w,(callFunc fi args).run Tryz.prog w = .ok (.enter fi args) w) (hg:Tr.Good t 64) (hf:Fine t) (hc:cntT t≤200000) (ht:IsT M p0 t) :
  SeqG M 67 #[.pointer (some ⟨g0,0,none⟩),.pointer (some ⟨gi,0,none⟩)] (goA M) gvP (goL I t 0 []) (GoPre M g0 gi fi cp p0 I):=by
 intro lp J Js K0 w hJ hJs hP hi hT h0 hY;show Calls Tryz.prog 67 #[.func (.yield lp) #[] #[],.pointer (some ⟨g0,0,none⟩),.pointer (some ⟨gi,0,none⟩)] w (SeqEnd M J Js (goL I t 0 []) K0 w);have hout:∀ k,w.heap.size≤k→M.at_ k=none ∧ ¬ M.ft k:=fun k hk=>⟨hi.out hk,hi.free hk⟩
 obtain ⟨w1,hw1⟩:∃ w1,w1=w.alloc (.cells (plA p0 0 (none,0,0)) 75):=⟨_,rfl⟩
 have hb1:Below w.heap.size w w1:=by rw [hw1]; exact al1 _ _
 have hs1:w1.heap.size=w.heap.size+1:=by rw [hw1]; simp
 have hR1:RowPl w.heap.size w1 (.slice (some ⟨w.heap.size,0,none⟩) 1 1) [⟨p0,(none,0,0),(t,0,[])⟩]:=by
  rw [hw1];exact World.ownsRow_lit (e:=75) (size:=3) (base:=w.heap.size) w (plA p0 0 (none,0,0)) 1 (Nat.le_refl _) (by unfold maxLen; decide) rfl
 obtain ⟨w3,hw3⟩:∃ w3,w3=w1.alloc (.cells #[.slice (some ⟨w.heap.size,0,none⟩) 1 1] 122):=⟨_,rfl⟩
 have hb2':=al1 w1 (.cells #[.slice (some ⟨w.heap.size,0,none⟩) 1 1] 122);rw [← hw3] at hb2';have hb3:Below w.heap.size w w3:=bst hb1 hb2';have hO3:Rg.Own w3 (w.heap.size+1) #[.slice (some ⟨w.heap.size,0,none⟩) 1 1] 122:=by rw [hw3,← hs1]; exact Rg.Own.new _ _ _
 have hR3:RowPl w.heap.size w3 (.slice (some ⟨w.heap.size,0,none⟩) 1 1) [⟨p0,(none,0,0),(t,0,[])⟩]:=owns_same hR1 fun k e=>hb2'.block k (hR1.lt k e).2;have HG0:Hid (Gq M J K0 w (w.heap.size+1) (.slice (some ⟨w.heap.size,0,none⟩) 1 1) [⟨p0,(none,0,0),(t,0,[])⟩] [] K0 [] w3):=hid (by
  have hK:=hJ.lt _ _ _ h0;refine ⟨hO3,hR3,fun y hy=>?_,hJ.st _ _ _ _ h0 hb3.size fun k hk=>hb3.block k (hK k hk).1,fun hk=>by have:=(hK _ hk).1; omega,fun k e hk=>?_,fun e=>?_,by omega,(FrK.refl M K0 w).below hb3 (Nat.le_refl _),fun k hk=>.inl hk,hi.below hb3,hT.below hb3 hT.pos,hout,hT.pos,List.nodup_nil,fun D hD=>by cases hD⟩
  ·obtain rfl:=List.mem_singleton.1 hy;exact ⟨ht,PlOk.root hg hf,IsBs.nil _,fun ad e=>by cases e⟩
  ·have e2:w.heap.size=k:=Option.some.inj e;have:=(hK _ hk).1;omega
  ·have e2:w.heap.size=w.heap.size+1:=Option.some.inj e;omega)
 have HP:=hid hP;have HY:=hid hY;have HJ:=hid hJ;have HJs:=hid hJs;have HC:=hid hc;have HOut:=hid hout;have hcell0:=hP.c0;clear hP hY hJ hJs hc hout hi hT h0 hb1 hs1 hR1 hb2' hO3 hb3 hR3 hg hf ht;refine calls_marks Tryz.func67 rfl ?_;simp only [Tryz.ntmps67,List.size_toArray,List.length_cons,List.length_nil,Nat.reduceAdd,Nat.reduceSub,Array.replicate_succ,Array.replicate_zero,List.push_toArray,List.append_toArray,List.nil_append,List.cons_append]
 obtain ⟨INV,hINV⟩:∃ INV:Go.Act→World→Prop,INV=fun a' wr=>∃ (Ds:List Nat) (v:Value) (l:List Pc) (V:List Pl) (K:Nat→Prop),Hid (Gq M J K0 w (w.heap.size+1) v l V K Ds wr)∧Hid (V++stackP I (l.map (·.x))=goL I t 0 []∧rankP (l.map (·.x))≤200000) ∧
   ∃ u3 u5 u6 u7 u8 u9 u10 u11 u12 u13 u14 u15 u16 u17 u18 u19 u20 u21 u22 u23 u24 u25 u26 u27 u28 u29 u30 u31 u32 u33 u34 u35 u36 u37 u38 u39 u40 u41 u42 u43 u44 u45 u46 u47 u48 u49 u50 u51 u52 u53 u54 u55 u56 u57 u58 u59:Value,a'={ tmps:=#[.func (.yield lp) #[] #[],.pointer (some ⟨g0,0,none⟩),.pointer (some ⟨gi,0,none⟩),u3,.pointer (some ⟨w.heap.size+1,0,none⟩),u5,u6,u7,u8,u9,u10,u11,u12,u13,u14,u15,u16,u17,u18,u19,u20,u21,u22,u23,u24,u25,u26,u27,u28,u29,u30,u31,u32,u33,u34,u35,u36,u37,u38,u39,u40,u41,u42,u43,u44,u45,u46,u47,u48,u49,u50,u51,u52,u53,u54,u55,u56,u57,u58,u59],defers:=marks Ds }:=⟨_,rfl⟩
 have HInv:=hid hINV;clear hINV;go_wp2_with (first
  | (refine Rg.run rfl _ _ (op_load_tree hcell0 ⟨_,rfl,rfl⟩) ?_)
  | (refine Rg.run rfl _ _ (op_build (built_pl1 p0) ⟨_,rfl,rfl⟩) ?_)
  | (refine Rg.run rfl _ _ (op_lit_pl w.heap.size rfl ⟨_,rfl,rfl⟩) ?_)
  | (refine wp_loop INV (fun _ wr=>rankW M (w.heap.size+1) wr) ?_ ?_))
 ·rw [← hw1,← hw3,HInv.out];refine ⟨[],_,_,_,_,HG0,hid ⟨by rw [List.nil_append]; exact stackP_one I (t,0,[]),by show cntT t+0≤200000; exact HC.out⟩,?_⟩
  (repeat apply Exists.intro)
  rfl
 ·intro a' wr hinv;rw [HInv.out] at hinv;obtain ⟨Ds,v,l,V,K,HG,HE,u3,u5,u6,u7,u8,u9,u10,u11,u12,u13,u14,u15,u16,u17,u18,u19,u20,u21,u22,u23,u24,u25,u26,u27,u28,u29,u30,u31,u32,u33,u34,u35,u36,u37,u38,u39,u40,u41,u42,u43,u44,u45,u46,u47,u48,u49,u50,u51,u52,u53,u54,u55,u56,u57,u58,u59,rfl⟩:=hinv;clear HG0 hcell0 hw1 hw3 w1 w3 HC;try dsimp only
  rw [shut_eq 6];have hcb:=own_cell (j:=0) HG.out.ob rfl;by_cases hl:l=[]
  ·subst hl;obtain ⟨a,c,rfl⟩:=owns_slice HG.out.row;have HEnd:Hid (SeqEnd M J Js (goL I t 0 []) K0 w (.returned (.tuple #[])) (shut wr Ds)):=hid (shut_end HJ.out HJs.out (.inl ⟨by have:=HE.out.1; simpa [stackP] using this,HG.out.j⟩) HG.out.f HG.out.i HG.out.t HG.out.sub HG.out.u HG.out.z HG.out.dm _);have HD:=hid (And.intro HG.out.dn HG.out.dm);clear HG HE HP HY;go_wp2;refine leaves_marks Ds wr HD.out.1 (fun D hD=>(HD.out.2 D hD).2.1) ⟨_,results_none rfl _ _ _,HEnd.out⟩
  ·obtain ⟨l,y,rfl⟩:∃ l' y,l=l'++[y]:=⟨_,_,(List.dropLast_concat_getLast hl).symm⟩
   obtain ⟨g,cap,rfl,hgB,hgl,hcap,hcm,hAt⟩:=HG.out.row.last;have hrk:=rankW_eq HG.out.ob HG.out.row (fun z hz=>(HG.out.ok z hz).1);have hlen:l.length≤200000:=by
    have h1:=rankP_len ((l++[y]).map (·.x));have h2:=HE.out.2;rw [List.length_map,List.length_append] at h1;omega
   have HRk:=hid hrk;unfold maxLen at hcm;obtain ⟨n,hn⟩:∃ n,l.length=n:=⟨_,rfl⟩
   have HN:=hid hn;rw [hn] at hcb hcap hAt hlen;rw [hn] at HG;have hpos:(0:Int)<((n+1:Nat):Int):=by omega
   have hsub:IntKind.i64.wrap (((n+1:Nat):Int)-1)=(n:Int):=by rw [show ((n+1:Nat):Int)-1=(n:Int) by omega]; exact IntWalk.i64_in _ (by omega)
   have hnc:n≤cap:=by omega
   have hn1:n<n+1:=Nat.lt_succ_self n;have HAt:=hid hAt;have hO5:=Rg.Own.new wr (plA none 0 (none,0,0)) 75;have HO5:=hid hO5;have hal5:=al1 wr (.cells (plA none 0 (none,0,0)) 75);obtain ⟨hyT,hyP,hyB⟩:=HG.out.ok y (by simp);have hrow:=HG.out.row;rw [← HN.out] at hrow;have hgi:w.heap.size≤wr.heap.size:=HG.out.f.size
   have HGs:Hid (∀ w5,Rg.Upd (wr.alloc (.cells (plA none 0 (none,0,0)) 75)) wr.heap.size w5→Rg.Own w5 wr.heap.size (plA y.p y.x.2.1 y.h) 75→w5.cell? ⟨w.heap.size+1,0,none⟩=some (.slice (some ⟨g,0,none⟩) (n+1) cap)∧w5.frozen? ⟨w.heap.size+1,0,none⟩=false ∧
     ∃ w6,w6=w5.setCell ⟨w.heap.size+1,0,none⟩ (.slice (some ⟨g,0,none⟩) n cap)∧(w6.cell? ⟨gi,0,none⟩=some (.func (Fn.func fi) #[] cp)∧Gq M J K0 w (w.heap.size+1) (.slice (some ⟨g,0,none⟩) n cap) l V K Ds w6∧Ex w K w6 wr.heap.size (plA y.p y.x.2.1 y.h) 75∧BsK w K w6 y.h y.x.2.2)):=hid (fun w5 hu h5=>by
    have hb5:Below wr.heap.size wr w5:=hu.below hal5 (Nat.le_refl _);have hg5:=HG.out.below HJ.out hb5;have hu6:=upd_setCell w5 (w.heap.size+1) 0 (.slice (some ⟨g,0,none⟩) n cap);have ho6:Rg.Own (w5.setCell ⟨w.heap.size+1,0,none⟩ (.slice (some ⟨g,0,none⟩) n cap)) (w.heap.size+1) #[.slice (some ⟨g,0,none⟩) n cap] 122:=own_setCell (o:=0) hg5.ob _;have hrow5:=owns_same hrow fun k e=>hb5.block k (hrow.lt k e).2;have hne:g≠w.heap.size+1:=fun e=>HG.out.nb (by rw [← e]; rfl)
    have hrow6:RowPl w.heap.size (w5.setCell ⟨w.heap.size+1,0,none⟩ (.slice (some ⟨g,0,none⟩) n cap)) (.slice (some ⟨g,0,none⟩) n cap) l:=by
     have:=owns_same (RowPl.init hrow5) fun k e=>hu6.block k (by have e2:g=k:=Option.some.inj e; omega);rw [HN.out] at this;unfold RowPl;rw [HN.out];exact this
    have hg6:=hg5.box HJ.out hu6 ho6 hrow6 rfl (fun z hz=>by simp [hz]);refine ⟨own_cell (j:=0) hg5.ob rfl,own_free hg5.ob,_,rfl,?_,hg6,⟨h5.upd hu6 (by have:=HG.out.ob.1; omega),hgi,fun hk=>by have:=(HJ.out.lt _ _ _ HG.out.j _ hk).1; omega⟩,?_⟩
    ·have hlt:=World.block_lt_of_cell? w _ HP.out.ci;have hlt':gi<w.heap.size:=hlt;rw [World.cell?_of_block (hg6.f.block gi hlt' HP.out.hi HP.out.ki)];exact HP.out.ci
    ·have h2:=hyB.kept hb5.size fun b _ hl=>hb5.block b hl;exact (h2.kept (by rw [hu6.size]; exact Nat.le_refl _) fun b hp _=>hu6.block b hp.2.2.1).to fun b _ hp=>⟨hp.1,hp.2.1⟩)
   have HY1:=hid (And.intro hyT hyP);clear hyT hyP hyB hrow hgi;clear hl hrk hn hAt hO5 hal5;go_wp2_with (first
    | (refine Rg.run rfl _ _ (op_index_pl hn1 ⟨_,_,rfl,rfl,rfl⟩) ?_)
    | (refine Rg.run rfl _ _ (op_load_pl HAt.out ⟨_,rfl,rfl⟩) ?_)
    | (refine Rg.run rfl _ _ (run_alloc_pl _ _ _ wr.heap.size rfl rfl) ?_)
    | (refine wpl_store_pl HO5.out y.p y.x.2.1 y.h rfl _ _ rfl rfl rfl rfl ?_; intro w5 hO5 hu5; obtain ⟨hc5,hz5,w6,hw6,hS6⟩:=HGs.out w5 hu5 hO5; have hci6:=hS6.1; have HS6:=hid hS6; clear hO5 hu5 hcb hS6)
    | (refine Rg.run rfl _ _ (op_uptoB under_pls size_pl hnc ⟨_,_,rfl,rfl,rfl⟩) ?_)
    | ((try rw [← hw6]); refine Rg.run rfl _ _ (op_load_pl (PlAt.own HS6.out.2.2.1.o) ⟨_,rfl,rfl⟩) ?_)
    | ((try rw [← hw6]); refine Rg.run rfl (.func (Fn.func fi) #[] cp) _ (op_load_fn hci6 ⟨_,rfl,rfl⟩) ?_))
   rw [← hw6];have hyl:y.x.2.2.length≤64:=by
    obtain ⟨L,h,_⟩:=HY1.out.2;omega
   refine (HP.out.into w6 HS6.out.2.1.f y.p y.x.2.1 y.h y.x.2.2 HS6.out.2.2.2.1 hyl).mono ?_;rintro e w7 ⟨rfl,hb7⟩;have hm7:Mv w K w6 K w7:=Mv.below hb7;have HG7:=hid (HS6.out.2.1.below HJ.out hb7);have HX7:=hid (HS6.out.2.2.1.mv hm7);have HW7:=hid (HS6.out.2.2.2.mv hm7);have HSt:Hid (stackP I ((l++[y]).map (·.x))=stackP I (l.map (·.x)++[y.x])):=hid (by rw [List.map_append]; rfl);clear hw6 HS6 hb7 hm7 hc5 hz5 hci6 HGs HO5 HAt w6 w5;by_cases hI:I y.x.2.2=true
   ·rw [hI];obtain ⟨L,hL,hgd,hfn,_⟩:=HY1.out.2;go_wp2_with (first
     | (refine Rg.run rfl _ _ (op_load_tree (own_cell (j:=0) HX7.out.o rfl) ⟨_,rfl,rfl⟩) ?_))
    refine (open_all M y.p y.x.1 L hgd (by omega) hfn w7 HG7.out.i HY1.out.1 HG7.out.t).mono ?_;rintro e w8 ⟨na,nn,nc,ka,kc,qs,rfl,hrow8,hnp8,_,hare,_,f8,i8,t8⟩;have hm8:Mv w K w7 K w8:=Mv.fr HOut.out f8;have HG8:=hid (HG7.out.open_ HJ.out f8 i8 t8);have HX8:=hid (HX7.out.mv hm8);have h58:wr.heap.size<w8.heap.size:=HX8.out.o.1;have HW8:=hid (HW7.out.mv hm8);have hK7:∀ k,K k→k<w7.heap.size:=fun k hk=>(HJ.out.lt _ _ _ HG7.out.j k hk).1;have hK8:∀ k,K k→k<w8.heap.size:=fun k hk=>(HJ.out.lt _ _ _ HG8.out.j k hk).1
    have HKr8:Hid (KRow w K w8 ka qs):=hid (KRow.ofRow hrow8 HG7.out.f.size hK7);have HNp8:Hid (BsK w K w8 (na,nn,nc) (nodeT y.x.1).p):=hid ⟨hnp8.1,fun ad e _=>⟨Nat.le_trans HG7.out.f.size (hnp8.2 ad e),fun hk=>by have:=hK7 _ hk; have:=hnp8.2 ad e; omega⟩⟩;have HAre:=hid hare;have HNl:=hid (nodeT_length y.x.1);obtain ⟨N,hN⟩:∃ N,nodeT y.x.1=N:=⟨_,rfl⟩
    have HNN:=hid hN;rw [hN] at HNl HNp8 ⊢;obtain ⟨A8,hA8⟩:∃ A8,A8=(w8.alloc (.cells (ndC nd0 none 0 0) 56)).alloc (.cells #[.slice none 0 0] 57):=⟨_,rfl⟩
    have hal8:Below w8.heap.size w8 A8:=by rw [hA8]; exact al2 _ _ _
    have hO8:OwnN A8 w8.heap.size nd0 none 0 0:=by rw [hA8]; exact (Rg.Own.new _ _ _).below (al1 _ _)
    have hO8':Rg.Own A8 (w8.heap.size+1) #[.slice none 0 0] 57:=by
     have:=Rg.Own.new (w8.alloc (.cells (ndC nd0 none 0 0) 56)) #[.slice none 0 0] 57;rw [hA8];simpa using this
    have HO8:=hid hO8;have HGs8:Hid (∀ w9,Rg.Upd A8 w8.heap.size w9→OwnN w9 w8.heap.size N na nn nc→w9.cell? ⟨w8.heap.size+1,0,none⟩=some (.slice none 0 0)∧w9.frozen? ⟨w8.heap.size+1,0,none⟩=false ∧
      ∃ w10,w10=w9.setCell ⟨w8.heap.size+1,0,none⟩ (.slice ka qs.length kc)∧Below w8.heap.size w8 w10∧Ex w K w10 w8.heap.size (ndC N na nn nc) 56∧Ex w K w10 (w8.heap.size+1) #[.slice ka qs.length kc] 57):=hid (fun w9 hu h9=>by
     have ho:=hO8'.upd hu (by omega);have hu10:=upd_setCell w9 (w8.heap.size+1) 0 (.slice ka qs.length kc);have hs8:=HG8.out.f.size;exact ⟨own_cell (j:=0) ho rfl,own_free ho,_,rfl,hu10.below (hu.below hal8 (Nat.le_refl _)) (by omega),⟨h9.upd hu10 (by omega),hs8,fun hk=>by have:=hK8 _ hk; omega⟩,⟨own_setCell (o:=0) ho _,by omega,fun hk=>by have:=hK8 _ hk; omega⟩⟩)
    have HM78:=hid hm8;have HGv:Hid (∀ k,gvP y.x #[.agg (plA y.p y.x.2.1 y.h),.agg (ndC N na nn nc)] k→w7.heap.size≤k∧k<w8.heap.size):=hid (fun k hk=>gvP_lt hnp8.1 hnp8.2 hk);clear hrow8 hnp8 hare f8 i8 t8 hm8 hK7 hK8 hN hal8 hO8 hO8' HX7 HW7 hgd hfn hL;go_wp2_with (first
     | (refine Rg.run rfl _ _ (run_alloc_nd _ _ _ w8.heap.size rfl rfl) ?_)
     | (rw [← hA8]; refine wpl_store_ndL HO8.out zks_length N na nn nc HNl.out rfl _ _ rfl rfl rfl rfl ?_; intro w9 hO9 hu9; obtain ⟨hc9,hz9,w10,hw10,hb10,hn10,hk10⟩:=HGs8.out w9 hu9 hO9; have HB10:=hid hb10; have HN10:=hid hn10; have HK10:=hid hk10; clear hO9 hu9 hb10 hn10 hk10)
     | (refine wp_shut (regionW 6 3 rfl (by rintro ⟨_,_,⟨⟨_,h⟩,_⟩⟩; cases h) ?_); intro _ _; dsimp only [List.take_succ_cons,List.take_zero,List.drop_succ_cons,List.drop_zero])
     | ((try rw [← hw10]); refine Rg.run rfl _ _ (op_load_pl (PlAt.own (HX8.out.mv (Mv.below HB10.out)).o) ⟨_,rfl,rfl⟩) ?_)
     | ((try rw [← hw10]); refine Rg.run rfl _ _ (op_load_nd HN10.out.o HNl.out ⟨_,rfl,rfl⟩) ?_))
    have hm10:Mv w K w8 K w10:=Mv.below HB10.out;have HG10:=hid (HG8.out.below HJ.out HB10.out);have HX10:=hid (HX8.out.mv hm10);have HW10:=hid (HW8.out.mv hm10);have HKr10:=hid (HKr8.out.mv hm10);have HNp10:=hid (HNp8.out.mv hm10);have hst:V++y.x::stackP I (l.map (·.x)++(kidsPl y.x).reverse)=goL I t 0 []:=by rw [← HE.out.1,HSt.out,stackP_in _ hI]
    have hpre:V++[y.x]<+:goL I t 0 []:=⟨stackP I (l.map (·.x)++(kidsPl y.x).reverse),by rw [← hst]; simp⟩
    have HSt2:=hid hst;have HYy:=hid (HY.out V K y.x #[.agg (plA y.p y.x.2.1 y.h),.agg (ndC N na nn nc)] w10 HG10.out.j HG10.out.f HG10.out.i HG10.out.t hpre ⟨y.p,y.h,na,nn,nc,by rw [HNN.out],HY1.out.1,HW10.out.1,by rw [HNN.out]; exact HNp10.out.1,HY1.out.2⟩ (fun k hk=>⟨Nat.le_trans HG7.out.f.size (HGv.out k hk).1,Nat.lt_of_lt_of_le (HGv.out k hk).2 HB10.out.size,fun hkk=>by have:=(HJ.out.lt _ _ _ HG7.out.j k hkk).1; have:=(HGv.out k hk).1; omega⟩));have HPre:=hid hpre;try rw [← hw10]
    clear hm10 hst hpre HG8 HX8 HW8 HKr8 HNp8 HGs8 HO8 hw10 hA8 hc9 hz9;refine yieldIn' HYy.out ?_ ?_ ?_ ?_
    ·rfl
    ·rfl
    ·exact ⟨_,_,_,rfl,rfl,rfl⟩
    rintro e w11 ⟨K',h⟩;rcases h with ⟨rfl,h11⟩ | ⟨rfl,h11⟩
    ·refine ⟨_,rfl,listRest rfl (by rintro ⟨_,_,⟨⟨_,h⟩,_⟩⟩; cases h) ?_⟩;have hmf:Mv w K w10 (fun _=>False) w11:=mv_F HOut.out h11;have hm7:Mv w K w7 K' w11:=mv_G HOut.out HM78.out HB10.out h11 HGv.out;have HG11:=hid (HG7.out.keep hm7.sz hm7.bl h11.j hm7.sub (HG10.out.f.trans h11.f HG10.out.sub) h11.i h11.t);have HX11:=hid (HX10.out.mv hmf);have HW11:=hid (HW10.out.mv hmf);have HKr11:=hid (HKr10.out.mv hmf);have HNp11:=hid (HNp10.out.mv hmf);have HN11:=hid (HN10.out.mv hmf);have HK11:=hid (HK10.out.mv hmf);have HP2:=hid (pl_len HY1.out.2);rw [HNN.out] at HP2
     clear hmf hm7 h11 HYy HG7 HM78 HGv HG10 HX10 HW10 HKr10 HNp10 HN10 HK10 HB10;go_wp2_with (first
      | (refine Rg.run rfl _ _ (op_load_pl (PlAt.own HX11.out.o) ⟨_,rfl,rfl⟩) ?_)
      | (refine Rg.run rfl _ _ (op_load_nd HN11.out.o HNl.out ⟨_,rfl,rfl⟩) ?_))
     refine (ways_any y.p y.x.2.1 y.h y.x.2.2 N na nn nc HNl.out w11 HW11.out.1 HNp11.out.1 HP2.out.1 HP2.out.2).mono ?_;rintro e w12 ⟨v12,hs,rfl,hW12,hb12⟩;have HWs12:=hid hW12;have hv12:v12.oneCell'=true:=by
      obtain ⟨_,_,rfl⟩:=owns_slice hW12.row;rfl
     clear hW12;go_wp2_with fail
     refine (wback_any v12 hv12 w12).mono ?_;rintro e w13 ⟨rfl,hO13,hb13⟩;go_wp2_with fail
     have hb11:Below w11.heap.size w11 w13:=bst hb12 hb13;have hm13:Mv w (fun _=>False) w11 (fun _=>False) w13:=Mv.below hb11;have HG13:=hid (HG11.out.below HJ.out hb11);have HX13:=hid (HX11.out.mv hm13);have HKr13:=hid (HKr11.out.mv hm13);have HK13:=hid (HK11.out.mv hm13);have hwk:waysK N y.x.2.2 16=(kidsPl y.x).map (·.2.2):=by rw [← HNN.out]; exact ways_tree HY1.out.2
     have hW13:=HWs12.out.keep hb13.size fun b _ hl=>hb13.block b hl;rw [hwk] at hW13;have HW13:=hid hW13;have hhs:hs.length=(kidsPl y.x).length:=by rw [hW13.len,List.length_map]
     have hqs:qs.length=(kidsPl y.x).length:=by rw [HAre.out.1,← kidsPl_fst,List.length_map]
     have h16:=kids_len16 y.x;have hgr:g<w11.heap.size:=(HG11.out.row.lt g rfl).2;have hbx:w.heap.size+1<w11.heap.size:=HG11.out.ob.1;have hs11:w.heap.size≤w11.heap.size:=HG11.out.f.size;have hs12:w11.heap.size≤w12.heap.size:=hb12.size;have hs13:w12.heap.size<w13.heap.size:=hO13.1;have hK11:∀ k,K' k→k<w11.heap.size:=fun k hk=>(HJ.out.lt _ _ _ HG11.out.j k hk).1;have hbxr:w.heap.size+1<wr.heap.size:=HG.out.ob.1;have HO13:=hid hO13;clear hO13 hb11 hm13 hwk hW13 HG11 HX11 HW11 HKr11 HNp11 HN11 HK11 hb12 hb13
     refine wp_range (gf:=99) (lb:=#[.pointer (some ⟨w12.heap.size,0,none⟩)]) (K0:=fun k=>k=w.heap.size+1∨(Value.slice (some ⟨g,0,none⟩) n cap).ownBlock=some k) rfl (enters_of Tryz.func99 (by kernel_rfl) rfl) (back_seq M w11.heap.size w12.heap.size v12 hs (by omega)) (fun x W args e=>by rw [show args=_ from e]; rfl) ?pre HG13.out.i HG13.out.t (pi_sta M w.heap.size (w.heap.size+1) l (fun z=>⟨qs.getD z.1 none,z.2,kidAt y.x z.1⟩)) (Ix:=fun _ _ _ _=>False) (fun _=>no_sta M) ?start ?round ?done ?stop
     case pre =>
      intro W1 K1 hb1 hK1;have hk0:∀ k,w11.heap.size≤k→k<w13.heap.size → ¬ K1 k:=fun k h1 h2 hk=>(hK1 k hk).elim (fun e=>e.elim (by omega) fun e=>by have:=Option.some.inj e; have e2:g=k:=this; omega) (by omega);exact ⟨HO13.out.below hb1,owns_same HW13.out.row fun k e=>hb1.block k (HW13.out.row.lt k e).2,hk0 _ hs12 hs13,fun k e=>hk0 k (HW13.out.row.lt k e).1 (HW13.out.row.lt k e).2,hs12,fun k hk=>HOut.out k (by omega)⟩
     case start=>exact ⟨_,HG13.out.ob,by rw [List.map_nil,List.append_nil]; exact HG13.out.row,fun k=>Iff.rfl,HG13.out.nb,HG13.out.bb,HG13.out.u⟩
     case stop =>
      intro c V1 K1 W _ h;exact h.elim
     case done =>
      intro Ki Wd ⟨vd,hPd⟩ hfd hjd htd hsd hDd _;have HGn:=hid (HG13.out.pushed HJ.out HY1.out.2 HAre.out HW13.out hs11 hbx hgr hK11 (by omega) hPd hfd hjd htd hsd hDd);have hms:((l++(bk hs 0).map fun z=>(⟨qs.getD z.1 none,z.2,kidAt y.x z.1⟩:Pc)).map (·.x))=l.map (·.x)++(kidsPl y.x).reverse:=by
       rw [List.map_append,List.map_map,← bk_kids hhs];rfl
      have HEn:Hid (V++[y.x]++stackP I ((l++(bk hs 0).map fun z=>(⟨qs.getD z.1 none,z.2,kidAt y.x z.1⟩:Pc)).map (·.x))=goL I t 0 []∧rankP ((l++(bk hs 0).map fun z=>(⟨qs.getD z.1 none,z.2,kidAt y.x z.1⟩:Pc)).map (·.x))≤200000):=hid (by
       rw [hms];refine ⟨by rw [← HSt2.out]; simp,?_⟩;have h1:=rankP_in (l.map (·.x)) y.x;have h2:=HE.out.2;rw [List.map_append] at h2;have h3:rankP (l.map (·.x)++[y.x])≤200000:=h2;omega)
      have HRn:Hid (rankW M (w.heap.size+1) Wd<rankW M (w.heap.size+1) wr):=hid (by
       have hr:=rankW_eq HGn.out.ob HGn.out.row (fun z hz=>(HGn.out.ok z hz).1);rw [hr,HRk.out,hms,List.map_append];exact rankP_in _ _)
      clear hPd hfd hjd htd hsd hDd;simp only [Exit.inBlock];refine ⟨?_,HRn.out⟩;rw [HInv.out];refine ⟨w13.heap.size::Ds,_,_,_,_,HGn,HEn,?_⟩
      (repeat apply Exists.intro)
      rfl
     case round =>
      intro l1 V1 K1 x args W S hl1 hl1' hKl hI hf hsub hiW hTW hpf hA hS;obtain ⟨vW,hPI⟩:=hI;obtain ⟨j,z⟩:=x;have hj:j<hs.length:=(bk_mem hpf).1;have hA':args = #[.int .i64 j,hv z]:=hA;subst hA';have HS:=hid hS;have hjk:j<(kidsPl y.x).length:=by rw [← hhs]; exact hj
      obtain ⟨gk,ck,eka,hck,hgk,hok⟩:=HKr13.out.cell (j:=j) (by rw [hqs]; exact hjk);have hkb:gk≠w.heap.size+1:=fun e=>by
       have h1:=hok.2;rw [e,HG13.out.ob.2] at h1;simp at h1
      have hkg:gk≠g:=fun e=>by
       have h1:=hok.2;rcases HG13.out.row.2 with ⟨e2,_⟩ | ⟨g',_,_,e2,_,hh,_⟩
       ·cases e2
       ·injection e2 with e3;injection e3 with e3;injection e3 with e3;rw [e,e3,hh] at h1;simp at h1
      have hk0:∀ b,b≠w.heap.size+1→b≠g → ¬ (b=w.heap.size+1∨(Value.slice (some ⟨g,0,none⟩) n cap).ownBlock=some b):=fun b h1 h2 e=>e.elim h1 fun e=>h2 (Option.some.inj e).symm;have hk1:∀ b,b≠w.heap.size+1→b≠g→b<w13.heap.size → ¬ K1 b:=fun b h1 h2 h3 hk=>(hsub b hk).elim (hk0 b h1 h2) (by omega);have hcell:∀ b o v,w.heap.size≤b→b<w13.heap.size→b≠w.heap.size+1→b≠g→w13.cell? ⟨b,o,none⟩=some v→W.cell? ⟨b,o,none⟩=some v:=fun b o v h0 h1 h2 h3 hc=>by
       rw [World.cell?_of_block (hf.block b h1 (HOut.out b h0).1 (hk0 b h2 h3))];exact hc
      have c5:W.cell? ⟨wr.heap.size,1,none⟩=some (.int .i64 y.x.2.1):=hcell _ 1 _ HX13.out.g HX13.out.o.1 (by omega) (by omega) (own_cell (j:=1) HX13.out.o rfl);have c7:W.cell? ⟨w8.heap.size+1,0,none⟩=some (.slice ka qs.length kc):=hcell _ 0 _ HK13.out.g HK13.out.o.1 (by omega) (by omega) (own_cell (j:=0) HK13.out.o rfl);have ct:=hcell _ j _ hgk hok.1 hkb hkg hck;have n5:¬ K1 wr.heap.size:=hk1 _ (by omega) (by omega) HX13.out.o.1;have n7:¬ K1 (w8.heap.size+1):=hk1 _ (by omega) (by omega) HK13.out.o.1;have nk:¬ K1 gk:=hk1 _ hkb hkg hok.1
      have HC:=hid (And.intro c5 (And.intro c7 (And.intro ct (And.intro n5 (And.intro n7 nk)))));have HPI:=hid hPI;clear hS hf hcell c5 c7 ct n5 n7 nk hk0 hk1 hck hok hkb hkg;have hVl:V1.length≤16:=by
       have h1:=hpf.length_le;have h2:(bk hs 0).length=hs.length:=by simp [bk]
       rw [List.length_append] at h1;omega
      have HJk:=hid hjk;have HHs:=hid hhs;have hji:(j:Int)<(qs.length:Int):=by omega
      have hov:y.x.2.1≤64:=by
       obtain ⟨L,h1,_,_,_,h2⟩:=HY1.out.2;omega
      subst eka;clear hqs hhs hjk hj hpf hA;unfold hv;refine wpIn_seq_k ?_;intro K8 hK8;refine regionIn rfl (fun ⟨_,_,h⟩=>h) ?_;go_wp2;refine regionIn rfl (fun ⟨_,_,h⟩=>h) ?_;go_wp2;refine HS.out _ _ (Below.refl _ _) (fun W2 hT2=>?_);obtain ⟨hd5,hd7,hdt,n5,n7,nk⟩:=HC.out;have c5:=hT2.cell hd5;have c7:=hT2.cell hd7;have ct:=hT2.cell hdt;have hs2:W2.heap.size=W.heap.size:=hT2.u.size
      have HPI2:Hid (PushI M w.heap.size (w.heap.size+1) l (fun z=>⟨qs.getD z.1 none,z.2,kidAt y.x z.1⟩) V1 K1 W2 vW):=hid ⟨hT2.own HPI.out.o,owns_same HPI.out.r fun k e=>hT2.u.block k fun e2=>hKl (by rw [← e2]; exact (HPI.out.k k).2 (.inr e)),HPI.out.k,HPI.out.nb,HPI.out.bb,HPI.out.u⟩;have hi2:=hid (hiW.upd hT2.u (HOut.out l1 (by omega)).2);have ht2:=hid (tab_upd hTW hT2.u (by have:=HG13.out.z; omega));have cb:W2.drew.cell? ⟨w.heap.size+1,0,none⟩=some vW:=own_cell (j:=0) HPI2.out.o rfl
      have hal:=al1 W2.drew (.cells (plA (qs.getD j none) (y.x.2.1+1) z) 75);have hwrap:IntKind.i64.wrap ((y.x.2.1:Int)+1)=((y.x.2.1+1:Nat):Int):=by rw [show (y.x.2.1:Int)+1=((y.x.2.1+1:Nat):Int) by omega]; exact IntWalk.i64_in _ (by omega)
      have hoa:Rg.Own (W2.drew.alloc (.cells (plA (qs.getD j none) (y.x.2.1+1) z) 75)) W2.heap.size (plA (qs.getD j none) (kidAt y.x j).2.1 z) 75:=by
       rw [kidAt_over HJk.out];exact Rg.Own.new W2.drew _ _
      have HOa:=hid hoa;have hbl:w.heap.size+1<W2.heap.size:=HPI2.out.o.1;have HRa:Hid (RowPl w.heap.size (W2.drew.alloc (.cells (plA (qs.getD j none) (y.x.2.1+1) z) 75)) vW (l++V1.map fun z=>⟨qs.getD z.1 none,z.2,kidAt y.x z.1⟩)):=hid (owns_same (w:=W2.drew) HPI2.out.r fun k e=>hal.block k (HPI2.out.r.lt k e).2);have HOb:Hid (Rg.Own (W2.drew.alloc (.cells (plA (qs.getD j none) (y.x.2.1+1) z) 75)) (w.heap.size+1) #[vW] 122):=hid (Rg.Own.below (w:=W2.drew) HPI2.out.o hal)
      have hln:(l++V1.map fun z=>(⟨qs.getD z.1 none,z.2,kidAt y.x z.1⟩:Pc)).length≤1000000:=by
       rw [List.length_append,List.length_map,HN.out];omega
      have hB3:w.heap.size≤(W2.drew.alloc (.cells (plA (qs.getD j none) (y.x.2.1+1) z) 75)).heap.size:=by
       have:=hal.size;have e:W2.drew.heap.size=W2.heap.size:=rfl;omega
      clear hoa hd5 hd7 hdt HS HPI hT2;refine wpIn_block ?_;refine drawIn (S:=fun w'=>Bo2 K1 W2 w') (by kernel_rfl) rfl (fun ⟨_,_,h⟩=>h) (Bo2.of (Below.refl _ _).drew) (fun hld=>?_);refine Rg.tk (i:=1) rfl ?_ (hy:=by intro wz hSw; (have hc:=Bo2.cell hSw c7 n7; go_simp <;> with_reducible rfl));try simp only [Act.put,Rg.s]
      refine Rg.tk (i:=2) rfl ?_;try simp only [Act.put,Rg.s]
      refine Rg.tk (i:=3) rfl ?_ (hy:=by intro wz hSw; (have q0:=hji; go_simp <;> with_reducible rfl));try simp only [Act.put,Rg.s]
      refine Rg.tk (i:=4) rfl ?_ (hy:=by intro wz hSw; (refine op_load_tree (off:=j) (Bo2.cell hSw ct nk) ?_; exact ⟨_,rfl,rfl⟩));try simp only [Act.put,Rg.s]
      refine Rg.tk (i:=5) rfl ?_;try simp only [Act.put,Rg.s]
      refine Rg.tk (i:=6) rfl ?_ (hy:=by intro wz hSw; (have hc:=Bo2.cell hSw c5 n5; go_simp <;> with_reducible rfl));try simp only [Act.put,Rg.s]
      refine Rg.tk (i:=7) rfl ?_ (hy:=by intro wz hSw; (have hw:=hwrap; go_simp <;> with_reducible rfl));try simp only [Act.put,Rg.s]
      refine Rg.tk (i:=8) rfl ?_;try simp only [Act.put,Rg.s]
      refine Rg.tk (i:=9) rfl ?_ (hy:=by intro wz hSw; (refine op_build (built_pl (qs.getD j none) (y.x.2.1+1) z) ?_; exact ⟨_,rfl,rfl⟩));try simp only [Act.put,Rg.s]
      refine wpAnyH_ready (rs:=[0,10]) (by kernel_rfl) (by simp) ?_;refine Rg.readyC (i:=0) rfl (fun K hK=>?_) (Rg.readyL (i:=10) rfl (fun K hK=>?_))
      ·refine Rg.meet (by rfl) _ _ (op_load_pls (cb) ?_) ?_
       ·exact ⟨_,rfl,rfl⟩
       refine hK.out _ _ ?_ (fun hld=>?_)
       ·exact hld
       clear hK K;try simp only [Act.put,Rg.s]
       refine Rg.rd (i:=10) rfl fun K hK=>?_;refine Rg.meet (by rfl) _ _ (op_lit_pl (p:=qs.getD j none) (n:=y.x.2.1+1) (h:=z) _ rfl ?_) ?_
       ·exact ⟨_,rfl,rfl⟩
       refine hK.out _ _ ?_ (fun hld=>?_)
       ·exact Bo2.below (Bo2.of (Below.refl _ _).drew) hal
       clear hK K;try simp only [Act.put,Rg.s]
       refine Rg.rd (i:=11) rfl fun K hK=>?_;refine meet_push_pl ⟨qs.getD j none,z,kidAt y.x j⟩ (by rfl) ?_ HRa.out HOa.out hln hB3 ?_
       ·exact ⟨_,_,rfl,rfl,rfl⟩
       intro v4 w4 hr4 hg4 hl4;refine hK.out _ _ ?_ (fun hld=>?_)
       ·exact hld.grown hg4 (fun k e=>(HPI2.out.k k).2 (.inr e))
       clear hK K;try simp only [Act.put,Rg.s]
       refine Rg.rd (i:=12) rfl fun K hK=>?_;have hob4:Rg.Own w4 (w.heap.size+1) #[vW] 122:=⟨Nat.lt_of_lt_of_le HOb.out.1 hg4.size,(hg4.block _ HOb.out.1 (fun e=>HPI2.out.nb e.symm)).trans HOb.out.2⟩
       have hv4:∃ s n c,v4 = .slice s n c:=by obtain ⟨a,c,e⟩:=owns_slice hr4; exact ⟨_,_,_,e⟩
       refine meet_store_pls (by rfl) hob4 ?_ hv4 ?_
       ·exact ⟨_,_,rfl,rfl,rfl⟩
       intro w5 ho5 hu5;refine hK.out _ _ ?_ (fun hld=>?_)
       ·exact hld.upd hu5 ((HPI2.out.k _).2 (.inl rfl))
       clear hK K;refine wpAnyH_done (by kernel_rfl) ?_ _;have hs3:W2.heap.size≤(W2.drew.alloc (.cells (plA (qs.getD j none) (y.x.2.1+1) z) 75)).heap.size:=hal.size;have hl5:v4.ownBlock=vW.ownBlock∨∃ k,W2.heap.size≤k∧v4.ownBlock=some k:=hl4.imp id fun e=>⟨_,hs3,e⟩
       have hne:∀ k,v4.ownBlock=some k→k≠w.heap.size+1:=fun k e e2=>by
        rcases hl5 with e3 | ⟨k',hk',e3⟩
        ·exact HPI2.out.nb (by rw [← e3,← e2]; exact e)
        ·rw [e3] at e;have:=Option.some.inj e;omega
       exact push_rnd HPI2.out hi2.out ht2.out HG13.out.z (by omega) hld ho5 (owns_same hr4 fun k e=>hu5.block k (hne k e)) hl5
      ·refine Rg.meet (by rfl) _ _ (op_lit_pl (p:=qs.getD j none) (n:=y.x.2.1+1) (h:=z) _ rfl ?_) ?_
       ·exact ⟨_,rfl,rfl⟩
       refine hK.out _ _ ?_ (fun hld=>?_)
       ·exact Bo2.below (Bo2.of (Below.refl _ _).drew) hal
       clear hK K;try simp only [Act.put,Rg.s]
       refine Rg.rd (i:=0) rfl fun K hK=>?_;refine Rg.meet (by rfl) _ _ (op_load_pls (cell_on hal cb) ?_) ?_
       ·exact ⟨_,rfl,rfl⟩
       refine hK.out _ _ ?_ (fun hld=>?_)
       ·exact hld
       clear hK K;try simp only [Act.put,Rg.s]
       refine Rg.rd (i:=11) rfl fun K hK=>?_;refine meet_push_pl ⟨qs.getD j none,z,kidAt y.x j⟩ (by rfl) ?_ HRa.out HOa.out hln hB3 ?_
       ·exact ⟨_,_,rfl,rfl,rfl⟩
       intro v4 w4 hr4 hg4 hl4;refine hK.out _ _ ?_ (fun hld=>?_)
       ·exact hld.grown hg4 (fun k e=>(HPI2.out.k k).2 (.inr e))
       clear hK K;try simp only [Act.put,Rg.s]
       refine Rg.rd (i:=12) rfl fun K hK=>?_;have hob4:Rg.Own w4 (w.heap.size+1) #[vW] 122:=⟨Nat.lt_of_lt_of_le HOb.out.1 hg4.size,(hg4.block _ HOb.out.1 (fun e=>HPI2.out.nb e.symm)).trans HOb.out.2⟩
       have hv4:∃ s n c,v4 = .slice s n c:=by obtain ⟨a,c,e⟩:=owns_slice hr4; exact ⟨_,_,_,e⟩
       refine meet_store_pls (by rfl) hob4 ?_ hv4 ?_
       ·exact ⟨_,_,rfl,rfl,rfl⟩
       intro w5 ho5 hu5;refine hK.out _ _ ?_ (fun hld=>?_)
       ·exact hld.upd hu5 ((HPI2.out.k _).2 (.inl rfl))
       clear hK K;refine wpAnyH_done (by kernel_rfl) ?_ _;have hs3:W2.heap.size≤(W2.drew.alloc (.cells (plA (qs.getD j none) (y.x.2.1+1) z) 75)).heap.size:=hal.size;have hl5:v4.ownBlock=vW.ownBlock∨∃ k,W2.heap.size≤k∧v4.ownBlock=some k:=hl4.imp id fun e=>⟨_,hs3,e⟩
       have hne:∀ k,v4.ownBlock=some k→k≠w.heap.size+1:=fun k e e2=>by
        rcases hl5 with e3 | ⟨k',hk',e3⟩
        ·exact HPI2.out.nb (by rw [← e3,← e2]; exact e)
        ·rw [e3] at e;have:=Option.some.inj e;omega
       exact push_rnd HPI2.out hi2.out ht2.out HG13.out.z (by omega) hld ho5 (owns_same hr4 fun k e=>hu5.block k (hne k e)) hl5
    ·refine ⟨_,rfl,listRest rfl (by rintro ⟨_,_,⟨⟨_,h⟩,_⟩⟩; cases h) ?_⟩;have hmf:Mv w K w10 (fun _=>False) w11:=mv_F HOut.out h11;have hm7:Mv w K w7 K' w11:=mv_G HOut.out HM78.out HB10.out h11 HGv.out;have hdm:∀ D∈Ds,w.heap.size≤D∧w11.heap[D]? = some (.deferred (some [])) ∧ ¬ K' D:=fun D hD=>by
      obtain ⟨h1,h2,h3⟩:=HG7.out.dm D hD;have hl:=(Array.getElem?_eq_some_iff.1 h2).1;exact ⟨h1,(hm7.bl D h1 hl h3).trans h2,hm7.not hl h3⟩
     have HEnd:Hid (SeqEnd M J Js (goL I t 0 []) K0 w (.returned (.tuple #[])) (shut w11 Ds)):=hid (shut_end HJ.out HJs.out (.inr ⟨HPre.out,h11.j⟩) (HG10.out.f.trans h11.f HG10.out.sub) h11.i h11.t (fun k hk=>(hm7.sub k hk).elim (HG7.out.sub k) (fun h=>.inr (Nat.le_trans HG7.out.f.size h))) HOut.out HG10.out.z hdm _);have HD:=hid (And.intro HG10.out.dn hdm);clear hmf hm7 h11 HYy HG7 HM78 HGv HG10 HX10 HW10 HKr10 HNp10 HN10 HK10 HB10 hdm;go_wp2;refine leaves_marks Ds w11 HD.out.1 (fun D hD=>(HD.out.2 D hD).2.1) ⟨_,results_none rfl _ _ _,HEnd.out⟩
   ·have hI':I y.x.2.2=false:=by
     cases h:I y.x.2.2 with
     | true=>exact absurd h hI
     | false=>rfl
    rw [hI'];have HE7:Hid (V++stackP I (l.map (·.x))=goL I t 0 []∧rankP (l.map (·.x))≤200000):=hid (by
     have h1:=HE.out;rw [HSt.out,stackP_out _ hI',List.map_append] at h1;exact ⟨h1.1,by have:=rankP_out (l.map (·.x)) y.x; have h2:rankP (l.map (·.x)++[y.x])≤200000:=h1.2; omega⟩)
    have HR7:Hid (rankW M (w.heap.size+1) w7<rankW M (w.heap.size+1) wr):=hid (by
     have hr:=rankW_eq HG7.out.ob HG7.out.row (fun z hz=>(HG7.out.ok z hz).1);rw [hr,HRk.out,List.map_append];exact rankP_out _ _)
    clear HW7 HX7 hI HE HG HY1;go_wp2;refine ⟨?_,HR7.out⟩;rw [HInv.out];refine ⟨Ds,_,l,V,K,HG7,HE7,?_⟩
    (repeat apply Exists.intro)
    rfl
end Tm
end
end Go.Proofs.YtnecijeakeklaaaGreatDoor
