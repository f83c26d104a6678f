/-
 The contract of walk.Count.
-/
import Derived.Test.YtnecijeakeklaaaGreatDoorMp21
import Derived.Test.YtnecijeakeklaaaGreatDoorMp17
import Derived.Maps.AppendAt
import Derived.Laws.AppendOwnNone
open Go.Lib (hid)
set_option linter.unusedSimpArgs false
set_option linter.unusedVariables false
set_option maxHeartbeats 40000000
set_option maxRecDepth 100000
namespace Go.Proofs.YtnecijeakeklaaaGreatDoor
section
open Go.RowKit
namespace Tm
open Tr Ni Pk Ky No Rf Rl Rf2
open Sm (Tab)
def Box2I {α:Type} (M:Mp) (b c:Nat) (T:TypeId) (f g:List α→Value) (V:List α) (K:Nat→Prop) (w:World):Prop:=Rg.Own w b #[f V] T∧Rg.Own w c #[g V] T∧(∀ k,K k↔k=b∨k=c)∧b≠c∧(M.at_ b=none ∧ ¬ M.ft b)∧M.at_ c=none ∧ ¬ M.ft c
theorem box2_sta {α:Type} (M:Mp) (b c:Nat) (T:TypeId) (f g:List α→Value):Sta M (Box2I M b c T f g) :=
 ⟨fun V K w w' h hs hk=>⟨⟨Nat.lt_of_lt_of_le h.1.1 hs,(hk b ((h.2.2.1 b).2 (.inl rfl))).trans h.1.2⟩,⟨Nat.lt_of_lt_of_le h.2.1.1 hs,(hk c ((h.2.2.1 c).2 (.inr rfl))).trans h.2.1.2⟩,h.2.2⟩,fun V K w h k hk=>by
  rcases (h.2.2.1 k).1 hk with rfl | rfl
  ·exact ⟨h.1.1,h.2.2.2.2.1⟩
  ·exact ⟨h.2.1.1,h.2.2.2.2.2⟩⟩
theorem box2_rnd {α:Type} {M:Mp} {b c:Nat} {T:TypeId} {f g:List α→Value} {V:List α} {K:Nat→Prop} {w w1 w2:World} {x : α} {n u:Nat} (h:Box2I M b c T f g V K w) (hi:Inv M w) (ht:Tab w) (hgu:1<u) (hu2:u=b∨u=c) (hb:Below w.heap.size w w1) (ho:Rg.Own w2 b #[f (V++[x])] T) (ho2:Rg.Own w2 c #[g (V++[x])] T) (hu:Rg.Upd w1 u w2):∃ K',Rnd M (Box2I M b c T f g) V K n x w w2 K':=by
 have hk:K u:=(h.2.2.1 u).2 hu2;have hf:¬ M.ft u:=hu2.elim (fun e=>by rw [e]; exact h.2.2.2.2.1.2) fun e=>by rw [e]; exact h.2.2.2.2.2.2
 exact ⟨K,⟨⟨ho,ho2,h.2.2⟩,fun k hk=>.inl hk,⟨hu.os.trans hb.os,hu.tape.trans hb.tape,hu.output.trans hb.output,by rw [hu.size]; exact hb.size,fun k hl _ hn=>(hu.block k fun e=>hn (by rw [e]; exact hk)).trans (hb.block k hl)⟩,(hi.below hb).upd hu hf,tab_upd (ht.below hb ht.pos) hu hgu⟩⟩
theorem box2_same {α:Type} {M:Mp} {b c:Nat} {T:TypeId} {f g:List α→Value} {V:List α} {K:Nat→Prop} {w w1:World} {x : α} {n:Nat} (h:Box2I M b c T f g V K w) (hi:Inv M w) (ht:Tab w) (hb:Below w.heap.size w w1) (he:f (V++[x])=f V) (he2:g (V++[x])=g V):∃ K',Rnd M (Box2I M b c T f g) V K n x w w1 K' :=
 ⟨K,⟨⟨by rw [he]; exact h.1.below hb,by rw [he2]; exact h.2.1.below hb,h.2.2⟩,fun k hk=>.inl hk,⟨hb.os,hb.tape,hb.output,hb.size,fun k hl _ _=>hb.block k hl⟩,hi.below hb,ht.below hb ht.pos⟩⟩
def leafs (V:List Pl):Nat:=((V.map leafL).flatten).length
def stubs (V:List Pl):Nat:=(V.filter fun x=>isStub x.1).length
theorem leafs_snoc (V:List Pl) (x:Pl):leafs (V++[x])=leafs V+(leafL x).length:=by simp [leafs]
theorem stubs_snoc (V:List Pl) (x:Pl):stubs (V++[x])=stubs V+if isStub x.1 then 1 else 0:=by
 unfold stubs;rw [List.filter_append,List.length_append];cases h:isStub x.1 <;> simp [h]
theorem leafs_le:∀ V:List Pl,leafs V≤V.length
 | []=>Nat.le_refl _
 | x::V=>by
  have ih:=leafs_le V;unfold leafs at ih ⊢;rw [List.map_cons,List.flatten_cons,List.length_append,List.length_cons];have:(leafL x).length≤1:=by unfold leafL; split <;> simp
  omega
theorem stubs_le (V:List Pl):stubs V≤V.length:=List.length_filter_le _ _
theorem go_len:∀ (t:T) (o:Nat) (a:Pa),(goL yes t o a).length=cntT t
 | .nil,_,_=>rfl
 | .leaf _ _,_,_=>rfl
 | .stub _,_,_=>rfl
 | .ext q s,o,a=>by
  show (_::goL yes s (o+1) (a++q)).length=1+cntT s;rw [List.length_cons,go_len s];omega
 | .br ks,o,a=>by
  show (_::((kidsOf ks).map fun i=>goL yes (ks i) (o+1) (a++[nibOf i])).flatten).length=1+((kidsOf ks).map fun i=>cntT (ks i)).sum;have e:((kidsOf ks).map fun i=>goL yes (ks i) (o+1) (a++[nibOf i])).map List.length=(kidsOf ks).map fun i=>cntT (ks i):=by
   rw [List.map_map];exact List.map_congr_left fun i _=>go_len (ks i) (o+1) (a++[nibOf i])
  rw [List.length_cons,List.length_flatten,e];omega
theorem leaf_ok {x:Pl} (h:PlOk x) {q:Pa} {v:ByteArray} (e:x.1 = .leaf q v):x.2.2.length+q.length=64∧Nib (x.2.2++q):=by
 obtain ⟨t,o,a⟩:=x;obtain ⟨L,hl,g,f,hn,ho⟩:=h;have e':t = .leaf q v:=e;subst e';have hl':a.length+L=64:=hl;exact ⟨by show a.length+q.length=64; have:=g.1; omega,hn.append g.2⟩
theorem count_any (M:Mp) (p:Option Addr) (t:T) (hg:Tr.Good t 64) (hf:Fine t) (hc:cntT t≤200000) (w:World) (hi:Inv M w) (ht:IsT M p t) (hT:Tab w) :
  Calls Tryz.prog 9 #[tv p] w (TellV M w (.tuple #[.int .i64 (pathsT t []).length,.int .i64 (stubsN t)])):=by
 have hout:∀ k,w.heap.size≤k→M.at_ k=none ∧ ¬ M.ft k:=fun k hk=>⟨hi.out hk,hi.free hk⟩
 obtain ⟨w2,hw2⟩:∃ w2,w2=((w.alloc (.cells #[.pointer p] 28)).alloc (.cells #[.int .i64 0] 3)).alloc (.cells #[.int .i64 0] 3):=⟨_,rfl⟩
 have hb2:Below w.heap.size w w2:=by rw [hw2]; exact (al2 _ _ _).alloc (by simp; omega) _
 have hs2:w2.heap.size=w.heap.size+3:=by rw [hw2]; simp
 have hO2:Rg.Own w2 (w.heap.size+1) #[.int .i64 0] 3:=by
  have:=(Rg.Own.new (w.alloc (.cells #[.pointer p] 28)) #[.int .i64 0] 3).below (al1 _ (.cells #[.int .i64 0] 3));rw [hw2];simpa using this
 have hOc:Rg.Own w2 (w.heap.size+2) #[.int .i64 0] 3:=by
  have:=Rg.Own.new ((w.alloc (.cells #[.pointer p] 28)).alloc (.cells #[.int .i64 0] 3)) #[.int .i64 0] 3;rw [hw2];simpa using this
 have HOc:=hid hOc;have hc2:w2.cell? ⟨w.heap.size,0,none⟩=some (.pointer p):=by rw [hw2]; exact cell_on (al1 _ _) (cell_on (al1 _ _) (box_tree w p))
 have HW2:=hid hw2;have HS2:=hid hs2;have HB2:=hid hb2;have HO2:=hid hO2;have HOut:=hid hout;have HI:=hid hi;have HT:=hid hT;have HGo:=hid (fun g0 gi=>goer_seq M g0 gi 32 #[] p t yes (enters_of Tryz.func32 (by kernel_rfl) rfl) hg hf hc ht);have HCn:Hid ((goL yes t 0 []).length≤200000):=hid (by rw [go_len]; exact hc);have HDe:=hid (go_all t 0 [] 64 hg rfl);have HDs:=hid (go_stubs t 0 []);clear hb2 hO2 hOc hw2 hout hi hT hg hf hc ht hs2;refine calls_marks Tryz.func9 rfl ?_
 simp only [Tryz.ntmps9,List.size_toArray,List.length_cons,List.length_nil,Nat.reduceAdd,Nat.reduceSub,Array.replicate_succ,Array.replicate_zero,List.push_toArray,List.append_toArray,List.nil_append,List.cons_append];go_wp2_with (first
  | (rw [← HW2.out]; refine Rg.run rfl _ _ (op_load_tree hc2 ⟨_,rfl,rfl⟩) ?_))
 refine (wgoer_any p w2).mono ?_;rintro e w3 ⟨rfl,h3,hb3⟩;have HO3:=hid h3;have HB3:=hid hb3;clear h3 hb3;go_wp2_with fail
 refine (wgoer1_any (.func (Fn.func 32) #[] #[]) w2.heap.size w3 rfl).mono ?_;rintro e w4 ⟨rfl,h4,hb4⟩;have HO4:=hid h4;have HB4:=hid hb4;have hb14:=bst (bst HB2.out HB3.out) hb4;have HB14:=hid hb14;have hs3:w2.heap.size<w3.heap.size:=HO3.out.1;have hs4:w3.heap.size<w4.heap.size:=h4.1;have hO14:Rg.Own w4 (w.heap.size+1) #[.int .i64 0] 3:=(HO2.out.below HB3.out).below hb4;have hOc4:Rg.Own w4 (w.heap.size+2) #[.int .i64 0] 3:=(HOc.out.below HB3.out).below hb4;clear h4 hb4 hb14 hc2;go_wp2_with fail
 refine wp_range (gf:=67) (lb:=#[.pointer (some ⟨w2.heap.size,0,none⟩),.pointer (some ⟨w3.heap.size,0,none⟩)]) (K0:=fun k=>k=w.heap.size+1∨k=w.heap.size+2) rfl (enters_of Tryz.func67 (by kernel_rfl) rfl) (HGo.out _ _) (fun x W args h=>by rw [goA_size h]; rfl) ?pre (HI.out.below HB14.out) (HT.out.below HB14.out HT.out.pos) (box2_sta M (w.heap.size+1) (w.heap.size+2) 3 (fun V:List Pl=>.int .i64 (leafs V:Nat)) (fun V:List Pl=>.int .i64 (stubs V:Nat))) (Ix:=fun _ _ _ _=>False) (fun _=>no_sta M) ?start ?round ?done ?stop
 case pre =>
  intro W1 K1 hb hK;have hs2:=HS2.out;exact ⟨own_cell (j:=0) ((HO3.out.below HB4.out).below hb) rfl,own_cell (j:=0) (HO4.out.below hb) rfl,(HOut.out _ (by omega)).1,fun hk=>(hK _ hk).elim (by omega) (by omega),fun wr _ p o h a _ _=>all_any p o h wr⟩
 case start=>exact ⟨hO14,hOc4,fun k=>Iff.rfl,by omega,HOut.out _ (by omega),HOut.out _ (by omega)⟩
 case stop =>
  intro c V K W _ h;exact h.elim
 case done =>
  intro K Wd hJ hfd hjd htd hsd hDd _;have hs2:=HS2.out;have hFr:=fun q=>fr_shut (wd:=Wd.drewN q) (K:=fun k=>k=w.heap.size+1∨k=w.heap.size+2) HB14.out ⟨hfd.os,hfd.tape,hfd.output,hfd.size,hfd.block⟩ (hjd.below (below_drewN (Below.refl _ _) q)) (htd.below (below_drewN (Below.refl _ _) q) htd.pos) HI.out HT.out.pos (fun k hk=>by omega) (by omega:w.heap.size≤w4.heap.size);have hJ1:Rg.Own Wd (w.heap.size+1) #[.int .i64 (pathsT t []).length] 3:=by
   have h:=hJ.1;unfold leafs at h;simp only [HDe.out] at h;exact h
  have hJ2:Rg.Own Wd (w.heap.size+2) #[.int .i64 (stubsN t)] 3:=by
   have h:=hJ.2.1;unfold stubs at h;simp only [HDs.out] at h;exact h
  have hcd:Wd.cell? ⟨w.heap.size+1,0,none⟩=some (.int .i64 (pathsT t []).length):=own_cell (j:=0) hJ1 rfl;have hce:Wd.cell? ⟨w.heap.size+2,0,none⟩=some (.int .i64 (stubsN t)):=own_cell (j:=0) hJ2 rfl;have HD:=hid hDd;have HF:=hid hFr;clear hJ hfd hjd htd hsd hDd hJ1 hJ2 hFr hs2;simp only [Exit.inBlock];go_wp2_with fail
  go_quiet (fail)
  go_wp2;exact leaves_one (w:=Wd.drewN nq) HD.out ⟨_,results_tmp2 rfl _ _ _,rfl,HF.out nq⟩
 case round =>
  intro l V K x args W S hl hlW hKl hI hfW hsW hiW hTW hpf hA hS;obtain ⟨pp,hh,na,nn,nc,rfl,htp,hbW,hbN,hok⟩:=hA;have HS:=hid hS;have HW0:=hid (And.intro hbW hbN);have hVn:V.length≤200000:=by
   have h1:=hpf.length_le;have h2:=HCn.out;rw [List.length_append] at h1;omega
  clear hfW hsW hpf hS hbW hbN;rw [zip2];simp only [List.setIfInBounds_toArray,List.set_cons_zero,List.set_cons_succ];refine wpIn_seq_k ?_;intro K8 hK8;refine regionIn rfl (fun ⟨_,_,h⟩=>h) ?_;have hal3:=al1 W (.cells (plA none 0 (none,0,0)) 75);have HA3:=hid (Rg.Own.new W (plA none 0 (none,0,0)) 75);go_wp2_with (first
   | (refine Rg.run rfl _ _ (run_alloc_pl _ _ _ W.heap.size rfl rfl) ?_)
   | (refine wpl_store_pl HA3.out pp x.2.1 hh rfl _ _ rfl rfl rfl rfl ?_; intro W3 hO hu; have HP3:=hid hO; have HB3':=hid (hu.below hal3 (Nat.le_refl _)); clear hO hu))
  refine regionIn rfl (fun ⟨_,_,h⟩=>h) ?_;have hal4:=al1 W3 (.cells (ndC nd0 none 0 0) 56);have HA4:=hid (Rg.Own.new W3 (ndC nd0 none 0 0) 56);have HNl:=hid (nodeT_length x.1);obtain ⟨N,hN⟩:∃ N,nodeT x.1=N:=⟨_,rfl⟩
  have HNN:=hid hN;rw [hN] at HNl ⊢;clear hN;go_wp2_with (first
   | (refine Rg.run rfl _ _ (run_alloc_nd _ _ _ W3.heap.size rfl rfl) ?_)
   | (refine wpl_store_ndL HA4.out zks_length N na nn nc HNl.out rfl _ _ rfl rfl rfl rfl ?_; intro W4 hO hu; have HN4:=hid hO; have HB4':=hid (hu.below hal4 (Nat.le_refl _)); clear hO hu))
  have hbW:=bst HB3'.out HB4'.out;have HBW:=hid hbW;refine HS.out _ _ hbW (fun W5 hT5=>?_);have HP5:=hid (hT5.own (HP3.out.below HB4'.out));have HN5:=hid (hT5.own HN4.out);have HT5:=hid hT5;have hs5:W5.heap.size=W4.heap.size:=hT5.u.size;have hsW:=hbW.size;have hI5:Hid (Box2I M (w.heap.size+1) (w.heap.size+2) 3 (fun V:List Pl=>.int .i64 (leafs V:Nat)) (fun V:List Pl=>.int .i64 (stubs V:Nat)) V K W5):=hid ⟨HT5.out.own (hI.1.below HBW.out),HT5.out.own (hI.2.1.below HBW.out),hI.2.2⟩
  have HI5:=hid ((hiW.below HBW.out).upd HT5.out.u (HOut.out l (by have:=HB14.out.size; omega)).2);have hzz:=HT.out.pos;have HT5':=hid (tab_upd (hTW.below HBW.out hTW.pos) HT5.out.u (by have:=HB14.out.size; omega));have HWb:=hid (HT5.out.bs (HW0.out.1.below HBW.out));have HNb:=hid (HT5.out.bs (HW0.out.2.below HBW.out));rw [HNN.out] at HNb
  have HFw:Hid (∀ W8,Below W5.heap.size W5 W8→(W8.cell? ⟨w.heap.size+1,0,none⟩=some (.int .i64 (leafs V:Nat))∧W8.frozen? ⟨w.heap.size+1,0,none⟩=false)∧(W8.cell? ⟨w.heap.size+1+1,0,none⟩=some (.int .i64 (stubs V:Nat))∧W8.frozen? ⟨w.heap.size+1+1,0,none⟩=false)∧W8.cell? ⟨W3.heap.size,0,none⟩=some (.int .i64 N.kd)∧W8.cell? ⟨W.heap.size,0,none⟩=some (.pointer pp)):=hid (fun W8 hb=>by
   have h1:=hI5.out.1.below hb;have h2:=hI5.out.2.1.below hb;exact ⟨⟨own_cell (j:=0) h1 rfl,own_free (j:=0) h1⟩,⟨own_cell (j:=0) h2 rfl,own_free (j:=0) h2⟩,own_cell (j:=0) (HN5.out.below hb) rfl,own_cell (j:=0) (HP5.out.below hb) rfl⟩)
  have hln:leafs V≤1000000∧stubs V≤1000000:=⟨by have:=leafs_le V; omega,by have:=stubs_le V; omega⟩
  obtain ⟨hln1,hln2⟩:=hln;have hwr1:IntKind.i64.wrap ((leafs V:Int)+1)=(leafs V:Int)+1:=IntWalk.i64_in _ (by omega);have hwr2:IntKind.i64.wrap ((stubs V:Int)+1)=(stubs V:Int)+1:=IntWalk.i64_in _ (by omega);refine wpIn_block ?_;refine wpIn_seq_k ?_;intro K9 hK9;refine regionIn rfl (fun ⟨_,_,h⟩=>h) ?_;by_cases hx:N.kd=1
  ·obtain ⟨q,u,hqu⟩:∃ q u,x.1 = .leaf q u:=by
    rw [← HNN.out] at hx;cases e:x.1 with
    | leaf q u=>exact ⟨q,u,rfl⟩
    | nil=>rw [e] at hx; exact absurd (show (0:Int)=1 from hx) (by decide)
    | stub r=>rw [e] at hx; exact absurd (show (0:Int)=1 from hx) (by decide)
    | ext q s=>rw [e] at hx; exact absurd (show (2:Int)=1 from hx) (by decide)
    | br ks=>rw [e] at hx; exact absurd (show (3:Int)=1 from hx) (by decide)
   have hNp:N.p=q:=by rw [← HNN.out,hqu]; rfl
   obtain ⟨hl1,hl2⟩:=leaf_ok hok hqu;have HPa:=hid (pair_leaf pp x.2.1 hh x.2.2 N na nn nc hx W5 HWb.out HNb.out (by rw [hNp]; exact hl1) (by rw [hNp]; exact hl2));have HLe:Hid (leafs (V++[x])=leafs V+1∧stubs (V++[x])=stubs V):=hid ⟨by rw [leafs_snoc]; unfold leafL; rw [hqu]; rfl,by rw [stubs_snoc,hqu]; rfl⟩;have HKl:=hid (keyL_length (x.2.2++N.p));obtain ⟨kk,hkk⟩:∃ kk,keyL (x.2.2++N.p)=kk:=⟨_,rfl⟩
   rw [hkk] at HPa HKl;clear hx hqu hNp hl1 hl2 hkk;go_wp2_with (first
    | (refine Rg.run rfl _ _ (op_load_pl (PlAt.own HP5.out) ⟨_,rfl,rfl⟩) ?_)
    | (refine Rg.run rfl _ _ (op_load_nd HN5.out HNl.out ⟨_,rfl,rfl⟩) ?_))
   refine HPa.out.mono ?_;rintro e W6 ⟨rfl,hb6⟩;have HB6:=hid hb6;have hal6:=al1 W6 (.cells (pairA pr0) 33);have HO6:=hid (Rg.Own.new W6 (pairA pr0) 33);have HB6':=hid (bst hb6 hal6);clear hb6;go_wp2_with (first
    | (refine Rg.run rfl _ _ (run_alloc_pair _ _ _ W6.heap.size rfl rfl) ?_)
    | (refine wpl_store_pair HO6.out pr0_len (kk,N.v) HKl.out rfl _ _ rfl rfl rfl rfl ?_; intro W7 hO hu; have HB7:=hid (hu.below HB6'.out (by have:=HB6.out.size; omega)); obtain ⟨⟨c1,z1⟩,⟨c2,z2⟩,ck,cp⟩:=HFw.out W7 HB7.out; clear hO hu))
   refine wpIn_seq_k ?_;intro K11 hK11;refine regionIn rfl (fun ⟨_,_,h⟩=>h) ?_;go_wp2;refine wpIn_cond_true rfl ?_;refine regionIn rfl (fun ⟨_,_,h⟩=>h) ?_;go_wp2;have hI7b:=hI5.out.1.below HB7.out;have hI7c:=hI5.out.2.1.below HB7.out;exact box2_rnd hI5.out HI5.out HT5'.out (by omega) (.inl rfl) HB7.out (by
    have h:=own_setCell (o:=0) hI7b (Value.int .i64 ((leafs V:Int)+1));show Rg.Own _ _ #[Value.int .i64 (leafs (V++[x]):Nat)] _;rw [HLe.out.1];exact h) (by
    show Rg.Own _ _ #[Value.int .i64 (stubs (V++[x]):Nat)] _;rw [HLe.out.2];exact hI7c.upd (upd_setCell _ _ _ _) (by omega)) (upd_setCell _ _ _ _)
  ·have HPa:=hid (pair_none pp x.2.1 hh N na nn nc hx W5);by_cases hk0:N.kd=0
   ·have hk1:(N.kd==0)=true:=by simp [hk0]
    have hno:x.1 = .nil∨∃ r,x.1 = .stub r:=by
     rw [← HNN.out] at hk0;cases e:x.1 with
     | nil=>exact .inl rfl
     | stub r=>exact .inr ⟨r,rfl⟩
     | leaf q u=>rw [e] at hk0; exact absurd (show (1:Int)=0 from hk0) (by decide)
     | ext q s=>rw [e] at hk0; exact absurd (show (2:Int)=0 from hk0) (by decide)
     | br ks=>rw [e] at hk0; exact absurd (show (3:Int)=0 from hk0) (by decide)
    have HLe:Hid (leafs (V++[x])=leafs V∧stubs (V++[x])=stubs V+if pp.isNone then 0 else 1):=hid (by
     rcases hno with e | ⟨r,e⟩
     ·rw [leafs_snoc,stubs_snoc];have hpn:pp=none:=by rw [e] at htp; exact htp.nil_iff.2 rfl
      unfold leafL;rw [e,hpn];exact ⟨rfl,rfl⟩
     ·rw [leafs_snoc,stubs_snoc];have hpn:pp≠none:=fun e2=>by rw [e] at htp; exact absurd (htp.nil_iff.1 e2) (by simp)
      unfold leafL;rw [e];refine ⟨rfl,?_⟩;cases pp with
      | none=>exact absurd rfl hpn
      | some ad=>rfl)
    clear hx hk0 hno;go_wp2_with (first
     | (refine Rg.run rfl _ _ (op_load_pl (PlAt.own HP5.out) ⟨_,rfl,rfl⟩) ?_)
     | (refine Rg.run rfl _ _ (op_load_nd HN5.out HNl.out ⟨_,rfl,rfl⟩) ?_))
    refine HPa.out.mono ?_;rintro e W6 ⟨rfl,hb6⟩;have HB6:=hid hb6;have hal6:=al1 W6 (.cells (pairA pr0) 33);have HO6:=hid (Rg.Own.new W6 (pairA pr0) 33);have HB6':=hid (bst hb6 hal6);clear hb6;go_wp2_with (first
     | (refine Rg.run rfl _ _ (run_alloc_pair _ _ _ W6.heap.size rfl rfl) ?_)
     | (refine wpl_store_pair HO6.out pr0_len pr0 pr0_len rfl _ _ rfl rfl rfl rfl ?_; intro W7 hO hu; have HB7:=hid (hu.below HB6'.out (by have:=HB6.out.size; omega)); obtain ⟨⟨c1,z1⟩,⟨c2,z2⟩,ck,cp⟩:=HFw.out W7 HB7.out; clear hO hu))
    refine wpIn_seq_k ?_;intro K11 hK11;refine regionIn rfl (fun ⟨_,_,h⟩=>h) ?_;go_wp2;refine wpIn_cond_false rfl ?_;refine wpIn_seq_k ?_;intro K12 hK12;refine regionIn rfl (fun ⟨_,_,h⟩=>h) ?_;go_wp2_with (first
     | (refine Rg.runW (by rfl) _ _ (op_load_tree cp ⟨_,rfl,rfl⟩) ?_))
    refine (empty_any pp W7).mono ?_;rintro e W8 ⟨rfl,hb8⟩;have HB8:=hid (bst HB7.out hb8);obtain ⟨⟨d1,y1⟩,⟨d2,y2⟩,_,_⟩:=HFw.out W8 HB8.out;clear hb8 c1 z1 c2 z2 ck cp;cases pp with
    | none =>
     simp only [Option.isNone];go_wp2;refine wpIn_cond_false rfl ?_;refine wpIn_skip ?_;exact box2_same hI5.out HI5.out HT5'.out HB8.out (by show Value.int .i64 (leafs (V++[x]):Nat)=_; rw [HLe.out.1]) (by show Value.int .i64 (stubs (V++[x]):Nat)=_; rw [HLe.out.2]; rfl)
    | some ad =>
     simp only [Option.isNone];go_wp2;refine wpIn_cond_true rfl ?_;refine regionIn rfl (fun ⟨_,_,h⟩=>h) ?_;go_wp2;have hI7b:=hI5.out.1.below HB8.out;have hI7c:=hI5.out.2.1.below HB8.out;exact box2_rnd (u:=w.heap.size+1+1) hI5.out HI5.out HT5'.out (by omega) (.inr rfl) HB8.out (by
      show Rg.Own _ _ #[Value.int .i64 (leafs (V++[x]):Nat)] _;rw [HLe.out.1];exact hI7b.upd (upd_setCell _ _ _ _) (by omega)) (by
      have h:=own_setCell (o:=0) hI7c (Value.int .i64 ((stubs V:Int)+1));show Rg.Own _ _ #[Value.int .i64 (stubs (V++[x]):Nat)] _;rw [HLe.out.2];exact h) (upd_setCell _ _ _ _)
   ·have hk1:(N.kd==0)=false:=by simp [hk0]
    have HLe:Hid (leafs (V++[x])=leafs V∧stubs (V++[x])=stubs V):=hid (by
     rw [leafs_snoc,stubs_snoc];rw [← HNN.out] at hk0 hx;unfold leafL;cases e:x.1 with
     | nil=>exact ⟨rfl,rfl⟩
     | stub r=>rw [e] at hk0; exact absurd (show (0:Int)=0 from rfl) hk0
     | leaf q u=>rw [e] at hx; exact absurd (show (1:Int)=1 from rfl) hx
     | ext q s=>exact ⟨rfl,rfl⟩
     | br ks=>exact ⟨rfl,rfl⟩)
    clear hx hk0;go_wp2_with (first
     | (refine Rg.run rfl _ _ (op_load_pl (PlAt.own HP5.out) ⟨_,rfl,rfl⟩) ?_)
     | (refine Rg.run rfl _ _ (op_load_nd HN5.out HNl.out ⟨_,rfl,rfl⟩) ?_))
    refine HPa.out.mono ?_;rintro e W6 ⟨rfl,hb6⟩;have HB6:=hid hb6;have hal6:=al1 W6 (.cells (pairA pr0) 33);have HO6:=hid (Rg.Own.new W6 (pairA pr0) 33);have HB6':=hid (bst hb6 hal6);clear hb6;go_wp2_with (first
     | (refine Rg.run rfl _ _ (run_alloc_pair _ _ _ W6.heap.size rfl rfl) ?_)
     | (refine wpl_store_pair HO6.out pr0_len pr0 pr0_len rfl _ _ rfl rfl rfl rfl ?_; intro W7 hO hu; have HB7:=hid (hu.below HB6'.out (by have:=HB6.out.size; omega)); obtain ⟨⟨c1,z1⟩,⟨c2,z2⟩,ck,cp⟩:=HFw.out W7 HB7.out; clear hO hu))
    refine wpIn_seq_k ?_;intro K11 hK11;refine regionIn rfl (fun ⟨_,_,h⟩=>h) ?_;go_wp2;refine wpIn_cond_false rfl ?_;refine wpIn_seq_k ?_;intro K12 hK12;refine regionIn rfl (fun ⟨_,_,h⟩=>h) ?_;go_wp2;refine wpIn_cond_false rfl ?_;refine wpIn_skip ?_;exact box2_same hI5.out HI5.out HT5'.out HB7.out (by show Value.int .i64 (leafs (V++[x]):Nat)=_; rw [HLe.out.1]) (by show Value.int .i64 (stubs (V++[x]):Nat)=_; rw [HLe.out.2])
end Tm
end
section
open Go.RowKit
namespace Tm
open Tr Ni Pk Ky No Rf Rl Rf2
open Sm (Tab)
theorem spread_new (s:ByteArray) (hs:s.size≤1000) (w:World) :
  Calls Tryz.prog 78 #[.string s] w (NewB w (nibsL s)):=by
 obtain ⟨m,hm⟩:∃ m,2*s.size=m:=⟨_,rfl⟩
 have hmk:=run_make_row' (P:=Tryz.prog) 51 5 (.int .u8 0) 1 Tryz.underlying51 Ni.info_u8 rfl .i64 .i64 m (by omega) (by omega);have e:((m:Nat):Int)=2*(s.size:Int):=by omega
 rw [e] at hmk;have HS:=hid (Spr.start w s);rw [hm] at HS;have HM:=hid hm;have hm2:m≤2*s.size:=by omega
 clear e hm;go_enter Tryz.func78,Tryz.ntmps78;go_wp2_with fail
 refine (teller_any _ _).mono ?_;rintro e w1 ⟨rfl,rfl⟩;go_wp2;clear hmk;go_loopw [14] (fun i wr=>∃ k:Nat,k≤m∧i = .int .i64 k∧Spr w s k wr) (fun i _=>m-(intOf i).toNat)
 case atStart=>exact ⟨0,Nat.zero_le _,rfl,HS.out⟩
 case round =>
  obtain ⟨k,hk,rfl,hS⟩:=hrel;by_cases hlt:k<m
  ·have hc:=hS.2.1;have hz:=hS.1.lt;have hcell:wr.cell? ⟨w.heap.size+1,k,none⟩=some (.int .u8 0):=by
    rw [hS.1.cell (by rw [HM.out]; exact hlt)]; simp
   have hfr:=hS.1.frozen k;go_wp2_with fail
   refine (teller1_any _ s k (by unfold maxLen; omega) (by omega) _ hc).mono ?_;rintro e w2 ⟨rfl,rfl⟩;go_wp2;go_roundw
   case rel=>exact ⟨k+1,by omega,by go_num,hS.next (by rw [HM.out]; exact hlt)⟩
   case measure=>simp [intOf]; omega
  ·obtain rfl:k=m:=by omega
   have HG:Hid (IsBs wr (some ⟨w.heap.size+1,0,none⟩) k k (nibsL s)):=hid (by
    refine IsBs.ofRow (nibsL s) (by unfold maxLen; omega) (by have:=hS.1; rw [HM.out] at this; exact this) (by rw [nibsL_length,HM.out]) (fun j hj=>?_);rw [if_pos hj,nibsL_getD s j (by rw [HM.out]; exact hj)])
   have hB:=hS.2.2;go_wp2;go_ret;exact ⟨(some ⟨w.heap.size+1,0,none⟩,k,k),rfl,⟨HG.out,fun ad e _=>by obtain rfl:=(Option.some.inj e).symm; exact Nat.le_succ _⟩,hB⟩
theorem path_new (k:List UInt8) (hk:k.length=32) (w:World) :
  Calls Tryz.prog 43 #[.agg (kc k)] w (NewB w (pathK k)):=by
 have h0:IsBs (w.alloc (.cells (kc k) 24)) (some ⟨w.heap.size,0,none⟩) k.length k.length k:=IsBs.new w k (by unfold maxLen; omega) _ _ rfl;rw [hk] at h0;have hcv:=conv_bs h0;obtain ⟨s,hs⟩:∃ s,(⟨k.toArray⟩:ByteArray)=s:=⟨_,rfl⟩
 have hsz:s.size=32:=by rw [← hs]; show k.toArray.size=32; simp [hk]
 have HP:Hid (pathK k=Ni.nibsL s):=hid (by unfold pathK; rw [hs]);have HSp:=hid (fun wx=>spread_new s (by omega) wx);rw [hs] at hcv;obtain ⟨C,hC⟩:∃ C,kc k=C:=⟨_,rfl⟩
 rw [hC] at hcv ⊢;clear h0 hs hC hsz hk;go_enter Tryz.func43,Tryz.ntmps43;go_wp2_with fail
 refine (HSp.out _).mono ?_;rintro e w1 ⟨r,rfl,hx,hb⟩;go_wp2;go_ret;exact ⟨r,rfl,by rw [HP.out]; exact hx.to fun b _ hp=>Nat.le_trans (by simp) hp,((Below.refl w.heap.size w).alloc (Nat.le_refl _) _).trans (hb.mono (by simp))⟩
theorem pathK_cons (x:UInt8) (l:List UInt8):pathK (x::l)=UInt8.ofNat (x.toNat/16)::UInt8.ofNat (x.toNat%16)::pathK l:=by
 have e1:(⟨(x::l).toArray⟩:ByteArray).size=l.length+1:=by show (x::l).toArray.size=_; simp
 have e2:(⟨l.toArray⟩:ByteArray).size=l.length:=by show l.toArray.size=_; simp
 unfold pathK nibsL;rw [e1,e2,show 2*(l.length+1)=(2*l.length+1)+1 by omega,List.range_succ_eq_map,List.range_succ_eq_map,List.map_cons,List.map_cons,List.map_cons,List.map_map,List.map_map];refine congrArg (List.cons _) (congrArg (List.cons _) (List.map_congr_left fun i _=>?_));show UInt8.ofNat (nibAt _ (i+1+1))=UInt8.ofNat (nibAt _ i);congr 1;unfold nibAt;rw [show (i+1+1)%2=i%2 by omega,show (i+1+1)/2=i/2+1 by omega];rfl
theorem ltP_path:∀ {a b:List UInt8},a.length=b.length→ltP (pathK a) (pathK b)=ltP a b
 | [],[],_=>rfl
 | [],_::_,h=>by simp at h
 | _::_,[],h=>by simp at h
 | x::a,y::b,h=>by
  have ih:=ltP_path (a:=a) (b:=b) (by simpa using h);rw [pathK_cons,pathK_cons];have hx:=UInt8.toNat_lt x;have hy:=UInt8.toNat_lt y;have h1:(UInt8.ofNat (x.toNat/16)).toNat=x.toNat/16:=by simp [UInt8.toNat_ofNat']; omega
  have h2:(UInt8.ofNat (y.toNat/16)).toNat=y.toNat/16:=by simp [UInt8.toNat_ofNat']; omega
  have h3:(UInt8.ofNat (x.toNat%16)).toNat=x.toNat%16:=by simp [UInt8.toNat_ofNat']; omega
  have h4:(UInt8.ofNat (y.toNat%16)).toNat=y.toNat%16:=by simp [UInt8.toNat_ofNat']; omega
  by_cases e:x=y
  ·subst e;simp only [ltP,if_true,ih]
  ·have en:x.toNat≠y.toNat:=fun k=>e (UInt8.toNat_inj.1 k);by_cases e1:x.toNat/16=y.toNat/16
   ·have e2:UInt8.ofNat (x.toNat/16)=UInt8.ofNat (y.toNat/16):=by rw [e1]
    have e3:UInt8.ofNat (x.toNat%16)≠UInt8.ofNat (y.toNat%16):=fun k=>by
     have:=congrArg UInt8.toNat k;omega
    unfold ltP;rw [if_pos e2,if_neg e];unfold ltP;rw [if_neg e3,h3,h4];exact decide_eq_decide.2 (by omega)
   ·have e2:UInt8.ofNat (x.toNat/16)≠UInt8.ofNat (y.toNat/16):=fun k=>by
     have:=congrArg UInt8.toNat k;omega
    unfold ltP;rw [if_neg e2,if_neg e,h1,h2];exact decide_eq_decide.2 (by omega)
def prOf (x:Pa × ByteArray):Tr.Pair:=(keyL x.1,x.2)
def outP (P:Pa) (V:List Pl):List Tr.Pair:=(((V.map leafL).flatten).filter fun x=>!ltP x.1 P).map prOf
theorem outP_app (P:Pa) (V U:List Pl):outP P (V++U)=outP P V++outP P U:=by simp [outP]
theorem outP_pre (P:Pa) {V U:List Pl} (h:V<+:U):outP P V<+:outP P U:=by
 obtain ⟨r,rfl⟩:=h;rw [outP_app];exact List.prefix_append _ _
theorem outP_leaf {P:Pa} {x:Pl} {q:Pa} {v:ByteArray} (e:x.1 = .leaf q v):outP P [x]=if ltP (x.2.2++q) P then [] else [(keyL (x.2.2++q),v)]:=by
 unfold outP leafL;rw [List.map_cons,e];cases h:ltP (x.2.2++q) P <;> simp [h,prOf]
theorem outP_none {P:Pa} {x:Pl} (h:(nodeT x.1).kd≠1):outP P [x]=[]:=by
 unfold outP leafL;rw [List.map_cons];cases e:x.1 with
 | leaf q v=>rw [e] at h; exact absurd (show (1:Int)=1 from rfl) h
 | nil=>rfl
 | stub r=>rfl
 | ext q s=>rfl
 | br ks=>rfl
end Tm
end
section
open Go.RowKit
namespace Tm
open Tr Ni Pk Ky No Rf Rl Rf2
open Sm (Tab)
def prA (x:Tr.Pair) (_:World) (args:Array Value):Prop:=args = #[.agg (pairA x)]∧x.1.length=32
structure PrPre (M:Mp) (bt bp bk:Nat) (p:Option Addr) (q:Hdl) (k:List UInt8) (w:World) (K:Nat→Prop):Prop where
 ct:w.cell? ⟨bt,0,none⟩=some (.pointer p)
 cp:Rg.Own w bp #[.slice q.1 q.2.1 q.2.2] 51
 mp:M.at_ bp=none ∧ ¬ K bp
 bq:BsP (fun b=>M.at_ b=none ∧ ¬ K b) w q (pathK k)
 ck:Rg.Own w bk (kc k) 24
 mc:M.at_ bk=none ∧ ¬ K bk
theorem own_frK {M:Mp} {K:Nat→Prop} {w w':World} (f:FrK M K w w') {b:Nat} {cs:Array Value} {T:TypeId} (h:Rg.Own w b cs T) (hm:M.at_ b=none ∧ ¬ K b):Rg.Own w' b cs T :=
 ⟨Nat.lt_of_lt_of_le h.1 f.size,(f.block b h.1 hm.1 hm.2).trans h.2⟩
theorem op_load_on {ev:Operand→Value} {o:Oper} {w:World} {b off:Nat} {v:Value} (hc:w.cell? ⟨b,off,none⟩=some v) (ho:∃ x,o.op = .load 131 x∧ev x = .pointer (some ⟨b,off,none⟩)) :
  (execOp ev o).run Tryz.prog w = .ok (.value v) w:=by
 obtain ⟨x,ho,hx⟩:=ho;unfold execOp;simp [ho,hx,go_sem,hc]
theorem same_rnd {M:Mp} {J:List Tr.Pair→(Nat→Prop)→World→Prop} {P:Pa} {V:List Pl} {K:Nat→Prop} {w w1:World} {x:Pl} {n:Nat} (hJ:Sta M J) (h:J (outP P V) K w) (hi:Inv M w) (ht:Tab w) (hb:Below w.heap.size w w1) (he:outP P [x]=[]):∃ K',Rnd M (fun V=>J (outP P V)) V K n x w w1 K' :=
 ⟨K,⟨by show J (outP P (V++[x])) K w1; rw [outP_app,he,List.append_nil]; exact hJ.st _ _ _ _ h hb.size fun k hk=>hb.block k (hJ.lt _ _ _ h k hk).1,fun k hk=>.inl hk,⟨hb.os,hb.tape,hb.output,hb.size,fun k hl _ _=>hb.block k hl⟩,hi.below hb,ht.below hb ht.pos⟩⟩
theorem out_rnd {M:Mp} {I:List Tr.Pair→(Nat→Prop)→World→Prop} {P:Pa} {V:List Pl} {K K':Nat→Prop} {w w1 w2:World} {x:Pl} {z:Tr.Pair} {n:Nat} (hb:Below w.heap.size w w1) (hn:n≤w1.heap.size) (he:outP P [x]=[z]) (r:Rnd M I (outP P V) K w1.heap.size z w1 w2 K'):Rnd M (fun V=>I (outP P V)) V K n x w w2 K' :=
 ⟨by show I (outP P (V++[x])) K' w2; rw [outP_app,he]; exact r.j,fun k hk=>(r.sub k hk).imp id fun h=>Nat.le_trans hn h,⟨r.f.os.trans hb.os,r.f.tape.trans hb.tape,r.f.output.trans hb.output,Nat.le_trans hb.size r.f.size,fun k hl hm hk=>(r.f.block k (Nat.lt_of_lt_of_le hl hb.size) hm hk).trans (hb.block k hl)⟩,r.i,r.t⟩
theorem pairs_seq (M:Mp) (bt bp bk:Nat) (p:Option Addr) (t:T) (q:Hdl) (k:List UInt8) (hk:k.length=32) (hg:Tr.Good t 64) (hf:Fine t) (hc:cntT t≤200000) (ht:IsT M p t) :
  SeqC M 72 #[.pointer (some ⟨bt,0,none⟩),.pointer (some ⟨bp,0,none⟩),.pointer (some ⟨bk,0,none⟩)] prA (outP (pathK k) (goL (reach (pathK k)) t 0 [])) (PrPre M bt bp bk p q k):=by
 intro lp J Js K0 w hJ hJs hP hi hT h0 hY;show Calls Tryz.prog 72 #[.func (.yield lp) #[] #[],.pointer (some ⟨bt,0,none⟩),.pointer (some ⟨bp,0,none⟩),.pointer (some ⟨bk,0,none⟩)] w (SeqEnd M J Js (outP (pathK k) (goL (reach (pathK k)) t 0 [])) K0 w);have hPl:(pathK k).length=64:=pathK_length k hk;have hKp:∀ A:Pa,A.length=64→Nib A→ltP (keyL A) k=ltP A (pathK k):=fun A h1 h2=>by
  rw [← ltP_path (by rw [keyL_length,hk]),path_key A (right_of h2) h1]
 obtain ⟨P,hPP⟩:∃ P,pathK k=P:=⟨_,rfl⟩
 have hbq:=hP.bq;rw [hPP] at hPl hKp hbq hY ⊢;have hout:∀ k,w.heap.size≤k→M.at_ k=none ∧ ¬ M.ft k:=fun k hk=>⟨hi.out hk,hi.free hk⟩
 have hK0:=hJ.lt _ _ _ h0;obtain ⟨w1,hw1⟩:∃ w1,w1=w.alloc (.cells #[.func (.yield lp) #[] #[]] 131):=⟨_,rfl⟩
 have hb1:Below w.heap.size w w1:=by rw [hw1]; exact al1 _ _
 have hs1:w1.heap.size=w.heap.size+1:=by rw [hw1]; simp
 have hO1:Rg.Own w1 w.heap.size #[.func (.yield lp) #[] #[]] 131:=by rw [hw1]; exact Rg.Own.new _ _ _
 have hct:w1.cell? ⟨bt,0,none⟩=some (.pointer p):=by rw [hw1]; exact cell_on (al1 _ _) hP.ct
 have HW1:=hid hw1;have HB1:=hid hb1;have HS1:=hid hs1;have HO1:=hid hO1;have HP:=hid hP;have HBq:=hid hbq;have HPl:=hid hPl;have HKp:=hid hKp;have HY:=hid hY;have HJ:=hid hJ;have HJs:=hid hJs;have HOut:=hid hout;have HI:=hid hi;have HT:=hid hT;have H0:=hid h0;have HK0:=hid hK0;have HKl:=hid hk;have HGo:=hid (fun g0 gi=>goer_seq M g0 gi 73 #[.pointer (some ⟨bp,0,none⟩)] p t (reach P) (enters_of Tryz.func73 (by kernel_rfl) rfl) hg hf hc ht)
 clear hPl hKp hbq hPP hP hY hJ hJs hout hi hT h0 hK0 hb1 hs1 hO1 hw1 hg hf hc ht hk;refine calls_marks Tryz.func72 rfl ?_;simp only [Tryz.ntmps72,List.size_toArray,List.length_cons,List.length_nil,Nat.reduceAdd,Nat.reduceSub,Array.replicate_succ,Array.replicate_zero,List.push_toArray,List.append_toArray,List.nil_append,List.cons_append];have hmf:∀ (fn:Fn) (first cap:Array Value) (w:World),(Instr.makeFunc fn first cap).run Tryz.prog w = .ok (.func fn first cap) w:=fun _ _ _ _=>rfl;go_wp2_with (first
  | (rw [← HW1.out]; refine Rg.run rfl _ _ (op_load_tree hct ⟨_,rfl,rfl⟩) ?_))
 refine (wgoer_any p w1).mono ?_;rintro e w2 ⟨rfl,h2,hb2⟩;have HO2:=hid h2;have HB2:=hid hb2;have hs2:w1.heap.size<w2.heap.size:=h2.1;clear h2 hb2 hct;go_wp2_with fail
 refine (wgoer1_any (.func (Fn.func 73) #[] #[.pointer (some ⟨bp,0,none⟩)]) w1.heap.size w2 rfl).mono ?_;rintro e w3 ⟨rfl,h3,hb3⟩;have HO3:=hid h3;have HB3:=hid hb3;have hb13:=bst (bst HB1.out HB2.out) hb3;have HB13:=hid hb13;have hs3:w2.heap.size<w3.heap.size:=h3.1;have HO13:=hid ((HO1.out.below HB2.out).below hb3);have HJ3:Hid (J (outP P []) K0 w3):=hid (HJ.out.st _ _ _ _ H0.out hb13.size fun k hk=>hb13.block k (HK0.out k hk).1);clear h3 hb3 hb13;go_wp2_with fail
 refine wp_range (gf:=67) (lb:=#[.pointer (some ⟨w1.heap.size,0,none⟩),.pointer (some ⟨w2.heap.size,0,none⟩)]) (K0:=K0) rfl (enters_of Tryz.func67 (by kernel_rfl) rfl) (HGo.out _ _) (fun x W args h=>by rw [goA_size h]; rfl) ?pre (HI.out.below HB13.out) (HT.out.below HB13.out HT.out.pos) (I:=fun V=>J (outP P V)) ⟨fun V=>HJ.out.st (outP P V),fun V=>HJ.out.lt (outP P V)⟩ (Ix:=fun c V K W=>c = .ret∧Js (outP P V) K W) (fun c=>⟨fun V K W W' h hs hk=>⟨h.1,HJs.out.st _ _ _ _ h.2 hs hk⟩,fun V K W h=>HJs.out.lt _ _ _ h.2⟩) HJ3.out ?round ?done ?stop
 case pre =>
  intro W1 K1 hb hK;have hs:=HS1.out;have hKn:∀ b,b<w.heap.size → ¬ K0 b → ¬ K1 b:=fun b h1 h2 h3=>(hK b h3).elim h2 (by omega);have hcp:=(HP.out.cp.below HB13.out).below hb;have hbl:=HP.out.cp.1;have hq:BsP (fun b=>M.at_ b=none ∧ ¬ K1 b) W1 q P:=(((BsP.to HBq.out fun b hl hp=>⟨hp,hl⟩:BsP (fun b=>(M.at_ b=none ∧ ¬ K0 b)∧b<w.heap.size) w q P).kept HB13.out.size fun b hp hl=>HB13.out.block b hl).kept hb.size fun b hp hl=>hb.block b hl).to fun b _ hp=>⟨hp.1.1,hKn b hp.2 hp.1.2⟩
  refine ⟨own_cell (j:=0) ((HO2.out.below HB3.out).below hb) rfl,own_cell (j:=0) (HO3.out.below hb) rfl,(HOut.out _ (by omega)).1,fun hk=>(hK _ hk).elim (fun h=>by have:=(HK0.out _ h).1; omega) (by omega),fun wr f pp o h a ha hl=>?_⟩;exact into_pairs bp q P HPl.out wr (own_cell (j:=0) (own_frK f hcp ⟨HP.out.mp.1,hKn _ hbl HP.out.mp.2⟩) rfl) (hq.kept f.size fun b hp hl=>f.block b hl hp.1 hp.2).1 pp o h a ha hl
 case stop =>
  rintro c V K Wd hpf ⟨rfl,hJ⟩ hfd hjd htd hsd hDd hKd;have hs:=HS1.out
  have HEnd:Hid (SeqEnd M J Js (outP P (goL (reach P) t 0 [])) K0 w (.returned (.tuple #[])) (shut Wd [w3.heap.size])):=hid (shut_end HJ.out HJs.out (.inr ⟨outP_pre P hpf,hJ⟩) ⟨hfd.os.trans HB13.out.os,hfd.tape.trans HB13.out.tape,hfd.output.trans HB13.out.output,Nat.le_trans HB13.out.size hfd.size,fun k hk hm hn=>(hfd.block k (Nat.lt_of_lt_of_le hk HB13.out.size) hm hn).trans (HB13.out.block k hk)⟩ hjd htd (fun k hk=>(hsd k hk).imp id fun h=>Nat.le_trans HB13.out.size h) HOut.out HT.out.pos (fun D hD=>by rw [List.mem_singleton.1 hD]; exact ⟨HB13.out.size,hDd,hKd⟩) _)
  have HD:=hid hDd;clear hJ hfd hjd htd hsd hDd hKd hpf hs;try simp only [Exit.inBlock]
  go_wp2;exact leaves_one HD.out ⟨_,results_none rfl _ _ _,HEnd.out⟩
 case done =>
  intro K Wd hJ hfd hjd htd hsd hDd hKd;have hs:=HS1.out
  have HEnd:Hid (SeqEnd M J Js (outP P (goL (reach P) t 0 [])) K0 w (.returned (.tuple #[])) (shut Wd [w3.heap.size])):=hid (shut_end HJ.out HJs.out (.inl ⟨rfl,hJ⟩) ⟨hfd.os.trans HB13.out.os,hfd.tape.trans HB13.out.tape,hfd.output.trans HB13.out.output,Nat.le_trans HB13.out.size hfd.size,fun k hk hm hn=>(hfd.block k (Nat.lt_of_lt_of_le hk HB13.out.size) hm hn).trans (HB13.out.block k hk)⟩ hjd htd (fun k hk=>(hsd k hk).imp id fun h=>Nat.le_trans HB13.out.size h) HOut.out HT.out.pos (fun D hD=>by rw [List.mem_singleton.1 hD]; exact ⟨HB13.out.size,hDd,hKd⟩) _)
  have HD:=hid hDd;clear hJ hfd hjd htd hsd hDd hKd hs;simp only [Exit.inBlock];go_wp2;exact leaves_one HD.out ⟨_,results_none rfl _ _ _,HEnd.out⟩
 case round =>
  intro l V K x args W S hl hlW hKl hI hfW hsW hiW hTW hpf hA hS;obtain ⟨pp,hh,na,nn,nc,rfl,htp,hbW,hbN,hok⟩:=hA;have HS:=hid hS;have HW0:=hid (And.intro hbW hbN);have HPf:=hid (outP_pre P hpf);have HSub:=hid hsW;have HFW:=hid hfW;clear hfW hsW hpf hS hbW hbN;rw [zip2];simp only [List.setIfInBounds_toArray,List.set_cons_zero,List.set_cons_succ];refine wpIn_seq_k ?_;intro K8 hK8;refine regionIn rfl (fun ⟨_,_,h⟩=>h) ?_;have hal3:=al1 W (.cells (plA none 0 (none,0,0)) 75);have HA3:=hid (Rg.Own.new W (plA none 0 (none,0,0)) 75)
  go_wp2_with (first
   | (refine Rg.run rfl _ _ (run_alloc_pl _ _ _ W.heap.size rfl rfl) ?_)
   | (refine wpl_store_pl HA3.out pp x.2.1 hh rfl _ _ rfl rfl rfl rfl ?_; intro W3 hO hu; have HP3:=hid hO; have HB3':=hid (hu.below hal3 (Nat.le_refl _)); clear hO hu))
  refine regionIn rfl (fun ⟨_,_,h⟩=>h) ?_;have hal4:=al1 W3 (.cells (ndC nd0 none 0 0) 56);have HA4:=hid (Rg.Own.new W3 (ndC nd0 none 0 0) 56);have HNl:=hid (nodeT_length x.1);obtain ⟨N,hN⟩:∃ N,nodeT x.1=N:=⟨_,rfl⟩
  have HNN:=hid hN;rw [hN] at HNl ⊢;clear hN;go_wp2_with (first
   | (refine Rg.run rfl _ _ (run_alloc_nd _ _ _ W3.heap.size rfl rfl) ?_)
   | (refine wpl_store_ndL HA4.out zks_length N na nn nc HNl.out rfl _ _ rfl rfl rfl rfl ?_; intro W4 hO hu; have HN4:=hid hO; have HB4':=hid (hu.below hal4 (Nat.le_refl _)); clear hO hu))
  have hbW:=bst HB3'.out HB4'.out;have HBW:=hid hbW;refine HS.out _ _ hbW (fun W5 hT5=>?_);have HP5:=hid (hT5.own (HP3.out.below HB4'.out));have HN5:=hid (hT5.own HN4.out);have HT5:=hid hT5;have hs5:W5.heap.size=W4.heap.size:=hT5.u.size;have hsW:=hbW.size;have hfr5:FrK M K0 w3 W5:=((HFW.out.below HBW.out HFW.out.size).trans (K1:=fun k=>k=l) ⟨hT5.u.os,hT5.u.tape,hT5.u.output,by rw [hs5]; exact Nat.le_refl _,fun k _ _ hn=>hT5.u.block k hn⟩ fun k e=>.inr (by omega))
  have HF5:=hid hfr5;have hK3:∀ b,w.heap.size≤b → ¬ K0 b:=fun b h1 h2=>by have:=(HK0.out b h2).1; omega
  have HOn:=hid (own_frK hfr5 HO13.out ⟨(HOut.out _ (Nat.le_refl _)).1,hK3 _ (Nat.le_refl _)⟩);have HCk:=hid (own_frK hfr5 (HP.out.ck.below HB13.out) HP.out.mc);have hKW:=HJ.out.lt _ _ _ hI;have HJ5:Hid (J (outP P V) K W5):=hid (HJ.out.st _ _ _ _ hI (by omega) fun k hk=>(hT5.u.block k fun e=>hKl (by rw [← e]; exact hk)).trans (HBW.out.block k (hKW k hk).1));have HI5:=hid ((hiW.below HBW.out).upd hT5.u (HOut.out l (by have:=HB13.out.size; omega)).2);have hzz:=HT.out.pos;have HT5':=hid (tab_upd (hTW.below HBW.out hTW.pos) hT5.u (by have:=HB13.out.size; omega))
  have HWb:=hid (hT5.bs (HW0.out.1.below HBW.out));have HNb:=hid (hT5.bs (HW0.out.2.below HBW.out));rw [HNN.out] at HNb;have hbt:=HB13.out.size;clear hI hiW hTW hfr5 hKW hT5 hal3 hal4 hbW HS;refine wpIn_block ?_;refine wpIn_seq_k ?_;intro K9 hK9;refine regionIn rfl (fun ⟨_,_,h⟩=>h) ?_;by_cases hx:N.kd=1
  ·obtain ⟨u,v,hqu⟩:∃ q u,x.1 = .leaf q u:=by
    rw [← HNN.out] at hx;cases e:x.1 with
    | leaf q u=>exact ⟨q,u,rfl⟩
    | nil=>rw [e] at hx; exact absurd (show (0:Int)=1 from hx) (by decide)
    | stub r=>rw [e] at hx; exact absurd (show (0:Int)=1 from hx) (by decide)
    | ext q s=>rw [e] at hx; exact absurd (show (2:Int)=1 from hx) (by decide)
    | br ks=>rw [e] at hx; exact absurd (show (3:Int)=1 from hx) (by decide)
   have hNp:N.p=u:=by rw [← HNN.out,hqu]; rfl
   have hNv:N.v=v:=by rw [← HNN.out,hqu]; rfl
   obtain ⟨hl1,hl2⟩:=leaf_ok hok hqu;have HPa:=hid (pair_leaf pp x.2.1 hh x.2.2 N na nn nc hx W5 HWb.out HNb.out (by rw [hNp]; exact hl1) (by rw [hNp]; exact hl2));have hlt:=HKp.out (x.2.2++u) (by rw [List.length_append]; exact hl1) hl2;have HOp:=outP_leaf (P:=P) hqu;rw [hNp] at HPa;rw [← hlt,← hNv] at HOp;have HKl2:=hid (keyL_length (x.2.2++u));obtain ⟨kk,hkk⟩:∃ kk,keyL (x.2.2++u)=kk:=⟨_,rfl⟩
   rw [hkk] at HPa HKl2 HOp;have HOp:=hid HOp;clear hx hqu hNp hNv hl1 hl2 hlt hkk;go_wp2_with (first
    | (refine Rg.run rfl _ _ (op_load_pl (PlAt.own HP5.out) ⟨_,rfl,rfl⟩) ?_)
    | (refine Rg.run rfl _ _ (op_load_nd HN5.out HNl.out ⟨_,rfl,rfl⟩) ?_))
   refine HPa.out.mono ?_;rintro e W6 ⟨rfl,hb6⟩;have HB6:=hid hb6;have hal6:=al1 W6 (.cells (pairA pr0) 33);have HO6:=hid (Rg.Own.new W6 (pairA pr0) 33);have HB6':=hid (bst hb6 hal6);clear hb6;go_wp2_with (first
    | (refine Rg.run rfl _ _ (run_alloc_pair _ _ _ W6.heap.size rfl rfl) ?_)
    | (refine wpl_store_pair HO6.out pr0_len (kk,N.v) HKl2.out rfl _ _ rfl rfl rfl rfl ?_; intro W7 hO hu; have HO7:=hid hO; have HB7:=hid (hu.below HB6'.out (by have:=HB6.out.size; omega)); clear hO hu))
   have HCk7:=hid (HCk.out.below HB7.out);have HOn7:=hid (HOn.out.below HB7.out);refine wpIn_seq_k ?_;intro K10 hK10;have HL:=hid (wless_any kk k HKl2.out HKl.out W7);by_cases hlt:ltP kk k=true
   ·rw [hlt] at HL;have hOp:outP P [x]=[]:=by rw [HOp.out,if_pos hlt]
    have HOe:=hid hOp;clear hlt hOp;refine regionIn rfl (fun ⟨_,_,h⟩=>h) ?_;go_wp2_with (first
     | (refine Rg.runW (by rfl) _ _ (op_load_key_mid HKl2.out (PairAt.own HO7.out).key ⟨_,rfl,rfl⟩) ?_)
     | (refine Rg.runW (by rfl) _ _ (op_load_key HKl.out HCk7.out.2 ⟨_,rfl,rfl⟩) ?_))
    refine HL.out.mono ?_;rintro e W8 ⟨rfl,hb8⟩;have HB8:=hid (bst HB7.out hb8);clear hb8;go_wp2;refine wpIn_cond_false rfl ?_;refine wpIn_skip ?_;exact same_rnd HJ.out HJ5.out HI5.out HT5'.out HB8.out HOe.out
   ·have hlt':ltP kk k=false:=by
     cases h:ltP kk k with
     | true=>exact absurd h hlt
     | false=>rfl
    rw [hlt'] at HL;have hOp:outP P [x]=[(kk,N.v)]:=by rw [HOp.out,if_neg hlt]
    have HOe:=hid hOp;clear hlt hlt' hOp;refine regionWR 5 11 rfl (fun ⟨_,_,h⟩=>h) ?_;intro _ _;dsimp only [List.take_succ_cons,List.take_zero,List.drop_succ_cons,List.drop_zero];go_wp2_with (first
     | (refine Rg.runW (by rfl) _ _ (op_load_key_mid HKl2.out (PairAt.own HO7.out).key ⟨_,rfl,rfl⟩) ?_)
     | (refine Rg.runW (by rfl) _ _ (op_load_key HKl.out HCk7.out.2 ⟨_,rfl,rfl⟩) ?_))
    refine HL.out.mono ?_;rintro e W8 ⟨rfl,hb8⟩;have hB8:=bst HB7.out hb8;have HB8:=hid hB8;have hc8:W8.cell? ⟨w.heap.size,0,none⟩=some (.func (.yield lp) #[] #[]):=own_cell (j:=0) (HOn7.out.below hb8) rfl;have HO8:=hid (HO7.out.below hb8);have HJ8:Hid (J (outP P V) K W8):=hid (HJ.out.st _ _ _ _ HJ5.out hB8.size fun k hk=>hB8.block k (HJ.out.lt _ _ _ HJ5.out k hk).1)
    have HYx:=hid (HY.out (outP P V) K (kk,N.v) #[.agg (pairA (kk,N.v))] W8 HJ8.out ⟨(HF5.out.below hB8 HF5.out.size).os.trans HB13.out.os,(HF5.out.below hB8 HF5.out.size).tape.trans HB13.out.tape,(HF5.out.below hB8 HF5.out.size).output.trans HB13.out.output,Nat.le_trans hbt (Nat.le_trans HF5.out.size hB8.size),fun k hk hm hn=>((HF5.out.below hB8 HF5.out.size).block k (Nat.lt_of_lt_of_le hk hbt) hm hn).trans (HB13.out.block k hk)⟩ (HI5.out.below hB8) (HT5'.out.below hB8 HT5'.out.pos) (by have:=HPf.out; rw [outP_app,HOe.out] at this; exact this) ⟨rfl,HKl2.out⟩)
    have hn8:W.heap.size≤W8.heap.size:=by have:=hB8.size; omega
    clear hb8 hB8;go_wp2_with (first
     | (refine Rg.runW (by rfl) _ _ (op_load_on hc8 ⟨_,rfl,rfl⟩) ?_)
     | (refine Rg.runW (by rfl) _ _ (op_load_pair HKl2.out (PairAt.own HO8.out) ⟨_,rfl,rfl⟩) ?_))
    refine yieldIn' HYx.out ?_ ?_ ?_ ?_
    ·rfl
    ·rfl
    ·exact ⟨_,_,_,rfl,rfl,rfl⟩
    rintro e W9 ⟨K',h⟩;rcases h with ⟨rfl,h9⟩ | ⟨rfl,h9⟩
    ·refine ⟨_,rfl,listRest rfl (fun ⟨_,_,h⟩=>h) ?_⟩;have H9:=hid h9;clear h9 HYx;go_wp2;refine wpIn_cond_false rfl ?_;refine wpIn_skip ?_;exact ⟨K',out_rnd HB8.out hn8 HOe.out H9.out⟩
    ·refine ⟨_,rfl,listRest rfl (fun ⟨_,_,h⟩=>h) ?_⟩;have H9:=hid h9;clear h9 HYx;go_wp2;refine wpIn_cond_true rfl ?_;refine wpIn_ret ?_;have h:=out_rnd (V:=V) HB8.out hn8 HOe.out H9.out;exact ⟨K',⟨⟨rfl,h.j⟩,h.sub,h.f,h.i,h.t⟩⟩
  ·have HPa:=hid (pair_none pp x.2.1 hh N na nn nc hx W5);have HOe:=hid (outP_none (P:=P) (x:=x) (by rw [HNN.out]; exact hx));clear hx;go_wp2_with (first
    | (refine Rg.run rfl _ _ (op_load_pl (PlAt.own HP5.out) ⟨_,rfl,rfl⟩) ?_)
    | (refine Rg.run rfl _ _ (op_load_nd HN5.out HNl.out ⟨_,rfl,rfl⟩) ?_))
   refine HPa.out.mono ?_;rintro e W6 ⟨rfl,hb6⟩;have HB6:=hid hb6;have hal6:=al1 W6 (.cells (pairA pr0) 33);have HO6:=hid (Rg.Own.new W6 (pairA pr0) 33);have HB6':=hid (bst hb6 hal6);clear hb6;go_wp2_with (first
    | (refine Rg.run rfl _ _ (run_alloc_pair _ _ _ W6.heap.size rfl rfl) ?_)
    | (refine wpl_store_pair HO6.out pr0_len pr0 pr0_len rfl _ _ rfl rfl rfl rfl ?_; intro W7 hO hu; have HB7:=hid (hu.below HB6'.out (by have:=HB6.out.size; omega)); clear hO hu))
   refine wpIn_seq_k ?_;intro K10 hK10;refine regionIn rfl (fun ⟨_,_,h⟩=>h) ?_;go_wp2;refine wpIn_cond_false rfl ?_;refine wpIn_skip ?_;exact same_rnd HJ.out HJ5.out HI5.out HT5'.out HB7.out HOe.out
end Tm
end
section
open Go.RowKit
namespace Tm
open Tr Ni Pk Ky No Rf Rl Rf2
open Sm (Tab)
def RowPr (B:Nat) (w:World) (v:Value) (l:List Tr.Pair):Prop:=w.ownsRow B 33 33 v l.length (rowP l)
theorem run_push_pr {w:World} {ty:TypeId} {B b2:Nat} {v:Value} {l:List Tr.Pair} {x:Tr.Pair} (hR:RowPr B w v l) (h2:Rg.Own w b2 (pairA x) 33) (hx:x.1.length=32) (hn:l.length≤1000000) (hB:B≤w.heap.size) :
  ∃ v' w',(Builtin.append_ #[22,22] ty #[v,.slice (some ⟨b2,0,none⟩) 1 1]).run Tryz.prog w = .ok v' w'∧RowPr B w' v' (l++[x])∧w.grownBy w' v.ownBlock∧(v'.ownBlock=v.ownBlock∨v'.ownBlock=some w.heap.size):=by
 obtain ⟨i0,z0,hi,hz,hsz,hby,hzc⟩:=info_pair_parts;obtain ⟨v',w',hr,h3,h4,_,h5⟩:=run_append_own_at (P:=Tryz.prog) w B 22 ty 33 i0 z0 33 48 Tryz.underlying22 hi hz hsz hby hzc (by decide) v l.length _ hR ⟨b2,0,none⟩ 1 1 (pairC x) (pairC_len hx)
  (fun j u hu=>by
   rw [Addr.add_mid];exact PairAt.own h2 j u hu)
  (pairC_one x) (by unfold maxLen; omega) (by omega) hB
 exact ⟨v',w',hr,by unfold RowPr; rw [List.length_append,rowP_snoc]; exact h3,h4,h5⟩
theorem wpl_push_pr {ops:Array Oper} {rest:List Oper} {o:Oper} {a:Go.Act} {w:World} {Q:Exit→Go.Act→World→Prop} {B b2:Nat} {v:Value} {l:List Tr.Pair} {x:Tr.Pair} (hR:RowPr B w v l) (h2:Rg.Own w b2 (pairA x) 33) (hx:x.1.length=32) (hn:l.length≤1000000) (hB:B≤w.heap.size) (hgd:o.guard=none)
  (ho:∃ s y,o.op = .call { callee:=.builtin .append,args:=#[s,y],argTypes:=#[22,22] }∧a.eval s=v∧a.eval y = .slice (some ⟨b2,0,none⟩) 1 1)
  (H:∀ v' w',RowPr B w' v' (l++[x])→w.grownBy w' v.ownBlock→(v'.ownBlock=v.ownBlock∨v'.ownBlock=some w.heap.size)→wpList Tryz.prog ops Q rest (a.put o.dst v') w'):wpList Tryz.prog ops Q (o::rest) a w:=by
 obtain ⟨s,y',ho,hs,hy⟩:=ho;obtain ⟨v',w',hr,h3,h4,h5⟩:=run_push_pr (ty:=o.type) hR h2 hx hn hB;refine wpList_run hgd v' w' ?_ (H v' w' h3 h4 h5);unfold execOp;simp only [ho,resolve,invoke,builtin,Sem.run_bind,Sem.run_pure,Result.andThen_ok,List.map_toArray,List.map_cons,List.map_nil,hs,hy,hr]
theorem op_load_prs {ev:Operand→Value} {o:Oper} {w:World} {b off:Nat} {v:Value} (hc:w.cell? ⟨b,off,none⟩=some v) (ho:∃ x,o.op = .load 22 x∧ev x = .pointer (some ⟨b,off,none⟩)) :
  (execOp ev o).run Tryz.prog w = .ok (.value v) w:=by
 obtain ⟨x,ho,hx⟩:=ho;unfold execOp;simp [ho,hx,go_sem,hc]
structure PrI (M:Mp) (B bx:Nat) (l:List Tr.Pair) (K:Nat→Prop) (w:World) (v:Value):Prop where
 o:Rg.Own w bx #[v] 22
 r:RowPr B w v l
 k:∀ k,K k↔k=bx∨v.ownBlock=some k
 nb:v.ownBlock≠some bx
 bb:B≤bx
 u:∀ k,B≤k→M.at_ k=none ∧ ¬ M.ft k
def PrB {α:Type} (M:Mp) (B bx:Nat) (C:List α→Prop) (f:List α→List Tr.Pair) (V:List α) (K:Nat→Prop) (w:World):Prop:=C V∧∃ v,PrI M B bx (f V) K w v
theorem prb_sta {α:Type} (M:Mp) (B bx:Nat) (C:List α→Prop) (f:List α→List Tr.Pair):Sta M (PrB M B bx C f):=by
 refine ⟨fun V K w w' ⟨hC,v,h⟩ hs hk=>⟨hC,v,⟨⟨Nat.lt_of_lt_of_le h.o.1 hs,(hk bx ((h.k bx).2 (.inl rfl))).trans h.o.2⟩,owns_same h.r fun k e=>hk k ((h.k k).2 (.inr e)),h.k,h.nb,h.bb,h.u⟩⟩,fun V K w ⟨_,v,h⟩ k hk=>?_⟩;rcases (h.k k).1 hk with rfl | e
 ·exact ⟨h.o.1,h.u k h.bb⟩
 ·exact ⟨(h.r.lt k e).2,h.u k (h.r.lt k e).1⟩
theorem prb_rnd {α:Type} {M:Mp} {B bx:Nat} {C:List α→Prop} {f:List α→List Tr.Pair} {V:List α} {K:Nat→Prop} {w w5:World} {v v':Value} {x : α} {n:Nat} (h:PrI M B bx (f V) K w v) (hi:Inv M w) (ht:Tab w) (hz:1<B) (hn:n≤w.heap.size) (hb:Bo2 K w w5)
  (ho:Rg.Own w5 bx #[v'] 22) (hC:C (V++[x])) (hr:RowPr B w5 v' (f (V++[x]))) (hl:v'.ownBlock=v.ownBlock∨∃ k,w.heap.size≤k∧v'.ownBlock=some k):∃ K',Rnd M (PrB M B bx C f) V K n x w w5 K':=by
 refine ⟨fun k=>k=bx∨v'.ownBlock=some k,⟨hC,v',⟨ho,hr,fun k=>Iff.rfl,fun e=>?_,h.bb,h.u⟩⟩,fun k hk=>?_,hb.frK,hi.keep hb.size fun k hk=>hb.block k (hi.lt_ k hk) fun g=>?_,fun j hj=>?_⟩
 ·rcases hl with e2 | ⟨k,hk,e2⟩
  ·exact h.nb (by rw [← e2]; exact e)
  ·rw [e2] at e;have:=Option.some.inj e;have:=h.o.1;omega
 ·rcases hk with rfl | e
  ·exact .inl ((h.k _).2 (.inl rfl))
  ·rcases hl with e2 | ⟨k',hk,e2⟩
   ·exact .inl ((h.k _).2 (.inr (by rw [← e2]; exact e)))
   ·rw [e2] at e;have:=Option.some.inj e;exact .inr (by omega)
 ·rcases (h.k k).1 g with rfl | e
  ·exact (h.u _ h.bb).2 hk
  ·exact (h.u k (h.r.lt k e).1).2 hk
 ·have hlt:1<w.heap.size:=Nat.lt_of_lt_of_le hz (Nat.le_trans h.bb (Nat.le_of_lt h.o.1));have hnk:¬ K 1:=fun g=>by
   rcases (h.k _).1 g with e | e
   ·have:=h.bb; omega
   ·have:=(h.r.lt _ e).1; omega
  rw [World.cell?_of_block (hb.block 1 hlt hnk)];exact ht j hj
def GotPr (M:Mp) (w:World) (l:List Tr.Pair) (e:Ending) (w':World):Prop:=∃ v,e = .returned v∧RowPr w.heap.size w' v l∧Fr M M w w'∧Inv M w'∧Tab w'
theorem prA_size {x:Tr.Pair} {W:World} {args:Array Value} (h:prA x W args):args.size=1:=by
 rw [h.1];rfl
theorem wappend_any (M:Mp) (gf:Nat) (lb:Array Value) (eg:∀ args w,(callFunc gf args).run Tryz.prog w = .ok (.enter gf args) w) (G:List Tr.Pair) (hG:G.length≤1000000) (Pre:World→(Nat→Prop)→Prop) (hs:SeqC M gf lb prA G Pre) (w:World)
  (hpre:∀ W1 K1,Below w.heap.size w W1→(∀ k,K1 k→w.heap.size≤k)→Pre W1 K1) (hi:Inv M w) (hT:Tab w) :
  Calls Tryz.prog 75 #[.slice none 0 0,.func (.func gf) #[] lb] w (GotPr M w G):=by
 have hout:∀ k,w.heap.size≤k→M.at_ k=none ∧ ¬ M.ft k:=fun k hk=>⟨hi.out hk,hi.free hk⟩
 obtain ⟨w1,hw1⟩:∃ w1,w1=w.alloc (.cells #[.slice none 0 0] 22):=⟨_,rfl⟩
 have hb1:Below w.heap.size w w1:=by rw [hw1]; exact al1 _ _
 have hs1:w1.heap.size=w.heap.size+1:=by rw [hw1]; simp
 have hO1:Rg.Own w1 w.heap.size #[.slice none 0 0] 22:=by rw [hw1]; exact Rg.Own.new _ _ _
 have HW1:=hid hw1;have HB1:=hid hb1;have HS1:=hid hs1;have HO1:=hid hO1;have HOut:=hid hout;have HI:=hid hi;have HT:=hid hT;have HG:=hid hG;have HPre:=hid hpre;clear hb1 hs1 hO1 hw1 hout hi hT hG hpre;refine calls_marks Tryz.func75 rfl ?_;simp only [Tryz.ntmps75,List.size_toArray,List.length_cons,List.length_nil,Nat.reduceAdd,Nat.reduceSub,Array.replicate_succ,Array.replicate_zero,List.push_toArray,List.append_toArray,List.nil_append,List.cons_append]
 go_wp2_with fail
 rw [← HW1.out];refine wp_range (gf:=gf) (lb:=lb) (K0:=fun k=>k=w.heap.size) rfl eg hs (fun x W args h=>by rw [prA_size h]; rfl) ?pre (HI.out.below HB1.out) (HT.out.below HB1.out HT.out.pos) (prb_sta M w.heap.size w.heap.size (fun _=>True) (fun V:List Tr.Pair=>V)) (Ix:=fun _ _ _ _=>False) (fun _=>no_sta M) ?start ?round ?done ?stop
 case pre =>
  intro W1 K1 hb hK;have hz:=HS1.out;exact HPre.out W1 K1 (bst HB1.out hb) fun k hk=>(hK k hk).elim (fun e=>by omega) (fun e=>by omega)
 case start=>exact ⟨trivial,.slice none 0 0,HO1.out,World.ownsRow_nil _ _ _ _,fun k=>by simp [Value.ownBlock],by simp [Value.ownBlock],Nat.le_refl _,HOut.out⟩
 case stop =>
  intro c V K W _ h;exact h.elim
 case done =>
  rintro K Wd ⟨_,v,hJ⟩ hfd hjd htd hsd hDd hKd;have hz:=HS1.out;have hFr:=fr_shut HB1.out hfd hjd htd HI.out HT.out.pos (fun k hk=>by omega) (by omega:w.heap.size≤w1.heap.size);have hR:RowPr w.heap.size (shut Wd [w1.heap.size]) v G:=owns_same hJ.r fun k e=>shut_block _ _ _ (by
   rw [List.mem_singleton];rintro rfl;exact hKd ((hJ.k _).2 (.inr e)))
  have hcd:=own_cell (j:=0) hJ.o rfl;have HD:=hid hDd;have HF:=hid (And.intro hR hFr);obtain ⟨av,cv,rfl⟩:=owns_slice hJ.r;clear hJ hfd hjd htd hsd hDd hFr hz hKd hR;simp only [Exit.inBlock];go_wp2;exact leaves_one HD.out ⟨_,results_tmp (t:=4) rfl _ _ _,Value.slice av G.length cv,rfl,HF.out⟩
 case round =>
  rintro l V K x args W S hl hlW hKl ⟨_,v,hI⟩ hfW hsW hiW hTW hpf ⟨rfl,hxk⟩ hS;have HS:=hid hS;have hVn:V.length≤1000000:=by
   have h1:=hpf.length_le;have h2:=HG.out;rw [List.length_append] at h1;omega
  clear hfW hsW hpf hS;rw [zip1];simp only [List.setIfInBounds_toArray,List.set_cons_zero,List.set_cons_succ];refine regionIn rfl (fun ⟨_,_,h⟩=>h) ?_;have hal3:=al1 W (.cells (pairA pr0) 33);have HA3:=hid (Rg.Own.new W (pairA pr0) 33);have HXk:=hid hxk;clear hxk;go_wp2_with (first
   | (refine Rg.run rfl _ _ (run_alloc_pair _ _ _ W.heap.size rfl rfl) ?_)
   | (refine wpl_store_pair HA3.out pr0_len x HXk.out rfl _ _ rfl rfl rfl rfl ?_; intro W3 hO hu; have HP3:=hid hO; have HB3:=hid (hu.below hal3 (Nat.le_refl _)); clear hO hu))
  refine HS.out _ _ HB3.out (fun W5 hT5=>?_);have HP5:=hid (hT5.own HP3.out);have hs5:W5.heap.size=W3.heap.size:=hT5.u.size;have hz:=HS1.out;have hzz:=HT.out.pos;have hsW:=HB3.out.size;have HI5:=hid ((hiW.below HB3.out).upd hT5.u (HOut.out l (by omega)).2);have HT5':=hid (tab_upd (hTW.below HB3.out hTW.pos) hT5.u (by omega));have hIl:∀ k,K k→k<W.heap.size:=fun k hk=>((prb_sta M w.heap.size w.heap.size (fun _=>True) (fun V:List Tr.Pair=>V)).lt V K W ⟨trivial,v,hI⟩ k hk).1
  obtain ⟨_,v2,hPI⟩:=(prb_sta M w.heap.size w.heap.size (fun _=>True) (fun V:List Tr.Pair=>V)).st V K W W5 ⟨trivial,v,hI⟩ (by omega) (fun k hk=>(hT5.u.block k fun e=>hKl (by rw [← e]; exact hk)).trans (HB3.out.block k (hIl k hk)));have HPI:=hid hPI;have hcb:W5.cell? ⟨w.heap.size,0,none⟩=some v2:=own_cell (j:=0) hPI.o rfl;have hB5:w.heap.size≤W5.heap.size:=Nat.le_of_lt hPI.o.1;obtain ⟨av,cv,rfl⟩:=owns_slice hPI.r;clear HS hiW hTW hI hT5 hPI hIl hal3;refine wpIn_block ?_;refine regionIn rfl (fun ⟨_,_,h⟩=>h) ?_
  have hal6:=al1 W5 (.cells (pairA x) 33);have HO6:=hid (Rg.Own.new W5 (pairA x) 33);have HR6:Hid (RowPr w.heap.size (W5.alloc (.cells (pairA x) 33)) (.slice av V.length cv) V):=hid (owns_same HPI.out.r fun k e=>hal6.block k (HPI.out.r.lt k e).2);have HOb:=hid (HPI.out.o.below hal6);have hB6:w.heap.size≤(W5.alloc (.cells (pairA x) 33)).heap.size:=Nat.le_trans hB5 hal6.size;have HAl:=hid hal6;clear hal6;go_wp2_with (first
   | (refine Rg.run rfl _ _ (op_load_pair HXk.out (PairAt.own HP5.out) ⟨_,rfl,rfl⟩) ?_)
   | (refine Rg.run rfl _ _ (op_load_prs hcb ⟨_,rfl,rfl⟩) ?_)
   | (refine Rg.run rfl _ _ (op_lit_pair HXk.out W5.heap.size rfl ⟨_,rfl,rfl⟩) ?_)
   | (refine wpl_push_pr HR6.out HO6.out HXk.out hVn hB6 rfl ⟨_,_,rfl,rfl,rfl⟩ ?_; intro v4 w4 hr4 hg4 hl4; have hob4:Rg.Own w4 w.heap.size #[.slice av V.length cv] 22:=⟨Nat.lt_of_lt_of_le HOb.out.1 hg4.size,(hg4.block _ HOb.out.1 (fun e=>HPI.out.nb e.symm)).trans HOb.out.2⟩; have HR4:=hid hr4; have HG4:=hid hg4; have HL4:=hid hl4; obtain ⟨s4,c4,e4⟩:=owns_slice hr4; obtain ⟨n4,hn4⟩:∃ n4,(V++[x]).length=n4:=⟨_,rfl⟩; rw [hn4] at e4; subst e4; clear hn4; have HOb4:=hid hob4; have c4b:=own_cell (j:=0) hob4 rfl; have z4b:=own_free (j:=0) hob4; clear hr4 hg4 hl4 hob4))
  have HO5:=hid (own_setCell (o:=0) HOb4.out (Value.slice s4 n4 c4));have HU5:=hid (upd_setCell w4 w.heap.size 0 (Value.slice s4 n4 c4));have hs3:=HAl.out.size;have hl5:(Value.slice s4 n4 c4).ownBlock=(Value.slice av V.length cv).ownBlock∨∃ k,W5.heap.size≤k∧(Value.slice s4 n4 c4).ownBlock=some k:=HL4.out.imp id fun e=>⟨_,hs3,e⟩
  have hne:∀ k,(Value.slice s4 n4 c4).ownBlock=some k→k≠w.heap.size:=fun k e e2=>by
   rcases hl5 with e3 | ⟨k',hk',e3⟩
   ·exact HPI.out.nb (by rw [← e3,← e2]; exact e)
   ·rw [e3] at e;have:=Option.some.inj e;have:=HPI.out.o.1;omega
  exact prb_rnd HPI.out HI5.out HT5'.out HT.out.pos (by omega) ((((Bo2.of (Below.refl _ _)).below HAl.out).grown HG4.out (fun k e=>(HPI.out.k k).2 (.inr e))).upd HU5.out ((HPI.out.k _).2 (.inl rfl))) HO5.out trivial (owns_same HR4.out fun k e=>HU5.out.block k (hne k e)) hl5
end Tm
end
section
open Go.RowKit
namespace Tm
open Tr Ni Pk Ky No Rf Rl Rf2
open Sm (Tab)
theorem wcollect_any (M:Mp) (gf:Nat) (lb:Array Value) (eg:∀ args w,(callFunc gf args).run Tryz.prog w = .ok (.enter gf args) w) (G:List Tr.Pair) (hG:G.length≤1000000) (Pre:World→(Nat→Prop)→Prop) (hs:SeqC M gf lb prA G Pre) (w:World)
  (hpre:∀ W1 K1,Below w.heap.size w W1→(∀ k,K1 k→w.heap.size≤k)→Pre W1 K1) (hi:Inv M w) (hT:Tab w) :
  Calls Tryz.prog 36 #[.func (.func gf) #[] lb] w (GotPr M w G):=by
 have HA:=hid (wappend_any M gf lb eg G hG Pre hs w hpre hi hT);clear eg hG hs hpre hi hT;go_enter Tryz.func36,Tryz.ntmps36;go_wp2_with fail
 refine HA.out.mono ?_;rintro e w1 ⟨v,rfl,h⟩;have H:=hid h;obtain ⟨a,c,rfl⟩:=owns_slice h.1;clear h HA;go_wp2;go_ret;exact ⟨_,rfl,H.out⟩
structure PrNew (w:World) (bp:Nat) (q:Hdl) (p:Option Addr) (k:List UInt8) (w':World):Prop where
 ot:Rg.Own w' w.heap.size #[.pointer p] 28
 ok:Rg.Own w' (w.heap.size+1) (kc k) 24
 op:Rg.Own w' bp #[.slice q.1 q.2.1 q.2.2] 51
 bp:w.heap.size≤bp
 bq:BsP (fun b=>w.heap.size≤b) w' q (pathK k)
theorem PrNew.pre {M:Mp} {w w':World} {bp:Nat} {q:Hdl} {p:Option Addr} {k:List UInt8} (h:PrNew w bp q p k w') (hu:∀ k,w.heap.size≤k→M.at_ k=none) {W1:World} {K1:Nat→Prop} (hb:Below w'.heap.size w' W1) (hK:∀ k,K1 k→w'.heap.size≤k):PrPre M w.heap.size bp (w.heap.size+1) p q k W1 K1:=by
 refine ⟨own_cell (j:=0) (h.ot.below hb) rfl,h.op.below hb,⟨hu _ h.bp,fun g=>?_⟩,?_,h.ok.below hb,⟨hu _ (Nat.le_succ _),fun g=>?_⟩⟩
 ·have:=hK _ g;have:=h.op.1;omega
 ·have h2:BsP (fun b=>w.heap.size≤b∧b<w'.heap.size) w' q (pathK k):=h.bq.to fun b hl hp=>⟨hp,hl⟩
  exact (h2.kept hb.size fun b _ hl=>hb.block b hl).to fun b _ hp=>⟨hu _ hp.1,fun g=>by have:=hK _ g; omega⟩
 ·have:=hK _ g;have:=h.ok.1;omega
theorem wpairs_any (p:Option Addr) (k:List UInt8) (hk:k.length=32) (w:World):Calls Tryz.prog 35 #[tv p,.agg (kc k)] w fun e w' =>
  ∃ bp q,e = .returned (.func (Fn.func 72) #[] #[.pointer (some ⟨w.heap.size,0,none⟩),.pointer (some ⟨bp,0,none⟩),.pointer (some ⟨w.heap.size+1,0,none⟩)])∧PrNew w bp q p k w'∧Below w.heap.size w w':=by
 have hmf:∀ (fn:Fn) (first cap:Array Value) (w:World),(Instr.makeFunc fn first cap).run Tryz.prog w = .ok (.func fn first cap) w:=fun _ _ _ _=>rfl;obtain ⟨w2,hw2⟩:∃ w2,w2=(w.alloc (.cells #[.pointer p] 28)).alloc (.cells (kc k) 24):=⟨_,rfl⟩
 have hb2:Below w.heap.size w w2:=by rw [hw2]; exact al2 _ _ _
 have hs2:w2.heap.size=w.heap.size+2:=by rw [hw2]; simp
 have hO2:Rg.Own w2 (w.heap.size+1) (kc k) 24:=by
  have:=Rg.Own.new (w.alloc (.cells #[.pointer p] 28)) (kc k) 24;rw [hw2];simpa using this
 have hT2:Rg.Own w2 w.heap.size #[.pointer p] 28:=by rw [hw2]; exact (Rg.Own.new _ _ _).below (al1 _ _)
 have HW2:=hid hw2;have HB2:=hid hb2;have HS2:=hid hs2;have HO2:=hid hO2;have HT2:=hid hT2;have HPa:=hid (path_new k hk w2);have HK:=hid hk;obtain ⟨C,hC⟩:∃ C,kc k=C:=⟨_,rfl⟩
 have HC:=hid hC;rw [hC] at HW2 HPa ⊢;clear hb2 hs2 hO2 hT2 hw2 hC hk;go_enter Tryz.func35,Tryz.ntmps35;go_wp2_with (first
  | (rw [← HW2.out]; refine Rg.run rfl (.agg C) _ (by rw [← HC.out]; exact op_load_key HK.out HO2.out.2 ⟨_,rfl,rfl⟩) ?_))
 refine HPa.out.mono ?_;rintro e w3 ⟨r,rfl,hr,hb3⟩;have HR:=hid hr;have HB3:=hid hb3;clear hr hb3 HPa;go_wp2;go_ret;have hN:=Rg.Own.new w3 #[.slice r.1 r.2.1 r.2.2] 51;have hbu:=al1 w3 (.cells #[.slice r.1 r.2.1 r.2.2] 51);have hs:=HS2.out;have hs3:=HB3.out.size;have hb23:=bst HB3.out hbu;refine ⟨w3.heap.size,r,rfl,⟨HT2.out.below hb23,HO2.out.below hb23,hN,by omega,?_⟩,bst HB2.out hb23⟩;have h2:BsP (fun b=>w.heap.size≤b∧b<w3.heap.size) w3 r (pathK k):=HR.out.to fun b hl hp=>⟨Nat.le_trans HB2.out.size hp,hl⟩
 exact (h2.kept hbu.size fun b _ hl=>hbu.block b hl).to fun b _ hp=>hp.1
def fromL (t:T) (k:List UInt8):List Tr.Pair:=((pathsT t []).filter fun x=>!ltP x.1 (pathK k)).map prOf
theorem outP_go {t:T} (hg:Tr.Good t 64) {k:List UInt8} (hk:k.length=32):outP (pathK k) (goL (reach (pathK k)) t 0 [])=fromL t k:=by
 unfold outP fromL;rw [go_from (pathK_length k hk) t 0 [] 64 hg rfl]
theorem fromL_len {t:T} (hg:Tr.Good t 64) (k:List UInt8):(fromL t k).length≤cntT t:=by
 unfold fromL;rw [List.length_map];refine Nat.le_trans (List.length_filter_le _ _) ?_;rw [← go_all t 0 [] 64 hg rfl,← go_len t 0 []];exact leafs_le _
theorem ltP_zero:∀ (p:List UInt8) (n:Nat),ltP p (List.replicate n 0)=false
 | [],_=>by unfold ltP; rfl
 | _::_,0=>rfl
 | a::p,n+1=>by
  rw [List.replicate_succ];unfold ltP;by_cases e:a=0
  ·rw [if_pos e];exact ltP_zero p n
  ·rw [if_neg e];rfl
theorem pathK_zero:pathK zk=List.replicate 64 0:=by decide +kernel
theorem fromL_all (t:T):fromL t zk=(pathsT t []).map prOf:=by
 unfold fromL;rw [pathK_zero,List.filter_eq_self.2 fun x _=>by rw [ltP_zero]; rfl]
theorem built_key0:Tryz.prog.built 24 []=some (kc zk):=by kernel_rfl
theorem fr_before {M:Mp} {w w1 w2:World} (hb:Below w.heap.size w w1) (f:Fr M M w1 w2):Fr M M w w2 :=
 ⟨f.os.trans hb.os,f.tape.trans hb.tape,f.output.trans hb.output,Nat.le_trans hb.size f.size,fun k hk hm=>(f.block k (Nat.lt_of_lt_of_le hk hb.size) hm).trans (hb.block k hk),fun _ _ h=>h,fun _ _ h=>h,fun _ h=>h,fun _ h=>Or.inl h⟩
theorem wPairs_any (M:Mp) (p:Option Addr) (t:T) (hg:Tr.Good t 64) (hf:Fine t) (hc:cntT t≤200000) (w:World) (hi:Inv M w) (ht:IsT M p t) (hT:Tab w) :
  Calls Tryz.prog 15 #[tv p] w (GotPr M w (fromL t zk)):=by
 obtain ⟨w1,hw1⟩:∃ w1,w1=w.alloc (.cells #[.pointer p] 28):=⟨_,rfl⟩
 have hb1:Below w.heap.size w w1:=by rw [hw1]; exact al1 _ _
 have hc1:w1.cell? ⟨w.heap.size,0,none⟩=some (.pointer p):=by rw [hw1]; exact box_tree w p
 have HW1:=hid hw1;have HB1:=hid hb1;have HPr:=hid (wpairs_any p zk rfl w1);have HOut:=hid (fun k (hk:w.heap.size≤k)=>hi.out hk);have HI:=hid hi;have HT:=hid hT;have HLn:=hid (Nat.le_trans (fromL_len hg zk) hc);have HCo:=hid (fun bt bp bk q=>pairs_seq M bt bp bk p t q zk rfl hg hf hc ht);rw [outP_go hg rfl] at HCo;clear hb1 hw1 hg hf hc hi ht hT;go_enter Tryz.func15,Tryz.ntmps15;go_wp2_with (first
  | (rw [← HW1.out]; refine Rg.run rfl _ _ (op_load_tree hc1 ⟨_,rfl,rfl⟩) ?_)
  | (refine Rg.run rfl _ _ (op_build built_key0 ⟨_,rfl,rfl⟩) ?_))
 refine HPr.out.mono ?_;rintro e w2 ⟨bp,q,rfl,hn,hb2⟩;have hb12:=bst HB1.out hb2;have HB12:=hid hb12;have HC:=hid (wcollect_any M 72 _ (enters_of Tryz.func72 (by kernel_rfl) rfl) (fromL t zk) (by have:=HLn.out; omega) _ (HCo.out w1.heap.size bp (w1.heap.size+1) q) w2 (fun W1 K1 hb hK=>hn.pre (fun k hk=>HOut.out k (Nat.le_trans HB1.out.size hk)) hb hK) (HI.out.below hb12) (HT.out.below hb12 HT.out.pos));clear hn hb2 hb12 hc1;go_wp2_with fail
 refine HC.out.mono ?_;rintro e w3 ⟨v,rfl,hr,hf,h3⟩;have H:=hid (And.intro (owns_weak hr HB12.out.size) (And.intro (fr_before HB12.out hf) h3));obtain ⟨a,c,rfl⟩:=owns_slice hr;clear hr hf h3 HC;go_wp2;go_ret;exact ⟨_,rfl,H.out⟩
end Tm
end
section
open Go.RowKit
namespace Tm
open Tr Ni Pk Ky No Rf Rl Rf2
open Sm (Tab)
theorem res_pair2 {fn:Func} {p u:Tmp} (hf:fn.results = #[.cell p 33,.cell u 4]) (tmps:Array Value) {w:World} {b c:Nat} {x:Tr.Pair} {z:Bool} (hk:x.1.length=32) (hp:tmps.getD p undef = .pointer (some ⟨b,0,none⟩)) (h:Rg.Own w b (pairA x) 33)
  (hu:tmps.getD u undef = .pointer (some ⟨c,0,none⟩)) (g:Rg.Own w c #[.bool z] 4) :
  (results fn tmps).run Tryz.prog w = .ok (.tuple #[.agg (pairA x),.bool z]) w:=by
 have hp':tmps[p]?.getD undef = .pointer (some ⟨b,0,none⟩):=by simpa using hp
 have hu':tmps[u]?.getD undef = .pointer (some ⟨c,0,none⟩):=by simpa using hu
 have hl:=run_loadVar_row (P:=Tryz.prog) w b 33 33 (pairA x) (0,0) _ h.2 Tryz.underlying33 rfl (info_pairA hk);have hc:w.cell? ⟨c,0,none⟩=some (.bool z):=own_cell (j:=0) g rfl;have hl2:(loadVar 4 ⟨c,0,none⟩).run Tryz.prog w = .ok (.bool z) w:=by simp [go_sem,hc]
 simp [results,hf,hp',hu',asAddr,hl,hl2]
structure FndS (M:Mp) (b c:Nat) (K:Nat→Prop) (w:World) (x:Tr.Pair) (z:Bool):Prop where
 o1:Rg.Own w b (pairA x) 33
 o2:Rg.Own w c #[.bool z] 4
 k:∀ k,K k↔k=b∨k=c
 ne:b≠c
 u1:M.at_ b=none ∧ ¬ M.ft b
 u2:M.at_ c=none ∧ ¬ M.ft c
theorem FndS.keep {M:Mp} {b c:Nat} {K:Nat→Prop} {w w':World} {x:Tr.Pair} {z:Bool} (h:FndS M b c K w x z) (hs:w.heap.size≤w'.heap.size) (hk:∀ k,K k→w'.heap[k]? = w.heap[k]?):FndS M b c K w' x z :=
 ⟨⟨Nat.lt_of_lt_of_le h.o1.1 hs,(hk b ((h.k b).2 (.inl rfl))).trans h.o1.2⟩,⟨Nat.lt_of_lt_of_le h.o2.1 hs,(hk c ((h.k c).2 (.inr rfl))).trans h.o2.2⟩,h.k,h.ne,h.u1,h.u2⟩
theorem FndS.lt {M:Mp} {b c:Nat} {K:Nat→Prop} {w:World} {x:Tr.Pair} {z:Bool} (h:FndS M b c K w x z):∀ k,K k→k<w.heap.size∧M.at_ k=none ∧ ¬ M.ft k:=fun k hk=>by
 rcases (h.k k).1 hk with rfl | rfl
 ·exact ⟨h.o1.1,h.u1⟩
 ·exact ⟨h.o2.1,h.u2⟩
def FndN (M:Mp) (b c:Nat) (good:Tr.Pair→Bool) (V:List Tr.Pair) (K:Nat→Prop) (w:World):Prop:=(∀ x∈V,good x=false)∧FndS M b c K w pr0 false
def FndY (M:Mp) (b c:Nat) (good:Tr.Pair→Bool) (q:Code) (V:List Tr.Pair) (K:Nat→Prop) (w:World):Prop:=q = .ret∧∃ U z,V=U++[z]∧(∀ x∈U,good x=false)∧good z=true∧z.1.length=32∧FndS M b c K w z true
theorem fndN_sta (M:Mp) (b c:Nat) (good:Tr.Pair→Bool):Sta M (FndN M b c good):=⟨fun _ _ _ _ h hs hk=>⟨h.1,h.2.keep hs hk⟩,fun _ _ _ h=>h.2.lt⟩
theorem fndY_sta (M:Mp) (b c:Nat) (good:Tr.Pair→Bool) (q:Code):Sta M (FndY M b c good q):=⟨fun _ _ _ _ ⟨e,U,z,h1,h2,h3,h4,h⟩ hs hk=>⟨e,U,z,h1,h2,h3,h4,h.keep hs hk⟩,fun _ _ _ ⟨_,_,_,_,_,_,_,h⟩=>h.lt⟩
def fndL (good:Tr.Pair→Bool) (G:List Tr.Pair):Tr.Pair × Bool:=match G.find? good with
 | some x=>(x,true)
 | none=>(pr0,false)
theorem fndL_none {good:Tr.Pair→Bool} {G:List Tr.Pair} (h:∀ x∈G,good x=false):fndL good G=(pr0,false):=by
 unfold fndL;rw [List.find?_eq_none.2 fun x hx=>by rw [h x hx]; simp]
theorem fndL_some {good:Tr.Pair→Bool} {G U:List Tr.Pair} {z:Tr.Pair} (hp:U++[z]<+:G) (h:∀ x∈U,good x=false) (hz:good z=true):fndL good G=(z,true):=by
 obtain ⟨r,rfl⟩:=hp;unfold fndL;rw [List.append_assoc,List.find?_append,List.find?_eq_none.2 fun x hx=>by rw [h x hx]; simp];simp [hz]
theorem fndN_same {M:Mp} {b c:Nat} {good:Tr.Pair→Bool} {V:List Tr.Pair} {K:Nat→Prop} {w w1:World} {x:Tr.Pair} {n:Nat} (h:FndN M b c good V K w) (hi:Inv M w) (ht:Tab w) (hb:Below w.heap.size w w1) (hx:good x=false):∃ K',Rnd M (FndN M b c good) V K n x w w1 K' :=
 ⟨K,⟨⟨fun y hy=>(List.mem_append.1 hy).elim (h.1 y) (fun g=>by rw [List.mem_singleton.1 g]; exact hx),h.2.keep hb.size fun k hk=>hb.block k (h.2.lt k hk).1⟩,fun k hk=>.inl hk,⟨hb.os,hb.tape,hb.output,hb.size,fun k hl _ _=>hb.block k hl⟩,hi.below hb,ht.below hb ht.pos⟩⟩
theorem fndY_rnd {M:Mp} {b c:Nat} {good:Tr.Pair→Bool} {V:List Tr.Pair} {K:Nat→Prop} {w w1 w2 w3:World} {x:Tr.Pair} {n:Nat} (h:FndN M b c good V K w) (hi:Inv M w) (ht:Tab w) (hz:1<b∧1<c) (hb:Below w.heap.size w w1) (hx:good x=true) (hk:x.1.length=32)
  (hO:Rg.Own w2 b (pairA x) 33) (hu:Rg.Upd w1 b w2) (hO3:Rg.Own w3 c #[.bool true] 4) (hu3:Rg.Upd w2 c w3):∃ K',Rnd M (FndY M b c good .ret) V K n x w w3 K':=by
 have h1:K b:=(h.2.k b).2 (.inl rfl);have h2:K c:=(h.2.k c).2 (.inr rfl);refine ⟨K,⟨⟨rfl,V,x,rfl,h.1,hx,hk,hO.upd hu3 h.2.ne,hO3,h.2.k,h.2.ne,h.2.u1,h.2.u2⟩,fun k hk=>.inl hk,⟨hu3.os.trans (hu.os.trans hb.os),hu3.tape.trans (hu.tape.trans hb.tape),hu3.output.trans (hu.output.trans hb.output),by rw [hu3.size,hu.size]; exact hb.size,fun k hl _ hn=>?_⟩,((hi.below hb).upd hu h.2.u1.2).upd hu3 h.2.u2.2,tab_upd (tab_upd (ht.below hb ht.pos) hu hz.1) hu3 hz.2⟩⟩
 rw [hu3.block k (fun e=>hn (by rw [e]; exact h2)),hu.block k (fun e=>hn (by rw [e]; exact h1)),hb.block k hl]
theorem owns_shut {w:World} {D b:Nat} {cs:Array Value} {T:TypeId} (h:Rg.Own w b cs T) (hn:b≠D):Rg.Own (shut w [D]) b cs T :=
 ⟨by rw [shut_size]; exact h.1,(shut_block [D] w b (by simpa using hn)).trans h.2⟩
end Tm
end
section
open Go.RowKit
namespace Tm
open Tr Ni Pk Ky No Rf Rl Rf2
open Sm (Tab)
theorem wnext_any (M:Mp) (p:Option Addr) (t:T) (k:List UInt8) (hk:k.length=32) (hg:Tr.Good t 64) (hf:Fine t) (hc:cntT t≤200000) (w:World) (hi:Inv M w) (ht:IsT M p t) (hT:Tab w) :
  Calls Tryz.prog 11 #[tv p,.agg (kc k)] w (TellV M w (.tuple #[.agg (pairA (fndL (fun x=>ltP k x.1) (fromL t k)).1),.bool (fndL (fun x=>ltP k x.1) (fromL t k)).2])):=by
 have hout:∀ k,w.heap.size≤k→M.at_ k=none ∧ ¬ M.ft k:=fun k hk=>⟨hi.out hk,hi.free hk⟩
 obtain ⟨good,hgood⟩:∃ g:Tr.Pair→Bool,g=(fun x=>ltP k x.1):=⟨_,rfl⟩
 rw [← hgood];have HGd:=hid hgood;clear hgood;obtain ⟨wa,hwa⟩:∃ wa,wa=((w.alloc (.cells #[.pointer p] 28)).alloc (.cells (kc k) 24)).alloc (.cells (pairA pr0) 33):=⟨_,rfl⟩
 have hsa:wa.heap.size=w.heap.size+3:=by rw [hwa]; simp
 have HWa:=hid hwa;have HSa:=hid hsa;obtain ⟨w1,hw1⟩:∃ w1,w1=wa.alloc (.cells #[.bool false] 4):=⟨_,rfl⟩
 have hb1:Below w.heap.size w w1:=by rw [hw1,hwa]; exact ((((Below.refl w.heap.size w).alloc (by first | omega | (simp; done) | (simp; omega)) _).alloc (by first | omega | (simp; done) | (simp; omega)) _).alloc (by first | omega | (simp; done) | (simp; omega)) _).alloc (by first | omega | (simp; done) | (simp; omega)) _
 have hs1:w1.heap.size=w.heap.size+4:=by rw [hw1,World.size_alloc,hsa]
 have hT1:Rg.Own w1 w.heap.size #[.pointer p] 28:=by rw [hw1,hwa]; exact (((Rg.Own.new w #[.pointer p] 28).below (al1 _ _)).below (al1 _ _)).below (al1 _ _)
 have hK1:Rg.Own w1 (w.heap.size+1) (kc k) 24:=by
  have:=((Rg.Own.new (w.alloc (.cells #[.pointer p] 28)) (kc k) 24).below (al1 _ (.cells (pairA pr0) 33))).below (al1 _ (.cells #[.bool false] 4));rw [hw1,hwa];simpa using this
 have hO1:Rg.Own w1 (w.heap.size+2) (pairA pr0) 33:=by
  have:=(Rg.Own.new ((w.alloc (.cells #[.pointer p] 28)).alloc (.cells (kc k) 24)) (pairA pr0) 33).below (al1 _ (.cells #[.bool false] 4));rw [hw1,hwa];simpa using this
 have hO2:Rg.Own w1 wa.heap.size #[.bool false] 4:=by rw [hw1]; exact Rg.Own.new _ _ _
 have hc1:w1.cell? ⟨w.heap.size,0,none⟩=some (.pointer p):=own_cell (j:=0) hT1 rfl;have HW1:=hid hw1;have HB1:=hid hb1;have HS1:=hid hs1;have HO1:=hid hO1;have HO2:=hid hO2;have HOut:=hid hout;have HI:=hid hi;have HT:=hid hT;have HK1:=hid hK1;have HKl:=hid hk;have HPr:=hid (wpairs_any p k hk w1);have HCo:=hid (fun bt bp bk q=>pairs_seq M bt bp bk p t q k hk hg hf hc ht);rw [outP_go hg hk] at HCo;obtain ⟨G,hG⟩:∃ G,fromL t k=G:=⟨_,rfl⟩
 rw [hG] at HCo ⊢;obtain ⟨C,hC⟩:∃ C,kc k=C:=⟨_,rfl⟩
 have HC:=hid hC;rw [hC] at hwa HWa HK1 HPr ⊢;clear hC;clear hb1 hs1 hT1 hO1 hO2 hw1 hwa hsa hout hi hT hg hf hc ht hG hK1 hk;refine calls_marks Tryz.func11 rfl ?_;simp only [Tryz.ntmps11,List.size_toArray,List.length_cons,List.length_nil,Nat.reduceAdd,Nat.reduceSub,Array.replicate_succ,Array.replicate_zero,List.push_toArray,List.append_toArray,List.nil_append,List.cons_append];go_wp2_with (first
  | (refine Rg.run rfl _ _ (run_alloc_pair _ _ _ (w.heap.size+2) (by simp) rfl) ?_; change wpList _ _ _ _ _ ((((w.alloc (.cells #[.pointer p] 28)).alloc (.cells C 24))).alloc (.cells (pairA pr0) 33)); rw [← HWa.out])
  | ((try rw [← HW1.out]); refine Rg.run rfl _ _ (op_load_tree hc1 ⟨_,rfl,rfl⟩) ?_)
  | (refine Rg.run rfl (.agg C) _ (by rw [← HC.out]; exact op_load_key HKl.out (by rw [HC.out]; exact HK1.out.2) ⟨_,rfl,rfl⟩) ?_))
 try rw [HC.out] at HPr
 refine HPr.out.mono ?_;rintro e w2 ⟨bp,q,rfl,hn,hb2⟩;have hb12:=bst HB1.out hb2;have HB12:=hid hb12;have HNw:=hid hn;have hO12:=HO1.out.below hb2;have hO22:=HO2.out.below hb2;have HK12:=hid (HK1.out.below hb2);have hsa:=HSa.out;have HStart:Hid (FndN M (w.heap.size+2) wa.heap.size good [] (fun k=>k=w.heap.size+2∨k=wa.heap.size) w2):=hid ⟨fun x hx=>(by cases hx),hO12,hO22,fun k=>Iff.rfl,by omega,HOut.out _ (by omega),HOut.out _ (by omega)⟩;have hs2:=hb2.size;have HS2:=hid hs2;clear hn hb2 hb12 hc1 hO12 hO22 hs2 hsa;go_wp2_with fail
 refine wp_range (gf:=72) (lb:=#[.pointer (some ⟨w1.heap.size,0,none⟩),.pointer (some ⟨bp,0,none⟩),.pointer (some ⟨w1.heap.size+1,0,none⟩)]) (K0:=fun k=>k=w.heap.size+2∨k=wa.heap.size) rfl (enters_of Tryz.func72 (by kernel_rfl) rfl) (HCo.out w1.heap.size bp (w1.heap.size+1) q) (fun x W args h=>by rw [prA_size h]; rfl) ?pre (HI.out.below HB12.out) (HT.out.below HB12.out HT.out.pos) (fndN_sta M (w.heap.size+2) wa.heap.size good) (fndY_sta M (w.heap.size+2) wa.heap.size good) HStart.out ?round ?done ?stop
 case pre =>
  intro W1 K1 hb hK;have hs:=HS1.out;have hsa:=HSa.out;have hs2:=HS2.out;have hot:=HNw.out.ot.1;have hok:=HNw.out.ok.1;have hop:=HNw.out.op.1;have hbp:=HNw.out.bp;have hKn:∀ b,w1.heap.size≤b→b<w2.heap.size → ¬ K1 b:=fun b h1 h2 h3=>by have:=hK b h3; omega
  refine ⟨own_cell (j:=0) (HNw.out.ot.below hb) rfl,HNw.out.op.below hb,⟨(HOut.out _ (by omega)).1,hKn _ hbp hop⟩,?_,HNw.out.ok.below hb,⟨(HOut.out _ (by omega)).1,hKn _ (by omega) hok⟩⟩;have h2:BsP (fun b=>w1.heap.size≤b∧b<w2.heap.size) w2 q (pathK k):=HNw.out.bq.to fun b hl hp=>⟨hp,hl⟩
  exact (h2.kept hb.size fun b _ hl=>hb.block b hl).to fun b _ hp=>⟨(HOut.out _ (Nat.le_trans HB1.out.size hp.1)).1,hKn _ hp.1 hp.2⟩
 case stop =>
  rintro c V K Wd hpf ⟨rfl,U,z,rfl,hU,hz,hzk,hJ⟩ hfd hjd htd hsd hDd hKd;have hsa:=HSa.out;have hFr:=fr_shut HB12.out hfd hjd htd HI.out HT.out.pos (fun k hk=>by omega) HB12.out.size;have HE:=hid (fndL_some hpf hU hz);have HO1d:=hid (owns_shut hJ.o1 (fun e=>hKd ((hJ.k _).2 (.inl e.symm))):Rg.Own (shut Wd [w2.heap.size]) _ _ _);have HO2d:=hid (owns_shut hJ.o2 (fun e=>hKd ((hJ.k _).2 (.inr e.symm))):Rg.Own (shut Wd [w2.heap.size]) _ _ _);have HD:=hid hDd;have HF:=hid hFr;have HZk:=hid hzk;clear hJ hfd hjd htd hsd hDd hKd hpf hFr hU hz hzk hsa
  try simp only [Exit.inBlock]
  go_wp2;exact leaves_one HD.out ⟨_,res_pair2 (p:=4) (u:=5) rfl _ HZk.out rfl HO1d.out rfl HO2d.out,by rw [HE.out],HF.out⟩
 case done =>
  rintro K Wd ⟨hV,hJ⟩ hfd hjd htd hsd hDd hKd;have HE:=hid (fndL_none hV);have HJd:=hid hJ;have hcb:=own_cell (j:=0) hJ.o2 rfl;have hzb:=own_free (j:=0) hJ.o2;have HD:=hid (And.intro hDd hKd);have HFd:=hid hfd;have HId:=hid (And.intro hjd htd);clear hJ hV hfd hjd htd hsd hDd hKd;simp only [Exit.inBlock];go_wp2_with (first
   | (refine Rg.run rfl _ _ (op_build built_pair0 ⟨_,rfl,rfl⟩) ?_)
   | (refine wpl_store_pair HJd.out.o1 pr0_len pr0 pr0_len rfl _ _ rfl rfl rfl rfl ?_; intro W4 hO hu; have HO4:=hid hO; have HU4:=hid hu; have hO24:=HJd.out.o2.upd hu (fun e=>HJd.out.ne e.symm); have HO24:=hid hO24; have hcb4:=own_cell (j:=0) hO24 rfl; have hzb4:=own_free (j:=0) hO24; clear hO hu hcb hzb hO24))
  have hO5:=own_setCell (o:=0) HO24.out (Value.bool false);have hu5:=upd_setCell W4 wa.heap.size 0 (Value.bool false);have hO5':=HO4.out.upd hu5 HJd.out.ne;have hKb:∀ k,K k↔k=w.heap.size+2∨k=wa.heap.size:=HJd.out.k;have hD5:(W4.setCell ⟨wa.heap.size,0,none⟩ (Value.bool false)).heap[w2.heap.size]? = some (.deferred (some [])):=by
   rw [hu5.block _ (fun e=>HD.out.2 ((hKb _).2 (.inr e))),HU4.out.block _ (fun e=>HD.out.2 ((hKb _).2 (.inl e)))];exact HD.out.1
  have hf5:FrK M (fun k=>k=w.heap.size+2∨k=wa.heap.size) w2 (W4.setCell ⟨wa.heap.size,0,none⟩ (Value.bool false)):=⟨hu5.os.trans (HU4.out.os.trans HFd.out.os),hu5.tape.trans (HU4.out.tape.trans HFd.out.tape),hu5.output.trans (HU4.out.output.trans HFd.out.output),by rw [hu5.size,HU4.out.size]; exact HFd.out.size,fun k hk hm hn=>by
   rw [hu5.block _ (fun e=>hn (.inr e)),HU4.out.block _ (fun e=>hn (.inl e))];exact HFd.out.block k hk hm hn⟩
  have hpos:=HT.out.pos;have hsa:=HSa.out;have hFr:=fr_shut HB12.out hf5 ((HId.out.1.upd HU4.out HJd.out.u1.2).upd hu5 HJd.out.u2.2) (tab_upd (tab_upd HId.out.2 HU4.out (by omega)) hu5 (by omega)) HI.out hpos (fun k hk=>by omega) HB12.out.size;exact leaves_one hD5 ⟨_,res_pair2 (p:=4) (u:=5) rfl _ pr0_len rfl (owns_shut hO5' (fun e=>HD.out.2 ((hKb _).2 (.inl e.symm)))) rfl (owns_shut hO5 (fun e=>HD.out.2 ((hKb _).2 (.inr e.symm)))),by rw [HE.out],hFr⟩
 case round =>
  rintro l V K x args W S hl hlW hKl hI hfW hsW hiW hTW hpf ⟨rfl,hxk⟩ hS;have HS:=hid hS;have HFW:=hid hfW;clear hfW hsW hpf hS;rw [zip1];simp only [List.setIfInBounds_toArray,List.set_cons_zero,List.set_cons_succ];refine regionIn rfl (fun ⟨_,_,h⟩=>h) ?_;have hal3:=al1 W (.cells (pairA pr0) 33);have HA3:=hid (Rg.Own.new W (pairA pr0) 33);have HXk:=hid hxk;clear hxk;go_wp2_with (first
   | (refine Rg.run rfl _ _ (run_alloc_pair _ _ _ W.heap.size rfl rfl) ?_)
   | (refine wpl_store_pair HA3.out pr0_len x HXk.out rfl _ _ rfl rfl rfl rfl ?_; intro W3 hO hu; have HP3:=hid hO; have HB3:=hid (hu.below hal3 (Nat.le_refl _)); clear hO hu))
  refine HS.out _ _ HB3.out (fun W5 hT5=>?_);have HP5:=hid (hT5.own HP3.out);have hs5:W5.heap.size=W3.heap.size:=hT5.u.size;have hz:=HS1.out;have hsa:=HSa.out;have hs2:=HS2.out;have hzz:=HT.out.pos;have hsW:=HB3.out.size;have HI5:=hid ((hiW.below HB3.out).upd hT5.u (HOut.out l (by omega)).2);have HT5':=hid (tab_upd (hTW.below HB3.out hTW.pos) hT5.u (by omega));have hPI:=(fndN_sta M (w.heap.size+2) wa.heap.size good).st V K W W5 hI (by omega) (fun k hk=>(hT5.u.block k fun e=>hKl (by rw [← e]; exact hk)).trans (HB3.out.block k (hI.2.lt k hk).1))
  have HPI:=hid hPI;have hfr5:FrK M (fun k=>k=w.heap.size+2∨k=wa.heap.size) w2 W5:=((HFW.out.below HB3.out HFW.out.size).trans (K1:=fun k=>k=l) ⟨hT5.u.os,hT5.u.tape,hT5.u.output,by rw [hs5]; exact Nat.le_refl _,fun k _ _ hn=>hT5.u.block k hn⟩ fun k e=>.inr (by omega))
  have HK5:=hid (own_frK hfr5 HK12.out ⟨(HOut.out _ (by omega)).1,by omega⟩);have hcb:=own_cell (j:=0) hPI.2.o2 rfl;have hzb:=own_free (j:=0) hPI.2.o2;clear HS hiW hTW hI hT5 hPI hal3 hz hsa hs2 hfr5;refine wpIn_block ?_;refine wpIn_seq_k ?_;intro K9 hK9;refine regionIn rfl (fun ⟨_,_,h⟩=>h) ?_;have hL:=wless_any k x.1 HKl.out HXk.out W5;rw [HC.out] at hL;have HL:=hid hL;clear hL hcb hzb;go_wp2_with (first
   | (refine Rg.run rfl (.agg C) _ (by rw [← HC.out]; exact op_load_key HKl.out (by rw [HC.out]; exact HK5.out.2) ⟨_,rfl,rfl⟩) ?_)
   | (refine Rg.run rfl _ _ (op_load_key_mid HXk.out (PairAt.own HP5.out).key ⟨_,rfl,rfl⟩) ?_))
  refine HL.out.mono ?_;rintro e W6 ⟨rfl,hb6⟩;have HB6:=hid hb6;have HP6:=hid (HP5.out.below hb6);have HP26:=hid (HPI.out.2.keep hb6.size fun k hk=>hb6.block k (HPI.out.2.lt k hk).1);have hcb:=own_cell (j:=0) HP26.out.o2 rfl;have hzb:=own_free (j:=0) HP26.out.o2;have HLt:Hid (ltP k x.1=good x):=hid (by rw [HGd.out]);rw [HLt.out];clear hb6 HL;by_cases hgx:good x=true
  ·have HGx:=hid hgx;rw [hgx];clear hgx;go_wp2;refine wpIn_cond_true rfl ?_;refine wpIn_seq_k ?_;intro K10 hK10;refine regionIn rfl (fun ⟨_,_,h⟩=>h) ?_;go_wp2_with (first
    | (refine Rg.run rfl _ _ (op_load_pair HXk.out (PairAt.own HP6.out) ⟨_,rfl,rfl⟩) ?_)
    | (refine wpl_store_pair HP26.out.o1 pr0_len x HXk.out rfl _ _ rfl rfl rfl rfl ?_; intro W7 hO hu; have HO7:=hid hO; have HU7:=hid hu; have hO27:=HP26.out.o2.upd hu (fun e=>HP26.out.ne e.symm); have HO27:=hid hO27; have hcb7:=own_cell (j:=0) hO27 rfl; have hzb7:=own_free (j:=0) hO27; clear hO hu hcb hzb hO27))
   refine wpIn_ret ?_;have hsa:=HSa.out;exact fndY_rnd HPI.out HI5.out HT5'.out ⟨by omega,by omega⟩ HB6.out HGx.out HXk.out HO7.out HU7.out (own_setCell (o:=0) HO27.out (Value.bool true)) (upd_setCell W7 wa.heap.size 0 (Value.bool true))
  ·have hgx':good x=false:=by
    cases h:good x with
    | true=>exact absurd h hgx
    | false=>rfl
   have HGx:=hid hgx';rw [hgx'];clear hgx hgx';go_wp2;refine wpIn_cond_false rfl ?_;refine wpIn_skip ?_;exact fndN_same HPI.out HI5.out HT5'.out HB6.out HGx.out
end Tm
end
section
open Go.RowKit
namespace Tm
open Tr Ni Pk Ky No Rf Rl Rf2
open Sm (Tab)
end Tm
end
section
open Go.RowKit
namespace Tm
open Tr Ni Pk Ky No
theorem info_nd3:(Tryz.prog.info? 56).map (fun i=>(i.size,i.bytes))=some (19,304):=by kernel_rfl
theorem info_nd_zero:((Tryz.prog.info? 56).bind (·.zero)).isSome=true:=by kernel_rfl
theorem info_nd_cells:((Tryz.prog.info? 56).bind (·.zero)).map (·.cells.size)=some 19:=by kernel_rfl
theorem info_nd_parts:∃ i z,Tryz.prog.info? 56=some i∧i.zero=some z∧i.size=19∧i.bytes=304∧z.cells.size=19:=by
 have h1:=info_nd3;have h2:=info_nd_zero;have h3:=info_nd_cells;cases hi:Tryz.prog.info? 56 with
 | none=>rw [hi] at h1; simp at h1
 | some i =>
  rw [hi] at h1 h2 h3;simp at h1 h2 h3;cases hz:i.zero with
  | none=>rw [hz] at h2; simp at h2
  | some z =>
   rw [hz] at h3;simp at h3;exact ⟨i,z,rfl,hz,h1.1,h1.2,h3⟩
def ndL (N:Nd) (h:Hdl):List Value:=.int .i64 N.kd :: .slice h.1 h.2.1 h.2.2 :: .string N.v::N.ks.map Value.string
theorem ndL_len {N:Nd} {h:Hdl} (hl:N.ks.length=16):(ndL N h).length=19:=by simp [ndL,hl]
theorem ndL_one (N:Nd) (h:Hdl):∀ u∈ndL N h,u.oneCell'=true:=fun u hu=>by
 unfold ndL at hu;simp only [List.mem_cons,List.mem_map] at hu;rcases hu with rfl | rfl | rfl | ⟨_,_,rfl⟩ <;> rfl
theorem ndL_byte (N:Nd) (h:Hdl) (j:Nat) (x:Int):(ndC N h.1 h.2.1 h.2.2)[j]? ≠ some (Value.int .u8 x):=fun e=>by
 have e':(ndL N h)[j]? = some (Value.int .u8 x):=by
  rw [← e];unfold ndC ndL;simp
 have hm:=List.mem_of_getElem? e';unfold ndL at hm;simp at hm
abbrev Nz:Type:=Nd × Hdl
def nz0:Nz:=(nd0,(none,0,0))
def rowD (z:List Nz):List Value:=z.flatMap fun p=>ndL p.1 p.2
theorem rowD_len:∀ (z:List Nz),(∀ p∈z,p.1.ks.length=16)→(rowD z).length=z.length*19
 | [],_=>rfl
 | x::z,h=>by
  show (ndL x.1 x.2++rowD z).length=_;rw [List.length_append,ndL_len (h x List.mem_cons_self),rowD_len z (fun y hy=>h y (List.mem_cons_of_mem _ hy)),List.length_cons];omega
theorem rowD_at:∀ (z:List Nz),(∀ p∈z,p.1.ks.length=16)→∀ j i,j<z.length→i<19→(rowD z)[j*19+i]? = (ndL (z.getD j nz0).1 (z.getD j nz0).2)[i]?
 | [],_,_,_,h,_=>absurd h (Nat.not_lt_zero _)
 | x::z,h,0,i,_,hi=>by
  show (ndL x.1 x.2++rowD z)[0*19+i]? = _;rw [Nat.zero_mul,Nat.zero_add,List.getElem?_append_left (by rw [ndL_len (h x List.mem_cons_self)]; exact hi)];rfl
 | x::z,h,j+1,i,hj,hi=>by
  show (ndL x.1 x.2++rowD z)[(j+1)*19+i]? = _;have hx:=ndL_len (h:=x.2) (h x List.mem_cons_self);rw [List.getElem?_append_right (by omega),hx,show (j+1)*19+i-19=j*19+i by omega,rowD_at z (fun y hy=>h y (List.mem_cons_of_mem _ hy)) j i (by simpa using hj) hi];rfl
theorem rowD_one (z:List Nz):∀ u∈rowD z,u.oneCell'=true:=fun u hu=>by
 obtain ⟨x,_,h⟩:=List.mem_flatMap.1 hu;exact ndL_one x.1 x.2 u h
def IsNds (w:World) (a:Option Addr) (n c:Nat) (l:List Nd):Prop :=
 n≤c∧c≤maxLen∧(a=none→c=0)∧∃ z:List Nz,z.map Prod.fst=l∧z.length=n∧(∀ p∈z,p.1.ks.length=16∧IsBs w p.2.1 p.2.2.1 p.2.2.2 p.1.p) ∧
  ∀ j,j<n→∃ b off,a=some ⟨b,off,none⟩∧b<w.heap.size∧w.rangeAt b (off+j*19) (ndL (z.getD j nz0).1 (z.getD j nz0).2)
theorem IsNds.len {w:World} {a:Option Addr} {n c:Nat} {l:List Nd} (h:IsNds w a n c l):l.length=n:=by
 obtain ⟨_,_,_,z,rfl,hz,_⟩:=h;rw [List.length_map,hz]
theorem IsNds.below {w w':World} {a:Option Addr} {n c:Nat} {l:List Nd} (h:IsNds w a n c l) (hb:Below w.heap.size w w'):IsNds w' a n c l:=by
 obtain ⟨h1,h2,h3,z,e,hz,hp,hr⟩:=h;refine ⟨h1,h2,h3,z,e,hz,fun p hm=>⟨(hp p hm).1,(hp p hm).2.below hb⟩,fun j hj=>?_⟩;obtain ⟨b,off,e,hlt,hc⟩:=hr j hj;exact ⟨b,off,e,Nat.lt_of_lt_of_le hlt hb.size,fun i v hv=>cell_on hb (hc i v hv)⟩
theorem IsNds.nil (w:World):IsNds w none 0 0 []:=⟨Nat.le_refl _,Nat.zero_le _,fun _=>rfl,[],rfl,rfl,fun _ h=>(by cases h),fun _ h=>absurd h (Nat.not_lt_zero _)⟩
theorem getD_mem' {α:Type} {l:List α} {d : α} {j:Nat} (h:j<l.length):l.getD j d∈l:=by
 rw [List.getD_eq_getElem?_getD,List.getElem?_eq_getElem h];exact List.getElem_mem _
theorem IsNds.at' {w:World} {a:Option Addr} {n c:Nat} {l:List Nd} (h:IsNds w a n c l) (j:Nat) (hj:j<n):∃ b off g,a=some ⟨b,off,none⟩∧b<w.heap.size∧w.rangeAt b (off+j*19) (ndL (l.getD j nd0) g)∧(l.getD j nd0).ks.length=16∧IsBs w g.1 g.2.1 g.2.2 (l.getD j nd0).p:=by
 obtain ⟨_,_,_,z,rfl,hz,hp,hr⟩:=h;obtain ⟨b,off,e,hlt,hc⟩:=hr j hj;have hg:(z.map Prod.fst).getD j nd0=(z.getD j nz0).1:=by
  have:j<z.length:=by omega
  simp [List.getD,this]
 obtain ⟨h1,h2⟩:=hp _ (getD_mem' (d:=nz0) (show j<z.length by omega));exact ⟨b,off,(z.getD j nz0).2,e,hlt,by rw [hg]; exact hc,by rw [hg]; exact h1,by rw [hg]; exact h2⟩
theorem isNds_one {w:World} {b:Nat} {N:Nd} {h:Hdl} (hO:Rg.Own w b (ndC N h.1 h.2.1 h.2.2) 56) (hl:N.ks.length=16) (hp:IsBs w h.1 h.2.1 h.2.2 N.p):IsNds w (some ⟨b,0,none⟩) 1 1 [N]:=by
 refine ⟨Nat.le_refl _,by unfold maxLen; decide,fun e=>(by cases e),[(N,h)],rfl,rfl,fun p hm=>?_,fun j hj=>?_⟩
 ·rw [List.mem_singleton.1 hm]; exact ⟨hl,hp⟩
 ·obtain rfl:j=0:=by omega
  refine ⟨b,0,rfl,hO.1,fun i v hv=>?_⟩;have:(ndC N h.1 h.2.1 h.2.2)[i]? = some v:=by
   rw [← hv];unfold ndC ndL;simp
  have:=own_cell hO this;simpa using this
theorem isBs_grown {w w':World} {g:Nat} {a:Option Addr} {n c:Nat} {l:List UInt8} (h:IsBs w a n c l) (hg:¬ HasByte w g) (hu:w.grownBy w' (some g)):IsBs w' a n c l:=by
 refine ⟨h.1,h.2.1,h.2.2.1,h.2.2.2.1,fun j hj=>?_⟩;obtain ⟨b,off,e,hlt,hc⟩:=h.2.2.2.2 j hj;have hbg:b≠g:=by
  rintro rfl;exact hg ⟨_,_,hc⟩
 exact ⟨b,off,e,Nat.lt_of_lt_of_le hlt hu.size,by rw [World.cell?_of_block (hu.block b hlt (fun e=>hbg (Option.some.inj e)))]; exact hc⟩
theorem run_append_nds {w:World} {ty:TypeId} {b m c:Nat} {N:Nd} {h:Hdl} {ad:Option Addr} {ys:List Nd} (hO:Rg.Own w b (ndC N h.1 h.2.1 h.2.2) 56) (hl:N.ks.length=16) (hp:IsBs w h.1 h.2.1 h.2.2 N.p) (hY:IsNds w ad m c ys) (hm:m≤1000) :
  ∃ w' a' c',(Builtin.append_ #[48,48] ty #[.slice (some ⟨b,0,none⟩) 1 1,.slice ad m c]).run Tryz.prog w = .ok (.slice a' (1+m) c') w'∧IsNds w' a' (1+m) c' (N::ys)∧Below b w w':=by
 obtain ⟨i0,z0,hi,hz,hsz,hby,hzc⟩:=info_nd_parts;have hR:w.ownsRow b 56 19 (.slice (some ⟨b,0,none⟩) 1 1) 1 (ndL N h):=⟨by rw [ndL_len hl],.inr ⟨b,1,ndC N h.1 h.2.1 h.2.2,rfl,Nat.le_refl _,hO.2,Nat.le_refl _,by unfold maxLen; decide,by rw [ndC_size _ _ _ _ hl],by
  rw [List.take_of_length_le (by simp [ndC,hl])];rfl⟩⟩
 have hnb:=no_byte hO (ndL_byte N h);have hlen:=hY.len;obtain ⟨y1,y2,y3,z,rfl,hzl,hzp,hzr⟩:=hY;rcases ad with _ | ad
 ·have hc:c=0:=y3 rfl;have hm0:m=0:=by omega
  subst hc;subst hm0;have hz':z=[]:=List.length_eq_zero_iff.1 hzl;subst hz';exact ⟨w,some ⟨b,0,none⟩,1,run_append_owned_none (P:=Tryz.prog) (w:=w) b 48 ty 56 i0 19 Tryz.underlying48 hi _ 1 _ hR,isNds_one hO hl hp,Below.refl _ _⟩
 ·have hks:∀ p∈z,p.1.ks.length=16:=fun p hm=>(hzp p hm).1;obtain ⟨v',w',hr,h3,h4,_,h5⟩:=run_append_own_at (P:=Tryz.prog) w b 48 ty 56 i0 z0 19 304 Tryz.underlying48 hi hz hsz hby hzc (by decide) _ 1 _ hR ad m c (rowD z) (by rw [rowD_len z hks,hzl])
   (fun j u hu=>by
    have hj:j<z.length*19:=by
     have:=(List.getElem?_eq_some_iff.1 hu).1;rwa [rowD_len z hks] at this
    obtain ⟨b2,off,e,_,hc⟩:=hzr (j/19) (by omega);obtain rfl:=Option.some.inj e;have hk:=rowD_at z hks (j/19) (j%19) (by omega) (Nat.mod_lt _ (by decide));rw [show j/19*19+j%19=j by omega,hu] at hk;have:=hc (j%19) u hk.symm;rw [Addr.add_mid,show off+j=off+j/19*19+j%19 by omega];exact this)
   (rowD_one z) (by unfold maxLen; omega) (by omega) (Nat.le_of_lt hO.1)
  have hb':Below b w w':=(Below.refl b w).grown h4 (Nat.le_of_lt hO.1) (fun k hk=>by cases hk; exact Nat.le_refl _);rcases h3.2 with ⟨rfl,h0⟩ | ⟨g,cap,cur,rfl,hbg,hg,hnc,hcm,hcs,htake⟩
  ·omega
  ·refine ⟨w',_,_,hr,⟨hnc,hcm,fun e=>(by cases e),(N,h)::z,rfl,by rw [List.length_cons,hzl]; omega,fun p hm=>?_,fun j hj=>⟨g,0,rfl,(Array.getElem?_eq_some_iff.1 hg).1,fun i u hu=>?_⟩⟩,hb'⟩
   ·rcases List.mem_cons.1 hm with rfl | hm
    ·exact ⟨hl,isBs_grown hp hnb h4⟩
    ·exact ⟨hks p hm,isBs_grown (hzp p hm).2 hnb h4⟩
   ·have hall:∀ p∈(N,h)::z,p.1.ks.length=16:=fun p hm=>by
     rcases List.mem_cons.1 hm with rfl | hm
     ·exact hl
     ·exact hks p hm
    have hjz:j<((N,h)::z).length:=by rw [List.length_cons,hzl]; omega
    have hi19:i<19:=by
     have:=(List.getElem?_eq_some_iff.1 hu).1;rwa [ndL_len (hall _ (getD_mem' hjz))] at this
    have:=h3.cells (g:=g) rfl (j*19+i) u (by
     show (rowD ((N,h)::z))[j*19+i]? = some u;rw [rowD_at _ hall j i hjz hi19];exact hu)
    rw [Addr.add_mid] at this;rw [Nat.add_assoc];exact this
theorem meet_append_nds {o:Oper} {a:Go.Act} {w:World} {K:Go.Act→World→Prop} {Q:Exit→Go.Act→World→Prop} {ops:Array Oper} {b m c:Nat} {N:Nd} {h:Hdl} {ad:Option Addr} {ys:List Nd} (hw:Region.wanted o (yielded ops a.tmps)=true)
  (ho:∃ s y,o.op = .call { callee:=.builtin .append,args:=#[s,y],argTypes:=#[48,48] }∧a.eval s = .slice (some ⟨b,0,none⟩) 1 1∧a.eval y = .slice ad m c)
  (hO:Rg.Own w b (ndC N h.1 h.2.1 h.2.2) 56) (hl:N.ks.length=16) (hp:IsBs w h.1 h.2.1 h.2.2 N.p) (hY:IsNds w ad m c ys) (hm:m≤1000)
  (H:∀ a' c' w',IsNds w' a' (1+m) c' (N::ys)→Below b w w'→K (a.put o.dst (.slice a' (1+m) c')) w'):if Region.wanted o (yielded ops a.tmps)=true then Oper.wp Tryz.prog o a w K Q else K (a.put o.dst undef) w:=by
 obtain ⟨s,y,ho,hs,hy⟩:=ho;obtain ⟨w',a',c',hr,h3,h4⟩:=run_append_nds (ty:=o.type) hO hl hp hY hm;refine Rg.want hw ?_;unfold Oper.wp execOp;simp only [ho,resolve,invoke,builtin,Sem.run_bind,Sem.run_pure,Result.andThen_ok,List.map_toArray,List.map_cons,List.map_nil,hs,hy,hr];exact H a' c' w' h3 h4
theorem op_lit_nd {ev:Operand→Value} {o:Oper} {w:World} {N:Nd} {h:Hdl} (hl:N.ks.length=16) (b:Nat) (hb:b=w.heap.size) (ho:∃ y,o.op = .buildSlice 48 1 #[(0,y)]∧ev y = .agg (ndC N h.1 h.2.1 h.2.2)) :
  (execOp ev o).run Tryz.prog w = .ok (.value (.slice (some ⟨b,0,none⟩) 1 1)) (w.alloc (.cells (ndC N h.1 h.2.1 h.2.2) 56)):=by
 obtain ⟨y,ho,hx⟩:=ho;obtain ⟨kd,p,v,ks⟩:=N;subst hb;obtain ⟨x0,x1,x2,x3,x4,x5,x6,x7,x8,x9,x10,x11,x12,x13,x14,x15,rfl⟩:=sixteen ks hl;unfold execOp;simp only [ho,List.map_toArray,List.map_cons,List.map_nil,hx];kernel_rfl
end Tm
end
end Go.Proofs.YtnecijeakeklaaaGreatDoor
