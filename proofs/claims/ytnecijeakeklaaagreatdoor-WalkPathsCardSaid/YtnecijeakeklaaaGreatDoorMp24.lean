/-
 walk.Path: the nodes that come, with their paths.
-/
import Derived.Test.YtnecijeakeklaaaGreatDoorMp23
import Derived.Test.YtnecijeakeklaaaGreatDoorMp22
import Derived.Test.YtnecijeakeklaaaGreatDoorMp20
import Derived.Test.YtnecijeakeklaaaGreatDoorMp13
import Derived.Test.YtnecijeakeklaaaGreatDoorMp18
import Derived.Test.YtnecijeakeklaaaGreatDoorMp19
import Derived.Test.YtnecijeakeklaaaGreatDoorRows
import Derived.WalkKit
import Derived.ProofKit
import Derived.SliceStrings
import Derived.Test.YtnecijeakeklaaaGreatDoorMp10
import Derived.Deep.DeepCutAuto
import Derived.LaidMore
import Derived.OpenShut
import Derived.ShutString
import Derived.Stop.Joined
open Go.Lib (hid)
set_option linter.unusedSimpArgs false
set_option linter.unusedVariables false
set_option maxHeartbeats 40000000
set_option maxRecDepth 100000
namespace Go.Proofs.YtnecijeakeklaaaGreatDoor
section
open Go.RowKit
namespace Tm
open Tr Ni Pk Ky No Rf Rl Rf2
open Sm (Tab)
def PBk (h:Hdl) (k:Nat):Prop:=∃ ad,h.1=some ad∧0<h.2.1∧k=ad.block
theorem BsP.blk {p:Nat→Prop} {w:World} {h:Hdl} {l:List UInt8} (g:BsP p w h l):BsP (fun b=>p b∧PBk h b) w h l:=⟨g.1,fun ad e hn=>⟨g.2 ad e hn,ad,e,hn,rfl⟩⟩
structure NdG (M:Mp) (B bx:Nat) (z:List Nz) (K:Nat→Prop) (w:World) (v:Value):Prop where
 o:Rg.Own w bx #[v] 48
 r:RowNd B w v z
 k:∀ k,K k↔(k=bx∨v.ownBlock=some k)∨∃ y∈z,PBk y.2 k
 nb:v.ownBlock≠some bx
 bb:B≤bx
 u:∀ k,B≤k→M.at_ k=none ∧ ¬ M.ft k
 hb:∀ y∈z,y.1.ks.length=16∧BsP (fun b=>B≤b∧b≠bx∧v.ownBlock≠some b) w y.2 y.1.p
theorem NdG.keep {M:Mp} {B bx:Nat} {z:List Nz} {K:Nat→Prop} {w w':World} {v:Value} (h:NdG M B bx z K w v) (hs:w.heap.size≤w'.heap.size) (hk:∀ k,K k→w'.heap[k]? = w.heap[k]?):NdG M B bx z K w' v :=
 ⟨⟨Nat.lt_of_lt_of_le h.o.1 hs,(hk bx ((h.k bx).2 (.inl (.inl rfl)))).trans h.o.2⟩,owns_same h.r fun k e=>hk k ((h.k k).2 (.inl (.inr e))),h.k,h.nb,h.bb,h.u,fun y hy=>⟨(h.hb y hy).1,((h.hb y hy).2.blk.kept hs fun b hp _=>hk b ((h.k b).2 (.inr ⟨y,hy,hp.2⟩))).to fun _ _ hp=>hp.1⟩⟩
theorem NdG.lt {M:Mp} {B bx:Nat} {z:List Nz} {K:Nat→Prop} {w:World} {v:Value} (h:NdG M B bx z K w v):∀ k,K k→k<w.heap.size∧M.at_ k=none ∧ ¬ M.ft k:=fun k hk=>by
 rcases (h.k k).1 hk with (rfl | e) | ⟨y,hy,ad,e,hn,rfl⟩
 ·exact ⟨h.o.1,h.u k h.bb⟩
 ·exact ⟨(h.r.lt k e).2,h.u k (h.r.lt k e).1⟩
 ·exact ⟨(BsP.old (h.hb y hy).2.1).2 ad e hn,h.u _ ((h.hb y hy).2.2 ad e hn).1⟩
theorem NdG.nds {M:Mp} {B bx:Nat} {z:List Nz} {K:Nat→Prop} {w:World} {v:Value} (h:NdG M B bx z K w v):∃ a c,v = .slice a z.length c∧IsNds w a z.length c (z.map Prod.fst):=by
 rcases h.r.2 with ⟨rfl,h0⟩ | ⟨g,cap,cur,rfl,hbg,hg,hnc,hcm,hcs,htake⟩
 ·have:z=[]:=List.length_eq_zero_iff.1 h0;subst this;exact ⟨none,0,rfl,IsNds.nil _⟩
 ·refine ⟨_,_,rfl,hnc,hcm,fun e=>(by cases e),z,rfl,rfl,fun p hm=>⟨(h.hb p hm).1,(h.hb p hm).2.1⟩,fun j hj=>⟨g,0,rfl,(Array.getElem?_eq_some_iff.1 hg).1,fun i u hu=>?_⟩⟩;have hall:∀ p∈z,p.1.ks.length=16:=fun p hm=>(h.hb p hm).1;have hi19:i<19:=by
   have:=(List.getElem?_eq_some_iff.1 hu).1;rwa [ndL_len (hall _ (getD_mem' hj))] at this
  have:=h.r.cells (g:=g) rfl (j*19+i) u (by rw [rowD_at z hall j i hj hi19]; exact hu);rw [Addr.add_mid] at this;rw [Nat.add_assoc];exact this
def NdGB (M:Mp) (B bx:Nat) (V:List Pl) (K:Nat→Prop) (w:World):Prop:=∃ z v,z.map Prod.fst=ndsOf V∧NdG M B bx z K w v
theorem ndgb_sta (M:Mp) (B bx:Nat):Sta M (NdGB M B bx):=⟨fun _ _ _ _ ⟨z,v,e,h⟩ hs hk=>⟨z,v,e,h.keep hs hk⟩,fun _ _ _ ⟨_,_,_,h⟩=>h.lt⟩
theorem ndG_push {M:Mp} {B bx:Nat} {z:List Nz} {K:Nat→Prop} {w w5:World} {v v':Value} {N:Nd} {h:Hdl} (hI:NdG M B bx z K w v) (hi:Inv M w) (ht:Tab w) (hz:1<B) (hb:Bo2 (fun k=>k=bx∨v.ownBlock=some k) w w5)
  (ho:Rg.Own w5 bx #[v'] 48) (hr:RowNd B w5 v' (z++[(N,h)])) (hl:v'.ownBlock=v.ownBlock∨∃ k,w.heap.size≤k∧v'.ownBlock=some k) (hN:N.ks.length=16) (hp:BsP (fun b=>B≤b∧b≠bx∧v.ownBlock≠some b) w h N.p) :
  ∃ K',NdG M B bx (z++[(N,h)]) K' w5 v'∧(∀ k,K' k→K k∨w.heap.size≤k∨PBk h k)∧FrK M K w w5∧Inv M w5∧Tab w5:=by
 have hup:∀ (q:Hdl) (l:List UInt8),BsP (fun b=>B≤b∧b≠bx∧v.ownBlock≠some b) w q l→BsP (fun b=>B≤b∧b≠bx∧v'.ownBlock≠some b) w5 q l:=fun q l g=>by
  have g2:BsP (fun b=>(B≤b∧b≠bx∧v.ownBlock≠some b)∧b<w.heap.size) w q l:=g.to fun b hlt hp=>⟨hp,hlt⟩
  refine (g2.kept hb.size fun b hp hlt=>hb.block b hlt fun e=>e.elim hp.1.2.1 hp.1.2.2).to fun b _ hp=>⟨hp.1.1,hp.1.2.1,fun e=>?_⟩
  rcases hl with e2 | ⟨k,hk,e2⟩
  ·exact hp.1.2.2 (by rw [← e2]; exact e)
  ·rw [e2] at e;have:=Option.some.inj e;have:=hp.2;omega
 refine ⟨fun k=>(k=bx∨v'.ownBlock=some k)∨∃ y∈z++[(N,h)],PBk y.2 k,⟨ho,hr,fun k=>Iff.rfl,fun e=>?_,hI.bb,hI.u,fun y hy=>?_⟩,fun k hk=>?_,⟨hb.os,hb.tape,hb.output,hb.size,fun k hk _ hn=>hb.block k hk fun e=>hn ((hI.k k).2 (.inl e))⟩,hi.keep hb.size fun k hk=>hb.block k (hi.lt_ k hk) fun g=>?_,fun j hj=>?_⟩
 ·rcases hl with e2 | ⟨k,hk,e2⟩
  ·exact hI.nb (by rw [← e2]; exact e)
  ·rw [e2] at e;have:=Option.some.inj e;have:=hI.o.1;omega
 ·rcases List.mem_append.1 hy with hy | hy
  ·exact ⟨(hI.hb y hy).1,hup _ _ (hI.hb y hy).2⟩
  ·obtain rfl:=List.mem_singleton.1 hy;exact ⟨hN,hup _ _ hp⟩
 ·rcases hk with (rfl | e) | ⟨y,hy,hq⟩
  ·exact .inl ((hI.k _).2 (.inl (.inl rfl)))
  ·rcases hl with e2 | ⟨k',hk,e2⟩
   ·exact .inl ((hI.k _).2 (.inl (.inr (by rw [← e2]; exact e))))
   ·rw [e2] at e;have:=Option.some.inj e;exact .inr (.inl (by omega))
  ·rcases List.mem_append.1 hy with hy | hy
   ·exact .inl ((hI.k _).2 (.inr ⟨y,hy,hq⟩))
   ·obtain rfl:=List.mem_singleton.1 hy;exact .inr (.inr hq)
 ·rcases g with rfl | e
  ·exact (hI.u _ hI.bb).2 hk
  ·exact (hI.u k (hI.r.lt k e).1).2 hk
 ·have hlt:1<w.heap.size:=Nat.lt_of_lt_of_le hz (Nat.le_trans hI.bb (Nat.le_of_lt hI.o.1));have hnk:¬ (1=bx∨v.ownBlock=some 1):=fun g=>by
   rcases g with e | e
   ·have:=hI.bb; omega
   ·have:=(hI.r.lt _ e).1; omega
  rw [World.cell?_of_block (hb.block 1 hlt hnk)];exact ht j hj
theorem nib_path (k:List UInt8):Nib (pathK k):=fun c hc=>by
 have h:=path_right k;unfold rightB at h;have:=List.all_eq_true.1 h c hc;have:=of_decide_eq_true this;omega
theorem at_cnt (t:T) (k:List UInt8):(nodesAt t (pathK k)).length≤cntT t:=by
 have h:=congrArg List.length (go_path t 0 [] (pathK k) (nib_path k));rw [List.length_map] at h;have h2:=go_sub (leads ([]++pathK k)) t 0 [];have h3:=List.length_filter_le (fun x:Pl=>isNode x.1) (goL (leads ([]++pathK k)) t 0 []);omega
def GotNs (M:Mp) (w:World) (l:List Nd) (e:Ending) (w':World):Prop:=∃ a n c,e = .returned (.slice a n c)∧IsNds w' a n c l∧Fr M M w w'∧Inv M w'∧Tab w'
theorem wpath_any (M:Mp) (p:Option Addr) (t:T) (k:List UInt8) (hk:k.length=32) (hg:Tr.Good t 64) (hf:Fine t) (hc:cntT t≤200000) (w:World) (hi:Inv M w) (ht:IsT M p t) (hT:Tab w) :
  Calls Tryz.prog 22 #[tv p,.agg (kc k)] w (GotNs M w (nodesAt t (pathK k))):=by
 have hout:∀ k,w.heap.size≤k→M.at_ k=none ∧ ¬ M.ft k:=fun k hk=>⟨hi.out hk,hi.free hk⟩
 have hnib:Nib (pathK k):=fun c hc=>by
  have h:=path_right k;unfold rightB at h;have:=List.all_eq_true.1 h c hc;have:=of_decide_eq_true this;omega
 obtain ⟨w1,hw1⟩:∃ w1,w1=(w.alloc (.cells #[.pointer p] 28)).alloc (.cells (kc k) 24):=⟨_,rfl⟩
 have hb1:Below w.heap.size w w1:=by rw [hw1]; exact al2 _ _ _
 have hs1:w1.heap.size=w.heap.size+2:=by rw [hw1]; simp
 have hT1:Rg.Own w1 w.heap.size #[.pointer p] 28:=by
  have:=(Rg.Own.new w #[.pointer p] 28).below (al1 _ (.cells (kc k) 24));rw [hw1];exact this
 have hK1:Rg.Own w1 (w.heap.size+1) (kc k) 24:=by
  have:=Rg.Own.new (w.alloc (.cells #[.pointer p] 28)) (kc k) 24;rw [hw1];simpa using this
 have HW1:=hid hw1;have HB1:=hid hb1;have HS1:=hid hs1;have HT1:=hid hT1;have HOut:=hid hout;have HI:=hid hi;have HT:=hid hT;have HK1:=hid hK1;have HKl:=hid hk;have HPa:=hid (path_new k hk w1);have HPl:=hid (pathK_length k hk);have HGp:=hid (go_path t 0 [] (pathK k) hnib);have HCn:Hid ((goL (leads (pathK k)) t 0 []).length≤200000):=hid (Nat.le_trans (go_sub (leads (pathK k)) t 0 []) hc);obtain ⟨P,hPP⟩:∃ P,pathK k=P:=⟨_,rfl⟩
 rw [hPP] at HPa HPl HGp HCn ⊢;have HGo:=hid (fun g0 gi bp=>goer_seqG M g0 gi 44 #[.pointer (some ⟨bp,0,none⟩)] p t (leads P) (enters_of Tryz.func44 (by kernel_rfl) rfl) hg hf hc ht);obtain ⟨C,hC⟩:∃ C,kc k=C:=⟨_,rfl⟩
 have HC:=hid hC;rw [hC] at hw1 HW1 HK1 HPa ⊢;have hmf:∀ (fn:Fn) (first cap:Array Value) (w:World),(Instr.makeFunc fn first cap).run Tryz.prog w = .ok (.func fn first cap) w:=fun _ _ _ _=>rfl;clear hC hb1 hs1 hT1 hw1 hout hi hT hg hf hc ht hK1 hk hnib hPP;refine calls_marks Tryz.func22 rfl ?_;simp only [Tryz.ntmps22,List.size_toArray,List.length_cons,List.length_nil,Nat.reduceAdd,Nat.reduceSub,Array.replicate_succ,Array.replicate_zero,List.push_toArray,List.append_toArray,List.nil_append,List.cons_append];go_wp2_with (first
  | ((try rw [← HW1.out]); refine Rg.run rfl (.agg C) _ (by rw [← HC.out]; exact op_load_key HKl.out (by rw [HC.out]; exact HK1.out.2) ⟨_,rfl,rfl⟩) ?_))
 refine HPa.out.mono ?_;rintro e w2 ⟨r,rfl,hr,hb2⟩;obtain ⟨w3,hw3⟩:∃ w3,w3=w2.alloc (.cells #[.slice r.1 r.2.1 r.2.2] 51):=⟨_,rfl⟩
 have hal3:=al1 w2 (.cells #[.slice r.1 r.2.1 r.2.2] 51);have hO3:=Rg.Own.new w2 #[.slice r.1 r.2.1 r.2.2] 51;rw [← hw3] at hal3 hO3;obtain ⟨w4,hw4⟩:∃ w4,w4=w3.alloc (.cells #[.slice none 0 0] 48):=⟨_,rfl⟩
 have hal4:=al1 w3 (.cells #[.slice none 0 0] 48);have hO4:=Rg.Own.new w3 #[.slice none 0 0] 48;rw [← hw4] at hal4 hO4;rw [show w3.heap.size=w2.heap.size+1 by rw [hw3]; simp] at hO4;have hb14:=bst (bst hb2 hal3) hal4;have hc4:w4.cell? ⟨w.heap.size,0,none⟩=some (.pointer p):=own_cell (j:=0) (HT1.out.below hb14) rfl;have hr4:BsP (fun b=>w1.heap.size≤b∧b<w2.heap.size) w4 r P:=by
  have h2:BsP (fun b=>w1.heap.size≤b∧b<w2.heap.size) w2 r P:=hr.to fun b hl hp=>⟨hp,hl⟩
  have hb24:=bst hal3 hal4;exact h2.kept hb24.size fun b _ hl=>hb24.block b hl
 have HW3:=hid hw3;have HW4:=hid hw4;have HR4:=hid hr4;have HOp4:=hid (hO3.below hal4);have HO4:=hid hO4;have HB14:=hid (bst HB1.out hb14);have HSz:Hid (w1.heap.size≤w2.heap.size∧w2.heap.size<w2.heap.size+1∧w2.heap.size+1<w4.heap.size):=hid ⟨hb2.size,Nat.lt_succ_self _,hO4.1⟩;clear hr hb2 hal3 hO3 hal4 hO4 hb14 hr4 hw3 hw4;go_wp2_with (first
  | ((try rw [← HW3.out]); (try rw [← HW4.out]); refine Rg.run rfl _ _ (op_load_tree hc4 ⟨_,rfl,rfl⟩) ?_))
 refine (wgoer_any p w4).mono ?_;rintro e w5 ⟨rfl,h5,hb5⟩;have HO5:=hid h5;have HB5:=hid hb5;clear h5 hb5 hc4;go_wp2_with fail
 refine (wgoer1_any (.func (Fn.func 44) #[] #[.pointer (some ⟨w2.heap.size,0,none⟩)]) w4.heap.size w5 rfl).mono ?_;rintro e w6 ⟨rfl,h6,hb6⟩;have HO6:=hid h6;have HB6:=hid hb6;have hb46:=bst HB5.out hb6;have HB46:=hid hb46;have HB16:=hid (bst HB14.out hb46);have HO46:=hid (HO4.out.below hb46);have HOp6:=hid (HOp4.out.below hb46);have HR6:Hid (BsP (fun b=>w1.heap.size≤b∧b<w2.heap.size) w6 r P):=hid (HR4.out.kept hb46.size fun b _ hl=>hb46.block b hl);clear h6 hb6 hb46;go_wp2_with fail
 refine wp_rangeG (gf:=67) (lb:=#[.pointer (some ⟨w4.heap.size,0,none⟩),.pointer (some ⟨w5.heap.size,0,none⟩)]) (K0:=fun k=>k=w2.heap.size+1) rfl (enters_of Tryz.func67 (by kernel_rfl) rfl) (HGo.out _ _ w2.heap.size) (fun x W args h=>by rw [goA_size h]; rfl) ?pre (HI.out.below HB16.out) (HT.out.below HB16.out HT.out.pos) (ndgb_sta M w.heap.size (w2.heap.size+1)) (Ix:=fun _ _ _ _=>False) (fun _=>no_sta M) ?start ?round ?done ?stop
 case pre =>
  intro W1 K1 hb hK;obtain ⟨z1,z2,z3⟩:=HSz.out;have z0:=HS1.out;have z5:w4.heap.size<w5.heap.size:=HO5.out.1;have z6:w5.heap.size<w6.heap.size:=HO6.out.1;have hKn:∀ b,b<w6.heap.size→b≠w2.heap.size+1 → ¬ K1 b:=fun b h1 h2 h3=>(hK b h3).elim h2 (by omega);have hq:BsP (fun b=>M.at_ b=none ∧ ¬ K1 b) W1 r P:=by
   exact (HR6.out.kept hb.size fun b _ hl=>hb.block b hl).to fun b _ hp=>⟨(HOut.out b (by omega)).1,hKn b (by omega) (by omega)⟩
  refine ⟨own_cell (j:=0) ((HO5.out.below HB6.out).below hb) rfl,own_cell (j:=0) (HO6.out.below hb) rfl,(HOut.out _ (by omega)).1,hKn _ (by omega) (by omega),fun wr f pp o h a ha hl=>?_⟩;exact into_path w2.heap.size r P HPl.out wr (own_cell (j:=0) (own_frK f (HOp6.out.below hb) ⟨(HOut.out _ (by omega)).1,hKn _ (by omega) (by omega)⟩) rfl) (hq.kept f.size fun b hp hl=>f.block b hl hp.1 hp.2).1 pp o h a ha hl
 case start=>exact ⟨[],.slice none 0 0,rfl,HO46.out,World.ownsRow_nil _ _ _ _,fun k=>by simp [Value.ownBlock],by simp [Value.ownBlock],by have:=HSz.out; have:=HS1.out; omega,HOut.out,fun _ h=>by cases h⟩
 case stop =>
  intro c V K W _ h;exact h.elim
 case done =>
  rintro K Wd ⟨z,v,hz,hJ⟩ hfd hjd htd hsd hDd hKd;obtain ⟨z1,z2,z3⟩:=HSz.out;have z0:=HS1.out;have hFr:=fr_shut HB16.out hfd hjd htd HI.out HT.out.pos (fun k hk=>by omega) HB16.out.size;have hcd:=own_cell (j:=0) hJ.o rfl;have HD:=hid hDd;have HF:=hid hFr;have hN:=(hJ.keep (w':=shut Wd [w6.heap.size]) (by rw [shut_size]; exact Nat.le_refl _) fun k hk=>shut_block [w6.heap.size] Wd k fun e=>hKd (by rw [← List.mem_singleton.1 e]; exact hk)).nds;obtain ⟨av,cv,rfl,hN⟩:=hN
  have HNs:=hid (show IsNds (shut Wd [w6.heap.size]) av z.length cv (nodesAt t P) by rw [← show z.map Prod.fst=nodesAt t P from hz.trans HGp.out]; exact hN);clear hJ hfd hjd htd hsd hDd hFr hKd hz hN z1 z2 z3 z0;simp only [Exit.inBlock];go_wp2;exact leaves_one HD.out ⟨_,results_tmp (t:=4) rfl _ _ _,av,_,cv,rfl,HNs.out,HF.out⟩
 case round =>
  rintro l V K x args W S hl hlW hKl ⟨z,v,hz,hI⟩ hfW hsW hiW hTW hpf ⟨pp,hh,na,nn,nc,rfl,htp,hbW,hbN,hok⟩ hgv hS;have HS:=hid hS;have HZ:=hid hz;have hVn:z.length≤1000000:=by
   have h1:=hpf.length_le;have h2:=HCn.out;have h3:=congrArg List.length hz;have h4:(ndsOf V).length≤V.length:=by unfold ndsOf; rw [List.length_map]; exact List.length_filter_le _ _
   rw [List.length_append] at h1;rw [List.length_map] at h3;omega
  have hsz:=HB16.out.size;have HbP:Hid (BsP (fun b=>(w.heap.size≤b∧b≠w2.heap.size+1∧v.ownBlock≠some b)∧b≠l∧b<W.heap.size) W (na,nn,nc) (nodeT x.1).p):=hid ⟨hbN,fun ad e hn=>by
   have e':na=some ad:=e;subst e';obtain ⟨q1,q2,q3,q4⟩:=hgv ad.block (gvP_of hn);exact ⟨⟨by omega,fun e2=>q4 ((hI.k _).2 (.inl (.inl e2))),fun e2=>q4 ((hI.k _).2 (.inl (.inr e2)))⟩,q3,q2⟩⟩
  clear hfW hsW hpf hS hz hbW hbN htp hok hgv hsz;rw [zip2];simp only [List.setIfInBounds_toArray,List.set_cons_zero,List.set_cons_succ];have hal3:=al1 W (.cells (ndC nd0 none 0 0) 56);have HA3:=hid (Rg.Own.new W (ndC nd0 none 0 0) 56);have HNl:=hid (nodeT_length x.1);obtain ⟨N,hN⟩:∃ N,nodeT x.1=N:=⟨_,rfl⟩
  have HNN:=hid hN;rw [hN] at HNl HbP ⊢;clear hN;refine regionIn rfl (fun ⟨_,_,h⟩=>h) ?_;go_wp2_with (first
   | (refine Rg.run rfl _ _ (run_alloc_nd _ _ _ W.heap.size rfl rfl) ?_)
   | (refine wpl_store_ndL HA3.out zks_length N na nn nc HNl.out rfl _ _ rfl rfl rfl rfl ?_; intro W3 hO hu; have HN3:=hid hO; have HB3:=hid (hu.below hal3 (Nat.le_refl _)); clear hO hu))
  refine HS.out _ _ HB3.out (fun W5 hT5=>?_);have HN5:=hid (hT5.own HN3.out);have hs5:W5.heap.size=W3.heap.size:=hT5.u.size;obtain ⟨z1,z2,z3⟩:=HSz.out;have z0:=HS1.out;have z6:=HB16.out.size;have hzz:=HT.out.pos;have hsW:=HB3.out.size;have HI5:=hid ((hiW.below HB3.out).upd hT5.u (HOut.out l (by omega)).2);have HT5':=hid (tab_upd (hTW.below HB3.out hTW.pos) hT5.u (by omega));have hPI:=hI.keep (w':=W5) (by omega) (fun k hk=>(hT5.u.block k fun e=>hKl (by rw [← e]; exact hk)).trans (HB3.out.block k (hI.lt k hk).1));have HPI:=hid hPI
  have HbN:Hid (BsP (fun b=>w.heap.size≤b∧b≠w2.heap.size+1∧v.ownBlock≠some b) W5 (na,nn,nc) N.p):=hid (((HbP.out.kept hsW fun b _ hl=>HB3.out.block b hl).kept (by omega) fun b hp _=>hT5.u.block b hp.2.1).to fun _ _ hp=>hp.1);have hcb:W5.cell? ⟨w2.heap.size+1,0,none⟩=some v:=own_cell (j:=0) hPI.o rfl;have hB5:w.heap.size≤W5.heap.size:=Nat.le_trans hPI.bb (Nat.le_of_lt hPI.o.1);have hck:W5.cell? ⟨W.heap.size,0,none⟩=some (.int .i64 N.kd):=own_cell (j:=0) HN5.out rfl;obtain ⟨av,cv,rfl⟩:=owns_slice hPI.r
  clear HS hiW hTW hI hT5 hPI hal3 z1 z2 z3 z0 z6;refine wpIn_block ?_;refine wpIn_seq_k ?_;intro K9 hK9;refine regionIn rfl (fun ⟨_,_,h⟩=>h) ?_;by_cases hx:isNode x.1=true
  ·have hkd:(N.kd != 0)=true:=by
    rw [← HNN.out];have:(nodeT x.1).kd≠0:=fun e=>by rw [node_is.1 e] at hx; cases hx
    simp [this]
   have HX:=hid hx;have hal6:=al1 W5 (.cells (ndC N na nn nc) 56);have HO7:=hid (Rg.Own.new W5 (ndC N na nn nc) 56);have HR7:Hid (RowNd w.heap.size (W5.alloc (.cells (ndC N na nn nc) 56)) (.slice av z.length cv) z):=hid (owns_same HPI.out.r fun k e=>hal6.block k (HPI.out.r.lt k e).2);have HOb:=hid (HPI.out.o.below hal6);have HAl:=hid hal6;have hB7:w.heap.size≤(W5.alloc (.cells (ndC N na nn nc) 56)).heap.size:=Nat.le_trans hB5 hal6.size;clear hal6 hx;go_wp2;refine wpIn_cond_true rfl ?_
   refine regionIn rfl (fun ⟨_,_,h⟩=>h) ?_;go_wp2_with (first
    | (refine Rg.run rfl _ _ (op_load_nd HN5.out HNl.out ⟨_,rfl,rfl⟩) ?_)
    | (refine Rg.run rfl _ _ (op_load_nds hcb ⟨_,rfl,rfl⟩) ?_)
    | (refine Rg.run rfl _ _ (op_lit_nd (h:=(na,nn,nc)) HNl.out W5.heap.size rfl ⟨_,rfl,rfl⟩) ?_)
    | (refine wpl_push_nd (h:=(na,nn,nc)) HR7.out HO7.out HNl.out hVn hB7 rfl ⟨_,_,rfl,rfl,rfl⟩ ?_; intro v4 w4' hr4 hg4 hl4; have hob4:Rg.Own w4' (w2.heap.size+1) #[.slice av z.length cv] 48:=⟨Nat.lt_of_lt_of_le HOb.out.1 hg4.size,(hg4.block _ HOb.out.1 (fun e=>HPI.out.nb e.symm)).trans HOb.out.2⟩; have HR4':=hid hr4; have HG4:=hid hg4; have HL4:=hid hl4; obtain ⟨s4,c4,e4⟩:=owns_slice hr4; obtain ⟨n4,hn4⟩:∃ n4,(z++[(N,(na,nn,nc))]).length=n4:=⟨_,rfl⟩; rw [hn4] at e4; subst e4; clear hn4; have HOb4:=hid hob4; have c4b:=own_cell (j:=0) hob4 rfl; have z4b:=own_free (j:=0) hob4; clear hr4 hg4 hl4 hob4))
   have HO5':=hid (own_setCell (o:=0) HOb4.out (Value.slice s4 n4 c4));have HU5:=hid (upd_setCell w4' (w2.heap.size+1) 0 (Value.slice s4 n4 c4));have hs3:=HAl.out.size;have hl5:(Value.slice s4 n4 c4).ownBlock=(Value.slice av z.length cv).ownBlock∨∃ k,W5.heap.size≤k∧(Value.slice s4 n4 c4).ownBlock=some k:=HL4.out.imp id fun e=>⟨_,hs3,e⟩
   have hne:∀ k,(Value.slice s4 n4 c4).ownBlock=some k→k≠w2.heap.size+1:=fun k e e2=>by
    rcases hl5 with e3 | ⟨k',hk',e3⟩
    ·exact HPI.out.nb (by rw [← e3,← e2]; exact e)
    ·rw [e3] at e;have:=Option.some.inj e;have:=HPI.out.o.1;omega
   have hbo:Bo2 (fun k=>k=w2.heap.size+1∨(Value.slice av z.length cv).ownBlock=some k) W5 _:=(((Bo2.of (Below.refl _ _)).below HAl.out).grown HG4.out (fun k e=>.inr e)).upd HU5.out (.inl rfl);obtain ⟨K',h1,h2,h2f,h3,h4⟩:=ndG_push HPI.out HI5.out HT5'.out HT.out.pos hbo HO5'.out (owns_same HR4'.out fun k e=>HU5.out.block k (hne k e)) hl5 HNl.out HbN.out;refine ⟨K',⟨_,_,by rw [List.map_append,HZ.out,ndsOf_snoc,if_pos HX.out,HNN.out]; rfl,h1⟩,fun k hk=>(h2 k hk).imp id fun h=>h.elim (fun h=>.inl (by omega)) fun ⟨ad,e,hn,e2⟩=>.inr ?_,h2f,h3,h4⟩
   have e':na=some ad:=e;subst e';rw [e2];exact gvP_of hn
  ·have hkd:(N.kd != 0)=false:=by
    rw [← HNN.out];have:(nodeT x.1).kd=0:=node_is.2 (by cases e:isNode x.1 with
     | true=>exact absurd e hx
     | false=>rfl)
    simp [this]
   have HX:=hid hx;clear hx;go_wp2;refine wpIn_cond_false rfl ?_;refine wpIn_skip ?_;exact ⟨K,⟨z,_,by rw [HZ.out,ndsOf_snoc,if_neg HX.out,List.append_nil],HPI.out⟩,fun k hk=>.inl hk,FrK.refl _ _ _,HI5.out,HT5'.out⟩
end Tm
end
section
open Go.RowKit
namespace Tr
open Rf Rl Ni No
theorem at_len:∀ (t:T) (L:Nat) (w:Pa),Good t L→(nodesAt t w).length≤w.length+1
 | .nil,_,_,_=>Nat.zero_le _
 | .leaf _ _,_,_,_=>by
  show 1≤_;omega
 | .ext q t,L,w,g=>by
  have hq:0<q.length:=List.length_pos_iff.2 g.1;have ih:=at_len t _ (w.drop q.length) g.2.2.2.2;rw [List.length_drop] at ih;show (_::if _ then _ else _).length≤_;by_cases h:q<+:w
  ·rw [if_pos h,List.length_cons];have:=h.length_le;omega
  ·rw [if_neg h];simp
 | .br ks,L,[],_=>Nat.le_refl _
 | .br ks,L,c::w,g=>by
  have ih:=at_len (ks (nb c)) _ w (g.2.2 _);show (nodesAt (ks (nb c)) w).length+1≤(w.length+1)+1;omega
 | .stub _,_,_,_=>Nat.zero_le _
end Tr
namespace Tm
open Tr Ni Pk Ky No
def GotDs (w:World) (l:List Nd) (e:Ending) (w':World):Prop:=∃ a n c,e = .returned (.slice a n c)∧IsNds w' a n c l∧Below w.heap.size w w'
def PathC (L:Nat):Prop:=∀ (l:List Tr.In),Ok L l→FineL l→∀ (a:Option Addr) (n c:Nat) (w:World),IsIns w a n c l→n≤1000→∀ (q:Pa),Nib q→q.length=L→∀ (d:Option Addr) (k:Nat),IsBs w d L k q →
 Calls Tryz.prog 23 #[.slice a n c,.slice d L k] w (GotDs w (nodesAt (build L l) q))
theorem rpath_of {L:Nat} (hL:L≤64) (ih:∀ m,m<L→PathC m):PathC L:=fun l ok f a n c w h hn q hq hql d k hqb=>by
 by_cases hne:l=[]
 ·subst hne;obtain rfl:n=0:=h.len.symm;rw [built_nil];have HC:=hid (node_none a c w);clear h hqb;go_enter Tryz.func23,Tryz.ntmps23;go_wp2_with fail
  refine HC.out.mono ?_;rintro e w1 ⟨rfl,hb1⟩;have HB1:=hid hb1;have hNew:=Rg.Own.new w1 (ndC nd0 none 0 0) 56;have HN:=hid hNew;clear hb1 hNew;go_wp2_with (first
   | (refine Rg.run rfl _ _ (run_alloc_nd _ _ _ w1.heap.size rfl rfl) ?_)
   | (refine wpl_store_ndL HN.out rfl nd0 none 0 0 rfl rfl _ _ rfl rfl rfl rfl ?_; intro w4 hO4 hu4; have HB4:Hid (Below w1.heap.size w1 w4):=hid (hu4.below (al1 _ _) (Nat.le_refl _)); clear hO4 hu4))
  go_ret;exact ⟨_,_,_,rfl,IsNds.nil _,bst HB1.out HB4.out⟩
 ·have hnl:=h.len;have HC:=hid (node_any hL (fun m hm=>renc_any m (by omega)) ok f hne a n c w h (by omega));have hl:=nodeT_length (build L l);have hall:∀ z∈l,z.1.length=L:=fun z hz=>(ok.1 z hz).1;have hD:=at_kinds ok hne q;have hln:(nodesAt (build L l) q).length≤65:=Nat.le_trans (at_len _ L q (good_build L l ok)) (by omega)
  have hRs:∀ (m:Nat) wz,m≤L→Below w.heap.size w wz→Calls Tryz.prog 38 #[.slice a n c,.int .i64 m] wz (GotIns wz (restL l m)):=fun m wz hm' hb=>rest_any l a n c m (fun z hz=>by rw [hall z hz]; exact hm') wz (h.below hb) (by omega)
  have hIh1:∀ (K:Nat),0<K→K≤L→Ok (L-K) (restL l K)→∀ a' n' c' wz,IsIns wz a' n' c' (restL l K)→Below w.heap.size w wz→Calls Tryz.prog 23 #[.slice a' n' c',.slice (fromA d k K) (L-K) (k-K)] wz (GotDs wz (nodesAt (build (L-K) (restL l K)) (q.drop K))):=fun K h0 hK hok a' n' c' wz hI hb=>ih (L-K) (by omega) _ hok (f.rest K) a' n' c' wz hI (by rw [← hI.len]; unfold restL; rw [List.length_map]; omega) (q.drop K) (hq.drop K) (by rw [List.length_drop]; omega) _ _ (bs_from (hqb.below hb) K hK)
  have hBg:0<L→∀ (d:Fin 16) wz,Below w.heap.size w wz→Calls Tryz.prog 40 #[.slice a n c,.int .i64 d.val] wz (GotIns wz (beginL l d)):=fun hL0 d wz hb=>begin_any l a n c d (fun z hz=>by rw [hall z hz]; exact hL0) wz (h.below hb) (by omega)
  have hRs2:0<L→∀ (d:Fin 16) a' n' c' wz,IsIns wz a' n' c' (beginL l d)→Calls Tryz.prog 38 #[.slice a' n' c',.int .i64 1] wz (GotIns wz (restL (beginL l d) 1)):=fun hL0 d a' n' c' wz hi=>rest_any (beginL l d) a' n' c' 1 (fun z hz=>by rw [hall z (mem_begin.1 hz).1]; omega) wz hi (by rw [← hi.len]; exact Nat.le_trans (List.length_filter_le _ _) (by omega))
  have hIh2:0<L→∀ (e:Fin 16) a' n' c' wz,IsIns wz a' n' c' (restL (beginL l e) 1)→Below w.heap.size w wz→Calls Tryz.prog 23 #[.slice a' n' c',.slice (fromA d k 1) (L-1) (k-1)] wz (GotDs wz (nodesAt (build (L-1) (restL (beginL l e) 1)) (q.drop 1))):=fun hL0 e a' n' c' wz hI hb=>ih (L-1) (by omega) _ (ok_begin ok hL0 e) ((f.begin e).rest 1) a' n' c' wz hI (by
   rw [← hI.len];unfold restL;rw [List.length_map];exact Nat.le_trans (List.length_filter_le _ _) (by omega)) (q.drop 1) (hq.drop 1) (by rw [List.length_drop]; omega) _ _ (bs_from (hqb.below hb) 1 hL0)
  have hCo:∀ a1 n1 c1 wz,n1≤1000→IsBs wz a1 n1 c1 (nodeT (build L l)).p→Below w.heap.size w wz→Calls Tryz.prog 47 #[.slice a1 n1 c1,.slice d L k] wz fun e w'=>e = .returned (.int .i64 (cp (nodeT (build L l)).p q:Nat))∧Below wz.heap.size wz w':=fun a1 n1 c1 wz h1 hb1 hb=>(rcommon_any a1 d n1 L c1 k _ q (by omega) (by omega) wz hb1 (hqb.below hb)).mono fun e w' hh=>by
   obtain ⟨h2,m,rfl⟩:=hh;rw [cp_common] at h2;exact ⟨h2,below_drewN (Below.refl _ _) m⟩
  have HRs:=hid hRs;have HIh1:=hid hIh1;have HBg2:=hid hBg;have HRs2:=hid hRs2;have HIh2:=hid hIh2;have HQb:=hid hqb;have HQl:=hid hql;have HQn:=hid hq;have HLn:=hid hln;have HCo:=hid hCo;generalize hNN:nodeT (build L l)=N at *
  have HL:=hid hl;have HD:=hid hD;clear h hl hD hRs hIh1 hBg hRs2 hIh2 hall ok f hnl ih hne hNN hqb hql hq hln hCo;go_enter Tryz.func23,Tryz.ntmps23;go_wp2_with fail
  refine HC.out.mono ?_;rintro e w1 ⟨a1,n1,c1,rfl,hp1,hb1⟩;have HB1:=hid hb1;have hNew:=Rg.Own.new w1 (ndC nd0 none 0 0) 56;have HN:=hid hNew;have HP:=hid hp1;clear hb1 hNew hp1 HC;obtain ⟨g,hg⟩:∃ g,w1.heap.size=g:=⟨_,rfl⟩
  have HG:=hid hg;rw [hg] at HN;go_wp2_with (first
   | (refine Rg.run rfl _ _ (run_alloc_nd _ _ _ g HG.out.symm rfl) ?_)
   | (refine wpl_store_ndL HN.out rfl N a1 n1 c1 HL.out rfl _ _ rfl rfl rfl rfl ?_; intro w4 hO4 hu4; have HO4:=hid hO4; have HB4:Hid (Below w1.heap.size w1 w4):=hid (hu4.below (al1 _ _) (Nat.le_of_eq HG.out)); have HS4:Hid (w4.heap.size=g+1):=hid (by rw [hu4.size]; simp [HG.out]); clear hO4 hu4)
   | (refine Rg.run rfl _ _ (op_load_nd HO4.out HL.out ⟨_,rfl,rfl⟩) ?_)
   | (refine Rg.run rfl _ _ (op_lit_nd (h:=(a1,n1,c1)) HL.out _ rfl ⟨_,rfl,rfl⟩) ?_))
  obtain ⟨w6,hw6⟩:∃ W,w4.alloc (.cells (ndC N a1 n1 c1) 56)=W:=⟨_,rfl⟩
  have hb6:Below w4.heap.size w4 w6:=by rw [← hw6]; exact al1 _ _
  obtain ⟨g2,hg2⟩:∃ g2,w4.heap.size=g2:=⟨_,rfl⟩
  have hR6:Rg.Own w6 g2 (ndC N a1 n1 c1) 56:=by rw [← hw6,← hg2]; exact Rg.Own.new _ _ _
  have HR6:=hid hR6;have HB6:Hid (Below w.heap.size w w6):=hid (bst (bst HB1.out HB4.out) hb6);have HO6:=hid (HO4.out.below hb6);have HP6:Hid (IsBs w6 a1 n1 c1 N.p):=hid ((HP.out.below HB4.out).below hb6);have HgR:Hid (g<g2):=hid (by rw [← hg2,HS4.out]; omega);have HwR:Hid (w.heap.size≤g2):=hid (by have:=HB1.out.size; have:=HG.out; have:=HS4.out; omega);have hpn:N.p.length=n1:=HP.out.len;rw [hw6,hg2];clear hw6 hb6 hR6 HO4 HB4 HN HB1 HP HS4 HG hg hg2;rcases HD.out with ⟨hk,hx⟩ | ⟨hk,K,hK0,hKL,hpK,hok,hx⟩ | ⟨hk,hL0,_,hx⟩
  ·have HKd:=hid hk;have HX:=hid hx;clear hx hk HD HRs HIh1 HBg2 HRs2 HIh2 HCo hpn;go_wp2_with fail
   refine wp_region_noPanic ?_;refine wp_region_held_drew (S:=fun w'=>Below w.heap.size w w'∧OwnN w' g N a1 n1 c1) (by kernel_rfl) (⟨HB6.out.drew,HO6.out.drew⟩) (fun hld=>?_);refine Rg.tk (i:=0) rfl ?_;try simp only [Act.put,Rg.s]
   refine Rg.tk (i:=1) rfl ?_ (hy:=by intro wz hSw; (have k0:wz.cell? ⟨g,0,none⟩=some (.int .i64 1):=HKd.out ▸ own_cell (j:=0) hSw.2 rfl; go_simp <;> with_reducible rfl));try simp only [Act.put,Rg.s]
   refine Rg.tk (i:=2) rfl ?_;try simp only [Act.put,Rg.s]
   refine Rg.tk (i:=3) rfl ?_;try simp only [Act.put,Rg.s]
   refine Rg.takeL (i:=4) (v:=undef) rfl (by kernel_rfl) (by kernel_rfl) (by kernel_rfl) (fun _ _ _ h=>h) (Or.inr ⟨by rfl,rfl⟩) (by assumption) ?_;try simp only [Act.put,Rg.s]
   refine Rg.takeL (i:=5) (v:=undef) rfl (by kernel_rfl) (by kernel_rfl) (by kernel_rfl) (fun _ _ _ h=>h) (Or.inr ⟨by rfl,rfl⟩) (by assumption) ?_;try simp only [Act.put,Rg.s]
   refine Rg.takeL (i:=6) (v:=undef) rfl (by kernel_rfl) (by kernel_rfl) (by kernel_rfl) (fun _ _ _ h=>h) (Or.inr ⟨by rfl,rfl⟩) (by assumption) ?_;try simp only [Act.put,Rg.s]
   refine Rg.takeL (i:=7) (v:=undef) rfl (by kernel_rfl) (by kernel_rfl) (by kernel_rfl) (fun _ _ _ h=>h) (Or.inr ⟨by rfl,rfl⟩) (by assumption) ?_;try simp only [Act.put,Rg.s]
   refine Rg.takeL (i:=8) (v:=undef) rfl (by kernel_rfl) (by kernel_rfl) (by kernel_rfl) (fun _ _ _ h=>h) (Or.inr ⟨by rfl,rfl⟩) (by assumption) ?_;try simp only [Act.put,Rg.s]
   refine Rg.takeL (i:=9) (v:=undef) rfl (by kernel_rfl) (by kernel_rfl) (by kernel_rfl) (fun _ _ _ h=>h) (Or.inr ⟨by rfl,rfl⟩) (by assumption) ?_;try simp only [Act.put,Rg.s]
   refine Rg.tk (i:=10) rfl ?_;try simp only [Act.put,Rg.s]
   refine Rg.tk (i:=11) rfl ?_;try simp only [Act.put,Rg.s]
   refine Rg.takeL (i:=12) (v:=undef) rfl (by kernel_rfl) (by kernel_rfl) (by kernel_rfl) (fun _ _ _ h=>h) (Or.inr ⟨by rfl,rfl⟩) (by assumption) ?_;try simp only [Act.put,Rg.s]
   refine Rg.takeL (i:=13) (v:=undef) rfl (by kernel_rfl) (by kernel_rfl) (by kernel_rfl) (fun _ _ _ h=>h) (Or.inr ⟨by rfl,rfl⟩) (by assumption) ?_;try simp only [Act.put,Rg.s]
   refine Rg.takeL (i:=14) (v:=undef) rfl (by kernel_rfl) (by kernel_rfl) (by kernel_rfl) (fun _ _ _ h=>h) (Or.inr ⟨by rfl,rfl⟩) (by assumption) ?_;try simp only [Act.put,Rg.s]
   refine Rg.takeL (i:=15) (v:=undef) rfl (by kernel_rfl) (by kernel_rfl) (by kernel_rfl) (fun _ _ _ h=>h) (Or.inr ⟨by rfl,rfl⟩) (by assumption) ?_;try simp only [Act.put,Rg.s]
   refine Rg.takeL (i:=16) (v:=undef) rfl (by kernel_rfl) (by kernel_rfl) (by kernel_rfl) (fun _ _ _ h=>h) (Or.inr ⟨by rfl,rfl⟩) (by assumption) ?_;try simp only [Act.put,Rg.s]
   refine Rg.takeL (i:=17) (v:=undef) rfl (by kernel_rfl) (by kernel_rfl) (by kernel_rfl) (fun _ _ _ h=>h) (Or.inr ⟨by rfl,rfl⟩) (by assumption) ?_;try simp only [Act.put,Rg.s]
   refine Rg.takeL (i:=18) (v:=undef) rfl (by kernel_rfl) (by kernel_rfl) (by kernel_rfl) (fun _ _ _ h=>h) (Or.inr ⟨by rfl,rfl⟩) (by assumption) ?_;try simp only [Act.put,Rg.s]
   refine Rg.takeL (i:=19) (v:=undef) rfl (by kernel_rfl) (by kernel_rfl) (by kernel_rfl) (fun _ _ _ h=>h) (Or.inr ⟨by rfl,rfl⟩) (by assumption) ?_;try simp only [Act.put,Rg.s]
   refine Rg.tk (i:=20) rfl ?_;try simp only [Act.put,Rg.s]
   refine wpAnyH_done (by kernel_rfl) ?_ _;refine NoPanic.normal ?_;have HB7:Hid (Below w.heap.size w w6.drew):=hid hld.1;have HO7:=hid hld.2;have HR7:=hid (HR6.out.drew);have HP7:=hid (HP6.out.below (Below.refl _ _).drew);clear hld;obtain ⟨w7,hw7⟩:∃ W,w6.drew=W:=⟨_,rfl⟩
   rw [hw7] at HB7 HO7 HR7 HP7 ⊢;clear hw7;have k7:w7.cell? ⟨g,0,none⟩=some (.int .i64 1):=HKd.out ▸ own_cell (j:=0) HO7.out rfl;go_wp2;go_ret;exact ⟨_,_,_,rfl,by rw [HX.out]; exact isNds_one (h:=(a1,n1,c1)) HR7.out HL.out HP7.out,HB7.out⟩
  ·obtain rfl:n1=K:=by omega
   have HKd:=hid hk;have hkl:(n1:Int)≤(L:Int):=by omega
   have HnL:=hid hKL;by_cases hc:cp N.p q=n1
   ·rw [if_pos hc] at hx;have hCm:=HCo.out a1 n1 c1;rw [hc] at hCm;have HI:=hid (HIh1.out n1 hK0 hKL hok);have HRr:=hid (fun wz hb=>HRs.out n1 wz hKL hb);have HLn':=HLn.out;rw [hx,List.length_cons] at HLn';have HYl:=hid HLn';have HX:=hid hx;generalize nodesAt (build (L-n1) (restL l n1)) (q.drop n1)=ys at *
    generalize restL l n1=rl at *
    have HCm:Hid (∀ wz,Below w.heap.size w wz→IsBs wz a1 n1 c1 N.p→Calls Tryz.prog 47 #[.slice a1 n1 c1,.slice d L k] wz fun e w'=>e = .returned (.int .i64 n1)∧Below wz.heap.size wz w'):=hid (fun wz hb h1=>hCm wz (by omega) h1 hb);clear hx hk HD HRs HIh1 HBg2 HRs2 HIh2 HCo hpn hc hCm hok HLn' hpK;go_wp2_with fail
    have h2:=HR6.out;refine wp_region_noPanic ?_;refine wp_region_held_drew (S:=fun w'=>Below w.heap.size w w'∧OwnN w' g N a1 n1 c1) (by kernel_rfl) (⟨HB6.out.drew,HO6.out.drew⟩) (fun hld=>?_);replace h2:=h2.drew;refine Rg.tk (i:=0) rfl ?_;try simp only [Act.put,Rg.s]
    refine Rg.tk (i:=1) rfl ?_ (hy:=by intro wz hSw; (have k0:wz.cell? ⟨g,0,none⟩=some (.int .i64 2):=HKd.out ▸ own_cell (j:=0) hSw.2 rfl; go_simp <;> with_reducible rfl));try simp only [Act.put,Rg.s]
    refine Rg.tk (i:=2) rfl ?_;try simp only [Act.put,Rg.s]
    refine Rg.tk (i:=3) rfl ?_;try simp only [Act.put,Rg.s]
    refine Rg.tk (i:=4) rfl ?_;try simp only [Act.put,Rg.s]
    refine Rg.tk (i:=5) rfl ?_;try simp only [Act.put,Rg.s]
    refine Rg.tk (i:=6) rfl ?_;try simp only [Act.put,Rg.s]
    refine Rg.tk (i:=7) rfl ?_ (hy:=by intro wz hSw; (have k1:wz.cell? ⟨g,1,none⟩=some (.slice a1 n1 c1):=own_cell (j:=1) hSw.2 rfl; go_simp <;> with_reducible rfl));try simp only [Act.put,Rg.s]
    refine Rg.tk (i:=8) rfl ?_;try simp only [Act.put,Rg.s]
    refine Rg.tk (i:=9) rfl ?_ (hy:=by intro wz hSw; (have q0:=hkl; go_simp <;> with_reducible rfl));try simp only [Act.put,Rg.s]
    refine Rg.tk (i:=10) rfl ?_;try simp only [Act.put,Rg.s]
    refine Rg.tk (i:=11) rfl ?_;try simp only [Act.put,Rg.s]
    refine Rg.tk (i:=12) rfl ?_;try simp only [Act.put,Rg.s]
    refine Rg.tk (i:=13) rfl ?_ (hy:=by intro wz hSw; (have k1:wz.cell? ⟨g,1,none⟩=some (.slice a1 n1 c1):=own_cell (j:=1) hSw.2 rfl; go_simp <;> with_reducible rfl));try simp only [Act.put,Rg.s]
    refine Rg.tk (i:=14) rfl ?_;try simp only [Act.put,Rg.s]
    refine Rg.tk (i:=16) rfl ?_;try simp only [Act.put,Rg.s]
    refine Rg.tk (i:=17) rfl ?_ (hy:=by intro wz hSw; (have k1:wz.cell? ⟨g,1,none⟩=some (.slice a1 n1 c1):=own_cell (j:=1) hSw.2 rfl; go_simp <;> with_reducible rfl));try simp only [Act.put,Rg.s]
    refine Rg.tk (i:=18) rfl ?_;try simp only [Act.put,Rg.s]
    refine Rg.rd (i:=15) rfl fun K hK=>?_;go_simp;go_at_call 47
    (with_reducible refine (HCm.out _ hld.1 (HP6.out.below (Below.refl _ _).drew)).mono ?_)
    rintro e wv0 ⟨rfl,hbx⟩;have HPo:Hid (IsBs wv0 a1 n1 c1 N.p):=hid ((HP6.out.below (Below.refl _ _).drew).below hbx);replace h2:=h2.below hbx;refine hK.out _ _ ?_ (fun hld=>?_)
    ·exact ⟨bst hld.1 hbx,hld.2.below hbx⟩
    clear hK K hbx;try simp only [Act.put,Rg.s]
    refine Rg.tk (i:=19) rfl ?_ (hy:=by intro wz hSw; (go_simp <;> with_reducible rfl));try simp only [Act.put,Rg.s]
    refine Rg.tk (i:=20) rfl ?_;try simp only [Act.put,Rg.s]
    refine wpAnyH_done (by kernel_rfl) ?_ _;refine NoPanic.normal ?_;have HB7:Hid (Below w.heap.size w wv0):=hid hld.1;have HO7:=hid hld.2;have HR7:=hid h2;have HP7:Hid (IsBs wv0 a1 n1 c1 N.p):=HPo;clear hld h2;go_wp2_with fail
    have h2:=HR7.out;have hp:=HP7.out.below (Below.refl _ _).drew;refine wp_region_noPanic ?_;refine wp_region_held_drew (S:=fun w'=>Below w.heap.size w w'∧OwnN w' g N a1 n1 c1) (by kernel_rfl) (⟨HB7.out.drew,HO7.out.drew⟩) (fun hld=>?_);replace h2:=h2.drew;refine Rg.tk (i:=0) rfl ?_;try simp only [Act.put,Rg.s]
    refine Rg.tk (i:=1) rfl ?_;try simp only [Act.put,Rg.s]
    refine Rg.tk (i:=2) rfl ?_;try simp only [Act.put,Rg.s]
    refine Rg.tk (i:=3) rfl ?_ (hy:=by intro wz hSw; (have k1:wz.cell? ⟨g,1,none⟩=some (.slice a1 n1 c1):=own_cell (j:=1) hSw.2 rfl; go_simp <;> with_reducible rfl));try simp only [Act.put,Rg.s]
    refine Rg.tk (i:=4) rfl ?_;try simp only [Act.put,Rg.s]
    refine Rg.tk (i:=6) rfl ?_;try simp only [Act.put,Rg.s]
    refine Rg.tk (i:=7) rfl ?_;try simp only [Act.put,Rg.s]
    refine Rg.tk (i:=8) rfl ?_ (hy:=by intro wz hSw; (have k1:wz.cell? ⟨g,1,none⟩=some (.slice a1 n1 c1):=own_cell (j:=1) hSw.2 rfl; go_simp <;> with_reducible rfl));try simp only [Act.put,Rg.s]
    refine Rg.tk (i:=9) rfl ?_;try simp only [Act.put,Rg.s]
    refine Rg.tk (i:=10) rfl ?_ (hy:=by intro wz hSw; (refine op_from (a:=d) (n:=L) (c:=k) (i:=n1) under_u8 size_u8 HnL.out ?_; exact ⟨_,_,rfl,rfl,rfl⟩));try simp only [Act.put,Rg.s]
    refine Rg.rd (i:=5) rfl fun K hK=>?_;go_simp;go_at_call 38
    (with_reducible refine (HRr.out _ hld.1).mono ?_)
    rintro e wv0 ⟨a7,n7,c7,rfl,hI7,hbx⟩;replace hp:=hp.below hbx;replace h2:=h2.below hbx;refine hK.out _ _ ?_ (fun hld=>?_)
    ·exact ⟨bst hld.1 hbx,hld.2.below hbx⟩
    clear hK K hbx;try simp only [Act.put,Rg.s]
    refine Rg.rd (i:=11) rfl fun K hK=>?_;go_simp;go_at_call 23
    (with_reducible refine (HI.out a7 n7 c7 _ hI7 hld.1).mono ?_)
    rintro e wv1 ⟨a8,n8,c8,rfl,hY,hbx⟩;replace hp:=hp.below hbx;replace h2:=h2.below hbx;refine hK.out _ _ ?_ (fun hld=>?_)
    ·exact ⟨bst hld.1 hbx,hld.2.below hbx⟩
    clear hK K hbx;try simp only [Act.put,Rg.s]
    refine Rg.rd (i:=12) rfl fun K hK=>?_;refine meet_append_nds (h:=(a1,n1,c1)) (by rfl) ⟨_,_,rfl,rfl,rfl⟩ h2 HL.out hp hY (by have:=hY.len; have:=HYl.out; omega) ?_;intro a9 c9 w9 hN9 hb9;have hs9:Below w.heap.size w w9:=hld.1.trans (hb9.mono HwR.out);refine hK.out _ _ ?_ (fun hld=>?_)
    ·exact ⟨hs9,Nat.lt_of_lt_of_le hld.2.1 hb9.size,by rw [hb9.block g HgR.out]; exact hld.2.2⟩
    clear hK K hb9 h2;try simp only [Act.put]
    refine Rg.tk (i:=13) rfl ?_;try simp only [Act.put,Rg.s]
    refine wpAnyH_done (by kernel_rfl) ?_ _;refine NoPanic.normal ?_;have HN9:=hid hN9;have HB9:=hid hs9;clear hld hN9 hs9 hY hp;go_wp2;go_ret;exact ⟨_,_,_,rfl,by rw [HX.out]; exact HN9.out,HB9.out⟩
   ·rw [if_neg hc] at hx;have HX:=hid hx;have hneq:(((cp N.p q:Nat):Int)==(n1:Int))=false:=by simp; omega
    have hCm:=HCo.out a1 n1 c1;generalize cp N.p q=u at *
    have HCm:Hid (∀ wz,Below w.heap.size w wz→IsBs wz a1 n1 c1 N.p→Calls Tryz.prog 47 #[.slice a1 n1 c1,.slice d L k] wz fun e w'=>e = .returned (.int .i64 u)∧Below wz.heap.size wz w'):=hid (fun wz hb h1=>hCm wz (by omega) h1 hb);clear hx hk HD HRs HIh1 HBg2 HRs2 HIh2 HCo hpn hc hCm hok hpK;go_wp2_with fail
    have h2:=HR6.out;refine wp_region_noPanic ?_;refine wp_region_held_drew (S:=fun w'=>Below w.heap.size w w'∧OwnN w' g N a1 n1 c1) (by kernel_rfl) (⟨HB6.out.drew,HO6.out.drew⟩) (fun hld=>?_);replace h2:=h2.drew;refine Rg.tk (i:=0) rfl ?_;try simp only [Act.put,Rg.s]
    refine Rg.tk (i:=1) rfl ?_ (hy:=by intro wz hSw; (have k0:wz.cell? ⟨g,0,none⟩=some (.int .i64 2):=HKd.out ▸ own_cell (j:=0) hSw.2 rfl; go_simp <;> with_reducible rfl));try simp only [Act.put,Rg.s]
    refine Rg.tk (i:=2) rfl ?_;try simp only [Act.put,Rg.s]
    refine Rg.tk (i:=3) rfl ?_;try simp only [Act.put,Rg.s]
    refine Rg.tk (i:=4) rfl ?_;try simp only [Act.put,Rg.s]
    refine Rg.tk (i:=5) rfl ?_;try simp only [Act.put,Rg.s]
    refine Rg.tk (i:=6) rfl ?_;try simp only [Act.put,Rg.s]
    refine Rg.tk (i:=7) rfl ?_ (hy:=by intro wz hSw; (have k1:wz.cell? ⟨g,1,none⟩=some (.slice a1 n1 c1):=own_cell (j:=1) hSw.2 rfl; go_simp <;> with_reducible rfl));try simp only [Act.put,Rg.s]
    refine Rg.tk (i:=8) rfl ?_;try simp only [Act.put,Rg.s]
    refine Rg.tk (i:=9) rfl ?_ (hy:=by intro wz hSw; (have q0:=hkl; go_simp <;> with_reducible rfl));try simp only [Act.put,Rg.s]
    refine Rg.tk (i:=10) rfl ?_;try simp only [Act.put,Rg.s]
    refine Rg.tk (i:=11) rfl ?_;try simp only [Act.put,Rg.s]
    refine Rg.tk (i:=12) rfl ?_;try simp only [Act.put,Rg.s]
    refine Rg.tk (i:=13) rfl ?_ (hy:=by intro wz hSw; (have k1:wz.cell? ⟨g,1,none⟩=some (.slice a1 n1 c1):=own_cell (j:=1) hSw.2 rfl; go_simp <;> with_reducible rfl));try simp only [Act.put,Rg.s]
    refine Rg.tk (i:=14) rfl ?_;try simp only [Act.put,Rg.s]
    refine Rg.tk (i:=16) rfl ?_;try simp only [Act.put,Rg.s]
    refine Rg.tk (i:=17) rfl ?_ (hy:=by intro wz hSw; (have k1:wz.cell? ⟨g,1,none⟩=some (.slice a1 n1 c1):=own_cell (j:=1) hSw.2 rfl; go_simp <;> with_reducible rfl));try simp only [Act.put,Rg.s]
    refine Rg.tk (i:=18) rfl ?_;try simp only [Act.put,Rg.s]
    refine Rg.rd (i:=15) rfl fun K hK=>?_;go_simp;go_at_call 47
    (with_reducible refine (HCm.out _ hld.1 (HP6.out.below (Below.refl _ _).drew)).mono ?_)
    rintro e wv0 ⟨rfl,hbx⟩;have HPo:Hid (IsBs wv0 a1 n1 c1 N.p):=hid ((HP6.out.below (Below.refl _ _).drew).below hbx);replace h2:=h2.below hbx;refine hK.out _ _ ?_ (fun hld=>?_)
    ·exact ⟨bst hld.1 hbx,hld.2.below hbx⟩
    clear hK K hbx;try simp only [Act.put,Rg.s]
    refine Rg.tk (i:=19) rfl ?_ (hy:=by intro wz hSw; (have q0:=hneq; go_simp <;> with_reducible rfl));try simp only [Act.put,Rg.s]
    refine Rg.tk (i:=20) rfl ?_;try simp only [Act.put,Rg.s]
    refine wpAnyH_done (by kernel_rfl) ?_ _;refine NoPanic.normal ?_;have HB7:Hid (Below w.heap.size w wv0):=hid hld.1;have HO7:=hid hld.2;have HR7:=hid h2;have HP7:Hid (IsBs wv0 a1 n1 c1 N.p):=HPo;clear hld h2;have k7:wv0.cell? ⟨g,0,none⟩=some (.int .i64 2):=HKd.out ▸ own_cell (j:=0) HO7.out rfl;go_wp2;go_ret;exact ⟨_,_,_,rfl,by rw [HX.out]; exact isNds_one (h:=(a1,n1,c1)) HR7.out HL.out HP7.out,HB7.out⟩
  ·have HKd:=hid hk;have hL0i:(0:Int)<(L:Int):=by omega
   obtain ⟨bq,oq,hdq,hbq,hcq⟩:=HQb.out.at' 0 hL0;have hx':=hx (q.getD 0 0) (q.drop 1) (by
    have h0:0<q.length:=by rw [HQl.out]; exact hL0
    have:q.getD 0 0=q[0]:=by simp [List.getD,h0]
    rw [this];exact (List.getElem_cons_drop h0).symm)
   have hc16:(q.getD 0 0).toNat<16:=HQn.out _ (getD_mem' (by rw [HQl.out]; exact hL0));have hnb:nb (q.getD 0 0)=⟨(q.getD 0 0).toNat,hc16⟩:=Fin.ext (Nat.mod_eq_of_lt hc16);rw [hnb] at hx';have HI:=hid (HIh2.out hL0 ⟨_,hc16⟩);have HRr:=hid (HRs2.out hL0 ⟨_,hc16⟩);have HBg:=hid (HBg2.out hL0 ⟨_,hc16⟩);have HnL:=hid hL0;have HLn':=HLn.out;rw [hx',List.length_cons] at HLn';have HYl:=hid HLn';have HX:=hid hx';have hc256:((q.getD 0 0).toNat:Int)<256:=by omega
   have kq0:w.cell? ⟨bq,oq,none⟩=some (.int .u8 (q.getD 0 0).toNat):=hcq;subst hdq;generalize nodesAt (build (L-1) (restL (beginL l ⟨_,hc16⟩) 1)) (q.drop 1)=ys at *
   generalize restL (beginL l ⟨_,hc16⟩) 1=rl at *
   generalize beginL l ⟨_,hc16⟩=bl at *
   clear hx' hx hk HD HRs HIh1 HBg2 HRs2 HIh2 HCo hpn hnb HLn' hcq;generalize (q.getD 0 0).toNat=u at *
   have HWr:Hid (IntKind.i64.wrap (u:Int)=u):=hid (by rw [IntKind.wrap_i64]; omega);go_wp2_with fail
   refine wp_region_noPanic ?_;refine wp_region_held_drew (S:=fun w'=>Below w.heap.size w w'∧OwnN w' g N a1 n1 c1) (by kernel_rfl) (⟨HB6.out.drew,HO6.out.drew⟩) (fun hld=>?_);refine Rg.tk (i:=0) rfl ?_;try simp only [Act.put,Rg.s]
   refine Rg.tk (i:=1) rfl ?_ (hy:=by intro wz hSw; (have k0:wz.cell? ⟨g,0,none⟩=some (.int .i64 3):=HKd.out ▸ own_cell (j:=0) hSw.2 rfl; go_simp <;> with_reducible rfl));try simp only [Act.put,Rg.s]
   refine Rg.tk (i:=2) rfl ?_;try simp only [Act.put,Rg.s]
   refine Rg.tk (i:=3) rfl ?_;try simp only [Act.put,Rg.s]
   refine Rg.takeL (i:=4) (v:=undef) rfl (by kernel_rfl) (by kernel_rfl) (by kernel_rfl) (fun _ _ _ h=>h) (Or.inr ⟨by rfl,rfl⟩) (by assumption) ?_;try simp only [Act.put,Rg.s]
   refine Rg.takeL (i:=5) (v:=undef) rfl (by kernel_rfl) (by kernel_rfl) (by kernel_rfl) (fun _ _ _ h=>h) (Or.inr ⟨by rfl,rfl⟩) (by assumption) ?_;try simp only [Act.put,Rg.s]
   refine Rg.takeL (i:=6) (v:=undef) rfl (by kernel_rfl) (by kernel_rfl) (by kernel_rfl) (fun _ _ _ h=>h) (Or.inr ⟨by rfl,rfl⟩) (by assumption) ?_;try simp only [Act.put,Rg.s]
   refine Rg.takeL (i:=7) (v:=undef) rfl (by kernel_rfl) (by kernel_rfl) (by kernel_rfl) (fun _ _ _ h=>h) (Or.inr ⟨by rfl,rfl⟩) (by assumption) ?_;try simp only [Act.put,Rg.s]
   refine Rg.takeL (i:=8) (v:=undef) rfl (by kernel_rfl) (by kernel_rfl) (by kernel_rfl) (fun _ _ _ h=>h) (Or.inr ⟨by rfl,rfl⟩) (by assumption) ?_;try simp only [Act.put,Rg.s]
   refine Rg.takeL (i:=9) (v:=undef) rfl (by kernel_rfl) (by kernel_rfl) (by kernel_rfl) (fun _ _ _ h=>h) (Or.inr ⟨by rfl,rfl⟩) (by assumption) ?_;try simp only [Act.put,Rg.s]
   refine Rg.tk (i:=10) rfl ?_;try simp only [Act.put,Rg.s]
   refine Rg.tk (i:=11) rfl ?_;try simp only [Act.put,Rg.s]
   refine Rg.takeL (i:=12) (v:=undef) rfl (by kernel_rfl) (by kernel_rfl) (by kernel_rfl) (fun _ _ _ h=>h) (Or.inr ⟨by rfl,rfl⟩) (by assumption) ?_;try simp only [Act.put,Rg.s]
   refine Rg.takeL (i:=13) (v:=undef) rfl (by kernel_rfl) (by kernel_rfl) (by kernel_rfl) (fun _ _ _ h=>h) (Or.inr ⟨by rfl,rfl⟩) (by assumption) ?_;try simp only [Act.put,Rg.s]
   refine Rg.takeL (i:=14) (v:=undef) rfl (by kernel_rfl) (by kernel_rfl) (by kernel_rfl) (fun _ _ _ h=>h) (Or.inr ⟨by rfl,rfl⟩) (by assumption) ?_;try simp only [Act.put,Rg.s]
   refine Rg.takeL (i:=15) (v:=undef) rfl (by kernel_rfl) (by kernel_rfl) (by kernel_rfl) (fun _ _ _ h=>h) (Or.inr ⟨by rfl,rfl⟩) (by assumption) ?_;try simp only [Act.put,Rg.s]
   refine Rg.takeL (i:=16) (v:=undef) rfl (by kernel_rfl) (by kernel_rfl) (by kernel_rfl) (fun _ _ _ h=>h) (Or.inr ⟨by rfl,rfl⟩) (by assumption) ?_;try simp only [Act.put,Rg.s]
   refine Rg.takeL (i:=17) (v:=undef) rfl (by kernel_rfl) (by kernel_rfl) (by kernel_rfl) (fun _ _ _ h=>h) (Or.inr ⟨by rfl,rfl⟩) (by assumption) ?_;try simp only [Act.put,Rg.s]
   refine Rg.takeL (i:=18) (v:=undef) rfl (by kernel_rfl) (by kernel_rfl) (by kernel_rfl) (fun _ _ _ h=>h) (Or.inr ⟨by rfl,rfl⟩) (by assumption) ?_;try simp only [Act.put,Rg.s]
   refine Rg.takeL (i:=19) (v:=undef) rfl (by kernel_rfl) (by kernel_rfl) (by kernel_rfl) (fun _ _ _ h=>h) (Or.inr ⟨by rfl,rfl⟩) (by assumption) ?_;try simp only [Act.put,Rg.s]
   refine Rg.tk (i:=20) rfl ?_;try simp only [Act.put,Rg.s]
   refine wpAnyH_done (by kernel_rfl) ?_ _;refine NoPanic.normal ?_;have HB7:Hid (Below w.heap.size w w6.drew):=hid hld.1;have HO7:=hid hld.2;have HR7:=hid (HR6.out.drew);have HP7:=hid (HP6.out.below (Below.refl _ _).drew);clear hld;obtain ⟨w7,hw7⟩:∃ W,w6.drew=W:=⟨_,rfl⟩
   rw [hw7] at HB7 HO7 HR7 HP7 ⊢;clear hw7;have k7:w7.cell? ⟨g,0,none⟩=some (.int .i64 3):=HKd.out ▸ own_cell (j:=0) HO7.out rfl;go_wp2_with fail
   have h2:=HR7.out;have hp:=HP7.out.below (Below.refl _ _).drew;refine wp_region_noPanic ?_;refine wp_region_held_drew (S:=fun w'=>Below w.heap.size w w'∧OwnN w' g N a1 n1 c1) (by kernel_rfl) (⟨HB7.out.drew,HO7.out.drew⟩) (fun hld=>?_);replace h2:=h2.drew;refine Rg.tk (i:=0) rfl ?_;try simp only [Act.put,Rg.s]
   refine Rg.tk (i:=1) rfl ?_;try simp only [Act.put,Rg.s]
   refine Rg.tk (i:=2) rfl ?_;try simp only [Act.put,Rg.s]
   refine Rg.tk (i:=3) rfl ?_ (hy:=by intro wz hSw; (have q0:=hL0i; go_simp <;> with_reducible rfl));try simp only [Act.put,Rg.s]
   refine Rg.tk (i:=4) rfl ?_ (hy:=by intro wz hSw; (have kq:=cell_on hSw.1 kq0; go_simp <;> with_reducible rfl));try simp only [Act.put,Rg.s]
   refine Rg.tk (i:=5) rfl ?_ (hy:=by intro wz hSw; (have q1:=HWr.out; go_simp <;> with_reducible rfl));try simp only [Act.put,Rg.s]
   refine Rg.tk (i:=8) rfl ?_;try simp only [Act.put,Rg.s]
   refine Rg.tk (i:=9) rfl ?_ (hy:=by intro wz hSw; (refine op_from (a:=some ⟨bq,oq,none⟩) (n:=L) (c:=k) (i:=1) under_u8 size_u8 HnL.out ?_; exact ⟨_,_,rfl,rfl,rfl⟩));try simp only [Act.put,Rg.s]
   refine Rg.rd (i:=6) rfl fun K hK=>?_;go_simp;go_at_call 40
   (with_reducible refine (HBg.out _ hld.1).mono ?_)
   rintro e wv0 ⟨a6,n6,c6,rfl,hI6,hbx⟩;replace hp:=hp.below hbx;replace h2:=h2.below hbx;refine hK.out _ _ ?_ (fun hld=>?_)
   ·exact ⟨bst hld.1 hbx,hld.2.below hbx⟩
   clear hK K hbx;try simp only [Act.put,Rg.s]
   refine Rg.rd (i:=7) rfl fun K hK=>?_;go_simp;go_at_call 38
   (with_reducible refine (HRr.out a6 n6 c6 _ hI6).mono ?_)
   rintro e wv1 ⟨a7,n7,c7,rfl,hI7,hbx⟩;replace hp:=hp.below hbx;replace h2:=h2.below hbx;refine hK.out _ _ ?_ (fun hld=>?_)
   ·exact ⟨bst hld.1 hbx,hld.2.below hbx⟩
   clear hK K hbx;try simp only [Act.put,Rg.s]
   refine Rg.rd (i:=10) rfl fun K hK=>?_;go_simp;go_at_call 23
   (with_reducible refine (HI.out a7 n7 c7 _ hI7 hld.1).mono ?_)
   rintro e wv2 ⟨a8,n8,c8,rfl,hY,hbx⟩;replace hp:=hp.below hbx;replace h2:=h2.below hbx;refine hK.out _ _ ?_ (fun hld=>?_)
   ·exact ⟨bst hld.1 hbx,hld.2.below hbx⟩
   clear hK K hbx;try simp only [Act.put,Rg.s]
   refine Rg.rd (i:=11) rfl fun K hK=>?_;refine meet_append_nds (h:=(a1,n1,c1)) (by rfl) ⟨_,_,rfl,rfl,rfl⟩ h2 HL.out hp hY (by have:=hY.len; have:=HYl.out; omega) ?_;intro a9 c9 w9 hN9 hb9;have hs9:Below w.heap.size w w9:=hld.1.trans (hb9.mono HwR.out);refine hK.out _ _ ?_ (fun hld=>?_)
   ·exact ⟨hs9,Nat.lt_of_lt_of_le hld.2.1 hb9.size,by rw [hb9.block g HgR.out]; exact hld.2.2⟩
   clear hK K hb9 h2;try simp only [Act.put]
   refine Rg.tk (i:=12) rfl ?_;try simp only [Act.put,Rg.s]
   refine wpAnyH_done (by kernel_rfl) ?_ _;refine NoPanic.normal ?_;have HN9:=hid hN9;have HB9:=hid hs9;clear hld hN9 hs9 hY hp;go_wp2;go_ret;exact ⟨_,_,_,rfl,by rw [HX.out]; exact HN9.out,HB9.out⟩
theorem rpath_any' (L:Nat):L≤64→PathC L:=by
 induction L using Nat.strongRecOn with
 | ind L ih=>exact fun hL=>rpath_of hL fun m hm=>ih m hm (by omega)
end Tm
end
section
open Go.RowKit
namespace Tm
open Tr Ni Pk Ky No
open Rl (sameB sameB_true sameB_false)
def NdAt (w:World) (b o:Nat) (N:Nd) (h:Hdl):Prop:=w.rangeAt b o (ndL N h)
theorem NdAt.below {w w':World} {b o:Nat} {N:Nd} {h:Hdl} (g:NdAt w b o N h) (hb:Below w.heap.size w w'):NdAt w' b o N h:=fun j v hv=>cell_on hb (g j v hv)
theorem op_load_ndm {ev:Operand→Value} {o:Oper} {w:World} {b off:Nat} {N:Nd} {h:Hdl} (hl:N.ks.length=16) (g:NdAt w b off N h) (ho:∃ y,o.op = .load 56 y∧ev y = .pointer (some ⟨b,off,none⟩)) :
  (execOp ev o).run Tryz.prog w = .ok (.value (.agg (ndC N h.1 h.2.1 h.2.2))) w:=by
 obtain ⟨y,ho,hx⟩:=ho;have hl2:=run_loadAt_mid (P:=Tryz.prog) w b off 56 (ndL N h) _ g Tryz.underlying56 rfl (by rw [ndL_len hl]; exact info_node);unfold execOp;simp only [ho,hx,Sem.run_bind,Sem.run_pure,Result.andThen_ok,hl2];rfl
theorem isNd_h {w:World} {N:Nd} {h:Hdl} (hb:IsBs w h.1 h.2.1 h.2.2 N.p) (hl:N.ks.length=16):IsNd w N (.agg (ndC N h.1 h.2.1 h.2.2)):=⟨_,_,_,rfl,hb,hl⟩
theorem take_nd {l:List Nd} {j:Nat} (h:j<l.length):l.take (j+1)=l.take j++[l.getD j nd0]:=by
 have e:l.getD j nd0=l[j]:=by simp [List.getD,h]
 rw [e,List.take_succ_eq_append_getElem h]
theorem rnodes_same (l s:List Nd) (a b:Option Addr) (n m c d:Nat) (w:World) (h:IsNds w a n c l) (g:IsNds w b m d s) (hn:n≤1000000) (hm:m≤1000000) :
  Calls Tryz.prog 21 #[.slice a n c,.slice b m d] w fun e w'=>e = .returned (.bool (sameB l s))∧Below w.heap.size w w':=by
 have HH:=hid h;have HG:=hid g;have HL:=hid h.len;have HM:=hid g.len;clear h g;by_cases hnm:n=m
 ·subst hnm;go_enter Tryz.func21,Tryz.ntmps21;go_wp2_with fail
  go_loopw [5] (fun i wr=>∃ j:Nat,j≤n∧i = .int .i64 j∧Hid (l.take j=s.take j)∧Hid (Below w.heap.size w wr)) (fun i _=>n-(intOf i).toNat)
  case atStart=>exact ⟨0,Nat.zero_le _,rfl,hid rfl,hid (Below.refl _ _)⟩
  case round =>
   obtain ⟨j,hj,rfl,HT,HB⟩:=hrel;by_cases hlt:j<n
   ·obtain ⟨b1,o1,g1,rfl,hb1,hpx,hkx,hbx⟩:=HH.out.at' j hlt;obtain ⟨b2,o2,g2,rfl,hb2,hpy,hky,hby⟩:=HG.out.at' j hlt;have hji:(j:Int)<n:=by omega
    have HRx:Hid (NdAt wr b1 (o1+j*19) (l.getD j nd0) g1):=hid (NdAt.below hpx HB.out);have HRy:Hid (NdAt wr b2 (o2+j*19) (s.getD j nd0) g2):=hid (NdAt.below hpy HB.out);have HBx:=hid (hbx.below HB.out);have HBy:=hid (hby.below HB.out);have HKx:=hid hkx;have HKy:=hid hky;by_cases he:l.getD j nd0=s.getD j nd0
    ·have HN:Hid (l.take (j+1)=s.take (j+1)):=hid (by rw [take_nd (by rw [HL.out]; exact hlt),take_nd (by rw [HM.out]; exact hlt),HT.out,he]);have HEd:=hid (sameB_true he);clear he hpx hpy hkx hky hb1 hb2 hbx hby;generalize l.getD j nd0=x at *
     generalize s.getD j nd0=y at *
     have HSm:Hid (∀ wz,Below wr.heap.size wr wz→Calls Tryz.prog 42 #[.agg (ndC x g1.1 g1.2.1 g1.2.2),.agg (ndC y g2.1 g2.2.1 g2.2.2)] wz fun e w'=>e = .returned (.bool (sameB x y))∧Below wz.heap.size wz w'):=hid (fun wz hb=>rsame_any x y _ _ wz (isNd_h (HBx.out.below hb) HKx.out) (isNd_h (HBy.out.below hb) HKy.out));rw [HEd.out] at HSm;go_wp2_with fail
     refine wp_region_noPanic ?_;refine wp_region_held_drew (S:=fun w'=>Below wr.heap.size wr w') (by kernel_rfl) ((below_drewN (Below.refl _ _) 1)) (fun hld=>?_);refine Rg.tk (i:=0) rfl ?_;try simp only [Act.put,Rg.s]
     refine Rg.tk (i:=1) rfl ?_;try simp only [Act.put,Rg.s]
     refine Rg.tk (i:=2) rfl ?_ (hy:=by intro wz hSw; (have q0:=hji; have q1:=hlt; go_simp <;> with_reducible rfl));try simp only [Act.put,Rg.s]
     refine Rg.tk (i:=3) rfl ?_ (hy:=by intro wz hSw; (refine op_load_ndm HKx.out (HRx.out.below hSw) ?_; exact ⟨_,rfl,rfl⟩));try simp only [Act.put,Rg.s]
     refine Rg.tk (i:=4) rfl ?_;try simp only [Act.put,Rg.s]
     refine Rg.tk (i:=5) rfl ?_;try simp only [Act.put,Rg.s]
     refine Rg.tk (i:=6) rfl ?_ (hy:=by intro wz hSw; (have q0:=hji; have q1:=hlt; go_simp <;> with_reducible rfl));try simp only [Act.put,Rg.s]
     refine Rg.tk (i:=7) rfl ?_ (hy:=by intro wz hSw; (refine op_load_ndm HKy.out (HRy.out.below hSw) ?_; exact ⟨_,rfl,rfl⟩));try simp only [Act.put,Rg.s]
     refine Rg.rd (i:=8) rfl fun K hK=>?_;go_simp;go_at_call 42
     (with_reducible refine (HSm.out _ hld).mono ?_)
     rintro e wv0 ⟨rfl,hbx⟩;refine hK.out _ _ ?_ (fun hld=>?_)
     ·exact Below.trans hld (hbx.mono hld.size)
     clear hK K;try simp only [Act.put,Rg.s]
     refine Rg.tk (i:=9) rfl ?_;try simp only [Act.put,Rg.s]
     refine wpAnyH_done (by kernel_rfl) ?_ _;refine NoPanic.normal ?_;have HB5:Hid (Below w.heap.size w wv0):=hid (bst HB.out hld);clear hld hbx;go_wp2;go_roundw
     case rel=>exact ⟨j+1,by omega,by go_num,HN,HB5⟩
     case measure=>simp [intOf]; omega
    ·have HR:Hid (sameB l s=false):=hid (sameB_false fun k=>he (by rw [k]));have HEd:=hid (sameB_false he);clear he hpx hpy hkx hky hb1 hb2 hbx hby;generalize l.getD j nd0=x at *
     generalize s.getD j nd0=y at *
     have HSm:Hid (∀ wz,Below wr.heap.size wr wz→Calls Tryz.prog 42 #[.agg (ndC x g1.1 g1.2.1 g1.2.2),.agg (ndC y g2.1 g2.2.1 g2.2.2)] wz fun e w'=>e = .returned (.bool (sameB x y))∧Below wz.heap.size wz w'):=hid (fun wz hb=>rsame_any x y _ _ wz (isNd_h (HBx.out.below hb) HKx.out) (isNd_h (HBy.out.below hb) HKy.out));rw [HEd.out] at HSm;go_wp2_with fail
     refine wp_region_noPanic ?_;refine wp_region_held_drew (S:=fun w'=>Below wr.heap.size wr w') (by kernel_rfl) ((below_drewN (Below.refl _ _) 1)) (fun hld=>?_);refine Rg.tk (i:=0) rfl ?_;try simp only [Act.put,Rg.s]
     refine Rg.tk (i:=1) rfl ?_;try simp only [Act.put,Rg.s]
     refine Rg.tk (i:=2) rfl ?_ (hy:=by intro wz hSw; (have q0:=hji; have q1:=hlt; go_simp <;> with_reducible rfl));try simp only [Act.put,Rg.s]
     refine Rg.tk (i:=3) rfl ?_ (hy:=by intro wz hSw; (refine op_load_ndm HKx.out (HRx.out.below hSw) ?_; exact ⟨_,rfl,rfl⟩));try simp only [Act.put,Rg.s]
     refine Rg.tk (i:=4) rfl ?_;try simp only [Act.put,Rg.s]
     refine Rg.tk (i:=5) rfl ?_;try simp only [Act.put,Rg.s]
     refine Rg.tk (i:=6) rfl ?_ (hy:=by intro wz hSw; (have q0:=hji; have q1:=hlt; go_simp <;> with_reducible rfl));try simp only [Act.put,Rg.s]
     refine Rg.tk (i:=7) rfl ?_ (hy:=by intro wz hSw; (refine op_load_ndm HKy.out (HRy.out.below hSw) ?_; exact ⟨_,rfl,rfl⟩));try simp only [Act.put,Rg.s]
     refine Rg.rd (i:=8) rfl fun K hK=>?_;go_simp;go_at_call 42
     (with_reducible refine (HSm.out _ hld).mono ?_)
     rintro e wv0 ⟨rfl,hbx⟩;refine hK.out _ _ ?_ (fun hld=>?_)
     ·exact Below.trans hld (hbx.mono hld.size)
     clear hK K;try simp only [Act.put,Rg.s]
     refine Rg.tk (i:=9) rfl ?_;try simp only [Act.put,Rg.s]
     refine wpAnyH_done (by kernel_rfl) ?_ _;refine NoPanic.normal ?_;have HB5:Hid (Below w.heap.size w wv0):=hid (bst HB.out hld);clear hld hbx;go_wp2;go_ret;exact ⟨by rw [HR.out]; rfl,HB5.out⟩
   ·obtain rfl:j=n:=by omega
    have HR:Hid (sameB l s=true):=hid (sameB_true (by
     have e:=HT.out;rwa [List.take_of_length_le (by rw [HL.out]; exact Nat.le_refl _),List.take_of_length_le (by rw [HM.out]; exact Nat.le_refl _)] at e))
    go_wp2;go_ret;exact ⟨by rw [HR.out]; rfl,HB.out⟩
 ·have hd:((n:Int) != (m:Int))=true:=by simp; omega
  have HR:Hid (sameB l s=false):=hid (sameB_false fun k=>hnm (by rw [← HL.out,← HM.out,k]));go_enter Tryz.func21,Tryz.ntmps21;go_wp2;go_ret;exact ⟨by rw [HR.out]; rfl,Below.refl _ _⟩
end Tm
end
section
open Go.RowKit
namespace Tm
open Tr Ni Pk Ky No Rf Rl Rf2
open Sm (Tab)
theorem paths_walk (l:List Tr.Pair) (la:Option Addr) (ln lc:Nat) (F:List UInt8) (w:World) (h:IsPs w la ln lc l) (hF:F.length=32) (hT:Tab w) :
  Calls Tryz.prog 4 #[.slice la ln lc,.agg (kc F)] w fun e w'=>e = .returned (.bool true)∧Below w.heap.size w w':=by
 obtain ⟨w1,hw1⟩:∃ w1,w1=w.alloc (.cells (kc F) 24):=⟨_,rfl⟩
 have hb1:Below w.heap.size w w1:=by rw [hw1]; exact al1 _ _
 have hA:Rg.Own w1 w.heap.size (kc F) 24:=by rw [hw1]; exact Rg.Own.new _ _ _
 have HL1:=hid ((Lw.start hT).below hb1);have HA1:=hid hA;have HP:=hid (pairs_any l la ln lc w1 (h.below hb1));have hok:OkPs (pairsL l):=pairs_ok h.keys;have hlen:=pairs_len l;have HFl:=hid hF;obtain ⟨P,hP⟩:∃ P,pairsL l=P:=⟨_,rfl⟩
 rw [hP] at HP hok hlen;have HOk:=hid hok;have hhas:=hok.has;have hcnt:cntT (putAll .nil P)≤200000:=cnt_few hhas hok.1 hok.2 hlen;have HIl:=hid (Nat.le_trans (ins_len P) hlen);have HWp:Hid (∀ (M:Mp) (W:World) p,Inv M W→IsT M p (putAll .nil P)→Tab W→Calls Tryz.prog 22 #[tv p,.agg (kc F)] W (GotNs M W (nodesAt (putAll .nil P) (pathK F)))):=hid (fun M W p hi ht h=>wpath_any M p _ F hF hhas.good hhas.fine hcnt W hi ht h)
 have HRp:Hid (∀ (W:World) ia in_ ic,IsIns W ia in_ ic (insL P)→in_≤1000→∀ qa qc,IsBs W qa 64 qc (pathK F)→Calls Tryz.prog 23 #[.slice ia in_ ic,.slice qa 64 qc] W (GotDs W (nodesAt (putAll .nil P) (pathK F)))):=hid (fun W ia in_ ic hI hn qa qc hq=>by
  have:=rpath_any' 64 (Nat.le_refl _) (insL P) (ok_ins hok.1) (fine_ins hok.2) ia in_ ic W hI hn (pathK F) (nib_path F) (pathK_length F hF) qa qc hq;rw [← hhas.built hok.1 hok.2] at this;exact this)
 have hnl:(nodesAt (putAll .nil P) (pathK F)).length≤1000000:=Nat.le_trans (at_cnt _ F) (by omega);have HPl:=hid (pathK_length F hF);have HRq:=hid (fun W=>rpath_new F hF W);clear hA hb1 h hok hhas hcnt hF hT hP;have HW:Hid (_=_):=hid hw1;clear hw1;obtain ⟨t,ht⟩:∃ t,putAll .nil P=t:=⟨_,rfl⟩
 have HTt:=hid ht;rw [ht] at HWp HRp hnl;obtain ⟨Q,hQ⟩:∃ Q,pathK F=Q:=⟨_,rfl⟩
 rw [hQ] at HWp HRp hnl HPl HRq;obtain ⟨Z,hZ⟩:∃ Z,nodesAt t Q=Z:=⟨_,rfl⟩
 rw [hZ] at HWp HRp hnl;have HZl:=hid hnl;have HSm:Hid (∀ a b n m c d W,IsNds W a n c Z→IsNds W b m d Z→n≤1000000→m≤1000000→Calls Tryz.prog 21 #[.slice a n c,.slice b m d] W fun e w'=>e = .returned (.bool true)∧Below W.heap.size W w'):=hid (fun a b n m c d W h g hn hm=>by
  have:=rnodes_same Z Z a b n m c d W h g hn hm;rw [sameB_true rfl] at this;exact this)
 obtain ⟨CF,hCF⟩:∃ C,kc F=C:=⟨_,rfl⟩
 have HCF:=hid hCF;rw [hCF];rw [hCF] at HW;clear ht hCF hQ hZ hnl;go_enter Tryz.func4,Tryz.ntmps4;go_wp2_with fail
 rw [← HW.out];refine HP.out.mono ?_;rintro e w2 ⟨pa,pn,pc,rfl,hps,hb2⟩;have hpn:pn≤24:=by rw [← hps.len]; exact hlen
 have HL2:=hid (HL1.out.below hb2);have HPp:=hid hps;have HA2:=hid (HA1.out.below hb2);clear hps hb2 HL1 HA1 HP HW;go_wp2_with fail
 replace HL2:=hid (HL2.out.below ((Below.refl w2.heap.size w2).drew));replace HPp:=hid (HPp.out.below ((Below.refl w2.heap.size w2).drew));replace HA2:=hid (HA2.out.below ((Below.refl w2.heap.size w2).drew));refine wp_region_noPanic ?_;refine wp_region_held_drew (S:=fun w'=>w'.heap[w.heap.size]? = some (.cells (kc F) 24 (0,0))) (by kernel_rfl) (HA2.out.2) (fun hld=>?_);refine Rg.rd (i:=0) rfl fun K hK=>?_;go_simp;go_at_call 13
 (with_reducible refine (awake10_any _ HL2.out.t).mono ?_)
 rintro e y0 ⟨rfl,hb⟩;replace HL2:=hid (HL2.out.below hb);replace HPp:=hid (HPp.out.below hb);replace HA2:=hid (HA2.out.below hb);clear hb;refine hK.out _ _ ?_ (fun hld=>?_)
 ·exact HA2.out.2
 clear hK K;try simp only [Act.put,Rg.s]
 refine Rg.tk (i:=1) rfl ?_;try simp only [Act.put,Rg.s]
 refine Rg.tk (i:=2) rfl ?_;try simp only [Act.put,Rg.s]
 refine Rg.tk (i:=4) rfl ?_ (hy:=by intro wz hSw; (refine op_load_key HFl.out hSw ?_; exact ⟨_,rfl,rfl⟩));try simp only [Act.put,Rg.s]
 refine Rg.tk (i:=6) rfl ?_;try simp only [Act.put,Rg.s]
 refine Rg.tk (i:=8) rfl ?_ (hy:=by intro wz hSw; (refine op_load_key HFl.out hSw ?_; exact ⟨_,rfl,rfl⟩));try simp only [Act.put,Rg.s]
 refine Rg.rd (i:=3) rfl fun K hK=>?_;go_simp;go_at_call 7
 (with_reducible refine (of_any M0 pa pn pc P HOk.out _ HL2.out.i HPp.out (by omega)).mono ?_)
 rintro e y1 hG;obtain ⟨p3,M3,rfl,hT3,hL3,hf3,hb⟩:=HL2.out.got hG;rw [HTt.out] at hT3;have HT3:=hid hT3;have HL3:=hid hL3;clear hG hT3 hL3 hf3 HL2;replace HPp:=hid (HPp.out.below hb);replace HA2:=hid (HA2.out.below hb);clear hb;refine hK.out _ _ ?_ (fun hld=>?_)
 ·exact HA2.out.2
 clear hK K;try simp only [Act.put,Rg.s]
 refine Rg.rd (i:=5) rfl fun K hK=>?_;go_simp;go_at_call 22
 (with_reducible refine (HWp.out M3 _ p3 HL3.out.i HT3.out HL3.out.t).mono ?_)
 rintro e y2 ⟨na,nn,nc,rfl,hnd,f,i,tt⟩;have hnn:nn≤1000000:=by rw [← hnd.len]; exact HZl.out
 have HNd:=hid hnd;replace HA2:=hid (own_byte_fr HA2.out (kc_byte HFl.out) HL3.out.i f);replace HPp:=hid (HPp.out.frm HL3.out.i f);replace HL3:=hid (HL3.out.fr f i tt);clear hnd f i tt;refine hK.out _ _ ?_ (fun hld=>?_)
 ·exact HA2.out.2
 clear hK K;try simp only [Act.put,Rg.s]
 refine Rg.rd (i:=7) rfl fun K hK=>?_;go_simp;go_at_call 18
 (with_reducible refine (ins_any P pa pn pc _ HPp.out (by omega)).mono ?_)
 rintro e y3 ⟨ia,in_,ic,rfl,hI,hb⟩;have hin:in_≤24:=by rw [← hI.len]; exact HIl.out
 have HI:=hid hI;clear hI;replace HL3:=hid (HL3.out.below hb);replace HPp:=hid (HPp.out.below hb);replace HA2:=hid (HA2.out.below hb);replace HNd:=hid (HNd.out.below hb);clear hb;refine hK.out _ _ ?_ (fun hld=>?_)
 ·exact HA2.out.2
 clear hK K;try simp only [Act.put,Rg.s]
 refine Rg.rd (i:=9) rfl fun K hK=>?_;go_simp;go_at_call 24
 (with_reducible refine (HRq.out _).mono ?_)
 rintro e y4 ⟨qa,qn,qc,rfl,hq,hb⟩;obtain rfl:qn=64:=by rw [← hq.1.len]; exact HPl.out
 have HQ:=hid hq.1;clear hq;replace HL3:=hid (HL3.out.below hb);replace HPp:=hid (HPp.out.below hb);replace HA2:=hid (HA2.out.below hb);replace HNd:=hid (HNd.out.below hb);replace HI:=hid (HI.out.below hb);clear hb;refine hK.out _ _ ?_ (fun hld=>?_)
 ·exact HA2.out.2
 clear hK K;try simp only [Act.put,Rg.s]
 refine Rg.rd (i:=10) rfl fun K hK=>?_;go_simp;go_at_call 23
 (with_reducible refine (HRp.out _ ia in_ ic HI.out (by omega) qa qc HQ.out).mono ?_)
 rintro e y5 ⟨ra,rn,rc,rfl,hr,hb⟩;have hrn:rn≤1000000:=by rw [← hr.len]; exact HZl.out
 have HR:=hid hr;clear hr HI HQ;replace HL3:=hid (HL3.out.below hb);replace HPp:=hid (HPp.out.below hb);replace HA2:=hid (HA2.out.below hb);replace HNd:=hid (HNd.out.below hb);clear hb;refine hK.out _ _ ?_ (fun hld=>?_)
 ·exact HA2.out.2
 clear hK K;try simp only [Act.put,Rg.s]
 refine Rg.rd (i:=11) rfl fun K hK=>?_;go_simp;go_at_call 21
 (with_reducible refine (HSm.out na ra nn rn nc rc _ HNd.out HR.out hnn hrn).mono ?_)
 rintro e y6 ⟨rfl,hb⟩;replace HL3:=hid (HL3.out.below hb);replace HPp:=hid (HPp.out.below hb);replace HA2:=hid (HA2.out.below hb);clear HNd HR;clear hb;refine hK.out _ _ ?_ (fun hld=>?_)
 ·exact HA2.out.2
 clear hK K;try simp only [Act.put,Rg.s]
 refine Rg.tk (i:=12) rfl ?_;try simp only [Act.put,Rg.s]
 refine Rg.tk (i:=13) rfl ?_;try simp only [Act.put,Rg.s]
 refine wpAnyH_done (by kernel_rfl) ?_ _;refine NoPanic.normal ?_;go_wp2;go_ret;exact ⟨rfl,HL3.out.b⟩
end Tm
end
section
open Go.RowKit Go.ChangeShapes Go.WideShapes
end
section
open Go.ChangeShapes Go.WideShapes Go.ChangeAt Go.WideMaps Go.WideElems Go.RowKit
namespace Sm
open Sh
theorem gRounds : Tryz.prog.globalNamed "dormouse/sum.rounds" = some 1 := by kernel_rfl
theorem tRounds:(Tryz.prog.globals[1]?).map (·.type)=some 191:=by kernel_rfl
theorem laid_eq {H:Type}:(Rows.laid_dormouse_sum_rounds:DataW H) = .agg ((List.range 64).map fun i=>.lit (.int .u32 (kN i:Nat))):=rfl
theorem cells_u32:Tryz.prog.cellsOf 96=1:=by kernel_rfl
theorem tab_of_laid {W : World} (h : laidMetH Tryz.prog [("dormouse/sum.rounds", Rows.laid_dormouse_sum_rounds)] W) : Tab W := by
 rw [MakeChecks.laidMetH_plain _ _ _ (by kernel_rfl)] at h;obtain ⟨ps,⟨g0,t0,cs0,f0,p0,q0,hg0,ht0,hv0,hd0,_⟩,_,_⟩:=h;obtain rfl:=Option.some.inj (gRounds.symm.trans hg0);obtain rfl:=Option.some.inj (tRounds.symm.trans ht0);obtain ⟨xs,m1,rfl,hx1,hlen,hn3,hel⟩:=DataW.trod_array Tryz.underlying191 hd0;rw [laid_eq] at hx1;simp only [Prod.mk.injEq,DataW.agg.injEq] at hx1;intro i hi;have h1:=hel i hi;rw [cells_u32,Nat.mul_one] at h1;have hi2:i<xs.length:=by omega
 rw [List.getElem?_eq_getElem hi2] at h1;obtain ⟨n,e1,e2,_⟩:=DataW.trod_int Tryz.underlying96 h1;have e3:=congrArg (fun l=>l[i]?) hx1.1;simp only [List.getElem?_map,List.getElem?_eq_getElem hi2,List.getElem?_range hi,Option.map_some,e2] at e3;have e4:n=(kN i:Nat):=by
  have:=Option.some.inj e3;simpa using this.symm
 subst e4;rw [World.var?_cell hg0 hv0 i];obtain ⟨l⟩:=cs0;have e5:=congrArg (fun l=>l[0]?) e1;simp only [List.getElem?_take,List.getElem?_drop,Nat.add_zero] at e5;simpa using e5
end Sm
end
end Go.Proofs.YtnecijeakeklaaaGreatDoor
