/-
 WalkDropped: its walk.
-/
import Derived.Test.YtnecijeakeklaaaGreatDoorMd23
import Derived.Test.YtnecijeakeklaaaGreatDoorMd24
import Derived.Test.YtnecijeakeklaaaGreatDoorMd19
import Derived.Deep.CutBlock
import Derived.Test.YtnecijeakeklaaaGreatDoorRows
import Derived.WalkKit
import Derived.ProofKit
import Derived.SliceStrings
import Derived.Test.YtnecijeakeklaaaGreatDoorMd10
import Derived.Deep.DeepCutAuto
import Derived.LaidMore
import Derived.OpenShut
import Derived.ShutString
import Derived.Stop.Joined
open Go.Lib (hid)
set_option linter.unusedSimpArgs false
set_option linter.unusedVariables false
set_option maxHeartbeats 40000000
set_option maxRecDepth 100000
namespace Go.Proofs.YtnecijeakeklaaaGreatDoor
section
open Go.RowKit
namespace Tm
open Tr Ni Pk Ky No Rf Rl Rf2
open Sm (Tab)
theorem isPs_ne {w w':World} {g:Nat} {a:Option Addr} {n c:Nat} {l:List Tr.Pair} (h:IsPs w a n c l) (hu:Rg.Upd w g w') (hne:∀ ad,a=some ad→0<n→ad.block≠g):IsPs w' a n c l :=
 ⟨h.1,h.2.1,h.2.2.1,h.2.2.2.1,h.2.2.2.2.1,fun j hj=>by
  obtain ⟨b,off,e,hlt,hp,hk⟩:=h.at' j hj;exact ⟨b,off,e,by rw [hu.size]; exact hlt,fun i v hv=>by rw [World.cell?_of_block (hu.block b (hne _ e (by omega)))]; exact hp i v hv⟩⟩
theorem isPs_lt {w:World} {a:Option Addr} {n c:Nat} {l:List Tr.Pair} (h:IsPs w a n c l):∀ ad,a=some ad→0<n→ad.block<w.heap.size:=fun ad e hn=>by
 obtain ⟨b,off,e2,hlt,_⟩:=h.at' 0 hn;rw [e] at e2;cases e2;exact hlt
structure Wd (w0:World) (M:Mp) (w:World) (bt:Nat) (p:Option Addr) (t:T) (P:List Tr.Pair) (pa:Option Addr) (pc:Nat):Prop where
 l:Lw w0 M w
 u:IsT M p t
 x:Bx M w bt #[.pointer p] 28
 q:IsPs w pa P.length pc P
 gt:w0.heap.size≤bt
namespace Wd
variable {w0:World} {M M':Mp} {w w':World} {bt:Nat} {p:Option Addr} {t:T} {P:List Tr.Pair} {pa:Option Addr} {pc:Nat}
theorem below (h:Wd w0 M w bt p t P pa pc) (hb:Below w.heap.size w w'):Wd w0 M w' bt p t P pa pc:=⟨h.l.below hb,h.u,h.x.below hb,h.q.below hb,h.gt⟩
theorem fr (h:Wd w0 M w bt p t P pa pc) (hl:Lw w0 M' w') (f:Fr M M' w w'):Wd w0 M' w' bt p t P pa pc:=⟨hl,h.u.mono f.mono,h.x.frm h.l.i f,h.q.frm h.l.i f,h.gt⟩
end Wd
structure We (w0:World) (M:Mp) (w:World) (bt:Nat) (p:Option Addr) (t:T) (P:List Tr.Pair) (pa:Option Addr) (pc:Nat) (bn:Nat) (N:Nd) (a:Option Addr) (n c:Nat) (ka:Option Addr) (kc2:Nat) (ps:List (Option Addr)):Prop where
 o:Wd w0 M w bt p t P pa pc
 nb:Bx M w bn (ndC N a n c) 56
 pb:IsBs w a n c N.p
 ks:Ptrs w ka ps.length kc2 ps
 are:Are M ps (kidsT t)
namespace We
variable {w0:World} {M M':Mp} {w w':World} {bt:Nat} {p:Option Addr} {t:T} {P:List Tr.Pair} {pa:Option Addr} {pc:Nat} {bn:Nat} {N:Nd} {a:Option Addr} {n c:Nat} {ka:Option Addr} {kc2:Nat} {ps:List (Option Addr)} {g:Nat}
theorem below (h:We w0 M w bt p t P pa pc bn N a n c ka kc2 ps) (hb:Below w.heap.size w w'):We w0 M w' bt p t P pa pc bn N a n c ka kc2 ps:=⟨h.o.below hb,h.nb.below hb,h.pb.below hb,h.ks.below hb,h.are⟩
theorem fr (h:We w0 M w bt p t P pa pc bn N a n c ka kc2 ps) (hl:Lw w0 M' w') (f:Fr M M' w w'):We w0 M' w' bt p t P pa pc bn N a n c ka kc2 ps:=⟨h.o.fr hl f,h.nb.frm h.o.l.i f,isBs_fr h.o.l.i h.pb f,h.ks.frm h.o.l.i f,h.are.mono f.mono⟩
theorem updB (h:We w0 M w bt p t P pa pc bn N a n c ka kc2 ps) (hu:Rg.Upd w g w') (hg:w0.heap.size≤g) (hn:¬ M.ft g) (h2:bt≠g) (h3:bn≠g) (ha:∀ ad,a=some ad→0<n→ad.block≠g) (hk:∀ ad,ka=some ad→ad.block≠g) (hp:∀ ad,pa=some ad→0<P.length→ad.block≠g):We w0 M w' bt p t P pa pc bn N a n c ka kc2 ps :=
 ⟨⟨h.o.l.upd hu hg hn,h.o.u,h.o.x.upd hu h2,isPs_ne h.o.q hu hp,h.o.gt⟩,h.nb.upd hu h3,isBs_ne h.pb hu ha,h.ks.upd hu hk,h.are⟩
end We
theorem dropped_walk (l:List Tr.Pair) (la:Option Addr) (ln lc:Nat) (z:Int) (w:World) (h:IsPs w la ln lc l) (hz:(Lit.int .u8 z).wf=true) (hT:Tab w) :
  Calls Tryz.prog 5 #[.slice la ln lc,.int .u8 z] w fun e w'=>e = .returned (.bool true)∧Below w.heap.size w w':=by
 obtain ⟨wh,hwh,rfl⟩:∃ wh:Nat,wh<256∧z=wh:=⟨z.toNat,by have:=u8_wf hz; omega,by have:=u8_wf hz; omega⟩
 have HP:=hid (pairs_any l la ln lc w h);have HL0:=hid (Lw.start hT);have HOk:Hid (OkPs (pairsL l)):=hid (pairs_ok h.keys);have hlen:=pairs_len l;obtain ⟨P,hP⟩:∃ P,pairsL l=P:=⟨_,rfl⟩
 rw [hP] at HP HOk hlen;clear h hT hP hz;go_enter Tryz.func5,Tryz.ntmps5;go_wp2_with fail
 refine HP.out.mono ?_;rintro e w2 ⟨pa,pn,pc,rfl,hps,hb2⟩;obtain rfl:=hps.len;have HL2:=hid (HL0.out.below hb2);have HPs:=hid hps;clear hps hb2 HL0 HP;go_wp2_with fail
 refine (of_any M0 pa P.length pc P HOk.out w2 HL2.out.i HPs.out (by omega)).mono ?_;intro e w3 hG;obtain ⟨p,M,rfl,hT3,hL3,hf3,hb3⟩:=HL2.out.got hG;have HT3:=hid hT3;have HL3:=hid hL3;have HQ3:=hid (HPs.out.below hb3);have HHas:=hid HOk.out.has;have hcnt:cntT (putAll .nil P)≤200000:=cnt_few HHas.out HOk.out.1 HOk.out.2 hlen;have HPr:=hid (pairsOf_sorted HHas.out HOk.out.1);have hNew:=Rg.Own.new w3 #[.pointer none] 28;have HN3:=hid hNew;clear hG hT3 hL3 hf3 hb3 HPs HL2 hNew;obtain ⟨t,ht⟩:∃ t,putAll .nil P=t:=⟨_,rfl⟩
 rw [ht] at HT3 HHas hcnt HPr;clear ht;go_wp2_with (first
  | (refine Rg.run rfl _ _ (run_alloc_tree _ _ _ w3.heap.size rfl rfl) ?_)
  | (refine wpl_store_tree HN3.out (by decide) _ rfl _ _ rfl rfl rfl ?_; intro w4 hO4 hu4; have HO4:Hid (Rg.Own w4 w3.heap.size #[.pointer p] 28):=hid hO4; have HB4:Hid (Below w3.heap.size w3 w4):=hid (hu4.below (al1 _ _) (Nat.le_refl _)); clear hO4 hu4)
  | (refine Rg.run rfl _ _ (op_load_tree (own_cell (j:=0) HO4.out rfl) ⟨_,rfl,rfl⟩) ?_))
 have HS4:Hid (Wd w M w4 w3.heap.size p t P pa pc):=hid ⟨HL3.out.below HB4.out,HT3.out,⟨HO4.out,HL3.out.i.free (Nat.le_refl _),one_no _⟩,HQ3.out.below HB4.out,HL3.out.b.size⟩;obtain ⟨bt,hbt⟩:∃ b,w3.heap.size=b:=⟨_,rfl⟩
 rw [hbt] at HS4;rw [hbt];clear HL3 HT3 HB4 HO4 HN3 HQ3 hbt;have HNl0:=hid (nodeT_length t);refine (open_any M p t 64 HHas.out.good (Nat.le_refl _) HHas.out.fine (full_stub HHas.out.full) w4 HS4.out.l.i HS4.out.u HS4.out.l.t).mono ?_;rintro e w2 ⟨a,n,c,ka,kc2,ps,rfl,hpb,hks,hare,_,hf,hi,hT⟩;have HS2:=hid (HS4.out.fr (HS4.out.l.fr hf hi hT) hf);have HPb:=hid hpb.1;have HKs:=hid hks;have HAre:=hid hare;obtain ⟨N,hN⟩:∃ N,nodeT t=N:=⟨_,rfl⟩
 rw [hN] at HNl0 HPb;rw [hN];have HN:=hid hN;have HNl:Hid (N.ks.length=16):=HNl0;have hNew:=Rg.Own.new w2 (ndC nd0 none 0 0) 56;have HNw:=hid hNew;have hp16:ps.length≤16:=by rw [hare.1]; exact kids_len t
 have HPl:Hid (ps.length=(kidsT t).length):=hid hare.1;clear hpb hks hare hf hi hT hN hNew HS4 HNl0;go_upto_region 4 with (first
  | (refine Rg.run rfl _ _ (run_alloc_nd _ _ _ w2.heap.size rfl rfl) ?_)
  | (refine wpl_store_ndL HNw.out rfl N a n c HNl.out rfl _ _ rfl rfl rfl rfl ?_; intro w3 hO3 hu3; have HB3:Hid (Below w2.heap.size w2 w3):=hid (hu3.below (al1 _ _) (Nat.le_refl _)); have HO3:Hid (We w M w3 bt p t P pa pc w2.heap.size N a n c ka kc2 ps):=hid ⟨HS2.out.below HB3.out,⟨hO3,HS2.out.l.i.free (Nat.le_refl _),nd_no _ _ _ _⟩,HPb.out.below HB3.out,HKs.out.below HB3.out,HAre.out⟩; clear hO3 hu3))
 obtain ⟨bn,hbn⟩:∃ b,w2.heap.size=b:=⟨_,rfl⟩
 rw [hbn] at HO3;rw [hbn];clear HS2 HPb HKs HAre HB3 HNw hbn;by_cases hz:ps.length=0
 ·have z1:((ps.length:Int)==0)=true:=by rw [hz]; rfl
  have z2:decide ((ps.length:Int)=0)=true:=decide_eq_true (by omega);clear hz;go_wp2_with fail
  refine (awake10_any w3 HO3.out.o.l.t).mono ?_;rintro e w5 ⟨rfl,hb5⟩;have HO5:=hid (HO3.out.below hb5);clear hb5 HO3;go_wp2_with fail
  go_ret;exact ⟨rfl,HO5.out.o.l.b⟩
 ·have z1:((ps.length:Int)==0)=false:=by rw [beq_eq_false_iff_ne]; omega
  have z2:decide ((ps.length:Int)=0)=false:=decide_eq_false (by omega);have hst:=full_stub HHas.out.full;have hnil:t ≠ .nil:=fun e=>hz (by rw [HPl.out,e]; rfl);have hrem:(wh:Int).tmod (ps.length:Int)=((wh%ps.length:Nat):Int):=by rw [Int.tmod_eq_emod_of_nonneg (by omega)]; rfl
  have hilt:wh%ps.length<ps.length:=Nat.mod_lt _ (by omega);obtain ⟨i,hie⟩:∃ i,wh%ps.length=i:=⟨_,rfl⟩
  rw [hie] at hrem hilt;have i4:(i:Int)<(ps.length:Int):=by omega
  have i6:(i:Int)<((ps.length:Nat):Int):=i4;have hnz:¬ ((ps.length:Int)=0):=by omega
  clear hie;have HI:Hid (i<ps.length):=hid hilt;have hik:i<(kidsT t).length:=by rw [← HPl.out]; exact hilt
  have hmem:(kidsT t).getD i .nil∈kidsT t:=by
   rw [List.getD_eq_getElem?_getD,List.getElem?_eq_getElem hik];exact List.getElem_mem _
  obtain ⟨hsn,hsf,_,L',hL',hsg⟩:=kids_good HHas.out.good HHas.out.fine _ hmem;have HMk0:=mk_drop HHas.out.good (Nat.le_refl _) HHas.out.fine hnil hst i hik;have HMe0:=make_drop HHas.out.good (Nat.le_refl _) HHas.out.fine i hik;have HUg:Hid (Tr.Good (dropT t i) 64∧Fine (dropT t i)):=hid ⟨good_drop HHas.out.good i,fine_drop HHas.out.good (Nat.le_refl _) HHas.out.fine i⟩;have HUc:Hid (cntT (dropT t i)≤200000):=hid (Nat.le_trans (cnt_drop t i) hcnt);have HUs:Hid (stubsN (dropT t i)=1):=hid (drop_one HHas.out.full i hik)
  have HUl:Hid ((pairsOf (dropT t i)).length<(pairsOf t).length):=hid (pairsOf_less HHas.out.good HHas.out.full i hik);have HUb:Hid ((pairsOf (dropT t i)).Sublist (sortL P)):=hid (by rw [← HPr.out]; exact pairsOf_drop t i);have HUx:Hid (N.kd=2→pairsOf (dropT t i)=[]):=hid (fun e=>by
   have e2:(nodeT t).kd=2:=by rw [HN.out]; exact e
   cases t with
   | ext q s=>exact pairsOf_ext q s i
   | nil=>exact absurd e2 (by show ¬ (0:Int)=2; decide)
   | stub r=>exact absurd e2 (by show ¬ (0:Int)=2; decide)
   | leaf q v=>exact absurd e2 (by show ¬ (1:Int)=2; decide)
   | br ks=>exact absurd e2 (by show ¬ (3:Int)=2; decide))
  have hAre2:=HO3.out.are.2 i hilt;obtain ⟨kd,hkd⟩:∃ s,(kidsT t).getD i .nil=s:=⟨_,rfl⟩
  rw [hkd] at HMk0 HMe0 hsn hsf hsg hAre2;obtain ⟨R,hR⟩:∃ R,ref kd=R:=⟨_,rfl⟩
  have hkr:=kind_ref hsg (show L'≤64 by omega) hsf hsn;have hRf:=may_tree kd L' hsg (by omega) hsf hsn;rw [hR] at HMk0 HMe0 hkr hRf;rw [HN.out] at HMk0 HMe0;have HMk:=hid HMk0;have HMe:=hid HMe0;have hR100:R.size≤maxLen:=by
   have h1:=(tree_node HHas.out.good (Nat.le_refl _) HHas.out.fine hnil hst).2.2.2.2.2;have hmr:R∈kidsL N.ks:=by
    rw [← HN.out,kids_refs HHas.out.good (Nat.le_refl _) HHas.out.fine,← hR];refine List.mem_map.2 ⟨kd,?_,rfl⟩;rw [← hkd];exact hmem
   have h2:=h1 R (by rw [HN.out]; exact (List.mem_filter.1 hmr).1);unfold maxLen;omega
  have HRefK:Hid (∀ M p x,Inv M x→IsT M p kd→Tab x→Calls Tryz.prog 27 #[tv p] x (TellP M x R)):=hid (fun M p x hi ht hT=>by
   have:=tree_ref M p kd L' hsg (by omega) hsf x hi ht hT;rwa [hR] at this)
  have HDrop:=hid (fun M x hi=>drop_stub M R hR100 hkr x hi);obtain ⟨u,hu⟩:∃ u,dropT t i=u:=⟨_,rfl⟩
  rw [hu] at HUg HMe HUc HUs HUl HUb HUx;obtain ⟨kb,ko,hka,hlt0,_⟩:=HO3.out.ks.2.2.2.2 i hilt;subst hka;have HHi:Hid (∀ ad:Addr,some (⟨kb,ko,none⟩:Addr)=some ad→ad.block<w3.heap.size):=hid (fun ad e=>by cases e; exact hlt0);have HPi:Hid (∀ ad:Addr,a=some ad→0<n→ad.block<w3.heap.size):=hid (fun ad e hn=>by
   obtain ⟨b,off,e2,hlt,_⟩:=HO3.out.pb.at' 0 hn;rw [e] at e2;cases e2;exact hlt)
  have HQi:=hid (isPs_lt HO3.out.o.q);have HQ:=hid hAre2;clear hmem hsf hsg hL' HMk0 HMe0 hkr hRf hR100 hu hR hkd hAre2 hlt0 hik hsn HPr;obtain ⟨i0,z0,hi,hzz,hs,hby,hzc⟩:=info_tree_parts;have HIn:Hid (_∧_∧_∧_∧_):=hid ⟨hi,hzz,hs,hby,hzc⟩;have hcell:∀ j v,(ps.map Value.pointer)[j]? = some v→((⟨kb,ko,none⟩:Addr).add j).block<w3.heap.size∧w3.cell? ((⟨kb,ko,none⟩:Addr).add j)=some v:=fun j v hv=>by
   have hj:j<ps.length:=by have:=(List.getElem?_eq_some_iff.1 hv).1; simpa using this
   obtain ⟨b,off,e,hlt,hc⟩:=HO3.out.ks.2.2.2.2 j hj;cases e;have hx:v = .pointer (ps.getD j none):=by
    simp [hj] at hv;simp [List.getD,hj,hv]
   rw [Addr.add_mid,hx];exact ⟨hlt,hc⟩
  have HCc:=hid hcell;have HOw:Hid ((w3.alloc (.cells #[] 28)).ownsRow w3.heap.size 28 1 (.slice (some ⟨w3.heap.size,0,none⟩) 0 0) 0 []):=hid (World.ownsRow_made w3 #[] 0 (Nat.le_refl _) (Nat.zero_le _) (by simp));have hkc:=HO3.out.ks.1;have hkm:=HO3.out.ks.2.1;unfold maxLen at hkm;clear hi hzz hs hby hzc hcell
  go_wp2_with (at_builtin; refine wpList_append_own _ rfl _ _ 57 rfl w3.heap.size 28 i0 z0 1 8 Tryz.underlying57 HIn.out.1 HIn.out.2.1 HIn.out.2.2.1 HIn.out.2.2.2.1 HIn.out.2.2.2.2 (by decide) _ _ _ rfl HOw.out ⟨kb,ko,none⟩ ps.length kc2 (ps.map Value.pointer) rfl (by simp) ?c2 ?c6 ?c3 ?c4 ?c5 ?_)
  case c2 =>
   intro j v hv;rw [(al1 w3 _).cell (HCc.out j v hv).1];exact (HCc.out j v hv).2
  case c6 =>
   intro v hv;simp at hv;obtain ⟨x,_,rfl⟩:=hv;rfl
  case c3=>unfold maxLen; omega
  case c4=>omega
  case c5=>simp
  intro v' x1 hown2 hgrow hnil';obtain ⟨g,cap,hv',hg1,hRow,hb1⟩:=row_of_owns (by simpa using hown2) rfl hnil' ((al1 w3 _).grown hgrow (by simp) (fun k hk=>by simp [Value.ownBlock] at hk; omega));obtain rfl:v' = .slice (some ⟨g,0,none⟩) ps.length cap:=by cases hv'; rfl
  have HO4:=hid (HO3.out.below hb1);have HR4:=hid hRow;have HG4:Hid (w3.heap.size≤g ∧ ¬ M.ft g):=hid ⟨hg1,HO3.out.o.l.i.free hg1⟩;have HZ4:Hid (bt<w3.heap.size∧bn<w3.heap.size∧w.heap.size≤w3.heap.size):=hid ⟨HO3.out.o.x.o.1,HO3.out.nb.o.1,HO3.out.o.l.b.size⟩;obtain ⟨q,hq⟩:∃ q,ps.getD i none=q:=⟨_,rfl⟩
  rw [hq] at HQ;have hcq:x1.cell? ⟨kb,ko+i,none⟩=some (.pointer q):=by
   obtain ⟨b,off,e,hlt,hc⟩:=HO4.out.ks.2.2.2.2 i HI.out;cases e;rw [hq] at hc;exact hc
  have HCq:=hid hcq;clear hown2 hgrow hnil' hv' hg1 hRow hb1 HCc HOw HIn HO3 hcq hq;go_wp2_with (first | (refine Rg.run rfl _ _ (op_load_tree HCq.out ⟨_,rfl,rfl⟩) ?_))
  refine (HRefK.out M q x1 HO4.out.o.l.i HQ.out HO4.out.o.l.t).mono ?_;intro e x2 hG;obtain ⟨rfl,hL,hf⟩:=HO4.out.o.l.tell hG;have HO5:=hid (HO4.out.fr hL hf);have HR5:=hid (HR4.out.fr hf (at_of_ft HO4.out.o.l.i HG4.out.2));clear hG hL hf HO4 HR4 HCq HRefK HQ;go_wp2_with fail
  refine (HDrop.out M x2 HO5.out.o.l.i).mono ?_;rintro e x3 ⟨p3,M3,rfl,hT3,hf3,hi3,hb3,hft⟩;have HO6:=hid (HO5.out.fr (HO5.out.o.l.fr hf3 hi3 (HO5.out.o.l.t.below hb3 HO5.out.o.l.t.pos)) hf3);have HR6:=hid (HR5.out.below hb3);have HG6:Hid (¬ M3.ft g):=hid (fun hx=>HG4.out.2 (hft g HR5.out.lt hx));have HT6:=hid hT3;clear hT3 hf3 hi3 hb3 hft HO5 HR5 HDrop;go_wp2_with (first
   | (refine wpl_store_row HR6.out HI.out _ rfl _ _ rfl rfl rfl ?_; intro x4 hR7 hu7; have HO7:=hid (HO6.out.updB hu7 (by have h1:=HG4.out.1; have h2:=HZ4.out.2.2; omega) HG6.out (by have h1:=HG4.out.1; have h2:=HZ4.out; omega) (by have h1:=HG4.out.1; have h2:=HZ4.out; omega) (fun ad e hn=>by have h1:=HPi.out ad e hn; have h2:=HG4.out.1; omega) (fun ad e=>by have h1:=HHi.out ad e; have h2:=HG4.out.1; omega) (fun ad e hn=>by have h1:=HQi.out ad e hn; have h2:=HG4.out.1; omega)); have HR7:=hid hR7; clear hR7 hu7)
   | (refine Rg.run rfl _ _ (op_load_nd HO7.out.nb.o HNl.out ⟨_,rfl,rfl⟩) ?_))
  have hps2:(ps.set i p3).length=ps.length:=by simp
  have HPk:=HR7.out.ptrs;rw [hps2] at HPk;have HA7:Are M3 (ps.set i p3) ((kidsT t).set i (.stub R)):=HO7.out.are.set i HT6.out;obtain ⟨ps2,hp2⟩:∃ x,ps.set i p3=x:=⟨_,rfl⟩
  obtain ⟨ts2,ht2⟩:∃ x,(kidsT t).set i (.stub R)=x:=⟨_,rfl⟩
  rw [hp2] at HPk HA7;rw [ht2] at HA7 HMk HMe;have HPk7:=hid HPk;have HAr7:=hid HA7;clear hps2 HPk HA7 hp2 ht2 HO6 HR6 HR7;have HMake:=hid (make_any M3 N ts2 HMk.out a n c ps2 HAr7.out (some ⟨g,0,none⟩) ps.length cap (by omega) x4 HO7.out.o.l.i HO7.out.o.l.t HO7.out.pb HPk7.out);rw [HMe.out] at HMake;refine HMake.out.mono ?_;rintro e x5 ⟨pu,M8,rfl,hT8,hf8,hi8,ht8⟩;have HO8:=hid (HO7.out.fr (HO7.out.o.l.fr hf8 hi8 ht8) hf8);have HT8:=hid hT8;have hNew:=Rg.Own.new x5 #[.pointer none] 28;have HN8:=hid hNew
  clear hT8 hf8 hi8 ht8 HO7 HPk7 HAr7 HT6 HMake hNew HMe HMk HG4 HG6 HZ4 HHi HPi HQi;have hz5:=HO8.out.o.l.b.size;go_upto_region 10 with (first
   | (refine Rg.run rfl _ _ (run_alloc_tree _ _ _ x5.heap.size rfl rfl) ?_)
   | (refine wpl_store_tree HN8.out (by decide) _ rfl _ _ rfl rfl rfl ?_; intro x6 hO9 hu9; have HB9:Hid (Below x5.heap.size x5 x6):=hid (hu9.below (al1 _ _) (Nat.le_refl _)); have HH:Hid (We w M8 x6 bt p t P pa pc bn N a n c (some ⟨kb,ko,none⟩) kc2 ps∧Bx M8 x6 x5.heap.size #[.pointer pu] 28):=hid ⟨HO8.out.below HB9.out,⟨hO9,HO8.out.o.l.i.free (Nat.le_refl _),one_no _⟩⟩; clear hO9 hu9))
  obtain ⟨bu,hbu⟩:∃ b,x5.heap.size=b:=⟨_,rfl⟩
  rw [hbu] at HH;rw [hbu];clear hbu HO8 HB9 HN8 hz5;have HCt:Hid (∀ W,Inv M8 W→Tab W→Calls Tryz.prog 9 #[tv p] W (TellV M8 W (.tuple #[.int .i64 (pairsOf t).length,.int .i64 0]))):=hid (fun W hi ht=>by
   have:=count_any M8 p t HHas.out.good HHas.out.fine hcnt W hi HH.out.1.o.u ht;rw [stubs_full _ HHas.out.full] at this;unfold pairsOf;rw [List.length_map];exact this)
  have HCu:Hid (∀ W,Inv M8 W→Tab W→Calls Tryz.prog 9 #[tv pu] W (TellV M8 W (.tuple #[.int .i64 (pairsOf u).length,.int .i64 1]))):=hid (fun W hi ht=>by
   have:=count_any M8 pu u HUg.out.1 HUg.out.2 HUc.out W hi HT8.out ht;rw [HUs.out] at this;unfold pairsOf;rw [List.length_map];exact this)
  have HPu:Hid (∀ W,Inv M8 W→Tab W→Calls Tryz.prog 15 #[tv pu] W (GotPr M8 W (pairsOf u))):=hid (fun W hi ht=>by
   have:=wPairs_any M8 pu u HUg.out.1 HUg.out.2 HUc.out W hi HT8.out ht;rw [fromL_pairs] at this;exact this)
  have hsl:=Nat.le_trans (sortlen P) hlen;have HSk:Hid (∀ x∈sortL P,x.1.length=32):=hid (sort32 HOk.out.1);have HXk:Hid (∀ x∈pairsOf u,x.1.length=32):=hid (fun x hx=>HSk.out x (HUb.out.subset hx));have HXf:Hid (∀ z∈pairsOf u,firstL (sortL P) z.1=some z.2):=hid (find_sorted HOk.out.1 HUb.out);have HXr:Hid (Tr.Rising (pairsOf u)):=hid (sub_rising HOk.out.1 HUb.out);have hxl:(pairsOf u).length≤24:=Nat.le_trans HUb.out.length_le hsl;obtain ⟨X,hX⟩:∃ X,pairsOf u=X:=⟨_,rfl⟩
  rw [hX] at HCu HPu HXk HXf HXr HUl HUx hxl;obtain ⟨sn,hsn⟩:∃ k,(pairsOf t).length=k:=⟨_,rfl⟩
  rw [hsn] at HCt HUl;obtain ⟨xn,hxn⟩:∃ k,X.length=k:=⟨_,rfl⟩
  have HXn:=hid hxn;rw [hxn] at HCu HUl hxl;clear hX hsn hxn HUg HUc HUs HUb hcnt HT8 HN HPl;go_wp2_with (first | (refine Rg.run rfl _ _ (op_load_tree (own_cell (j:=0) HH.out.1.o.x.o rfl) ⟨_,rfl,rfl⟩) ?_))
  refine (HCt.out x6 HH.out.1.o.l.i HH.out.1.o.l.t).mono ?_;intro e x7 hG;obtain ⟨rfl,hf,hi,ht⟩:=hG;have HH7:Hid (We w M8 x7 bt p t P pa pc bn N a n c (some ⟨kb,ko,none⟩) kc2 ps∧Bx M8 x7 bu #[.pointer pu] 28):=hid ⟨HH.out.1.fr (HH.out.1.o.l.fr hf hi ht) hf,HH.out.2.frm HH.out.1.o.l.i hf⟩;clear hf hi ht HH HCt;go_wp2_with (first | (refine Rg.run rfl _ _ (op_load_tree (own_cell (j:=0) HH7.out.2.o rfl) ⟨_,rfl,rfl⟩) ?_))
  refine (HCu.out x7 HH7.out.1.o.l.i HH7.out.1.o.l.t).mono ?_;intro e x8 hG;obtain ⟨rfl,hf,hi,ht⟩:=hG;have HH8:Hid (We w M8 x8 bt p t P pa pc bn N a n c (some ⟨kb,ko,none⟩) kc2 ps∧Bx M8 x8 bu #[.pointer pu] 28):=hid ⟨HH7.out.1.fr (HH7.out.1.o.l.fr hf hi ht) hf,HH7.out.2.frm HH7.out.1.o.l.i hf⟩;clear hf hi ht HH7 HCu;go_wp2_with (first | (refine Rg.run rfl _ _ (op_load_tree (own_cell (j:=0) HH8.out.2.o rfl) ⟨_,rfl,rfl⟩) ?_))
  refine (HPu.out x8 HH8.out.1.o.l.i HH8.out.1.o.l.t).mono ?_;rintro e xb ⟨v9,rfl,hr9,hf,hi,ht⟩;have HHb:Hid (We w M8 xb bt p t P pa pc bn N a n c (some ⟨kb,ko,none⟩) kc2 ps):=hid (HH8.out.1.fr (HH8.out.1.o.l.fr hf hi ht) hf);obtain ⟨ua,uc,rfl,hi9⟩:=IsPs.ofOwn HXk.out HXn.out (by have:=hr9; unfold RowPr at this; rw [HXn.out] at this; exact this);have HU:=hid hi9;clear hf hi ht HH8 HPu hr9 hi9;go_wp2_with fail
  go_loopw [17,18,19] (fun i _ _ wr=>∃ j:Nat,j≤xn∧i = .int .i64 j∧Hid (Below xb.heap.size xb wr)) (fun i _ _ _=>xn-(intOf i).toNat)
  case atStart=>exact ⟨0,Nat.zero_le _,rfl,hid (Below.refl _ _)⟩
  case round =>
   obtain ⟨j,hj,rfl,HB⟩:=hrel;by_cases hlt:j<xn
   ·obtain ⟨b1,o1,rfl,hb1,hpx,hkx⟩:=HU.out.at' j hlt;have hji:(j:Int)<xn:=by omega
    have hjX:j<X.length:=by rw [HXn.out]; exact hlt
    have HXj:Hid (firstL (sortL P) (X.getD j ([],eB)).1=some (X.getD j ([],eB)).2):=hid (HXf.out _ (by
     rw [List.getD_eq_getElem?_getD,List.getElem?_eq_getElem hjX];exact List.getElem_mem _))
    have HPq:=hid (HHb.out.o.q.below HB.out);have HPx:=hid (hpx.below HB.out);have HKx:=hid hkx;have HGt:Hid (0<j→∃ y:Tr.Pair,PairAt wr b1 (o1+(j-1)*33) y∧y.1.length=32∧ltP y.1 (X.getD j ([],eB)).1=true):=hid (fun h0=>by
     obtain ⟨b,o,e,_,hp,hk⟩:=HU.out.at' (j-1) (by omega);cases e;refine ⟨_,hp.below HB.out,hk,?_⟩;have h1:X.getD (j-1) ([],eB)=X[j-1]'(by omega):=by simp [List.getD,show j-1<X.length by omega]
     have h2:X.getD j ([],eB)=X[j]:=by simp [List.getD,hjX]
     rw [h1,h2];exact List.pairwise_iff_getElem.1 HXr.out _ _ _ hjX (by omega))
    generalize X.getD j ([],eB)=x at *
    clear hpx hkx hb1 hjX;have HRs:=hid (fun W h=>rsort_own P pa P.length pc W h (by omega));have HFn:Hid (∀ W sa sn' sc,IsPs W sa sn' sc (sortL P)→sn'≤1000000→Calls Tryz.prog 29 #[.slice sa sn' sc,.agg (kc x.1)] W fun e w'=>e = .returned (.tuple #[.string x.2,.bool true])∧Below W.heap.size W w'):=hid (fun W sa sn' sc h hn=>by
     have:=rfind_any (sortL P) sa sn' sc x.1 HKx.out W h hn;rw [HXj.out] at this;exact this)
    go_wp2_with fail
    refine wp_region_noPanic ?_;refine wp_region_held_drew (S:=fun w'=>Below wr.heap.size wr w') (by kernel_rfl) ((below_drewN (Below.refl _ _) 1)) (fun hld=>?_);refine Rg.tk (i:=0) rfl ?_;try simp only [Act.put,Rg.s]
    refine Rg.tk (i:=2) rfl ?_;try simp only [Act.put,Rg.s]
    refine Rg.tk (i:=3) rfl ?_;try simp only [Act.put,Rg.s]
    refine Rg.tk (i:=4) rfl ?_ (hy:=by intro wz hSw; (have q0:=hji; have q1:=hlt; go_simp <;> with_reducible rfl));try simp only [Act.put,Rg.s]
    refine Rg.tk (i:=5) rfl ?_;try simp only [Act.put,Rg.s]
    refine Rg.tk (i:=6) rfl ?_ (hy:=by intro wz hSw; (refine op_load_key_mid HKx.out (HPx.out.below hSw).key ?_; exact ⟨_,rfl,rfl⟩));try simp only [Act.put,Rg.s]
    refine Rg.rd (i:=1) rfl fun K hK=>?_;go_simp;go_at_call 8
    (with_reducible refine (HRs.out _ (HPq.out.below hld)).mono ?_)
    rintro e wz0 hG;obtain ⟨sa,sn',sc,rfl,hs,hbx⟩:=GotOwnP.ps HSk.out hG;have hsn':sn'≤24:=by rw [← hs.len]; exact hsl
    have HSs:=hid hs;clear hG hs;refine hK.out _ _ ?_ (fun hld=>?_)
    ·exact Below.trans hld (hbx.mono hld.size)
    clear hK K;try simp only [Act.put,Rg.s]
    refine Rg.rd (i:=7) rfl fun K hK=>?_;go_simp;go_at_call 29
    (with_reducible refine (HFn.out _ sa sn' sc HSs.out (by omega)).mono ?_)
    rintro e wa ⟨rfl,hbx⟩;clear HSs;refine hK.out _ _ ?_ (fun hld=>?_)
    ·exact Below.trans hld (hbx.mono hld.size)
    clear hK K;try simp only [Act.put,Rg.s]
    refine Rg.tk (i:=8) rfl ?_;try simp only [Act.put,Rg.s]
    refine Rg.tk (i:=9) rfl ?_;try simp only [Act.put,Rg.s]
    refine Rg.tk (i:=10) rfl ?_;try simp only [Act.put,Rg.s]
    refine Rg.tk (i:=11) rfl ?_;try simp only [Act.put,Rg.s]
    refine Rg.tk (i:=12) rfl ?_;try simp only [Act.put,Rg.s]
    refine wpAnyH_done (by kernel_rfl) ?_ _;refine NoPanic.normal ?_;have HBa:Hid (Below wr.heap.size wr wa):=hid hld;clear hld hbx;have HPa:=hid (HPx.out.below HBa.out);have HBB:=hid (bst HB.out HBa.out);clear HPx HPq HB HRs HFn HXj;have hne:(x.2.data.toList != x.2.data.toList)=false:=by simp
    go_wp2_with fail
    by_cases h0:0<j
    ·have hk0:decide ((j:Int)>0)=true:=decide_eq_true (by omega);have hk1:decide ((0:Int)<(j:Int))=true:=decide_eq_true (by omega);have hkj:(0:Int)<(j:Int):=by omega
     have hk2:decide (0<j)=true:=decide_eq_true h0;have hk3:=h0;obtain ⟨y,hpy,hky,hlty⟩:=HGt.out h0;have HPy:=hid (hpy.below HBa.out);have HKy:=hid hky;have hwr:IntKind.i64.wrap ((j:Int)-1)=((j-1:Nat):Int):=by rw [show (j:Int)-1=((j-1:Nat):Int) by omega]; exact IntWalk.i64_in _ (by omega)
     have hj1:((j-1:Nat):Int)<xn:=by omega
     have hj2:j-1<xn:=by omega
     have HLy:Hid (∀ w,Calls Tryz.prog 12 #[.agg (kc y.1),.agg (kc x.1)] w fun e w'=>e = .returned (.bool true)∧Below w.heap.size w w'):=hid fun w=>by
      have:=rless_any y.1 x.1 HKy.out HKx.out w;rwa [hlty] at this
     clear hpy hky hlty HGt h0;refine wp_region_noPanic ?_;refine wp_region_held_drew (S:=fun w'=>Below wa.heap.size wa w') (by kernel_rfl) ((below_drewN (Below.refl _ _) 1)) (fun hld=>?_);refine Rg.tk (i:=0) rfl ?_;try simp only [Act.put,Rg.s]
     refine Rg.tk (i:=1) rfl ?_;try simp only [Act.put,Rg.s]
     refine Rg.tk (i:=2) rfl ?_;try simp only [Act.put,Rg.s]
     refine Rg.tk (i:=3) rfl ?_;try simp only [Act.put,Rg.s]
     refine Rg.tk (i:=4) rfl ?_;try simp only [Act.put,Rg.s]
     refine Rg.tk (i:=5) rfl ?_;try simp only [Act.put,Rg.s]
     refine Rg.tk (i:=6) rfl ?_ (hy:=by intro wz hSw; (have q0:=hji; have q1:=hlt; go_simp <;> with_reducible rfl));try simp only [Act.put,Rg.s]
     refine Rg.tk (i:=7) rfl ?_;try simp only [Act.put,Rg.s]
     refine Rg.tk (i:=8) rfl ?_ (hy:=by intro wz hSw; (refine op_load_str ((HPa.out.below hSw).val HKx.out) ?_; exact ⟨_,rfl,rfl⟩));try simp only [Act.put,Rg.s]
     refine Rg.tk (i:=9) rfl ?_ (hy:=by intro wz hSw; (have q0:=hne; go_simp <;> with_reducible rfl));try simp only [Act.put,Rg.s]
     refine Rg.tk (i:=10) rfl ?_;try simp only [Act.put,Rg.s]
     refine Rg.tk (i:=11) rfl ?_;try simp only [Act.put,Rg.s]
     refine Rg.tk (i:=12) rfl ?_;try simp only [Act.put,Rg.s]
     refine Rg.tk (i:=13) rfl ?_ (hy:=by intro wz hSw; (have q0:=hk0; have q1:=hk1; have q2:=hkj; have q3:=hk2; have q4:=hk3; go_simp <;> with_reducible rfl));try simp only [Act.put,Rg.s]
     refine Rg.tk (i:=14) rfl ?_;try simp only [Act.put,Rg.s]
     refine Rg.tk (i:=15) rfl ?_;try simp only [Act.put,Rg.s]
     refine Rg.tk (i:=16) rfl ?_;try simp only [Act.put,Rg.s]
     refine Rg.tk (i:=17) rfl ?_ (hy:=by intro wz hSw; (have q0:=hwr; go_simp <;> with_reducible rfl));try simp only [Act.put,Rg.s]
     refine Rg.tk (i:=18) rfl ?_ (hy:=by intro wz hSw; (have q0:=hj1; have q1:=hj2; go_simp <;> with_reducible rfl));try simp only [Act.put,Rg.s]
     refine Rg.tk (i:=19) rfl ?_;try simp only [Act.put,Rg.s]
     refine Rg.tk (i:=20) rfl ?_ (hy:=by intro wz hSw; (refine op_load_key_mid HKy.out (HPy.out.below hSw).key ?_; exact ⟨_,rfl,rfl⟩));try simp only [Act.put,Rg.s]
     refine Rg.tk (i:=21) rfl ?_;try simp only [Act.put,Rg.s]
     refine Rg.tk (i:=22) rfl ?_;try simp only [Act.put,Rg.s]
     refine Rg.tk (i:=23) rfl ?_ (hy:=by intro wz hSw; (have q0:=hji; have q1:=hlt; go_simp <;> with_reducible rfl));try simp only [Act.put,Rg.s]
     refine Rg.tk (i:=24) rfl ?_;try simp only [Act.put,Rg.s]
     refine Rg.tk (i:=25) rfl ?_ (hy:=by intro wz hSw; (refine op_load_key_mid HKx.out (HPa.out.below hSw).key ?_; exact ⟨_,rfl,rfl⟩));try simp only [Act.put,Rg.s]
     refine Rg.rd (i:=26) rfl fun K hK=>?_;go_simp;go_at_call 12
     (with_reducible refine (HLy.out _).mono ?_)
     rintro e wd ⟨rfl,hbx⟩;refine hK.out _ _ ?_ (fun hld=>?_)
     ·exact Below.trans hld (hbx.mono hld.size)
     clear hK K;try simp only [Act.put,Rg.s]
     refine Rg.tk (i:=27) rfl ?_;try simp only [Act.put,Rg.s]
     refine Rg.tk (i:=28) rfl ?_;try simp only [Act.put,Rg.s]
     refine Rg.tk (i:=29) rfl ?_;try simp only [Act.put,Rg.s]
     refine wpAnyH_done (by kernel_rfl) ?_ _;refine NoPanic.normal ?_;have HBd:Hid (Below wa.heap.size wa wd):=hid (hld);clear hld hbx;have HBD:=hid (bst HBB.out HBd.out);go_wp2;go_roundw
     case rel=>exact ⟨j+1,by omega,by go_num,HBD⟩
     case measure=>simp [intOf]; omega
    ·have hk0:decide ((j:Int)>0)=false:=decide_eq_false (by omega);have hk1:decide ((0:Int)<(j:Int))=false:=decide_eq_false (by omega);have hkj:¬ ((0:Int)<(j:Int)):=by omega
     have hk2:decide (0<j)=false:=decide_eq_false h0;have hk3:=h0;clear HGt;refine wp_region_noPanic ?_;refine wp_region_held_drew (S:=fun w'=>Below wa.heap.size wa w') (by kernel_rfl) ((below_drewN (Below.refl _ _) 1)) (fun hld=>?_);refine Rg.tk (i:=0) rfl ?_;try simp only [Act.put,Rg.s]
     refine Rg.tk (i:=1) rfl ?_;try simp only [Act.put,Rg.s]
     refine Rg.tk (i:=2) rfl ?_;try simp only [Act.put,Rg.s]
     refine Rg.tk (i:=3) rfl ?_;try simp only [Act.put,Rg.s]
     refine Rg.tk (i:=4) rfl ?_;try simp only [Act.put,Rg.s]
     refine Rg.tk (i:=5) rfl ?_;try simp only [Act.put,Rg.s]
     refine Rg.tk (i:=6) rfl ?_ (hy:=by intro wz hSw; (have q0:=hji; have q1:=hlt; go_simp <;> with_reducible rfl));try simp only [Act.put,Rg.s]
     refine Rg.tk (i:=7) rfl ?_;try simp only [Act.put,Rg.s]
     refine Rg.tk (i:=8) rfl ?_ (hy:=by intro wz hSw; (refine op_load_str ((HPa.out.below hSw).val HKx.out) ?_; exact ⟨_,rfl,rfl⟩));try simp only [Act.put,Rg.s]
     refine Rg.tk (i:=9) rfl ?_ (hy:=by intro wz hSw; (have q0:=hne; go_simp <;> with_reducible rfl));try simp only [Act.put,Rg.s]
     refine Rg.tk (i:=10) rfl ?_;try simp only [Act.put,Rg.s]
     refine Rg.tk (i:=11) rfl ?_;try simp only [Act.put,Rg.s]
     refine Rg.tk (i:=12) rfl ?_;try simp only [Act.put,Rg.s]
     refine Rg.tk (i:=13) rfl ?_ (hy:=by intro wz hSw; (have q0:=hk0; have q1:=hk1; have q2:=hkj; have q3:=hk2; have q4:=hk3; go_simp <;> with_reducible rfl));try simp only [Act.put,Rg.s]
     refine Rg.tk (i:=14) rfl ?_;try simp only [Act.put,Rg.s]
     refine Rg.takeL (i:=15) (v:=undef) rfl (by kernel_rfl) (by kernel_rfl) (by kernel_rfl) (fun _ _ _ h=>h) (Or.inr ⟨by rfl,rfl⟩) (by assumption) ?_;try simp only [Act.put,Rg.s]
     refine Rg.takeL (i:=16) (v:=undef) rfl (by kernel_rfl) (by kernel_rfl) (by kernel_rfl) (fun _ _ _ h=>h) (Or.inr ⟨by rfl,rfl⟩) (by assumption) ?_;try simp only [Act.put,Rg.s]
     refine Rg.takeL (i:=17) (v:=undef) rfl (by kernel_rfl) (by kernel_rfl) (by kernel_rfl) (fun _ _ _ h=>h) (Or.inr ⟨by rfl,rfl⟩) (by assumption) ?_;try simp only [Act.put,Rg.s]
     refine Rg.takeL (i:=18) (v:=undef) rfl (by kernel_rfl) (by kernel_rfl) (by kernel_rfl) (fun _ _ _ h=>h) (Or.inr ⟨by rfl,rfl⟩) (by assumption) ?_;try simp only [Act.put,Rg.s]
     refine Rg.takeL (i:=19) (v:=undef) rfl (by kernel_rfl) (by kernel_rfl) (by kernel_rfl) (fun _ _ _ h=>h) (Or.inr ⟨by rfl,rfl⟩) (by assumption) ?_;try simp only [Act.put,Rg.s]
     refine Rg.takeL (i:=20) (v:=undef) rfl (by kernel_rfl) (by kernel_rfl) (by kernel_rfl) (fun _ _ _ h=>h) (Or.inr ⟨by rfl,rfl⟩) (by assumption) ?_;try simp only [Act.put,Rg.s]
     refine Rg.takeL (i:=21) (v:=undef) rfl (by kernel_rfl) (by kernel_rfl) (by kernel_rfl) (fun _ _ _ h=>h) (Or.inr ⟨by rfl,rfl⟩) (by assumption) ?_;try simp only [Act.put,Rg.s]
     refine Rg.takeL (i:=22) (v:=undef) rfl (by kernel_rfl) (by kernel_rfl) (by kernel_rfl) (fun _ _ _ h=>h) (Or.inr ⟨by rfl,rfl⟩) (by assumption) ?_;try simp only [Act.put,Rg.s]
     refine Rg.takeL (i:=23) (v:=undef) rfl (by kernel_rfl) (by kernel_rfl) (by kernel_rfl) (fun _ _ _ h=>h) (Or.inr ⟨by rfl,rfl⟩) (by assumption) ?_;try simp only [Act.put,Rg.s]
     refine Rg.takeL (i:=24) (v:=undef) rfl (by kernel_rfl) (by kernel_rfl) (by kernel_rfl) (fun _ _ _ h=>h) (Or.inr ⟨by rfl,rfl⟩) (by assumption) ?_;try simp only [Act.put,Rg.s]
     refine Rg.takeL (i:=25) (v:=undef) rfl (by kernel_rfl) (by kernel_rfl) (by kernel_rfl) (fun _ _ _ h=>h) (Or.inr ⟨by rfl,rfl⟩) (by assumption) ?_;try simp only [Act.put,Rg.s]
     refine Rg.takeL (i:=26) (v:=undef) rfl (by kernel_rfl) (by kernel_rfl) (by kernel_rfl) (fun _ _ _ h=>h) (Or.inr ⟨by rfl,rfl⟩) (by assumption) ?_;try simp only [Act.put,Rg.s]
     refine Rg.takeL (i:=27) (v:=undef) rfl (by kernel_rfl) (by kernel_rfl) (by kernel_rfl) (fun _ _ _ h=>h) (Or.inr ⟨by rfl,rfl⟩) (by assumption) ?_;try simp only [Act.put,Rg.s]
     refine Rg.tk (i:=28) rfl ?_;try simp only [Act.put,Rg.s]
     refine Rg.tk (i:=29) rfl ?_;try simp only [Act.put,Rg.s]
     refine wpAnyH_done (by kernel_rfl) ?_ _;refine NoPanic.normal ?_;have HBd:Hid (Below wa.heap.size wa wa.drew):=hid ((Below.refl _ _).drew);have HBD:=hid (bst HBB.out HBd.out);go_wp2;go_roundw
     case rel=>exact ⟨j+1,by omega,by go_num,HBD⟩
     case measure=>simp [intOf]; omega
   ·have hge:¬ ((j:Int)<(xn:Int)):=by omega
    have HHc:=hid (HHb.out.below HB.out);clear HHb HU HXf HXr HXk HSk HOk HHas HB;go_wp2_with fail
    refine (awake10_any wr HHc.out.o.l.t).mono ?_;rintro e y0 ⟨rfl,hb⟩;have HHd:=hid (HHc.out.below hb);have hkc:=(nd_cells HHd.out.nb.o).1;have hlt2:(xn:Int)<(sn:Int):=by have:=HUl.out; omega
    have hd1:decide ((xn:Int)<(sn:Int))=true:=decide_eq_true hlt2;have hd2:=HUl.out;have hd3:=decide_eq_true HUl.out;clear hb HHc;by_cases hkd:N.kd=2
    ·have hx0:xn=0:=by rw [← HXn.out,HUx.out hkd]; rfl
     have hx1:((xn:Int)==0)=true:=by rw [hx0]; rfl
     have hb2:(N.kd != 2)=false:=by rw [hkd]; rfl
     have hb3:decide (N.kd=2)=true:=decide_eq_true hkd;go_wp2_with fail
     go_ret;exact ⟨rfl,HHd.out.o.l.b⟩
    ·have hb2:(N.kd != 2)=true:=by simp [hkd]
     have hb3:decide (N.kd=2)=false:=decide_eq_false hkd;go_wp2_with fail
     go_ret;exact ⟨rfl,HHd.out.o.l.b⟩
end Tm
end
section
open Go.RowKit Go.ChangeShapes Go.WideShapes
end
section
open Go.ChangeShapes Go.WideShapes Go.ChangeAt Go.WideMaps Go.WideElems Go.RowKit
namespace Sm
open Sh
theorem gRounds : Tryz.prog.globalNamed "dormouse/sum.rounds" = some 1 := by kernel_rfl
theorem tRounds:(Tryz.prog.globals[1]?).map (·.type)=some 191:=by kernel_rfl
theorem laid_eq {H:Type}:(Rows.laid_dormouse_sum_rounds:DataW H) = .agg ((List.range 64).map fun i=>.lit (.int .u32 (kN i:Nat))):=rfl
theorem cells_u32:Tryz.prog.cellsOf 96=1:=by kernel_rfl
theorem tab_of_laid {W : World} (h : laidMetH Tryz.prog [("dormouse/sum.rounds", Rows.laid_dormouse_sum_rounds)] W) : Tab W := by
 rw [MakeChecks.laidMetH_plain _ _ _ (by kernel_rfl)] at h;obtain ⟨ps,⟨g0,t0,cs0,f0,p0,q0,hg0,ht0,hv0,hd0,_⟩,_,_⟩:=h;obtain rfl:=Option.some.inj (gRounds.symm.trans hg0);obtain rfl:=Option.some.inj (tRounds.symm.trans ht0);obtain ⟨xs,m1,rfl,hx1,hlen,hn3,hel⟩:=DataW.trod_array Tryz.underlying191 hd0;rw [laid_eq] at hx1;simp only [Prod.mk.injEq,DataW.agg.injEq] at hx1;intro i hi;have h1:=hel i hi;rw [cells_u32,Nat.mul_one] at h1;have hi2:i<xs.length:=by omega
 rw [List.getElem?_eq_getElem hi2] at h1;obtain ⟨n,e1,e2,_⟩:=DataW.trod_int Tryz.underlying96 h1;have e3:=congrArg (fun l=>l[i]?) hx1.1;simp only [List.getElem?_map,List.getElem?_eq_getElem hi2,List.getElem?_range hi,Option.map_some,e2] at e3;have e4:n=(kN i:Nat):=by
  have:=Option.some.inj e3;simpa using this.symm
 subst e4;rw [World.var?_cell hg0 hv0 i];obtain ⟨l⟩:=cs0;have e5:=congrArg (fun l=>l[0]?) e1;simp only [List.getElem?_take,List.getElem?_drop,Nat.add_zero] at e5;simpa using e5
end Sm
end
end Go.Proofs.YtnecijeakeklaaaGreatDoor
